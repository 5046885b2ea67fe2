/- DERIVED. impl.planWordOf, impl.PlanForm: their walks (written by wip/tools/mk_fm2.py). -/
import Derived.Test.YtgibkckmdedhjaaDoorFmS0
import Derived.Test.YtgibkckmdedhjaaDoorPQ1
import Derived.Test.YtgibkckmdedhjaaDoorPlN0
import Derived.Test.YtgibkckmdedhjaaDoorShelf
import Derived.Lib.AppendIntMem
import Derived.Lib.SmallJoins
import Derived.Lib.LaidTab
namespace Go.Proofs.YtgibkckmdedhjaaDoor
open Go.RowKit
set_option linter.unusedSimpArgs false
set_option linter.unusedVariables false

/-- The package's array of words, and the library's table of powers. -/
structure FormLaid (w : World) : Prop where
  words : ∀ j, j < 5 → w.cell? ⟨0, j, none⟩ = whatV[j]?
  tab : Lib.TabIs Tryd.prog w "internal/strconv.uint64pow10" .u64 Lib.pow10Tab
theorem FormLaid.pos {w : World} (h : FormLaid w) : 0 < w.heap.size := World.block_lt_of_cell? w ⟨0, 0, none⟩ (h.words 0 (by decide))
theorem gPow : Tryd.prog.globalNamed "internal/strconv.uint64pow10" = some 4 := by kernel_rfl
theorem FormLaid.later {w w' : World} (h : FormLaid w) (hb : Below w.heap.size w w') : FormLaid w' :=
  ⟨fun j hj => (hb.cell (p := ⟨0, j, none⟩) h.pos).trans (h.words j hj), Go.Joins.tab_stays gPow h.tab hb (Nat.le_refl _)⟩

set_option maxRecDepth 100000 in
theorem iWordOf (wh : Int) (w : World) (hL : FormLaid w) :
    Calls Tryd.prog 21 #[.int .i64 wh] w fun e w' => ((InR wh 1 5 ∧ e = .returned (.tuple #[.string ⟨(whatW wh).toArray⟩, .bool true])) ∨ (¬ InR wh 1 5 ∧ e = .returned (.tuple #[.string ⟨#[]⟩, .bool false]))) ∧ w = w' := by
  by_cases h : InR wh 1 5
  · have hwv := whatV_at h
    have hh1 := h.1
    have hh2 := h.2
    obtain ⟨k, hk⟩ : ∃ k : Nat, wh - 1 = (k : Int) := Int.eq_ofNat_of_zero_le (by omega)
    have hk5 : (k : Int) < 5 := by omega
    have hk5n : k < 5 := by omega
    have hkw : IntKind.i64.wrap (wh - 1) = (k : Int) := by rw [IntKind.wrap_i64, hk]; all_goals omega
    rw [show (wh - 1).toNat = k by omega] at hwv
    have c0 := hL.words k hk5n
    rw [hwv] at c0
    have HW : Hid (InR wh 1 5) := h
    have hpos := hL.pos
    clear hL hwv
    go_enter Tryd.func21, Tryd.ntmps21
    go_wp2_with fail
    refine (from_yes wh 1 5 _ h).mono ?_
    rintro e w' ⟨rfl, rfl⟩
    clear h
    go_wp2
    go_ret2
    exact ⟨.inl ⟨HW.out, rfl⟩, rfl⟩
  · have HW : Hid (¬ InR wh 1 5) := h
    go_enter Tryd.func21, Tryd.ntmps21
    go_wp2_with fail
    refine (from_no wh 1 5 _ h).mono ?_
    rintro e w' ⟨rfl, rfl⟩
    clear h
    go_wp2
    go_ret2
    exact ⟨.inr ⟨HW.out, rfl⟩, rfl⟩

theorem joinForm (f wd dd v : ByteArray) : Lib.join ([(⟨#[115, 101, 116]⟩ : ByteArray), f, wd, dd, v].map (·.data.toList)) [32] = [115, 101, 116, 32] ++ f.data.toList ++ [32] ++ wd.data.toList ++ [32] ++ dd.data.toList ++ [32] ++ v.data.toList := by
  rw [List.map_cons, Lib.join_cons]
  simp [Lib.joinTail]

set_option maxRecDepth 100000 in
set_option maxHeartbeats 4000000 in
theorem iForm_good (f : ByteArray) (wh n : Int) (v : ByteArray) (w : World) (h : FormOk f wh n v) (hv : v.size ≤ 1048576) (hL : FormLaid w) :
    Calls Tryd.prog 14 #[.agg #[.string f, .int .i64 wh, .int .i64 n, .string v]] w fun e w' => e = .returned (.string ⟨(formL f wh n v).toArray⟩) ∧ Below w.heap.size w w' := by
  obtain ⟨h1, h2, h3, h4, h5⟩ := h
  have hf8 := h1.2.1
  have hfm : f.size ≤ maxLen := by unfold maxLen; omega
  have hve : (v.toList == []) = false := by rw [empty_iff, pb_no h4]
  have hct : decide (0 ≤ Lib.indexByte v.data.toList 10) = false := by rw [nl_iff, pb_yes h5]; rfl
  obtain ⟨d, rfl⟩ := Int.eq_ofNat_of_zero_le (show 0 ≤ n by have := h2.1; omega)
  have hd6 : d ≤ 1000000 := by have := h2.2; omega
  have hdl := decDigits_len d
  have hwl := whatW_len wh
  have hit : Lib.itoa (d : Int) = Lib.decDigits d := by unfold Lib.itoa; rw [if_neg (by omega)]; rfl
  obtain ⟨wd, ew⟩ : ∃ s, s = (⟨(whatW wh).toArray⟩ : ByteArray) := ⟨_, rfl⟩
  obtain ⟨dd, ed⟩ : ∃ s, s = (⟨(Lib.decDigits d).toArray⟩ : ByteArray) := ⟨_, rfl⟩
  have HJL : Hid (formL f wh (d : Int) v = Lib.join ([(⟨#[115, 101, 116]⟩ : ByteArray), f, wd, dd, v].map (·.data.toList)) [32]) := by
    show _ = _
    rw [joinForm, ew, ed]
    rfl
  have HJLEN : Hid ((Lib.join ([(⟨#[115, 101, 116]⟩ : ByteArray), f, wd, dd, v].map (·.data.toList)) [32]).length ≤ 140737488355328) := by
    show _ ≤ _
    rw [joinForm, ew, ed]
    have e1 : f.data.toList.length = f.size := by rw [Array.length_toList]; rfl
    have e2 : v.data.toList.length = v.size := by rw [Array.length_toList]; rfl
    simp only [List.length_append, List.length_cons, List.length_nil, e1, e2]
    omega
  have HCT := fun W => Tryd.strings_Contains_one v 10 W
  have HIT := fun W (hW : FormLaid W) => Tryd.strconv_Itoa (d : Int) (by omega) (by omega) W hW.tab
  rw [hct] at HCT
  rw [hit, ← ed] at HIT
  have hb0 : Below w.heap.size w (w.alloc (.cells #[.string f, .int .i64 wh, .int .i64 (d : Int), .string v] 23)) := (Below.refl _ _).alloc (Nat.le_refl _) _
  have HB0 := BxC.new w #[.string f, .int .i64 wh, .int .i64 (d : Int), .string v] 23
  have HWO := iWordOf wh (w.alloc (.cells #[.string f, .int .i64 wh, .int .i64 (d : Int), .string v] 23)) (hL.later hb0)
  clear hct hit hdl hwl h4 h5 ed
  go_enter Tryd.func14, Tryd.ntmps14
  go_wp2_with fail
  refine HWO.mono ?_
  rintro e w' ⟨hw | ⟨hno, _⟩, hwq⟩
  case inr => exact absurd h3 hno
  obtain ⟨_, rfl⟩ := hw
  subst hwq
  rw [← ew]
  clear HWO ew
  go_wp2_with fail
  refine (iName f _ hfm).mono ?_
  rintro e w1 ⟨rfl, hb1⟩
  rw [pb_yes h1]
  have hB1 := hb0.trans (hb1.mono hb0.size)
  have HB1 := HB0.below hb1 (by simp)
  have hz1 : w.heap.size < w1.heap.size := by have := hb1.size; simp at this; omega
  have b0 := HB1 0
  have b1 := HB1 1
  have b2 := HB1 2
  have b3 := HB1 3
  simp at b0 b1 b2 b3
  clear hb1 hb0 HB0 h1
  go_wp2_with fail
  refine (from_yes (d : Int) 1 1000000 _ h2).mono ?_
  rintro e w' ⟨rfl, hwq⟩
  subst hwq
  clear h2
  go_wp2_with fail
  refine (HCT _).mono ?_
  rintro e w' ⟨rfl, hwq⟩
  subst hwq
  clear HCT
  have HC0 : BxC w.heap.size #[.string f, .int .i64 wh, .int .i64 (d : Int), .string v] w'.drew := HB1.below ((Below.refl (w.heap.size + 1) _).drew) (by omega)
  have hBd := hB1.drew
  have hle : w.heap.size + 1 ≤ w'.drew.heap.size := hz1
  have hL1 := hL.later hBd
  go_wp2_with fail
  clear HB1 hB1 b0 b1 b2 b3
  refine wp_region_RC (fun W => BxC w.heap.size #[.string f, .int .i64 wh, .int .i64 (d : Int), .string v] W) mixedF ?_
  refine RC.take (i := 0) (v := .pointer (some ⟨w.heap.size, 0, none⟩)) rfl (by kernel_rfl) (by kernel_rfl) (by kernel_rfl) (fun _ _ _ h => h) HC0 (by kernel_rfl) ?y0 ?r0
  case y0 => (intro W hW; have b0 := hW 0; have b1 := hW 1; have b2 := hW 2; have b3 := hW 3; simp at b0 b1 b2 b3; go_simp; try with_reducible rfl)
  case r0 =>
    refine RC.take (i := 1) (v := .string f) rfl (by kernel_rfl) (by kernel_rfl) (by kernel_rfl) (fun _ _ _ h => h) HC0 (by kernel_rfl) ?y1 ?r1
    case y1 => (intro W hW; have b0 := hW 0; have b1 := hW 1; have b2 := hW 2; have b3 := hW 3; simp at b0 b1 b2 b3; go_simp; try with_reducible rfl)
    case r1 =>
      refine RC.take (i := 2) (v := .string wd) rfl (by kernel_rfl) (by kernel_rfl) (by kernel_rfl) (fun _ _ _ h => h) HC0 (by kernel_rfl) ?y2 ?r2
      case y2 => (intro W hW; go_simp; try with_reducible rfl)
      case r2 =>
        refine RC.take (i := 3) (v := .pointer (some ⟨w.heap.size, 2, none⟩)) rfl (by kernel_rfl) (by kernel_rfl) (by kernel_rfl) (fun _ _ _ h => h) HC0 (by kernel_rfl) ?y3 ?r3
        case y3 => (intro W hW; have b0 := hW 0; have b1 := hW 1; have b2 := hW 2; have b3 := hW 3; simp at b0 b1 b2 b3; go_simp; try with_reducible rfl)
        case r3 =>
          refine RC.take (i := 4) (v := .int .i64 (d : Int)) rfl (by kernel_rfl) (by kernel_rfl) (by kernel_rfl) (fun _ _ _ h => h) HC0 (by kernel_rfl) ?y4 ?r4
          case y4 => (intro W hW; have b0 := hW 0; have b1 := hW 1; have b2 := hW 2; have b3 := hW 3; simp at b0 b1 b2 b3; go_simp; try with_reducible rfl)
          case r4 =>
            refine RC.take (i := 6) (v := .pointer (some ⟨w.heap.size, 3, none⟩)) rfl (by kernel_rfl) (by kernel_rfl) (by kernel_rfl) (fun _ _ _ h => h) HC0 (by kernel_rfl) ?y5 ?r5
            case y5 => (intro W hW; have b0 := hW 0; have b1 := hW 1; have b2 := hW 2; have b3 := hW 3; simp at b0 b1 b2 b3; go_simp; try with_reducible rfl)
            case r5 =>
              refine RC.take (i := 7) (v := .string v) rfl (by kernel_rfl) (by kernel_rfl) (by kernel_rfl) (fun _ _ _ h => h) HC0 (by kernel_rfl) ?y6 ?r6
              case y6 => (intro W hW; have b0 := hW 0; have b1 := hW 1; have b2 := hW 2; have b3 := hW 3; simp at b0 b1 b2 b3; go_simp; try with_reducible rfl)
              case r6 =>
                refine RC.want (i := 5) (by kernel_rfl) rfl (by kernel_rfl) (fun K hK => ?_)
                go_simp
                refine (HIT _ hL1).mono ?_
                rintro e w2 ⟨rfl, kk, oss, hw2⟩
                simp only
                have hb2 : Below w'.drew.heap.size w'.drew w2 := by rw [hw2]; exact Lib.below_grow _ _ (Nat.le_refl _) _ _
                have HC2 := HC0.below hb2 (by omega)
                have hB2 := hBd.trans (hb2.mono (by omega))
                have hz2 : w.heap.size + 1 ≤ w2.heap.size := Nat.le_trans hle hb2.size
                clear hw2 hb2 HIT hL1 hBd hle HC0
                refine hK _ _ HC2 ?_
                clear hK K
                refine RC.want (i := 8) (by kernel_rfl) rfl (by kernel_rfl) (fun K hK => ?_)
                have hB3 := hB2.alloc (by omega) (.cells #[.string ⟨#[115, 101, 116]⟩, .string f, .string wd, .string dd, .string v] 9)
                have HC3 := HC2.below ((Below.refl (w.heap.size + 1) _).alloc hz2 (.cells #[.string ⟨#[115, 101, 116]⟩, .string f, .string wd, .string dd, .string v] 9)) (by omega)
                have HN3 := BxC.new w2 #[.string ⟨#[115, 101, 116]⟩, .string f, .string wd, .string dd, .string v] 9
                have hJ := Tryd.strings_Join w2.heap.size 0 5 [(⟨#[115, 101, 116]⟩ : ByteArray), f, wd, dd, v] ⟨#[32]⟩ (w2.alloc (.cells #[.string ⟨#[115, 101, 116]⟩, .string f, .string wd, .string dd, .string v] 9)) (fun j x hx => by
                  rw [Nat.zero_add]
                  refine (HN3 j).trans ?_
                  match j, hx with
                  | 0, hx => simpa using hx
                  | 1, hx => simpa using hx
                  | 2, hx => simpa using hx
                  | 3, hx => simpa using hx
                  | 4, hx => simpa using hx
                  | j + 5, hx => simp at hx) (by simp) (by simp) (by simp) HJLEN.out
                rw [show (⟨#[32]⟩ : ByteArray).data.toList = [32] from rfl, ← HJL.out] at hJ
                simp only [List.length_cons, List.length_nil, Nat.zero_add, Nat.reduceAdd] at hJ
                go_simp
                refine hK _ _ HC3 ?_
                clear hK K HN3 HC2
                refine RC.want (i := 9) (by kernel_rfl) rfl (by kernel_rfl) (fun K hK => ?_)
                go_simp
                refine hJ.mono ?_
                rintro e w4 ⟨rfl, hb4⟩
                simp only
                have hB4 := hB3.trans (hb4.mono hB3.size)
                have HC4 := HC3.below hb4 (by simp; omega)
                clear hJ hb4 hB3 HC3
                refine hK _ _ HC4 ?_
                clear hK K
                refine RC.take (i := 10) (v := .string ⟨(formL f wh (d : Int) v).toArray⟩) rfl (by kernel_rfl) (by kernel_rfl) (by kernel_rfl) (fun _ _ _ h => h) HC4 (by kernel_rfl) ?y7 ?r7
                case y7 => (intro W hW; go_simp; try with_reducible rfl)
                case r7 =>
                  refine RC.done (by kernel_rfl) ?_
                  go_wp2
                  go_ret
                  exact ⟨rfl, hB4⟩

set_option maxRecDepth 100000 in
set_option maxHeartbeats 4000000 in
theorem iForm_bad (f : ByteArray) (wh n : Int) (v : ByteArray) (w : World) (h : ¬ FormOk f wh n v) (hfm : f.size ≤ maxLen) (hL : FormLaid w) :
    Calls Tryd.prog 14 #[.agg #[.string f, .int .i64 wh, .int .i64 n, .string v]] w fun e w' => e = .returned (.string ByteArray.empty) ∧ Below w.heap.size w w' := by
  have hb0 : Below w.heap.size w (w.alloc (.cells #[.string f, .int .i64 wh, .int .i64 n, .string v] 23)) := (Below.refl _ _).alloc (Nat.le_refl _) _
  have HB0 := BxC.new w #[.string f, .int .i64 wh, .int .i64 n, .string v] 23
  have HWO := iWordOf wh (w.alloc (.cells #[.string f, .int .i64 wh, .int .i64 n, .string v] 23)) (hL.later hb0)
  clear hL
  by_cases h3 : InR wh 1 5
  · by_cases h1 : NameOk f
    · by_cases h2 : InR n 1 1000000
      · by_cases h4 : v = ByteArray.empty
        · have hve : (v.toList == []) = true := by rw [empty_iff, pb_yes h4]
          clear h4
          go_enter Tryd.func14, Tryd.ntmps14
          go_wp2_with fail
          refine HWO.mono ?_
          rintro e w' ⟨hw, hwq⟩
          obtain ⟨_, rfl⟩ := hw.resolve_right (fun h => h.1 h3)
          subst hwq
          clear HWO h
          go_wp2_with fail
          refine (iName f _ hfm).mono ?_
          rintro e w1 ⟨rfl, hb1⟩
          rw [pb_yes h1]
          have hB1 := hb0.trans (hb1.mono hb0.size)
          have HB1 := HB0.below hb1 (by simp)
          have hz1 : w.heap.size < w1.heap.size := by have := hb1.size; simp at this; omega
          have b0 := HB1 0
          have b1 := HB1 1
          have b2 := HB1 2
          have b3 := HB1 3
          simp at b0 b1 b2 b3
          clear hb1 hb0 HB0 h1 HB1
          go_wp2_with fail
          refine (from_yes n 1 1000000 _ h2).mono ?_
          rintro e w' ⟨rfl, hwq⟩
          subst hwq
          clear h2
          go_wp2_with fail
          go_ret
          exact ⟨rfl, hB1⟩
        · have h5 : ¬ NoNl v := fun h5 => h ⟨h1, h2, h3, h4, h5⟩
          have hve : (v.toList == []) = false := by rw [empty_iff, pb_no h4]
          have hct : decide (0 ≤ Lib.indexByte v.data.toList 10) = true := by rw [nl_iff, pb_no h5]; rfl
          have HCT := fun W => Tryd.strings_Contains_one v 10 W
          rw [hct] at HCT
          clear hct h4 h5
          go_enter Tryd.func14, Tryd.ntmps14
          go_wp2_with fail
          refine HWO.mono ?_
          rintro e w' ⟨hw, hwq⟩
          obtain ⟨_, rfl⟩ := hw.resolve_right (fun h => h.1 h3)
          subst hwq
          clear HWO h
          go_wp2_with fail
          refine (iName f _ hfm).mono ?_
          rintro e w1 ⟨rfl, hb1⟩
          rw [pb_yes h1]
          have hB1 := hb0.trans (hb1.mono hb0.size)
          have HB1 := HB0.below hb1 (by simp)
          have hz1 : w.heap.size < w1.heap.size := by have := hb1.size; simp at this; omega
          have b0 := HB1 0
          have b1 := HB1 1
          have b2 := HB1 2
          have b3 := HB1 3
          simp at b0 b1 b2 b3
          clear hb1 hb0 HB0 h1 HB1
          go_wp2_with fail
          refine (from_yes n 1 1000000 _ h2).mono ?_
          rintro e w' ⟨rfl, hwq⟩
          subst hwq
          clear h2
          go_wp2_with fail
          refine (HCT _).mono ?_
          rintro e w' ⟨rfl, hwq⟩
          subst hwq
          clear HCT
          go_wp2_with fail
          go_ret
          exact ⟨rfl, hB1⟩
      ·
        go_enter Tryd.func14, Tryd.ntmps14
        go_wp2_with fail
        refine HWO.mono ?_
        rintro e w' ⟨hw, hwq⟩
        obtain ⟨_, rfl⟩ := hw.resolve_right (fun h => h.1 h3)
        subst hwq
        clear HWO h
        go_wp2_with fail
        refine (iName f _ hfm).mono ?_
        rintro e w1 ⟨rfl, hb1⟩
        rw [pb_yes h1]
        have hB1 := hb0.trans (hb1.mono hb0.size)
        have HB1 := HB0.below hb1 (by simp)
        have hz1 : w.heap.size < w1.heap.size := by have := hb1.size; simp at this; omega
        have b0 := HB1 0
        have b1 := HB1 1
        have b2 := HB1 2
        have b3 := HB1 3
        simp at b0 b1 b2 b3
        clear hb1 hb0 HB0 h1 HB1
        go_wp2_with fail
        refine (from_no n 1 1000000 _ h2).mono ?_
        rintro e w' ⟨rfl, hwq⟩
        subst hwq
        clear h2
        go_wp2_with fail
        go_ret
        exact ⟨rfl, hB1⟩
    ·
      go_enter Tryd.func14, Tryd.ntmps14
      go_wp2_with fail
      refine HWO.mono ?_
      rintro e w' ⟨hw, hwq⟩
      obtain ⟨_, rfl⟩ := hw.resolve_right (fun h => h.1 h3)
      subst hwq
      clear HWO h
      go_wp2_with fail
      refine (iName f _ hfm).mono ?_
      rintro e w1 ⟨rfl, hb1⟩
      rw [pb_no h1]
      have hB1 := hb0.trans (hb1.mono hb0.size)
      have HB1 := HB0.below hb1 (by simp)
      have hz1 : w.heap.size < w1.heap.size := by have := hb1.size; simp at this; omega
      have b0 := HB1 0
      have b1 := HB1 1
      have b2 := HB1 2
      have b3 := HB1 3
      simp at b0 b1 b2 b3
      clear hb1 hb0 HB0 h1 HB1
      go_wp2_with fail
      go_ret
      exact ⟨rfl, hB1⟩
  ·
    go_enter Tryd.func14, Tryd.ntmps14
    go_wp2_with fail
    refine HWO.mono ?_
    rintro e w' ⟨hw, hwq⟩
    obtain ⟨_, rfl⟩ := hw.resolve_left (fun h => h3 h.1)
    subst hwq
    clear HWO h h3
    go_wp2_with fail
    go_ret
    exact ⟨rfl, hb0⟩

theorem iForm (f : ByteArray) (wh n : Int) (v : ByteArray) (w : World) (hfm : f.size ≤ maxLen) (hv : v.size ≤ 1048576) (hL : FormLaid w) :
    Calls Tryd.prog 14 #[.agg #[.string f, .int .i64 wh, .int .i64 n, .string v]] w fun e w' => e = .returned (.string (formOf f wh n v)) ∧ Below w.heap.size w w' := by
  by_cases h : FormOk f wh n v
  · rw [(formOf_yes h).out]; exact iForm_good f wh n v w h hv hL
  · rw [(formOf_no h).out]; exact iForm_bad f wh n v w h hfm hL

end Go.Proofs.YtgibkckmdedhjaaDoor
