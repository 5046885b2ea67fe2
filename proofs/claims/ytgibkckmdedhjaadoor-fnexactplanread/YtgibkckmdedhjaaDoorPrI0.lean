/- DERIVED. impl.planWhatOf, impl.PlanRead: their walks (written by wip/tools/mk_pr.py). -/
import Derived.Test.YtgibkckmdedhjaaDoorPrD
import Derived.Test.YtgibkckmdedhjaaDoorFmI0
import Derived.Test.YtgibkckmdedhjaaDoorPwI1
namespace Go.Proofs.YtgibkckmdedhjaaDoor
open Go.RowKit
set_option linter.unusedSimpArgs false
set_option linter.unusedVariables false

theorem eqW (c : ByteArray) (l : List UInt8) : (l == c.toList) = decide (some l = some c.data.toList) := by
  rw [ByteArray.toList_eq]
  by_cases h : l = c.data.toList
  · simp [h]
  · simp [h]

def NoW (c : ByteArray) (k : Nat) : Prop := ∀ j, j < k → ¬ whatL[j]? = some c.data.toList
theorem NoW.next {c : ByteArray} {k : Nat} (h : NoW c k) (h1 : ¬ whatL[k]? = some c.data.toList) : NoW c (k + 1) := fun j hj => by
  by_cases e : j = k
  · subst e; exact h1
  · exact h j (by omega)
theorem whatTo_none {c : ByteArray} {k : Nat} (h : NoW c k) : whatTo c k = 0 := by
  induction k with
  | zero => rfl
  | succ k ih =>
    show (if whatL[k]? = some c.data.toList then (k : Int) + 1 else whatTo c k) = _
    rw [if_neg (h k (by omega))]
    exact ih (fun j hj => h j (by omega))

theorem index_what0 (w : World) : (Instr.index 39 (.agg #[.string ⟨#[107, 105, 110, 100]⟩, .string ⟨#[116, 105, 109, 101]⟩, .string ⟨#[108, 101, 118, 101, 108]⟩, .string ⟨#[114, 111, 117, 116, 101]⟩, .string ⟨#[115, 116, 97, 116, 101]⟩]) (.int .i64 0)).run Tryd.prog w = .ok (.string ⟨#[107, 105, 110, 100]⟩) w := by kernel_rfl
theorem index_what1 (w : World) : (Instr.index 39 (.agg #[.string ⟨#[107, 105, 110, 100]⟩, .string ⟨#[116, 105, 109, 101]⟩, .string ⟨#[108, 101, 118, 101, 108]⟩, .string ⟨#[114, 111, 117, 116, 101]⟩, .string ⟨#[115, 116, 97, 116, 101]⟩]) (.int .i64 1)).run Tryd.prog w = .ok (.string ⟨#[116, 105, 109, 101]⟩) w := by kernel_rfl
theorem index_what2 (w : World) : (Instr.index 39 (.agg #[.string ⟨#[107, 105, 110, 100]⟩, .string ⟨#[116, 105, 109, 101]⟩, .string ⟨#[108, 101, 118, 101, 108]⟩, .string ⟨#[114, 111, 117, 116, 101]⟩, .string ⟨#[115, 116, 97, 116, 101]⟩]) (.int .i64 2)).run Tryd.prog w = .ok (.string ⟨#[108, 101, 118, 101, 108]⟩) w := by kernel_rfl
theorem index_what3 (w : World) : (Instr.index 39 (.agg #[.string ⟨#[107, 105, 110, 100]⟩, .string ⟨#[116, 105, 109, 101]⟩, .string ⟨#[108, 101, 118, 101, 108]⟩, .string ⟨#[114, 111, 117, 116, 101]⟩, .string ⟨#[115, 116, 97, 116, 101]⟩]) (.int .i64 3)).run Tryd.prog w = .ok (.string ⟨#[114, 111, 117, 116, 101]⟩) w := by kernel_rfl
theorem index_what4 (w : World) : (Instr.index 39 (.agg #[.string ⟨#[107, 105, 110, 100]⟩, .string ⟨#[116, 105, 109, 101]⟩, .string ⟨#[108, 101, 118, 101, 108]⟩, .string ⟨#[114, 111, 117, 116, 101]⟩, .string ⟨#[115, 116, 97, 116, 101]⟩]) (.int .i64 4)).run Tryd.prog w = .ok (.string ⟨#[115, 116, 97, 116, 101]⟩) w := by kernel_rfl

set_option maxRecDepth 100000 in
set_option maxHeartbeats 4000000 in
theorem iWhatOf (c : ByteArray) (w : World) (hL : FormLaid w) :
    Calls Tryd.prog 12 #[.string c] w fun e w' => e = .returned (.tuple #[.int .i64 (whatOf c), .bool (decide (0 < whatOf c))]) ∧ w = w' := by
  have c0 := hL.words 0 (by decide)
  have c1 := hL.words 1 (by decide)
  have c2 := hL.words 2 (by decide)
  have c3 := hL.words 3 (by decide)
  have c4 := hL.words 4 (by decide)
  simp [whatV] at c0 c1 c2 c3 c4
  have hpos := hL.pos
  clear hL
  go_enter Tryd.func12, Tryd.ntmps12
  go_wp2
  go_loop [7] (fun i => ∃ k : Nat, k ≤ 5 ∧ i = .int .i64 k ∧ Hid (NoW c k)) (fun i => 5 - (intOf i).toNat)
  case atStart => exact ⟨0, Nat.zero_le _, rfl, fun j hj => by omega⟩
  case round =>
    obtain ⟨k, hk, rfl, hno⟩ := hrel
    obtain rfl | rfl | rfl | rfl | rfl | rfl : k = 0 ∨ k = 1 ∨ k = 2 ∨ k = 3 ∨ k = 4 ∨ k = 5 := by omega
    · have hix := index_what0
      have hq := eqW c [107, 105, 110, 100]
      by_cases h : whatL[0]? = some c.data.toList
      · have HR : Hid (whatOf c = 1) := whatOf_hit (k := 0) (by decide) h
        have hqt : ([107, 105, 110, 100] == c.toList) = true := by rw [hq]; exact decide_eq_true h
        clear hno h hq
        go_wp2
        go_ret2
        exact ⟨by rw [HR.out]; rfl, rfl⟩
      · have HN : Hid (NoW c 1) := hno.out.next h
        have hqt : ([107, 105, 110, 100] == c.toList) = false := by rw [hq]; exact decide_eq_false h
        clear hno h hq
        go_wp2
        go_round
        case rel => exact ⟨1, by omega, by go_num, HN⟩
        case measure => simp [intOf]
    · have hix := index_what1
      have hq := eqW c [116, 105, 109, 101]
      by_cases h : whatL[1]? = some c.data.toList
      · have HR : Hid (whatOf c = 2) := whatOf_hit (k := 1) (by decide) h
        have hqt : ([116, 105, 109, 101] == c.toList) = true := by rw [hq]; exact decide_eq_true h
        clear hno h hq
        go_wp2
        go_ret2
        exact ⟨by rw [HR.out]; rfl, rfl⟩
      · have HN : Hid (NoW c 2) := hno.out.next h
        have hqt : ([116, 105, 109, 101] == c.toList) = false := by rw [hq]; exact decide_eq_false h
        clear hno h hq
        go_wp2
        go_round
        case rel => exact ⟨2, by omega, by go_num, HN⟩
        case measure => simp [intOf]
    · have hix := index_what2
      have hq := eqW c [108, 101, 118, 101, 108]
      by_cases h : whatL[2]? = some c.data.toList
      · have HR : Hid (whatOf c = 3) := whatOf_hit (k := 2) (by decide) h
        have hqt : ([108, 101, 118, 101, 108] == c.toList) = true := by rw [hq]; exact decide_eq_true h
        clear hno h hq
        go_wp2
        go_ret2
        exact ⟨by rw [HR.out]; rfl, rfl⟩
      · have HN : Hid (NoW c 3) := hno.out.next h
        have hqt : ([108, 101, 118, 101, 108] == c.toList) = false := by rw [hq]; exact decide_eq_false h
        clear hno h hq
        go_wp2
        go_round
        case rel => exact ⟨3, by omega, by go_num, HN⟩
        case measure => simp [intOf]
    · have hix := index_what3
      have hq := eqW c [114, 111, 117, 116, 101]
      by_cases h : whatL[3]? = some c.data.toList
      · have HR : Hid (whatOf c = 4) := whatOf_hit (k := 3) (by decide) h
        have hqt : ([114, 111, 117, 116, 101] == c.toList) = true := by rw [hq]; exact decide_eq_true h
        clear hno h hq
        go_wp2
        go_ret2
        exact ⟨by rw [HR.out]; rfl, rfl⟩
      · have HN : Hid (NoW c 4) := hno.out.next h
        have hqt : ([114, 111, 117, 116, 101] == c.toList) = false := by rw [hq]; exact decide_eq_false h
        clear hno h hq
        go_wp2
        go_round
        case rel => exact ⟨4, by omega, by go_num, HN⟩
        case measure => simp [intOf]
    · have hix := index_what4
      have hq := eqW c [115, 116, 97, 116, 101]
      by_cases h : whatL[4]? = some c.data.toList
      · have HR : Hid (whatOf c = 5) := whatOf_hit (k := 4) (by decide) h
        have hqt : ([115, 116, 97, 116, 101] == c.toList) = true := by rw [hq]; exact decide_eq_true h
        clear hno h hq
        go_wp2
        go_ret2
        exact ⟨by rw [HR.out]; rfl, rfl⟩
      · have HN : Hid (NoW c 5) := hno.out.next h
        have hqt : ([115, 116, 97, 116, 101] == c.toList) = false := by rw [hq]; exact decide_eq_false h
        clear hno h hq
        go_wp2
        go_round
        case rel => exact ⟨5, by omega, by go_num, HN⟩
        case measure => simp [intOf]
    · have HR : Hid (whatOf c = 0) := whatTo_none hno.out
      clear hno
      go_wp2
      go_ret2
      exact ⟨by rw [HR.out]; rfl, rfl⟩

/-- What reading gives: the change and true, or nothing. -/
def rdVal (b : ByteArray) (wh n : Int) (v : ByteArray) : Bool → Value
  | true => .tuple #[.agg #[.string b, .int .i64 wh, .int .i64 n, .string v], .bool true]
  | false => .tuple #[.agg #[.string ⟨#[]⟩, .int .i64 0, .int .i64 0, .string ⟨#[]⟩], .bool false]

/-- The library's own bound holds a number. -/
def MaxHeld (w : World) : Prop := ∃ m, w.cell? ⟨1, 0, none⟩ = some (.int .i64 m)
theorem MaxHeld.later {w w' : World} (h : MaxHeld w) (hb : Below w.heap.size w w') : MaxHeld w' := by
  obtain ⟨m, hm⟩ := h
  exact ⟨m, (hb.cell (p := ⟨1, 0, none⟩) (World.block_lt_of_cell? w ⟨1, 0, none⟩ hm)).trans hm⟩

set_option maxRecDepth 100000 in
set_option maxHeartbeats 2000000 in
theorem iRead_few (s : ByteArray) (w : World) (hs : s.size ≤ 1048576) (hM : MaxHeld w) (hw : (wordsP s).length < 5) :
    Calls Tryd.prog 5 #[.string s] w fun e w' => e = .returned (rdVal ByteArray.empty 0 0 ByteArray.empty false) ∧ Below w.heap.size w w' := by
  have hb0 : Below w.heap.size w (w.alloc (.cells #[.string ⟨#[]⟩, .int .i64 0, .int .i64 0, .string ⟨#[]⟩] 23)) := (Below.refl _ _).alloc (Nat.le_refl _) _
  obtain ⟨m, hm⟩ := hM.later hb0
  have hlen := wordsP_len s
  have hsp : Lib.splitB spB 0 (min 5 (s.size + 1) - 1) s = wordsP s := split_all _ s (by omega)
  have HSP := Tryd.strings_SplitN s spB 5 m (w.alloc (.cells #[.string ⟨#[]⟩, .int .i64 0, .int .i64 0, .string ⟨#[]⟩] 23)) (by omega) hm (by decide) (by omega) (by omega)
  rw [hsp] at HSP
  have hlI : ((wordsP s).length : Int) < 5 := by omega
  have hlN := hw
  generalize wordsP s = ws at *
  clear hsp hm hlen hw
  unfold spB at HSP
  go_enter Tryd.func5, Tryd.ntmps5
  go_wp2_with fail
  refine HSP.mono ?_
  rintro e w1 ⟨rfl, hw1⟩
  have hb1 : Below w.heap.size w w1 := by rw [hw1]; exact hb0.alloc (by simp) _
  have hz1 : w.heap.size < w1.heap.size := by rw [hw1]; simp; omega
  have hcz : ∀ o, w1.cell? ⟨w.heap.size, o, none⟩ = (w.alloc (.cells #[.string ⟨#[]⟩, .int .i64 0, .int .i64 0, .string ⟨#[]⟩] 23)).cell? ⟨w.heap.size, o, none⟩ := fun o => by rw [hw1]; exact ((Below.refl (w.heap.size + 1) _).alloc (by simp) _).cell (p := ⟨w.heap.size, o, none⟩) (by simp)
  have hfz : ∀ o, w1.frozen? ⟨w.heap.size, o, none⟩ = (w.alloc (.cells #[.string ⟨#[]⟩, .int .i64 0, .int .i64 0, .string ⟨#[]⟩] 23)).frozen? ⟨w.heap.size, o, none⟩ := fun o => by rw [hw1]; exact ((Below.refl (w.heap.size + 1) _).alloc (by simp) _).frozen (p := ⟨w.heap.size, o, none⟩) (by simp)
  simp at hcz hfz
  clear hw1 HSP hb0
  go_wp2
  exact bodyPost_ret (v := .tuple #[.agg #[.string ⟨#[]⟩, .int .i64 0, .int .i64 0, .string ⟨#[]⟩], .bool false]) (by simp [results, Tryd.results5, go_sem, hcz, hfz, hz1]) rfl ⟨rfl, by repeat (first | exact hb1 | refine Below.setCell ?_ (by simp) _)⟩

set_option maxRecDepth 100000 in
set_option maxHeartbeats 8000000 in
theorem iRead_many (s a b c d e5 : ByteArray) (r : List ByteArray) (w : World) (hs : s.size ≤ 1048576) (hM : MaxHeld w) (hL : FormLaid w) (hw : wordsP s = a :: b :: c :: d :: e5 :: r) (v : ByteArray) (hv : v = s.extract (pre (wordsP s) 4) s.size) :
    Calls Tryd.prog 5 #[.string s] w fun e w' => e = .returned (rdVal b (whatOf c) (decZ d) v (pb (formOf b (whatOf c) (decZ d) v = s))) ∧ Below w.heap.size w w' := by
  have hb0 : Below w.heap.size w (w.alloc (.cells #[.string ⟨#[]⟩, .int .i64 0, .int .i64 0, .string ⟨#[]⟩] 23)) := (Below.refl _ _).alloc (Nat.le_refl _) _
  obtain ⟨m, hm⟩ := hM.later hb0
  have hlen := wordsP_len s
  have hs4 : 4 ≤ s.size := by rw [hw] at hlen; simp at hlen; omega
  have hmin : min 5 (s.size + 1) = 5 := by omega
  have hsp := (split_some 4 s (by rw [hw]; simp)).1
  rw [← hv, hw] at hsp
  simp only [List.take_succ_cons, List.take_zero, List.cons_append, List.nil_append] at hsp
  have hsz : ∀ x ∈ wordsP s, x.size ≤ maxLen := fun x hx => Nat.le_trans (wordsP_sizes s x hx) (by unfold maxLen; omega)
  have hbm : b.size ≤ maxLen := hsz b (by rw [hw]; simp)
  have hdm : d.size ≤ maxLen := hsz d (by rw [hw]; simp)
  have hvm : v.size ≤ 1048576 := by rw [hv]; simp [ByteArray.size_extract]; omega
  have HSP := Tryd.strings_SplitN s spB 5 m (w.alloc (.cells #[.string ⟨#[]⟩, .int .i64 0, .int .i64 0, .string ⟨#[]⟩] 23)) (by omega) hm (by decide) (by omega) (by omega)
  rw [hmin, show 5 - 1 = 4 from rfl, hsp] at HSP
  have hcell : Lib.cellsOf [a, b, c, d, v] 5 = #[.string a, .string b, .string c, .string d, .string v] := rfl
  rw [hcell] at HSP
  simp only [List.length_cons, List.length_nil, Nat.zero_add, Nat.reduceAdd] at HSP
  have hb1 : Below w.heap.size w ((w.alloc (.cells #[.string ⟨#[]⟩, .int .i64 0, .int .i64 0, .string ⟨#[]⟩] 23)).alloc (.cells #[.string a, .string b, .string c, .string d, .string v] 9)) := hb0.alloc (by simp) _
  have hL1 := hL.later hb1
  have HWO := iWhatOf c _ hL1
  have HDE := fun W => iDec d W hdm
  have hwb := whatTo_bound c 5
  have HFO := fun W hW => iForm b (whatOf c) (decZ d) v W hbm hvm hW
  have hwb : 0 ≤ whatOf c ∧ whatOf c ≤ 5 := hwb
  clear hsz hsp hmin hcell hv hw hlen hm hs4
  generalize decide (0 < whatOf c) = ok at *
  generalize whatOf c = wh at *
  generalize decZ d = n at *
  generalize pb (DecOk d) = dok at *
  generalize formOf b wh n v = F at *
  unfold spB at HSP
  go_enter Tryd.func5, Tryd.ntmps5
  go_wp2_with fail
  refine HSP.mono ?_
  rintro e w' ⟨rfl, hwq⟩
  subst hwq
  go_wp2_with fail
  refine HWO.mono ?_
  rintro e w' ⟨rfl, hwq⟩
  subst hwq
  go_wp2_with fail
  refine (HDE _).mono ?_
  rintro e w2 ⟨rfl, hb2⟩
  obtain ⟨hc2, hf2⟩ := bcell hb2
  have hB2 := hb1.trans (hb2.mono hb1.size)
  have hz2 : w.heap.size + 1 < w2.heap.size := by have := hb2.size; simp at this; omega
  have hz2' : w.heap.size < w2.heap.size := by omega
  have HP2 : BxC (w.heap.size + 1) #[.string a, .string b, .string c, .string d, .string v] w2 := by
    have h := BxC.new (w.alloc (.cells #[.string ⟨#[]⟩, .int .i64 0, .int .i64 0, .string ⟨#[]⟩] 23)) #[.string a, .string b, .string c, .string d, .string v] 9
    rw [World.size_alloc] at h
    exact h.below hb2 (by simp)
  have hcz : ∀ o, w2.cell? ⟨w.heap.size, o, none⟩ = (w.alloc (.cells #[.string ⟨#[]⟩, .int .i64 0, .int .i64 0, .string ⟨#[]⟩] 23)).cell? ⟨w.heap.size, o, none⟩ := fun o => (hc2 w.heap.size o (by simp; omega)).trans (((Below.refl (w.heap.size + 1) _).alloc (by simp) _).cell (p := ⟨w.heap.size, o, none⟩) (by simp))
  have hfz : ∀ o, w2.frozen? ⟨w.heap.size, o, none⟩ = (w.alloc (.cells #[.string ⟨#[]⟩, .int .i64 0, .int .i64 0, .string ⟨#[]⟩] 23)).frozen? ⟨w.heap.size, o, none⟩ := fun o => (hf2 w.heap.size o (by simp; omega)).trans (((Below.refl (w.heap.size + 1) _).alloc (by simp) _).frozen (p := ⟨w.heap.size, o, none⟩) (by simp))
  simp at hcz hfz
  clear hb2 hc2 hf2 HSP HWO HDE hb1 hb0 hL1
  go_wp2_with fail
  have HC0 : BxC (w.heap.size + 1) #[.string a, .string b, .string c, .string d, .string v] w2.drew := HP2.below ((Below.refl (w.heap.size + 2) _).drew) (by omega)
  refine wp_region_RC (fun W => BxC (w.heap.size + 1) #[.string a, .string b, .string c, .string d, .string v] W) mixedF ?_
  refine RC.take (i := 0) (v := .slice (some ⟨w.heap.size + 1, 0, none⟩) 5 5) rfl (by kernel_rfl) (by kernel_rfl) (by kernel_rfl) (fun _ _ _ h => h) HC0 (by kernel_rfl) ?y0 ?r0
  case y0 => (intro W hW; go_simp; try with_reducible rfl)
  case r0 =>
    refine RC.take (i := 1) (v := .pointer (some ⟨w.heap.size + 1, 1, none⟩)) rfl (by kernel_rfl) (by kernel_rfl) (by kernel_rfl) (fun _ _ _ h => h) HC0 (by kernel_rfl) ?y1 ?r1
    case y1 => (intro W hW; go_simp; try with_reducible rfl)
    case r1 =>
      refine RC.take (i := 2) (v := .string b) rfl (by kernel_rfl) (by kernel_rfl) (by kernel_rfl) (fun _ _ _ h => h) HC0 (by kernel_rfl) ?y2 ?r2
      case y2 => (intro W hW; have b0 := hW 0; have b1 := hW 1; have b2 := hW 2; have b3 := hW 3; have b4 := hW 4; simp at b0 b1 b2 b3 b4; go_simp; try with_reducible rfl)
      case r2 =>
        refine RC.take (i := 3) (v := .int .i64 wh) rfl (by kernel_rfl) (by kernel_rfl) (by kernel_rfl) (fun _ _ _ h => h) HC0 (by kernel_rfl) ?y3 ?r3
        case y3 => (intro W hW; go_simp; try with_reducible rfl)
        case r3 =>
          refine RC.take (i := 4) (v := .int .i64 n) rfl (by kernel_rfl) (by kernel_rfl) (by kernel_rfl) (fun _ _ _ h => h) HC0 (by kernel_rfl) ?y4 ?r4
          case y4 => (intro W hW; go_simp; try with_reducible rfl)
          case r4 =>
            refine RC.take (i := 5) (v := .slice (some ⟨w.heap.size + 1, 0, none⟩) 5 5) rfl (by kernel_rfl) (by kernel_rfl) (by kernel_rfl) (fun _ _ _ h => h) HC0 (by kernel_rfl) ?y5 ?r5
            case y5 => (intro W hW; go_simp; try with_reducible rfl)
            case r5 =>
              refine RC.take (i := 6) (v := .pointer (some ⟨w.heap.size + 1, 4, none⟩)) rfl (by kernel_rfl) (by kernel_rfl) (by kernel_rfl) (fun _ _ _ h => h) HC0 (by kernel_rfl) ?y6 ?r6
              case y6 => (intro W hW; go_simp; try with_reducible rfl)
              case r6 =>
                refine RC.take (i := 7) (v := .string v) rfl (by kernel_rfl) (by kernel_rfl) (by kernel_rfl) (fun _ _ _ h => h) HC0 (by kernel_rfl) ?y7 ?r7
                case y7 => (intro W hW; have b0 := hW 0; have b1 := hW 1; have b2 := hW 2; have b3 := hW 3; have b4 := hW 4; simp at b0 b1 b2 b3 b4; go_simp; try with_reducible rfl)
                case r7 =>
                  refine RC.take (i := 8) (v := .agg #[.string b, .int .i64 wh, .int .i64 n, .string v]) rfl (by kernel_rfl) (by kernel_rfl) (by kernel_rfl) (fun _ _ _ h => h) HC0 (by kernel_rfl) ?y8 ?r8
                  case y8 => (intro W hW; go_simp; try with_reducible rfl)
                  case r8 =>
                    have hb3 : Below w2.heap.size w2 (w2.alloc (.cells #[.string b, .int .i64 wh, .int .i64 n, .string v] 23)).drew := ((Below.refl _ _).alloc (Nat.le_refl _) _).drew
                    have HC3z : BxC (w.heap.size + 1) #[.string a, .string b, .string c, .string d, .string v] (w2.alloc (.cells #[.string ⟨#[]⟩, .int .i64 0, .int .i64 0, .string ⟨#[]⟩] 23)).drew := HP2.below ((Below.refl (w.heap.size + 2) _).alloc hz2 _).drew (by omega)
                    have HC3 : BxC (w.heap.size + 1) #[.string a, .string b, .string c, .string d, .string v] (w2.alloc (.cells #[.string b, .int .i64 wh, .int .i64 n, .string v] 23)).drew := HP2.below ((Below.refl (w.heap.size + 2) _).alloc hz2 _).drew (by omega)
                    refine RC.want (i := 9) (by kernel_rfl) rfl (by kernel_rfl) (fun K hK => ?_)
                    go_simp
                    refine hK _ _ HC3z ?_
                    clear hK K
                    refine RC.want (i := 10) (by kernel_rfl) rfl (by kernel_rfl) (fun K hK => ?_)
                    go_simp
                    refine hK _ _ HC3 ?_
                    clear hK K HC3z HC3 HC0 HP2
                    refine RC.done (by kernel_rfl) ?_
                    have hB3 := hB2.trans (hb3.mono (by omega))
                    have HN3 : BxC w2.heap.size #[.string b, .int .i64 wh, .int .i64 n, .string v] (w2.alloc (.cells #[.string b, .int .i64 wh, .int .i64 n, .string v] 23)).drew := (BxC.new w2 _ _).below ((Below.refl (w2.heap.size + 1) _).drew) (by omega)
                    have hL3 := hL.later hB3
                    have HF3 := HFO _ hL3
                    have hcz3 : ∀ o, (w2.alloc (.cells #[.string b, .int .i64 wh, .int .i64 n, .string v] 23)).drew.cell? ⟨w.heap.size, o, none⟩ = w2.cell? ⟨w.heap.size, o, none⟩ := fun o => hb3.cell (p := ⟨w.heap.size, o, none⟩) hz2'
                    have hfz3 : ∀ o, (w2.alloc (.cells #[.string b, .int .i64 wh, .int .i64 n, .string v] 23)).drew.frozen? ⟨w.heap.size, o, none⟩ = w2.frozen? ⟨w.heap.size, o, none⟩ := fun o => hb3.frozen (p := ⟨w.heap.size, o, none⟩) hz2'
                    clear hb3 hB2 hL3 HFO
                    go_wp2_with fail
                    refine HF3.mono ?_
                    rintro e w5 ⟨rfl, hb5⟩
                    obtain ⟨hc5, hf5⟩ := bcell hb5
                    have hB5 := hB3.trans (hb5.mono hB3.size)
                    have HN5 := HN3.below hb5 (by simp)
                    have hz5 : w2.heap.size < w5.heap.size := by have := hb5.size; simp at this; omega
                    have hz5' : w.heap.size < w5.heap.size := by omega
                    have hcz5 : ∀ o, w5.cell? ⟨w.heap.size, o, none⟩ = w2.cell? ⟨w.heap.size, o, none⟩ := fun o => (hc5 w.heap.size o (by simp; omega)).trans (hcz3 o)
                    have hfz5 : ∀ o, w5.frozen? ⟨w.heap.size, o, none⟩ = w2.frozen? ⟨w.heap.size, o, none⟩ := fun o => (hf5 w.heap.size o (by simp; omega)).trans (hfz3 o)
                    simp only [hcz] at hcz5
                    simp only [hfz] at hfz5
                    have n0 := HN5 0
                    have n1 := HN5 1
                    have n2 := HN5 2
                    have n3 := HN5 3
                    simp at n0 n1 n2 n3
                    clear hb5 hc5 hf5 HN5 HN3 hB3 hcz3 hfz3 hcz hfz HF3
                    by_cases hF : F = s
                    · have HP : Hid (pb (F = s) = true) := pb_yes hF
                      have hne : (F.toList == s.toList) = true := beqL.2 hF
                      have hne2 : F.toList = s.toList := by rw [hF]
                      clear hF
                      go_wp2
                      exact bodyPost_ret (v := .tuple #[.agg #[.string b, .int .i64 wh, .int .i64 n, .string v], .bool true]) (by simp [results, Tryd.results5, go_sem, hcz5, hfz5, hz5']) rfl ⟨by rw [HP.out]; rfl, by repeat (first | exact hB5 | refine Below.setCell ?_ (by simp) _)⟩
                    · have HP : Hid (pb (F = s) = false) := pb_no hF
                      have hne : (F.toList == s.toList) = false := beqL_no hF
                      have hne2 : ¬ F.toList = s.toList := fun e => by rw [e] at hne; simp at hne
                      clear hF
                      go_wp2
                      exact bodyPost_ret (v := .tuple #[.agg #[.string ⟨#[]⟩, .int .i64 0, .int .i64 0, .string ⟨#[]⟩], .bool false]) (by simp [results, Tryd.results5, go_sem, hcz5, hfz5, hz5']) rfl ⟨by rw [HP.out]; rfl, by repeat (first | exact hB5 | refine Below.setCell ?_ (by simp) _)⟩

end Go.Proofs.YtgibkckmdedhjaaDoor
