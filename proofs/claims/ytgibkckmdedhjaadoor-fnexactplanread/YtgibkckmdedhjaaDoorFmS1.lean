/- DERIVED. spec.PlanForm: its walk (written by wip/tools/mk_fm.py). -/
import Derived.Test.YtgibkckmdedhjaaDoorFmS0
import Derived.Test.YtgibkckmdedhjaaDoorPQ1
namespace Go.Proofs.YtgibkckmdedhjaaDoor
open Go.RowKit
set_option linter.unusedSimpArgs false
set_option linter.unusedVariables false

theorem add_eq {a b : ByteArray} {la lb : List UInt8} (ha : a.data.toList = la) (hb : b.data.toList = lb) : (a ++ b).data.toList = la ++ lb := by
  rw [ByteArray.data_append, Array.toList_append, ha, hb]
theorem of_list {a : ByteArray} {l : List UInt8} (h : a.data.toList = l) : a = ⟨l.toArray⟩ := by
  apply ByteArray.ext
  apply Array.ext'
  rw [h]
theorem size_list (a : ByteArray) : a.size = a.data.toList.length := by
  rw [Array.length_toList]; rfl

set_option maxRecDepth 100000 in
set_option maxHeartbeats 4000000 in
theorem sForm_good (f : ByteArray) (wh n : Int) (v : ByteArray) (w : World) (h : FormOk f wh n v) (hv : v.size ≤ 1048576) :
    Calls Tryd.prog 10 #[.agg #[.string f, .int .i64 wh, .int .i64 n, .string v]] w fun e w' => e = .returned (.string ⟨(formL f wh n v).toArray⟩) ∧ Below w.heap.size w w' := by
  obtain ⟨h1, h2, h3, h4, h5⟩ := h
  have hf8 := h1.2.1
  have hfm : f.size ≤ maxLen := by unfold maxLen; omega
  have hvm : v.size ≤ maxLen := by unfold maxLen; omega
  have hve : (v.toList == []) = false := by rw [empty_iff, pb_no h4]
  have hod : (!pb (NoNl v)) = false := by rw [pb_yes h5]; rfl
  obtain ⟨d, rfl⟩ := Int.eq_ofNat_of_zero_le (show 0 ≤ n by have := h2.1; omega)
  have hd6 : d ≤ 1000000 := by have := h2.2; omega
  have hdl := decDigits_len d
  have hwl := whatW_len wh
  have hwv := whatV_at h3
  have hh1 := h3.1
  have hh2 := h3.2
  obtain ⟨k, hk⟩ : ∃ k : Nat, wh - 1 = (k : Int) := Int.eq_ofNat_of_zero_le (by omega)
  have hk5 : (k : Int) < 5 := by omega
  have hk5n : k < 5 := by omega
  have hkw : IntKind.i64.wrap (wh - 1) = (k : Int) := by rw [IntKind.wrap_i64, hk]; all_goals omega
  rw [show (wh - 1).toNat = k by omega] at hwv
  obtain ⟨s1, e1⟩ : ∃ s, s = (⟨#[115, 101, 116, 32]⟩ : ByteArray) ++ f := ⟨_, rfl⟩
  obtain ⟨s2, e2⟩ : ∃ s, s = s1 ++ (⟨#[32]⟩ : ByteArray) := ⟨_, rfl⟩
  obtain ⟨wd, ew⟩ : ∃ s, s = (⟨(whatW wh).toArray⟩ : ByteArray) := ⟨_, rfl⟩
  obtain ⟨dd, ed⟩ : ∃ s, s = (⟨(Lib.decDigits d).toArray⟩ : ByteArray) := ⟨_, rfl⟩
  obtain ⟨s3, e3⟩ : ∃ s, s = s2 ++ wd := ⟨_, rfl⟩
  obtain ⟨s4, e4⟩ : ∃ s, s = s3 ++ (⟨#[32]⟩ : ByteArray) := ⟨_, rfl⟩
  obtain ⟨s5, e5⟩ : ∃ s, s = s4 ++ dd := ⟨_, rfl⟩
  obtain ⟨s6, e6⟩ : ∃ s, s = s5 ++ (⟨#[32]⟩ : ByteArray) := ⟨_, rfl⟩
  obtain ⟨s7, e7⟩ : ∃ s, s = s6 ++ v := ⟨_, rfl⟩
  have z1 : s1.size = 4 + f.size := by rw [e1, ByteArray.size_append]; rfl
  have z2 : s2.size = s1.size + 1 := by rw [e2, ByteArray.size_append]; rfl
  have zw : wd.size = (whatW wh).length := by rw [ew, size_list]
  have zd : dd.size = (Lib.decDigits d).length := by rw [ed, size_list]
  have z3 : s3.size = s2.size + wd.size := by rw [e3, ByteArray.size_append]
  have z4 : s4.size = s3.size + 1 := by rw [e4, ByteArray.size_append]; rfl
  have z5 : s5.size = s4.size + dd.size := by rw [e5, ByteArray.size_append]
  have z6 : s6.size = s5.size + 1 := by rw [e6, ByteArray.size_append]; rfl
  have a1 := fun W => run_string_add_sum (P := Tryd.prog) W (⟨#[115, 101, 116, 32]⟩ : ByteArray) f (show 4 + f.size ≤ 9223372036854775807 by omega)
  have a2 := fun W => run_string_add_sum (P := Tryd.prog) W s1 (⟨#[32]⟩ : ByteArray) (show s1.size + 1 ≤ 9223372036854775807 by omega)
  have a3 := fun W => run_string_add_sum (P := Tryd.prog) W s2 wd (show s2.size + wd.size ≤ 9223372036854775807 by omega)
  have a4 := fun W => run_string_add_sum (P := Tryd.prog) W s3 (⟨#[32]⟩ : ByteArray) (show s3.size + 1 ≤ 9223372036854775807 by omega)
  have a5 := fun W => run_string_add_sum (P := Tryd.prog) W s4 dd (show s4.size + dd.size ≤ 9223372036854775807 by omega)
  have a6 := fun W => run_string_add_sum (P := Tryd.prog) W s5 (⟨#[32]⟩ : ByteArray) (show s5.size + 1 ≤ 9223372036854775807 by omega)
  have a7 := fun W => run_string_add_sum (P := Tryd.prog) W s6 v (show s6.size + v.size ≤ 9223372036854775807 by omega)
  rw [← e1] at a1
  rw [← e2] at a2
  rw [← e3] at a3
  rw [← e4] at a4
  rw [← e5] at a5
  rw [← e6] at a6
  rw [← e7] at a7
  have HRES : Hid (s7 = ⟨(formL f wh (d : Int) v).toArray⟩) := by
    show _ = _
    apply of_list
    rw [e7, e6, e5, e4, e3, e2, e1, ew, ed]
    unfold formL
    simp [ByteArray.data_append]
  have HDEC := specDec d hd6
  have HODD := specOdd v
  rw [hod] at HODD
  rw [← ed] at HDEC
  rw [← ew] at hwv
  clear hk e1 e2 e3 e4 e5 e6 e7 ew ed z1 z2 z3 z4 z5 z6 zw zd h4 h5 hdl hwl hod
  have hb0 : Below w.heap.size w (w.alloc (.cells #[.string f, .int .i64 wh, .int .i64 (d : Int), .string v] 23)) := (Below.refl _ _).alloc (Nat.le_refl _) _
  have HB0 := BxC.new w #[.string f, .int .i64 wh, .int .i64 (d : Int), .string v] 23
  go_enter Tryd.func10, Tryd.ntmps10
  go_wp2_with fail
  refine (s11nameOk_yes f _ hfm h1).mono ?_
  rintro e w' ⟨rfl, hwq⟩
  subst hwq
  go_wp2_with fail
  refine (s11in_yes (d : Int) 1 1000000 _ h2).mono ?_
  rintro e w' ⟨rfl, hwq⟩
  subst hwq
  go_wp2_with fail
  refine (s11in_yes wh 1 5 _ h3).mono ?_
  rintro e w' ⟨rfl, hwq⟩
  subst hwq
  go_wp2_with fail
  refine (HODD _ hvm).mono ?_
  rintro e w1 ⟨rfl, hb1⟩
  have hB1 := hb0.trans (hb1.mono hb0.size)
  have HB1 := HB0.below hb1 (by simp)
  have hz1 : w.heap.size < w1.heap.size := by have := hb1.size; simp at this; omega
  have HC0 : BxC w.heap.size #[.string f, .int .i64 wh, .int .i64 (d : Int), .string v] w1.drew := HB1.below ((Below.refl (w.heap.size + 1) _).drew) (by omega)
  have hBd := hB1.drew
  have hle : w.heap.size + 1 ≤ w1.drew.heap.size := hz1
  clear hb0 HB0 hb1 HB1 hB1 HODD h1 h2
  go_wp2_with fail
  refine wp_region_RC (fun W => BxC w.heap.size #[.string f, .int .i64 wh, .int .i64 (d : Int), .string v] W) mixedF ?_
  refine RC.take (i := 0) (v := .pointer (some ⟨w.heap.size, 0, none⟩)) rfl (by kernel_rfl) (by kernel_rfl) (by kernel_rfl) (fun _ _ _ h => h) HC0 (by kernel_rfl) ?y0 ?r0
  case y0 => (intro W hW; have b0 := hW 0; have b1 := hW 1; have b2 := hW 2; have b3 := hW 3; simp at b0 b1 b2 b3; go_simp; try with_reducible rfl)
  case r0 =>
    refine RC.take (i := 1) (v := .string f) rfl (by kernel_rfl) (by kernel_rfl) (by kernel_rfl) (fun _ _ _ h => h) HC0 (by kernel_rfl) ?y1 ?r1
    case y1 => (intro W hW; have b0 := hW 0; have b1 := hW 1; have b2 := hW 2; have b3 := hW 3; simp at b0 b1 b2 b3; go_simp; try with_reducible rfl)
    case r1 =>
      refine RC.take (i := 2) (v := .string s1) rfl (by kernel_rfl) (by kernel_rfl) (by kernel_rfl) (fun _ _ _ h => h) HC0 (by kernel_rfl) ?y2 ?r2
      case y2 => (intro W hW; go_simp; try with_reducible rfl)
      case r2 =>
        refine RC.take (i := 3) (v := .string s2) rfl (by kernel_rfl) (by kernel_rfl) (by kernel_rfl) (fun _ _ _ h => h) HC0 (by kernel_rfl) ?y3 ?r3
        case y3 => (intro W hW; go_simp; try with_reducible rfl)
        case r3 =>
          refine RC.take (i := 5) (v := .pointer (some ⟨w.heap.size, 1, none⟩)) rfl (by kernel_rfl) (by kernel_rfl) (by kernel_rfl) (fun _ _ _ h => h) HC0 (by kernel_rfl) ?y4 ?r4
          case y4 => (intro W hW; have b0 := hW 0; have b1 := hW 1; have b2 := hW 2; have b3 := hW 3; simp at b0 b1 b2 b3; go_simp; try with_reducible rfl)
          case r4 =>
            refine RC.take (i := 6) (v := .int .i64 wh) rfl (by kernel_rfl) (by kernel_rfl) (by kernel_rfl) (fun _ _ _ h => h) HC0 (by kernel_rfl) ?y5 ?r5
            case y5 => (intro W hW; have b0 := hW 0; have b1 := hW 1; have b2 := hW 2; have b3 := hW 3; simp at b0 b1 b2 b3; go_simp; try with_reducible rfl)
            case r5 =>
              refine RC.take (i := 7) (v := .int .i64 (k : Int)) rfl (by kernel_rfl) (by kernel_rfl) (by kernel_rfl) (fun _ _ _ h => h) HC0 (by kernel_rfl) ?y6 ?r6
              case y6 => (intro W hW; go_simp; try with_reducible rfl)
              case r6 =>
                refine RC.take (i := 12) (v := .pointer (some ⟨w.heap.size, 2, none⟩)) rfl (by kernel_rfl) (by kernel_rfl) (by kernel_rfl) (fun _ _ _ h => h) HC0 (by kernel_rfl) ?y7 ?r7
                case y7 => (intro W hW; have b0 := hW 0; have b1 := hW 1; have b2 := hW 2; have b3 := hW 3; simp at b0 b1 b2 b3; go_simp; try with_reducible rfl)
                case r7 =>
                  refine RC.take (i := 13) (v := .int .i64 (d : Int)) rfl (by kernel_rfl) (by kernel_rfl) (by kernel_rfl) (fun _ _ _ h => h) HC0 (by kernel_rfl) ?y8 ?r8
                  case y8 => (intro W hW; have b0 := hW 0; have b1 := hW 1; have b2 := hW 2; have b3 := hW 3; simp at b0 b1 b2 b3; go_simp; try with_reducible rfl)
                  case r8 =>
                    refine RC.take (i := 17) (v := .pointer (some ⟨w.heap.size, 3, none⟩)) rfl (by kernel_rfl) (by kernel_rfl) (by kernel_rfl) (fun _ _ _ h => h) HC0 (by kernel_rfl) ?y9 ?r9
                    case y9 => (intro W hW; have b0 := hW 0; have b1 := hW 1; have b2 := hW 2; have b3 := hW 3; simp at b0 b1 b2 b3; go_simp; try with_reducible rfl)
                    case r9 =>
                      refine RC.take (i := 18) (v := .string v) rfl (by kernel_rfl) (by kernel_rfl) (by kernel_rfl) (fun _ _ _ h => h) HC0 (by kernel_rfl) ?y10 ?r10
                      case y10 => (intro W hW; have b0 := hW 0; have b1 := hW 1; have b2 := hW 2; have b3 := hW 3; simp at b0 b1 b2 b3; go_simp; try with_reducible rfl)
                      case r10 =>
                        refine RC.want (i := 4) (by kernel_rfl) rfl (by kernel_rfl) (fun K hK => ?_)
                        go_simp
                        refine (specWords _).mono ?_
                        rintro e w2 ⟨rfl, hw2⟩
                        simp only
                        have hb2 : Below w1.drew.heap.size w1.drew w2 := by rw [hw2]; exact (Below.refl _ _).alloc (Nat.le_refl _) _
                        have HW2 : BxC w1.drew.heap.size whatV w2 := by rw [hw2]; exact BxC.new _ _ _
                        have hz2 : w1.drew.heap.size < w2.heap.size := by rw [hw2]; simp
                        have HC2 := HC0.below hb2 (by omega)
                        have hB2 := hBd.trans (hb2.mono (by omega))
                        clear hw2 hb2
                        generalize w1.drew.heap.size = g at *
                        refine hK _ _ HC2 ?_
                        clear hK K HC0 hBd
                        refine RC.narrow (fun W => BxC w.heap.size #[.string f, .int .i64 wh, .int .i64 (d : Int), .string v] W ∧ BxC g whatV W) (fun _ h => h.1) ?_
                        have HC0 : BxC w.heap.size #[.string f, .int .i64 wh, .int .i64 (d : Int), .string v] w2 ∧ BxC g whatV w2 := ⟨HC2, HW2⟩
                        clear HC2 HW2
                        refine RC.take (i := 8) (v := .pointer (some ⟨g, k, none⟩)) rfl (by kernel_rfl) (by kernel_rfl) (by kernel_rfl) (fun _ _ _ h => h) HC0 (by kernel_rfl) ?y11 ?r11
                        case y11 => (intro W hW; go_simp; try with_reducible rfl)
                        case r11 =>
                          refine RC.take (i := 9) (v := .string wd) rfl (by kernel_rfl) (by kernel_rfl) (by kernel_rfl) (fun _ _ _ h => h) HC0 (by kernel_rfl) ?y12 ?r12
                          case y12 => (intro W hW; have c0 := hW.2 k; rw [hwv] at c0; go_simp; try with_reducible rfl)
                          case r12 =>
                            refine RC.take (i := 10) (v := .string s3) rfl (by kernel_rfl) (by kernel_rfl) (by kernel_rfl) (fun _ _ _ h => h) HC0 (by kernel_rfl) ?y13 ?r13
                            case y13 => (intro W hW; go_simp; try with_reducible rfl)
                            case r13 =>
                              refine RC.take (i := 11) (v := .string s4) rfl (by kernel_rfl) (by kernel_rfl) (by kernel_rfl) (fun _ _ _ h => h) HC0 (by kernel_rfl) ?y14 ?r14
                              case y14 => (intro W hW; go_simp; try with_reducible rfl)
                              case r14 =>
                                refine RC.want (i := 14) (by kernel_rfl) rfl (by kernel_rfl) (fun K hK => ?_)
                                go_simp
                                refine (HDEC _).mono ?_
                                rintro e w3 ⟨rfl, hb3⟩
                                simp only
                                have HC3 : BxC w.heap.size #[.string f, .int .i64 wh, .int .i64 (d : Int), .string v] w3 ∧ BxC g whatV w3 := ⟨HC0.1.below hb3 (by omega), HC0.2.below hb3 hz2⟩
                                have hB3 := hB2.trans (hb3.mono (by omega))
                                clear hb3 HC0 hB2
                                refine hK _ _ HC3 ?_
                                clear hK K
                                refine RC.take (i := 15) (v := .string s5) rfl (by kernel_rfl) (by kernel_rfl) (by kernel_rfl) (fun _ _ _ h => h) HC3 (by kernel_rfl) ?y15 ?r15
                                case y15 => (intro W hW; go_simp; try with_reducible rfl)
                                case r15 =>
                                  refine RC.take (i := 16) (v := .string s6) rfl (by kernel_rfl) (by kernel_rfl) (by kernel_rfl) (fun _ _ _ h => h) HC3 (by kernel_rfl) ?y16 ?r16
                                  case y16 => (intro W hW; go_simp; try with_reducible rfl)
                                  case r16 =>
                                    refine RC.take (i := 19) (v := .string s7) rfl (by kernel_rfl) (by kernel_rfl) (by kernel_rfl) (fun _ _ _ h => h) HC3 (by kernel_rfl) ?y17 ?r17
                                    case y17 => (intro W hW; go_simp; try with_reducible rfl)
                                    case r17 =>
                                      refine RC.take (i := 20) (v := .string s7) rfl (by kernel_rfl) (by kernel_rfl) (by kernel_rfl) (fun _ _ _ h => h) HC3 (by kernel_rfl) ?y18 ?r18
                                      case y18 => (intro W hW; go_simp; try with_reducible rfl)
                                      case r18 =>
                                        refine RC.done (by kernel_rfl) ?_
                                        go_wp2
                                        go_ret
                                        exact ⟨by rw [← HRES.out]; rfl, hB3⟩

set_option maxRecDepth 100000 in
set_option maxHeartbeats 2000000 in
theorem sForm_bad (f : ByteArray) (wh n : Int) (v : ByteArray) (w : World) (h : ¬ FormOk f wh n v) (hfm : f.size ≤ maxLen) (hvm : v.size ≤ maxLen) :
    Calls Tryd.prog 10 #[.agg #[.string f, .int .i64 wh, .int .i64 n, .string v]] w fun e w' => e = .returned (.string ByteArray.empty) ∧ Below w.heap.size w w' := by
  have hb0 : Below w.heap.size w (w.alloc (.cells #[.string f, .int .i64 wh, .int .i64 n, .string v] 23)) := (Below.refl _ _).alloc (Nat.le_refl _) _
  by_cases h1 : NameOk f
  · by_cases h2 : InR n 1 1000000
    · by_cases h3 : InR wh 1 5
      · by_cases h4 : v = ByteArray.empty
        · have hve : (v.toList == []) = true := by rw [empty_iff, pb_yes h4]
          clear h h4
          go_enter Tryd.func10, Tryd.ntmps10
          go_wp2_with fail
          refine (s11nameOk_yes f _ hfm h1).mono ?_
          rintro e w' ⟨rfl, hwq⟩
          subst hwq
          go_wp2_with fail
          refine (s11in_yes n 1 1000000 _ h2).mono ?_
          rintro e w' ⟨rfl, hwq⟩
          subst hwq
          go_wp2_with fail
          refine (s11in_yes wh 1 5 _ h3).mono ?_
          rintro e w' ⟨rfl, hwq⟩
          subst hwq
          go_wp2_with fail
          go_ret
          exact ⟨rfl, hb0⟩
        · have h5 : ¬ NoNl v := fun h5 => h ⟨h1, h2, h3, h4, h5⟩
          have hve : (v.toList == []) = false := by rw [empty_iff, pb_no h4]
          have hod : (!pb (NoNl v)) = true := by rw [pb_no h5]; rfl
          have HODD := specOdd v
          rw [hod] at HODD
          clear h h4 h5 hod
          go_enter Tryd.func10, Tryd.ntmps10
          go_wp2_with fail
          refine (s11nameOk_yes f _ hfm h1).mono ?_
          rintro e w' ⟨rfl, hwq⟩
          subst hwq
          go_wp2_with fail
          refine (s11in_yes n 1 1000000 _ h2).mono ?_
          rintro e w' ⟨rfl, hwq⟩
          subst hwq
          go_wp2_with fail
          refine (s11in_yes wh 1 5 _ h3).mono ?_
          rintro e w' ⟨rfl, hwq⟩
          subst hwq
          go_wp2_with fail
          refine (HODD _ hvm).mono ?_
          rintro e w1 ⟨rfl, hb1⟩
          go_wp2_with fail
          go_ret
          exact ⟨rfl, hb0.trans (hb1.mono hb0.size)⟩
      · go_enter Tryd.func10, Tryd.ntmps10
        go_wp2_with fail
        refine (s11nameOk_yes f _ hfm h1).mono ?_
        rintro e w' ⟨rfl, hwq⟩
        subst hwq
        go_wp2_with fail
        refine (s11in_yes n 1 1000000 _ h2).mono ?_
        rintro e w' ⟨rfl, hwq⟩
        subst hwq
        go_wp2_with fail
        refine (s11in_no wh 1 5 _ h3).mono ?_
        rintro e w' ⟨rfl, hwq⟩
        subst hwq
        go_wp2_with fail
        go_ret
        exact ⟨rfl, hb0⟩
    · go_enter Tryd.func10, Tryd.ntmps10
      go_wp2_with fail
      refine (s11nameOk_yes f _ hfm h1).mono ?_
      rintro e w' ⟨rfl, hwq⟩
      subst hwq
      go_wp2_with fail
      refine (s11in_no n 1 1000000 _ h2).mono ?_
      rintro e w' ⟨rfl, hwq⟩
      subst hwq
      go_wp2_with fail
      go_ret
      exact ⟨rfl, hb0⟩
  · go_enter Tryd.func10, Tryd.ntmps10
    go_wp2_with fail
    refine (s11nameOk_no f _ hfm h1).mono ?_
    rintro e w' ⟨rfl, hwq⟩
    subst hwq
    go_wp2_with fail
    go_ret
    exact ⟨rfl, hb0⟩

theorem sForm (f : ByteArray) (wh n : Int) (v : ByteArray) (w : World) (hfm : f.size ≤ maxLen) (hv : v.size ≤ 1048576) :
    Calls Tryd.prog 10 #[.agg #[.string f, .int .i64 wh, .int .i64 n, .string v]] w fun e w' => e = .returned (.string (formOf f wh n v)) ∧ Below w.heap.size w w' := by
  by_cases h : FormOk f wh n v
  · rw [(formOf_yes h).out]; exact sForm_good f wh n v w h hv
  · rw [(formOf_no h).out]; exact sForm_bad f wh n v w h hfm (Nat.le_trans hv (by unfold maxLen; omega))

end Go.Proofs.YtgibkckmdedhjaaDoor
