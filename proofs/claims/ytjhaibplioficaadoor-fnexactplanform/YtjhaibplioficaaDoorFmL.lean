/- DERIVED. laws.FnExactPlanForm: its walk. -/
import Derived.Test.YtjhaibplioficaaDoorFmI0
import Derived.Test.YtjhaibplioficaaDoorFmS1
import Derived.Test.YtjhaibplioficaaDoorVPlanChange1
namespace Go.Proofs.YtjhaibplioficaaDoor
open Go.RowKit
set_option linter.unusedSimpArgs false
set_option linter.unusedVariables false

set_option maxRecDepth 100000 in
set_option maxHeartbeats 2000000 in
theorem formLaw (f : ByteArray) (wh n : Int) (v : ByteArray) (w : World) (q0 : f.size ≤ maxLen) (q3 : v.size ≤ maxLen) (hL : FormLaid w) :
    Calls Tryd.prog 3 #[.agg #[.string f, .int .i64 wh, .int .i64 n, .string v]] w fun e w' => e = .returned (.bool true) ∧ Below w.heap.size w w' := by
  have hb0 : Below w.heap.size w (w.alloc (.cells #[.string f, .int .i64 wh, .int .i64 n, .string v] 23)) := (Below.refl _ _).alloc (Nat.le_refl _) _
  have HB0 := BxC.new w #[.string f, .int .i64 wh, .int .i64 n, .string v] 23
  have HSZ := fun W => szPlanChange_any (f, wh, n, v) 1048576 W (by omega) (by omega) q0 q3
  by_cases hn : wPlanChange (f, wh, n, v) ≤ 1048576
  · have hsz : szR 1048576 (wPlanChange (f, wh, n, v)) = 1048576 - (wPlanChange (f, wh, n, v) : Int) := szR_yes (by omega)
    have hv : v.size ≤ 1048576 := by unfold wPlanChange at hn; simp only at hn; omega
    rw [hsz] at HSZ
    have HTO := fun W => toPlanChange_any (f, wh, n, v) W
    simp only at HSZ HTO
    have HS := fun W => sForm f wh n v W q0 hv
    have HI := fun W hW => iForm f wh n v W q0 hv hW
    generalize formOf f wh n v = r at *
    generalize wPlanChange (f, wh, n, v) = wc at *
    have hnn : ¬ 1048576 - (wc : Int) < 0 := by omega
    clear hsz
    go_enter Tryd.func3, Tryd.ntmps3
    go_wp2_with fail
    refine (HSZ _).mono ?_
    rintro e w1 ⟨rfl, hb1⟩
    have HB1 := HB0.below hb1 (by simp)
    have hB1 := hb0.trans (hb1.mono hb0.size)
    have hz1 : w.heap.size < w1.heap.size := by have := hb1.size; simp at this; omega
    have b0 := HB1 0
    have b1 := HB1 1
    have b2 := HB1 2
    have b3 := HB1 3
    simp at b0 b1 b2 b3
    clear hb1 hb0 HB0 HSZ
    go_wp2_with fail
    refine (HTO _).mono ?_
    rintro e w2 ⟨rfl, hb2⟩
    go_wp2_with fail
    refine (HS _).mono ?_
    rintro e w3 ⟨rfl, hb3⟩
    have hb13 := hb2.trans (hb3.mono hb2.size)
    have HB3 := HB1.below hb13 hz1
    have hB3 := hB1.trans (hb13.mono hB1.size)
    have hz3 : w.heap.size < w3.heap.size := Nat.lt_of_lt_of_le hz1 hb13.size
    have b0 := HB3 0
    have b1 := HB3 1
    have b2 := HB3 2
    have b3 := HB3 3
    simp at b0 b1 b2 b3
    clear hb2 hb3 hb13 HB1 hB1 HS
    go_wp2_with fail
    refine (HTO _).mono ?_
    rintro e w4 ⟨rfl, hb4⟩
    have hB4 := hB3.trans (hb4.mono hB3.size)
    go_wp2_with fail
    refine (HI _ (hL.later hB4)).mono ?_
    rintro e w5 ⟨rfl, hb5⟩
    have hB5 := hB4.trans (hb5.mono hB4.size)
    have hne : (r.toList != r.toList) = false := by simp
    clear hb4 hb5 HB3 hB3 hB4 HI HTO b0 b1 b2 b3
    go_wp2
    go_ret
    exact ⟨rfl, hB5⟩
  · have hsz : szR 1048576 (wPlanChange (f, wh, n, v)) = -1 := szR_no (by omega)
    rw [hsz] at HSZ
    simp only at HSZ
    clear hsz
    go_enter Tryd.func3, Tryd.ntmps3
    go_wp2_with fail
    refine (HSZ _).mono ?_
    rintro e w1 ⟨rfl, hb1⟩
    have hB1 := hb0.trans (hb1.mono hb0.size)
    clear hb1 HSZ
    go_wp2
    go_ret
    exact ⟨rfl, hB1⟩

end Go.Proofs.YtjhaibplioficaaDoor
