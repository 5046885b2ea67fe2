/- DERIVED. The program's cell of a line: its walk. -/
import Derived.Test.YtohgkiljdehefaaLg0
namespace Go.Proofs.Ytohgkiljdehefaa
namespace Leg
open Go.RowKit
set_option linter.unusedSimpArgs false
set_option linter.unusedVariables false

theorem mixedL : Try.prog.follows .mixedOrders = true := by kernel_rfl
/-- The box of a line. -/
def LineC (b : Nat) (f t : DCell) (n : Int) (W : World) : Prop :=
  W.cell? ⟨b, 0, none⟩ = some (.int .i64 f.1) ∧ W.cell? ⟨b, 1, none⟩ = some (.int .i64 f.2) ∧ W.cell? ⟨b, 2, none⟩ = some (.int .i64 t.1) ∧ W.cell? ⟨b, 3, none⟩ = some (.int .i64 t.2) ∧ W.cell? ⟨b, 4, none⟩ = some (.int .i64 n)
theorem LineC.below {b m : Nat} {f t : DCell} {n : Int} {w w' : World} (h : LineC b f t n w) (hb : Below m w w') (hn : b < m) : LineC b f t n w' := by
  obtain ⟨h0, h1, h2, h3, h4⟩ := h
  exact ⟨(hb.cell (p := ⟨b, 0, none⟩) hn).trans h0, (hb.cell (p := ⟨b, 1, none⟩) hn).trans h1, (hb.cell (p := ⟨b, 2, none⟩) hn).trans h2, (hb.cell (p := ⟨b, 3, none⟩) hn).trans h3, (hb.cell (p := ⟨b, 4, none⟩) hn).trans h4⟩

set_option maxHeartbeats 2000000 in
theorem cell_any (f t : DCell) (n k : Int) (w : World) (hf : InLeg f) (ht : InLeg t) (hn : 0 ≤ n ∧ n ≤ 15) (hk : 0 ≤ k ∧ k ≤ n) :
    Calls Try.prog 96 #[.agg (lineCells f t n), .int .i64 k] w fun e w' => e = .returned (vCe (cellOf n f t k)) ∧ Below w.heap.size w w' := by
  obtain ⟨x, y⟩ := f
  obtain ⟨x', y'⟩ := t
  have HX := fun W => nearest x y x' y' n x x' k W hf.1 ht.1 hn hk
  have HY := fun W => nearest x y x' y' n y y' k W hf.2 ht.2 hn hk
  simp only [vCe, cellOf, lineCells] at *
  generalize nearOf n x x' k = u at *
  generalize nearOf n y y' k = v at *
  obtain ⟨w0, hw0⟩ : ∃ w0, w0 = (w.alloc (.cells #[.int .i64 x, .int .i64 y, .int .i64 x', .int .i64 y', .int .i64 n] 150)).alloc (.cells #[.int .i64 0, .int .i64 0] 148) := ⟨_, rfl⟩
  have hb0 : Below w.heap.size w w0 := by rw [hw0]; exact ((Below.refl _ _).alloc (Nat.le_refl _) _).alloc (by simp) _
  have hsz : Hid (w0.heap.size = w.heap.size + 2) := by rw [hw0]; show _ = _; simp
  have HC0 : LineC w.heap.size (x, y) (x', y') n w0.drew := by rw [hw0]; exact ⟨by go_simp, by go_simp, by go_simp, by go_simp, by go_simp⟩
  have c0 : w0.drew.cell? ⟨w.heap.size + 1, 0, none⟩ = some (.int .i64 0) := by rw [hw0]; go_simp
  have c1 : w0.drew.cell? ⟨w.heap.size + 1, 1, none⟩ = some (.int .i64 0) := by rw [hw0]; go_simp
  have f0 : w0.drew.frozen? ⟨w.heap.size + 1, 0, none⟩ = false := by rw [hw0]; go_simp
  have f1 : w0.drew.frozen? ⟨w.heap.size + 1, 1, none⟩ = false := by rw [hw0]; go_simp
  clear hf ht hn hk
  go_enter Try.func96, Try.ntmps96
  go_wp2_with fail
  rw [← hw0]
  clear hw0
  have hbd := hb0.drew
  have hle : w.heap.size + 2 ≤ w0.drew.heap.size := by have := hsz.out; simp; omega
  clear hb0 hsz
  refine wp_region_RC (LineC w.heap.size (x, y) (x', y') n) mixedL ?_
  refine RC.take (i := 0) (v := ?va0) rfl (by kernel_rfl) (by kernel_rfl) (by kernel_rfl) (fun _ _ _ h => h) HC0 (by rfl) ?ya0 ?ra0
  case ya0 => (intro W hW; obtain ⟨c0, c1, c2, c3, c4⟩ := hW; go_simp; try with_reducible rfl)
  refine RC.take (i := 1) (v := ?va1) rfl (by kernel_rfl) (by kernel_rfl) (by kernel_rfl) (fun _ _ _ h => h) HC0 (by rfl) ?ya1 ?ra1
  case ya1 => (intro W hW; obtain ⟨c0, c1, c2, c3, c4⟩ := hW; go_simp; try with_reducible rfl)
  refine RC.take (i := 2) (v := ?va2) rfl (by kernel_rfl) (by kernel_rfl) (by kernel_rfl) (fun _ _ _ h => h) HC0 (by rfl) ?ya2 ?ra2
  case ya2 => (intro W hW; obtain ⟨c0, c1, c2, c3, c4⟩ := hW; go_simp; try with_reducible rfl)
  refine RC.take (i := 3) (v := ?va3) rfl (by kernel_rfl) (by kernel_rfl) (by kernel_rfl) (fun _ _ _ h => h) HC0 (by rfl) ?ya3 ?ra3
  case ya3 => (intro W hW; obtain ⟨c0, c1, c2, c3, c4⟩ := hW; go_simp; try with_reducible rfl)
  refine RC.take (i := 4) (v := ?va4) rfl (by kernel_rfl) (by kernel_rfl) (by kernel_rfl) (fun _ _ _ h => h) HC0 (by rfl) ?ya4 ?ra4
  case ya4 => (intro W hW; obtain ⟨c0, c1, c2, c3, c4⟩ := hW; go_simp; try with_reducible rfl)
  refine RC.take (i := 5) (v := ?va5) rfl (by kernel_rfl) (by kernel_rfl) (by kernel_rfl) (fun _ _ _ h => h) HC0 (by rfl) ?ya5 ?ra5
  case ya5 => (intro W hW; obtain ⟨c0, c1, c2, c3, c4⟩ := hW; go_simp; try with_reducible rfl)
  refine RC.take (i := 6) (v := ?va6) rfl (by kernel_rfl) (by kernel_rfl) (by kernel_rfl) (fun _ _ _ h => h) HC0 (by rfl) ?ya6 ?ra6
  case ya6 => (intro W hW; obtain ⟨c0, c1, c2, c3, c4⟩ := hW; go_simp; try with_reducible rfl)
  refine RC.take (i := 7) (v := ?va7) rfl (by kernel_rfl) (by kernel_rfl) (by kernel_rfl) (fun _ _ _ h => h) HC0 (by rfl) ?ya7 ?ra7
  case ya7 => (intro W hW; obtain ⟨c0, c1, c2, c3, c4⟩ := hW; go_simp; try with_reducible rfl)
  refine RC.take (i := 9) (v := ?va9) rfl (by kernel_rfl) (by kernel_rfl) (by kernel_rfl) (fun _ _ _ h => h) HC0 (by rfl) ?ya9 ?ra9
  case ya9 => (intro W hW; obtain ⟨c0, c1, c2, c3, c4⟩ := hW; go_simp; try with_reducible rfl)
  refine RC.take (i := 10) (v := ?va10) rfl (by kernel_rfl) (by kernel_rfl) (by kernel_rfl) (fun _ _ _ h => h) HC0 (by rfl) ?ya10 ?ra10
  case ya10 => (intro W hW; obtain ⟨c0, c1, c2, c3, c4⟩ := hW; go_simp; try with_reducible rfl)
  refine RC.take (i := 11) (v := ?va11) rfl (by kernel_rfl) (by kernel_rfl) (by kernel_rfl) (fun _ _ _ h => h) HC0 (by rfl) ?ya11 ?ra11
  case ya11 => (intro W hW; obtain ⟨c0, c1, c2, c3, c4⟩ := hW; go_simp; try with_reducible rfl)
  refine RC.take (i := 12) (v := ?va12) rfl (by kernel_rfl) (by kernel_rfl) (by kernel_rfl) (fun _ _ _ h => h) HC0 (by rfl) ?ya12 ?ra12
  case ya12 => (intro W hW; obtain ⟨c0, c1, c2, c3, c4⟩ := hW; go_simp; try with_reducible rfl)
  refine RC.take (i := 13) (v := ?va13) rfl (by kernel_rfl) (by kernel_rfl) (by kernel_rfl) (fun _ _ _ h => h) HC0 (by rfl) ?ya13 ?ra13
  case ya13 => (intro W hW; obtain ⟨c0, c1, c2, c3, c4⟩ := hW; go_simp; try with_reducible rfl)
  refine RC.take (i := 14) (v := ?va14) rfl (by kernel_rfl) (by kernel_rfl) (by kernel_rfl) (fun _ _ _ h => h) HC0 (by rfl) ?ya14 ?ra14
  case ya14 => (intro W hW; obtain ⟨c0, c1, c2, c3, c4⟩ := hW; go_simp; try with_reducible rfl)
  refine RC.take (i := 15) (v := ?va15) rfl (by kernel_rfl) (by kernel_rfl) (by kernel_rfl) (fun _ _ _ h => h) HC0 (by rfl) ?ya15 ?ra15
  case ya15 => (intro W hW; obtain ⟨c0, c1, c2, c3, c4⟩ := hW; go_simp; try with_reducible rfl)
  refine RC.take (i := 16) (v := ?va16) rfl (by kernel_rfl) (by kernel_rfl) (by kernel_rfl) (fun _ _ _ h => h) HC0 (by rfl) ?ya16 ?ra16
  case ya16 => (intro W hW; obtain ⟨c0, c1, c2, c3, c4⟩ := hW; go_simp; try with_reducible rfl)
  refine RC.want (i := 8) (by kernel_rfl) rfl (by rfl) (fun K hK => ?_)
  go_simp
  refine (HX _).mono ?_
  rintro e w1 ⟨rfl, hc⟩
  simp only
  have HC1 := HC0.below hc (by omega)
  have hle1 : w.heap.size + 2 ≤ w1.heap.size := Nat.le_trans hle hc.size
  have hbe := hbd.trans (hc.mono (by omega))
  have d0 := (hc.cell (p := ⟨w.heap.size + 1, 0, none⟩) (by show w.heap.size + 1 < _; omega)).trans c0
  have d1 := (hc.cell (p := ⟨w.heap.size + 1, 1, none⟩) (by show w.heap.size + 1 < _; omega)).trans c1
  have g0 := (hc.frozen (p := ⟨w.heap.size + 1, 0, none⟩) (by show w.heap.size + 1 < _; omega)).trans f0
  have g1 := (hc.frozen (p := ⟨w.heap.size + 1, 1, none⟩) (by show w.heap.size + 1 < _; omega)).trans f1
  clear hc HC0 hle hbd c0 c1 f0 f1
  refine hK _ _ HC1 ?_
  clear hK K
  have HC0 := HC1
  have hle := hle1
  have hbd := hbe
  have c0 := d0
  have c1 := d1
  have f0 := g0
  have f1 := g1
  clear HC1 hle1 hbe d0 d1 g0 g1
  refine RC.want (i := 17) (by kernel_rfl) rfl (by rfl) (fun K hK => ?_)
  go_simp
  refine (HY _).mono ?_
  rintro e w2 ⟨rfl, hc⟩
  simp only
  have HC1 := HC0.below hc (by omega)
  have hle1 : w.heap.size + 2 ≤ w2.heap.size := Nat.le_trans hle hc.size
  have hbe := hbd.trans (hc.mono (by omega))
  have d0 := (hc.cell (p := ⟨w.heap.size + 1, 0, none⟩) (by show w.heap.size + 1 < _; omega)).trans c0
  have d1 := (hc.cell (p := ⟨w.heap.size + 1, 1, none⟩) (by show w.heap.size + 1 < _; omega)).trans c1
  have g0 := (hc.frozen (p := ⟨w.heap.size + 1, 0, none⟩) (by show w.heap.size + 1 < _; omega)).trans f0
  have g1 := (hc.frozen (p := ⟨w.heap.size + 1, 1, none⟩) (by show w.heap.size + 1 < _; omega)).trans f1
  clear hc HC0 hle hbd c0 c1 f0 f1
  refine hK _ _ HC1 ?_
  clear hK K
  have HC0 := HC1
  have hle := hle1
  have hbd := hbe
  have c0 := d0
  have c1 := d1
  have f0 := g0
  have f1 := g1
  clear HC1 hle1 hbe d0 d1 g0 g1
  refine RC.take (i := 18) (v := ?va18) rfl (by kernel_rfl) (by kernel_rfl) (by kernel_rfl) (fun _ _ _ h => h) HC0 (by rfl) ?ya18 ?ra18
  case ya18 => (intro W hW; obtain ⟨c0, c1, c2, c3, c4⟩ := hW; go_simp; try with_reducible rfl)
  refine RC.want (i := 19) (by kernel_rfl) rfl (by rfl) (fun K hK => ?_)
  go_simp
  have hb3 : Below (w.heap.size + 1) w2 ((w2.setCell ⟨w.heap.size + 1, 0, none⟩ (.int .i64 u)).setCell ⟨w.heap.size + 1, 1, none⟩ (.int .i64 v)) := ((Below.refl _ _).setCell (p := ⟨w.heap.size + 1, 0, none⟩) (Nat.le_refl _) _).setCell (p := ⟨w.heap.size + 1, 1, none⟩) (Nat.le_refl _) _
  refine hK _ _ (HC0.below hb3 (by omega)) ?_
  clear hK K
  refine RC.done (by kernel_rfl) ?_
  have y1 : w.heap.size + 1 < w2.heap.size := by omega
  go_wp2
  exact bodyPost_ret (v := .agg #[.int .i64 u, .int .i64 v]) (by simp [results, Try.results96, go_sem, c0, c1, y1]) rfl ⟨rfl, hbd.trans (hb3.mono (by omega))⟩

end Leg
end Go.Proofs.Ytohgkiljdehefaa
