/- DERIVED. spec.l17At: its walk. -/
import Derived.Test.YtohgkiljdehefaaSq2
import Derived.Test.YtohgkiljdehefaaPfS0
namespace Go.Proofs.Ytohgkiljdehefaa
namespace Pcl
open Go.RowKit Leg
set_option linter.unusedSimpArgs false
set_option linter.unusedVariables false

/-- The base's box, and the point that is wanted. -/
def AtC (B b1 o : Nat) (v0 v1 : Value) (n : ByteArray) (px py : Int) (W : World) : Prop :=
  W.cell? ⟨B, 0, none⟩ = some v0 ∧ W.cell? ⟨B, 1, none⟩ = some v1 ∧ W.cell? ⟨b1, o, none⟩ = some (.string n) ∧ W.cell? ⟨b1, o + 1, none⟩ = some (.int .i64 px) ∧ W.cell? ⟨b1, o + 2, none⟩ = some (.int .i64 py)
theorem AtC.below {B b1 o m : Nat} {v0 v1 : Value} {n : ByteArray} {px py : Int} {W W' : World} (h : AtC B b1 o v0 v1 n px py W) (hb : Below m W W') (h1 : B < m) (h2 : b1 < m) : AtC B b1 o v0 v1 n px py W' := by
  obtain ⟨a, b, c, d, e⟩ := h
  exact ⟨(hb.cell (p := ⟨B, _, none⟩) h1).trans a, (hb.cell (p := ⟨B, _, none⟩) h1).trans b, (hb.cell (p := ⟨b1, _, none⟩) h2).trans c, (hb.cell (p := ⟨b1, _, none⟩) h2).trans d, (hb.cell (p := ⟨b1, _, none⟩) h2).trans e⟩

set_option maxRecDepth 100000 in
set_option maxHeartbeats 8000000 in
theorem sAt (x : DPlanBase) (ao0 : Option Addr) (cap0 : Nat) (ao1 : Option Addr) (cap1 : Nat) (v : ByteArray) (w : World) (h : BaseAt w x ao0 cap0 ao1 cap1) (hh : HasNm nmP x.2 v) :
    Calls Try.prog 59 #[.agg #[.slice ao0 x.1.length cap0, .slice ao1 x.2.length cap1], .string v] w fun e w' => e = .returned (vCe (endAt x.2 v)) ∧ Below w.heap.size w w' := by
  obtain ⟨k, hk, hno, hke⟩ : ∃ j, ∃ h : j < x.2.length, NoNm nmP x.2 v j ∧ nmP (x.2[j]'h) = v := by
    rcases idxTo_cases nmP x.2 v x.2.length (Nat.le_refl _) with h1 | h1
    · exact absurd hh h1.all
    · exact h1
  have HP := fun W (hW : BaseAt W x ao0 cap0 ao1 cap1) => sPlanPoint x ao0 cap0 ao1 cap1 v W hW
  rw [idxOf_hit hno hk hke] at HP
  have hE : endAt x.2 v = ((x.2[k]'hk).2.1, (x.2[k]'hk).2.2) := by unfold endAt; rw [findD_hit hno hk hke]
  rw [hE]
  have hkI : (k : Int) < (x.2.length : Int) := by omega
  obtain ⟨b1, off, hao, hok, c0, c1, c2, q0, _⟩ := elem_PlanPoint h.p1 hk
  subst hao
  generalize x.2[k]'hk = p at *
  obtain ⟨n, px, py⟩ := p
  simp only [vCe] at *
  clear hno hke hE hh q0
  have hb0 : Below w.heap.size w ((w.alloc (.cells #[.slice ao0 x.1.length cap0, .slice (some ⟨b1, off, none⟩) x.2.length cap1] 31)).alloc (.cells #[.int .i64 0, .int .i64 0] 96)) := ((Below.refl _ _).alloc (Nat.le_refl _) _).alloc (by simp) _
  go_enter Try.func59, Try.ntmps59
  go_wp2_with fail
  obtain ⟨w0, hw0⟩ : ∃ w0 : World, w0 = ((w.alloc (.cells #[.slice ao0 x.1.length cap0, .slice (some ⟨b1, off, none⟩) x.2.length cap1] 31)).alloc (.cells #[.int .i64 0, .int .i64 0] 96)).drew := ⟨_, rfl⟩
  have hBD : Below w.heap.size w w0 := by rw [hw0]; exact hb0.drew
  have hz0 : w0.heap.size = w.heap.size + 2 := by rw [hw0]; simp
  have r0 : w0.cell? ⟨w.heap.size + 1, 0, none⟩ = some (.int .i64 0) := by rw [hw0]; go_simp
  have r1 : w0.cell? ⟨w.heap.size + 1, 1, none⟩ = some (.int .i64 0) := by rw [hw0]; go_simp
  have t0 : w0.frozen? ⟨w.heap.size + 1, 0, none⟩ = false := by rw [hw0]; go_simp
  have t1 : w0.frozen? ⟨w.heap.size + 1, 1, none⟩ = false := by rw [hw0]; go_simp
  have HC0 : AtC w.heap.size b1 (off + k * 3) (.slice ao0 x.1.length cap0) (.slice (some ⟨b1, off, none⟩) x.2.length cap1) n px py w0 := ⟨by rw [hw0]; go_simp, by rw [hw0]; go_simp, (hBD.cell (p := ⟨b1, _, none⟩) hok).trans c0, (hBD.cell (p := ⟨b1, _, none⟩) hok).trans c1, (hBD.cell (p := ⟨b1, _, none⟩) hok).trans c2⟩
  have hBA : Below w0.heap.size w0 (w0.alloc (.cells #[.string ⟨#[]⟩, .int .i64 0, .int .i64 0] 73)) := (Below.refl _ _).alloc (Nat.le_refl _) _
  have hok1 : b1 < w.heap.size := hok
  have HC1 := HC0.below hBA (by omega) (by omega)
  have HP0 := HP w0 (h.later hBD)
  have HPA := HP _ (h.later (hBD.trans (hBA.mono (by omega))))
  clear HP h c0 c1 c2 hok hb0
  refine wp_region_RC (AtC w.heap.size b1 (off + k * 3) (.slice ao0 x.1.length cap0) (.slice (some ⟨b1, off, none⟩) x.2.length cap1) n px py) mixedP ?_
  rw [← hw0]
  clear hw0
  refine RC.take (i := 0) (v := .pointer (some ⟨w.heap.size, 1, none⟩)) rfl (by kernel_rfl) (by kernel_rfl) (by kernel_rfl) (fun _ _ _ h => h) HC0 (by kernel_rfl) ?ya0 ?ra0
  case ya0 => (intro W hW; obtain ⟨q0, q1, q2, q3, q4⟩ := hW; clear HC0 HC1; go_simp)
  refine RC.take (i := 1) (v := .slice (some ⟨b1, off, none⟩) x.2.length cap1) rfl (by kernel_rfl) (by kernel_rfl) (by kernel_rfl) (fun _ _ _ h => h) HC0 (by kernel_rfl) ?ya1 ?ra1
  case ya1 => (intro W hW; obtain ⟨q0, q1, q2, q3, q4⟩ := hW; clear HC0 HC1; go_simp)
  refine RC.take (i := 2) (v := .agg #[.slice ao0 x.1.length cap0, .slice (some ⟨b1, off, none⟩) x.2.length cap1]) rfl (by kernel_rfl) (by kernel_rfl) (by kernel_rfl) (fun _ _ _ h => h) HC0 (by kernel_rfl) ?ya2 ?ra2
  case ya2 => (intro W hW; obtain ⟨q0, q1, q2, q3, q4⟩ := hW; clear HC0 HC1; go_simp)
  refine RC.take (i := 3) (v := .string v) rfl (by kernel_rfl) (by kernel_rfl) (by kernel_rfl) (fun _ _ _ h => h) HC0 (by kernel_rfl) ?ya3 ?ra3
  case ya3 => (intro W hW; obtain ⟨q0, q1, q2, q3, q4⟩ := hW; clear HC0 HC1; go_simp)
  refine RC.two (i := 4) (k := 7) (by kernel_rfl) rfl rfl (fun K hK => ?_) (fun K hK => ?_)
  · rw [if_pos (by kernel_rfl)]
    go_simp
    refine HP0.mono ?_
    rintro e w1 ⟨rfl, hb1⟩
    simp only
    have HCw := HC0.below hb1 (by omega) (by omega)
    refine hK _ _ HCw ?_
    clear hK K HP0 HPA HC1 HC0
    have HC0 := HCw
    have HC1 := HCw
    clear HCw
    refine RC.take (i := 5) (v := .pointer (some ⟨b1, off + k * 3, none⟩)) rfl (by kernel_rfl) (by kernel_rfl) (by kernel_rfl) (fun _ _ _ h => h) HC0 (by kernel_rfl) ?yb5 ?rb5
    case yb5 => (intro W hW; obtain ⟨q0, q1, q2, q3, q4⟩ := hW; clear HC0 HC1; go_simp)
    refine RC.take (i := 6) (v := .agg #[.string n, .int .i64 px, .int .i64 py]) rfl (by kernel_rfl) (by kernel_rfl) (by kernel_rfl) (fun _ _ _ h => h) HC0 (by kernel_rfl) ?yb6 ?rb6
    case yb6 => (intro W hW; obtain ⟨q0, q1, q2, q3, q4⟩ := hW; clear HC0 HC1; go_simp)
    refine RC.want (i := 7) (by kernel_rfl) rfl (by kernel_rfl) (fun K hK => ?_)
    go_simp
    have hz1 := hb1.size
    have HCv := HC0.below ((Below.refl w1.heap.size w1).alloc (Nat.le_refl _) (.cells #[.string ByteArray.empty, .int .i64 0, .int .i64 0] 73)) (by omega) (by omega)
    refine hK _ _ HCv ?_
    clear hK K HCv
    have R0 := (hb1.cell (p := ⟨w.heap.size + 1, 0, none⟩) (by show w.heap.size + 1 < _; omega)).trans r0
    have R1 := (hb1.cell (p := ⟨w.heap.size + 1, 1, none⟩) (by show w.heap.size + 1 < _; omega)).trans r1
    have T0 := (hb1.frozen (p := ⟨w.heap.size + 1, 0, none⟩) (by show w.heap.size + 1 < _; omega)).trans t0
    have T1 := (hb1.frozen (p := ⟨w.heap.size + 1, 1, none⟩) (by show w.heap.size + 1 < _; omega)).trans t1
    have hlt : w.heap.size + 1 < w1.heap.size := by omega
    have hne : w.heap.size + 1 ≠ w1.heap.size := by omega
    have hBW : Below w.heap.size w w1 := hBD.trans (hb1.mono (by omega))
    clear hb1 r0 r1 t0 t1 hBD hBA
    refine RC.want (i := 8) (by kernel_rfl) rfl (by kernel_rfl) (fun K hK => ?_)
    go_simp
    have HCz := HC0.below ((Below.refl w1.heap.size w1).alloc (Nat.le_refl _) (.cells #[.string n, .int .i64 px, .int .i64 py] 73)) (by omega) (by omega)
    refine hK _ _ HCz ?_
    clear hK K
    refine RC.done (by kernel_rfl) ?_
    clear HC0 HC1 HCz
    go_wp2
    refine bodyPost_ret (v := .agg #[.int .i64 px, .int .i64 py]) (by simp [results, Try.results59, go_sem, R0, R1, T0, T1, hlt]) rfl ⟨rfl, ?_⟩
    repeat (first | exact hBW | refine Below.setCell ?_ (by first | (simp; done) | omega | (simp; omega)) _ | refine Below.alloc ?_ (by first | (simp; done) | omega | (simp; omega)) _)
  · rw [if_pos (by kernel_rfl)]
    go_simp
    refine hK _ _ HC1 ?_
    clear hK K HP0 HC0
    obtain ⟨wa, hwa⟩ : ∃ wa : World, wa = w0.alloc (.cells #[.string ⟨#[]⟩, .int .i64 0, .int .i64 0] 73) := ⟨_, rfl⟩
    have y0 : wa.cell? ⟨w.heap.size + 2, 0, none⟩ = some (.string ⟨#[]⟩) := by rw [hwa, ← hz0]; go_simp
    have y1 : wa.cell? ⟨w.heap.size + 2, 1, none⟩ = some (.int .i64 0) := by rw [hwa, ← hz0]; go_simp
    have y2 : wa.cell? ⟨w.heap.size + 2, 2, none⟩ = some (.int .i64 0) := by rw [hwa, ← hz0]; go_simp
    have x0 : ∀ o, wa.frozen? ⟨w.heap.size + 2, o, none⟩ = false := fun o => by rw [hwa, ← hz0]; go_simp
    have hza : wa.heap.size = w0.heap.size + 1 := by rw [hwa]; simp
    have hBa : Below w.heap.size w wa := by rw [hwa]; exact hBD.alloc (by omega) _
    have R0 : wa.cell? ⟨w.heap.size + 1, 0, none⟩ = some (.int .i64 0) := (by rw [hwa]; exact (hBA.cell (p := ⟨w.heap.size + 1, 0, none⟩) (by show w.heap.size + 1 < _; omega)).trans r0)
    have R1 : wa.cell? ⟨w.heap.size + 1, 1, none⟩ = some (.int .i64 0) := (by rw [hwa]; exact (hBA.cell (p := ⟨w.heap.size + 1, 1, none⟩) (by show w.heap.size + 1 < _; omega)).trans r1)
    have T0 : wa.frozen? ⟨w.heap.size + 1, 0, none⟩ = false := (by rw [hwa]; exact (hBA.frozen (p := ⟨w.heap.size + 1, 0, none⟩) (by show w.heap.size + 1 < _; omega)).trans t0)
    have T1 : wa.frozen? ⟨w.heap.size + 1, 1, none⟩ = false := (by rw [hwa]; exact (hBA.frozen (p := ⟨w.heap.size + 1, 1, none⟩) (by show w.heap.size + 1 < _; omega)).trans t1)
    rw [← hwa] at HC1 HPA ⊢
    have hza2 : w.heap.size + 3 ≤ wa.heap.size := by omega
    clear hwa hBA r0 r1 t0 t1 hBD hza hz0
    refine RC.want (i := 4) (by kernel_rfl) rfl (by kernel_rfl) (fun K hK => ?_)
    go_simp
    refine HPA.mono ?_
    rintro e w1 ⟨rfl, hb1⟩
    simp only
    have HC0 := HC1.below hb1 (by omega) (by omega)
    refine hK _ _ HC0 ?_
    clear hK K HPA
    refine RC.take (i := 5) (v := .pointer (some ⟨b1, off + k * 3, none⟩)) rfl (by kernel_rfl) (by kernel_rfl) (by kernel_rfl) (fun _ _ _ h => h) HC0 (by kernel_rfl) ?yc5 ?rc5
    case yc5 => (intro W hW; obtain ⟨q0, q1, q2, q3, q4⟩ := hW; clear HC0 HC1; go_simp)
    refine RC.take (i := 6) (v := .agg #[.string n, .int .i64 px, .int .i64 py]) rfl (by kernel_rfl) (by kernel_rfl) (by kernel_rfl) (fun _ _ _ h => h) HC0 (by kernel_rfl) ?yc6 ?rc6
    case yc6 => (intro W hW; obtain ⟨q0, q1, q2, q3, q4⟩ := hW; clear HC0 HC1; go_simp)
    have hz1 := hb1.size
    have R0 := (hb1.cell (p := ⟨w.heap.size + 1, 0, none⟩) (by show w.heap.size + 1 < _; omega)).trans R0
    have R1 := (hb1.cell (p := ⟨w.heap.size + 1, 1, none⟩) (by show w.heap.size + 1 < _; omega)).trans R1
    have T0 := (hb1.frozen (p := ⟨w.heap.size + 1, 0, none⟩) (by show w.heap.size + 1 < _; omega)).trans T0
    have T1 := (hb1.frozen (p := ⟨w.heap.size + 1, 1, none⟩) (by show w.heap.size + 1 < _; omega)).trans T1
    have Y0 := (hb1.cell (p := ⟨w.heap.size + 2, 0, none⟩) (by show w.heap.size + 2 < _; omega)).trans y0
    have Y1 := (hb1.cell (p := ⟨w.heap.size + 2, 1, none⟩) (by show w.heap.size + 2 < _; omega)).trans y1
    have Y2 := (hb1.cell (p := ⟨w.heap.size + 2, 2, none⟩) (by show w.heap.size + 2 < _; omega)).trans y2
    have X0 := (hb1.frozen (p := ⟨w.heap.size + 2, 0, none⟩) (by show w.heap.size + 2 < _; omega)).trans (x0 0)
    have X1 := (hb1.frozen (p := ⟨w.heap.size + 2, 1, none⟩) (by show w.heap.size + 2 < _; omega)).trans (x0 1)
    have X2 := (hb1.frozen (p := ⟨w.heap.size + 2, 2, none⟩) (by show w.heap.size + 2 < _; omega)).trans (x0 2)
    have hlt : w.heap.size + 1 < w1.heap.size := by omega
    have hlt2 : w.heap.size + 2 < w1.heap.size := by omega
    have hne : w.heap.size + 1 ≠ w.heap.size + 2 := by omega
    have hBW : Below w.heap.size w w1 := hBa.trans (hb1.mono (by omega))
    have HCz : AtC w.heap.size b1 (off + k * 3) (.slice ao0 x.1.length cap0) (.slice (some ⟨b1, off, none⟩) x.2.length cap1) n px py (((w1.setCell ⟨w.heap.size + 2, 0, none⟩ (.string n)).setCell ⟨w.heap.size + 2, 1, none⟩ (.int .i64 px)).setCell ⟨w.heap.size + 2, 2, none⟩ (.int .i64 py)) := HC0.below (m := w.heap.size + 2) ((((Below.refl (w.heap.size + 2) w1).setCell (p := ⟨w.heap.size + 2, 0, none⟩) (Nat.le_refl _) _).setCell (p := ⟨w.heap.size + 2, 1, none⟩) (Nat.le_refl _) _).setCell (p := ⟨w.heap.size + 2, 2, none⟩) (Nat.le_refl _) _) (by omega) (by omega)
    clear hb1 hBa x0 y0 y1 y2
    refine RC.want (i := 8) (by kernel_rfl) rfl (by kernel_rfl) (fun K hK => ?_)
    go_simp
    refine hK _ _ HCz ?_
    clear hK K
    refine RC.done (by kernel_rfl) ?_
    clear HC0 HC1 HCz
    go_wp2
    refine bodyPost_ret (v := .agg #[.int .i64 px, .int .i64 py]) (by simp [results, Try.results59, go_sem, R0, R1, T0, T1, hlt]) rfl ⟨rfl, ?_⟩
    repeat (first | exact hBW | refine Below.setCell ?_ (by first | (simp; done) | omega | (simp; omega)) _ | refine Below.alloc ?_ (by first | (simp; done) | omega | (simp; omega)) _)

end Pcl
end Go.Proofs.Ytohgkiljdehefaa
