/- DERIVED. (impl.FlyPath).walk, forward and back. -/
import Derived.Test.YtpjacfnjjkoikaaKWkI0
import Derived.Test.YtpjacfnjjkoikaaKRD0
import Derived.Test.YtpjacfnjjkoikaaKTsS2
namespace Go.Proofs.Ytpjacfnjjkoikaa
namespace Fly
open Go.RowKit
set_option linter.unusedSimpArgs false
set_option linter.unusedVariables false

set_option maxRecDepth 100000 in
set_option maxHeartbeats 16000000 in
theorem iWalkF (x : DFlyPath) (ao : Option Addr) (cap : Nat) (w0 w : World) (g c go gc : Nat) (h : PathAt w0 x ao cap) (hp : PathOk x) (hb0 : Below w0.heap.size w0 w) (hgo : w0.heap.size ≤ go) (hne : go ≠ g) (hgol : go < w.heap.size) (hgc : x.2.1.length + 1 ≤ gc) (hgm : gc ≤ 9223372036854775807)
    (hown : w.ownsRow w0.heap.size 65 2 (.slice (some ⟨g, 0, none⟩) (x.2.1.length + 1) c) (x.2.1.length + 1) (valsFlySpan (spL (fwS x 0) x.2.1.length)))
    (hord : ∀ j, j ≤ x.2.1.length → w.cell? ⟨go, j, none⟩ = some (.int .i64 ((fwO x.2.1.length j : Nat) : Int))) :
    Calls Try.prog 43 #[.agg #[.int .i64 x.1.1, .int .i64 x.1.2, .slice ao x.2.1.length cap, .int .i64 x.2.2.1, .int .i64 x.2.2.2], (.slice (some ⟨g, 0, none⟩) (x.2.1.length + 1) c), (.slice (some ⟨go, 0, none⟩) (x.2.1.length + 1) gc), .func (.func 45) #[] #[]] w fun e w' => e = .returned (.tuple #[]) ∧
      w'.ownsRow w0.heap.size 65 2 (.slice (some ⟨g, 0, none⟩) (x.2.1.length + 1) c) (x.2.1.length + 1) (valsFlySpan (spL (fwS x x.2.1.length) x.2.1.length)) ∧ Bel2 w0.heap.size g w w' := by
  have hn := hp.2.1.2
  have hn1 := hp.2.1.1
  have hcl := h.1
  have hcm : cap ≤ 9223372036854775807 := h.2.1
  have HP : Hid (PathOk x) := hp
  have hkr := kind_range hp
  clear hp
  obtain ⟨w1, hw1⟩ : ∃ w1 : World, w1 = w.alloc (.cells #[.int .i64 x.1.1, .int .i64 x.1.2, .slice ao x.2.1.length cap, .int .i64 x.2.2.1, .int .i64 x.2.2.2] 34) := ⟨_, rfl⟩
  have hgw : g < w.heap.size := (hown.lt g rfl).2
  have hgB : w0.heap.size ≤ g := (hown.lt g rfl).1
  have hcc : x.2.1.length + 1 ≤ c ∧ c ≤ 9223372036854775807 := by
    rcases hown.2 with ⟨h1, _⟩ | ⟨_, c3, _, h1, _, _, h2, h3, _⟩
    · simp at h1
    · have := h3; unfold maxLen at this; cases h1; omega
  have hB1 : Bel2 w0.heap.size g w w1 := by rw [hw1]; exact ⟨(Below.refl _ _).alloc hb0.size _, fun b hb _ => Below.heap_alloc _ _ _ hb⟩
  have hX1 : BxC w.heap.size #[.int .i64 x.1.1, .int .i64 x.1.2, .slice ao x.2.1.length cap, .int .i64 x.2.2.1, .int .i64 x.2.2.2] w1 := by rw [hw1]; exact BxC.new _ _ _
  have hO1 : w1.ownsRow w0.heap.size 65 2 (.slice (some ⟨g, 0, none⟩) (x.2.1.length + 1) c) (x.2.1.length + 1) (valsFlySpan (spL (fwS x 0) x.2.1.length)) := by rw [hw1]; exact hown.alloc _
  have hz1 : w.heap.size < w1.heap.size := by rw [hw1]; simp
  go_enter Try.func43, Try.ntmps43
  go_wp2
  rw [← hw1]
  clear hw1 hown
  go_loopw [15] (fun i wr => ∃ k : Nat, k ≤ x.2.1.length ∧ i = .int .i64 k ∧ wr.ownsRow w0.heap.size 65 2 (.slice (some ⟨g, 0, none⟩) (x.2.1.length + 1) c) (x.2.1.length + 1) (valsFlySpan (spL (fwS x k) x.2.1.length)) ∧ Bel2 w0.heap.size g w wr ∧ BxC w.heap.size #[.int .i64 x.1.1, .int .i64 x.1.2, .slice ao x.2.1.length cap, .int .i64 x.2.2.1, .int .i64 x.2.2.2] wr ∧ w.heap.size < wr.heap.size) (fun i _ => x.2.1.length - (intOf i).toNat)
  case atStart => exact ⟨0, Nat.zero_le _, rfl, hO1, hB1, hX1, hz1⟩
  case round =>
    clear hO1 hB1 hX1 hz1
    obtain ⟨k, hk, rfl, hO, hB, HX, hzw⟩ := hrel
    by_cases hkn : k < x.2.1.length
    · have hkI : (k : Int) < (x.2.1.length : Int) := by omega
      obtain ⟨p, hpd⟩ : ∃ p, p = k := ⟨_, rfl⟩
      have hpn : p < x.2.1.length := by omega
      have hO1 := hord (k + 1) (by omega)
      have hO0 := hord k (by omega)
      have hPL : fwO x.2.1.length (k + 1) = p + 1 := by unfold fwO; omega
      have hBY : fwO x.2.1.length k = p := by unfold fwO; omega
      rw [hPL] at hO1
      rw [hBY] at hO0
      have r1 := (hB.oth go hgol hne)
      have o1 : wr.cell? ⟨go, 1 + k, none⟩ = some (.int .i64 ((p : Int) + 1)) := by
        rw [show 1 + k = k + 1 by omega, World.cell?_of_block (w := w) (a := ⟨go, k + 1, none⟩) r1, hO1]
        try simp
      have o0 : wr.cell? ⟨go, k, none⟩ = some (.int .i64 ((p : Int))) := by
        rw [World.cell?_of_block (w := w) (a := ⟨go, k, none⟩) r1, hO0]
        try simp
      have HV : Hid _ := spL_set (fwS x k) (fwS x (k + 1)) x.2.1.length (p + 1) (by omega) (fun i hi => by
        have h1 := fwS_next x k i hkn hi
        have h2 := fwS_next x k (p + 1) hkn (by omega)
        rw [hPL] at h1 h2
        rw [if_pos rfl] at h2
        rw [h2]
        exact h1)
      have hTV : fwS x (k + 1) (p + 1) = fwT (fwS x k (p + 1)) (fwS x k (p)) x.1.1 (mostAt x p) := by
        have h2 := fwS_next x k (p + 1) hkn (by omega)
        rw [hPL, if_pos rfl, hBY] at h2
        rw [h2]
        congr 2
        omega
      have hcA : (valsFlySpan (spL (fwS x k) x.2.1.length))[p * 2]? = _ := valsFlySpan_at0 _ p (by rw [spL_len]; omega)
      have hcB : (valsFlySpan (spL (fwS x k) x.2.1.length))[p * 2 + 1]? = _ := valsFlySpan_at1 _ p (by rw [spL_len]; omega)
      have hcC : (valsFlySpan (spL (fwS x k) x.2.1.length))[(p + 1) * 2]? = _ := valsFlySpan_at0 _ (p + 1) (by rw [spL_len]; omega)
      have hcD : (valsFlySpan (spL (fwS x k) x.2.1.length))[(p + 1) * 2 + 1]? = _ := valsFlySpan_at1 _ (p + 1) (by rw [spL_len]; omega)
      simp only [spL_get] at hcA hcB hcC hcD
      have g0 := (hO.cellAt (p * 2) (by omega)).trans hcA
      have g1 := (hO.cellAt (p * 2 + 1) (by omega)).trans hcB
      have g2 := (hO.cellAt ((p + 1) * 2) (by omega)).trans hcC
      have g3 := (hO.cellAt ((p + 1) * 2 + 1) (by omega)).trans hcD
      have hsm := fwS_small HP.out k (p) (by omega)
      have hmr := most_range HP.out p
      rw [hTV] at HV
      clear hcA hcB hcC hcD hO1 hO0 hPL hBY hTV r1
      obtain ⟨V1, hV1e⟩ : ∃ V1, valsFlySpan (spL (fwS x (k + 1)) x.2.1.length) = V1 := ⟨_, rfl⟩
      rw [hV1e] at HV
      have hV1 := hid hV1e
      clear hV1e
      generalize valsFlySpan (spL (fwS x k) x.2.1.length) = V0 at *
      generalize fwS x k (p + 1) = A at *
      generalize fwS x k (p) = Bq at *
      have HTT := iBehind A Bq x.1.1 (mostAt x p) hsm (by omega) (by omega)
      have HST := fun W => iStay (x.2.1[p]'hpn) x.1 W
      rw [← mostAt_in hpn] at HST
      generalize mostAt x p = m at *
      generalize fwT A Bq x.1.1 m = Rr at *
      obtain ⟨a0, a1⟩ := A
      obtain ⟨b0, b1⟩ := Bq
      obtain ⟨r0, r1⟩ := Rr
      simp only at g0 g1 g2 g3 HV HTT
      obtain ⟨b, off, rfl, hok, c0, c1, c2, c3, c4, c5, c6, _⟩ := elem_FlyStep h hpn
      have hbw := fun o => (hB.bel.cell (p := ⟨b, o, none⟩) hok).trans (hb0.cell (p := ⟨b, o, none⟩) hok)
      have d0 := (hbw _).trans c0
      have d1 := (hbw _).trans c1
      have d2 := (hbw _).trans c2
      have d3 := (hbw _).trans c3
      have d4 := (hbw _).trans c4
      have d5 := (hbw _).trans c5
      have d6 := (hbw _).trans c6
      clear c0 c1 c2 c3 c4 c5 c6 hbw
      generalize x.2.1[p]'hpn = ST at *
      obtain ⟨s0, s1, s2, s3, s4, s5, s6⟩ := ST
      simp only [vSt, cSt, vKi] at d0 d1 d2 d3 d4 d5 d6 HST
      have y0 := HX 0
      have y1 := HX 1
      have y2 := HX 2
      simp at y0 y1 y2
      have hpI : (p : Int) < (x.2.1.length : Int) := by omega
      have hpI1 : (p : Int) < (x.2.1.length : Int) + 1 := by omega
      have hpI2 : (p : Int) + 1 < (x.2.1.length : Int) + 1 := by omega
      have hkI1 : (k : Int) < (x.2.1.length : Int) + 1 := by omega
      have hpp : (p : Int) < (p : Int) + 1 := by omega
      have hp1N : ((p : Int) + 1).toNat = p + 1 := by omega
      have hp1p : ¬ (p : Int) + 1 < 0 := by omega
      have hO_ := hid hO
      have hB_ := hid hB
      have HX_ := hid HX
      have HST_ := hid HST
      have HTT_ := hid HTT
      have hsm_ := hid hsm
      clear hO hB HX HST HTT hsm hpd
      go_wp2_with fail
      obtain ⟨wa, hwa⟩ : ∃ wa : World, wa = wr.alloc (.cells #[.int .i64 s0, .int .i64 s1, .int .i64 s2, .int .i64 s3, .int .i64 s4, .int .i64 s5, .bool s6] 76) := ⟨_, rfl⟩
      rw [← hwa]
      have hba : Below wr.heap.size wr wa := by rw [hwa]; exact (Below.refl _ _).alloc (Nat.le_refl _) _
      have hSB : BxC wr.heap.size #[.int .i64 s0, .int .i64 s1, .int .i64 s2, .int .i64 s3, .int .i64 s4, .int .i64 s5, .bool s6] wa := by rw [hwa]; exact BxC.new _ _ _
      have hza : wr.heap.size < wa.heap.size := by rw [hwa]; simp
      have hgr : g < wr.heap.size := by omega
      have e0 := hSB 0
      have e1 := hSB 1
      have e2 := hSB 2
      have e3 := hSB 3
      have e4 := hSB 4
      have e5 := hSB 5
      have e6 := hSB 6
      simp at e0 e1 e2 e3 e4 e5 e6
      have hO := (owns_below hO_.out hba).drew
      have hB : Bel2 w0.heap.size g w wa.drew := hB_.out.then hba.drew hb0.size
      have HX : BxC w.heap.size #[.int .i64 x.1.1, .int .i64 x.1.2, .slice (some ⟨b, off, none⟩) x.2.1.length cap, .int .i64 x.2.2.1, .int .i64 x.2.2.2] wa.drew := HX_.out.below hba.drew hzw
      have HC : CL [(⟨g, p * 2, none⟩, .int .i64 b0), (⟨g, p * 2 + 1, none⟩, .int .i64 b1), (⟨g, (p + 1) * 2, none⟩, .int .i64 a0), (⟨g, (p + 1) * 2 + 1, none⟩, .int .i64 a1), (⟨wr.heap.size, 0, none⟩, .int .i64 s0), (⟨wr.heap.size, 1, none⟩, .int .i64 s1), (⟨wr.heap.size, 2, none⟩, .int .i64 s2), (⟨wr.heap.size, 3, none⟩, .int .i64 s3), (⟨wr.heap.size, 4, none⟩, .int .i64 s4), (⟨wr.heap.size, 5, none⟩, .int .i64 s5), (⟨wr.heap.size, 6, none⟩, .bool s6), (⟨w.heap.size, 0, none⟩, .int .i64 (x.1.1)), (⟨w.heap.size, 1, none⟩, .int .i64 (x.1.2))] wa.drew := ⟨(hba.cell (p := ⟨g, p * 2, none⟩) hgr).trans g0, (hba.cell (p := ⟨g, p * 2 + 1, none⟩) hgr).trans g1, (hba.cell (p := ⟨g, (p + 1) * 2, none⟩) hgr).trans g2, (hba.cell (p := ⟨g, (p + 1) * 2 + 1, none⟩) hgr).trans g3, e0, e1, e2, e3, e4, e5, e6, (hba.cell (p := ⟨w.heap.size, 0, none⟩) hzw).trans y0, (hba.cell (p := ⟨w.heap.size, 1, none⟩) hzw).trans y1, trivial⟩
      have hlt : CLlt wa.drew.heap.size [(⟨g, p * 2, none⟩, .int .i64 b0), (⟨g, p * 2 + 1, none⟩, .int .i64 b1), (⟨g, (p + 1) * 2, none⟩, .int .i64 a0), (⟨g, (p + 1) * 2 + 1, none⟩, .int .i64 a1), (⟨wr.heap.size, 0, none⟩, .int .i64 s0), (⟨wr.heap.size, 1, none⟩, .int .i64 s1), (⟨wr.heap.size, 2, none⟩, .int .i64 s2), (⟨wr.heap.size, 3, none⟩, .int .i64 s3), (⟨wr.heap.size, 4, none⟩, .int .i64 s4), (⟨wr.heap.size, 5, none⟩, .int .i64 s5), (⟨wr.heap.size, 6, none⟩, .bool s6), (⟨w.heap.size, 0, none⟩, .int .i64 (x.1.1)), (⟨w.heap.size, 1, none⟩, .int .i64 (x.1.2))] := by
        have h1 : g < wa.drew.heap.size := Nat.lt_trans hgr hza
        have h2 : w.heap.size < wa.drew.heap.size := Nat.lt_trans hzw hza
        have h3 : wr.heap.size < wa.drew.heap.size := hza
        exact ⟨h1, h1, h1, h1, h3, h3, h3, h3, h3, h3, h3, h2, h2, trivial⟩
      have hzd : w.heap.size < wa.drew.heap.size := Nat.lt_trans hzw hza
      have HST := HST_.out
      have HTT := HTT_.out
      clear hzw
      have hzw := hzd
      refine wp_region_RD (CL [(⟨g, p * 2, none⟩, .int .i64 b0), (⟨g, p * 2 + 1, none⟩, .int .i64 b1), (⟨g, (p + 1) * 2, none⟩, .int .i64 a0), (⟨g, (p + 1) * 2 + 1, none⟩, .int .i64 a1), (⟨wr.heap.size, 0, none⟩, .int .i64 s0), (⟨wr.heap.size, 1, none⟩, .int .i64 s1), (⟨wr.heap.size, 2, none⟩, .int .i64 s2), (⟨wr.heap.size, 3, none⟩, .int .i64 s3), (⟨wr.heap.size, 4, none⟩, .int .i64 s4), (⟨wr.heap.size, 5, none⟩, .int .i64 s5), (⟨wr.heap.size, 6, none⟩, .bool s6), (⟨w.heap.size, 0, none⟩, .int .i64 (x.1.1)), (⟨w.heap.size, 1, none⟩, .int .i64 (x.1.2))]) [17] mixedT ?_
      generalize wr.heap.size = sb at *
      generalize wa.drew = wd at *
      clear hwa hba hSB hza hgr e0 e1 e2 e3 e4 e5 e6 hO_ hB_ HX_ HST_ HTT_ g0 g1 g2 g3 y0 y1 y2 d0 d1 d2 d3 d4 d5 d6 o0 o1 hzd
      refine RD.pure (i := 0) (v := .slice (some ⟨g, 0, none⟩) (x.2.1.length + 1) c) rfl (by kernel_rfl) (by kernel_rfl) (by kernel_rfl) (by decide) (fun _ _ _ h => h) (fun _ => HC) (by kernel_rfl) ?y1 ?r1
      case y1 => (intro W; clear HC hO hB HX hlt HV HST HTT hord h; go_simp)
      refine RD.pure (i := 1) (v := .int .i64 ((p : Int) + 1)) rfl (by kernel_rfl) (by kernel_rfl) (by kernel_rfl) (by decide) (fun _ _ _ h => h) (fun _ => HC) (by kernel_rfl) ?y2 ?r2
      case y2 => (intro W; clear HC hO hB HX hlt HV HST HTT hord h; go_simp)
      refine RD.pure (i := 2) (v := .func (.func 45) #[] #[]) rfl (by kernel_rfl) (by kernel_rfl) (by kernel_rfl) (by decide) (fun _ _ _ h => h) (fun _ => HC) (by kernel_rfl) ?y3 ?r3
      case y3 => (intro W; clear HC hO hB HX hlt HV HST HTT hord h; go_simp)
      refine RD.pure (i := 3) (v := .slice (some ⟨g, 0, none⟩) (x.2.1.length + 1) c) rfl (by kernel_rfl) (by kernel_rfl) (by kernel_rfl) (by decide) (fun _ _ _ h => h) (fun _ => HC) (by kernel_rfl) ?y4 ?r4
      case y4 => (intro W; clear HC hO hB HX hlt HV HST HTT hord h; go_simp)
      refine RD.pure (i := 4) (v := .int .i64 ((p : Int) + 1)) rfl (by kernel_rfl) (by kernel_rfl) (by kernel_rfl) (by decide) (fun _ _ _ h => h) (fun _ => HC) (by kernel_rfl) ?y5 ?r5
      case y5 => (intro W; clear HC hO hB HX hlt HV HST HTT hord h; go_simp)
      refine RD.pure (i := 5) (v := .pointer (some ⟨g, (p + 1) * 2, none⟩)) rfl (by kernel_rfl) (by kernel_rfl) (by kernel_rfl) (by decide) (fun _ _ _ h => h) (fun _ => HC) (by kernel_rfl) ?y6 ?r6
      case y6 => (intro W; clear HC hO hB HX hlt HV HST HTT hord h; go_simp)
      refine RD.take (i := 6) (v := .agg #[.int .i64 a0, .int .i64 a1]) rfl (by kernel_rfl) (by kernel_rfl) (by kernel_rfl) (by kernel_rfl) (fun _ _ _ h => h) HC (by kernel_rfl) ?y7 ?r7
      case y7 => (intro W hW; obtain ⟨u0, u1, u2, u3, u4, u5, u6, u7, u8, u9, u10, u11, u12, _⟩ := hW; clear HC hO hB HX hlt HV HST HTT hord h; go_simp)
      refine RD.pure (i := 7) (v := .slice (some ⟨g, 0, none⟩) (x.2.1.length + 1) c) rfl (by kernel_rfl) (by kernel_rfl) (by kernel_rfl) (by decide) (fun _ _ _ h => h) (fun _ => HC) (by kernel_rfl) ?y8 ?r8
      case y8 => (intro W; clear HC hO hB HX hlt HV HST HTT hord h; go_simp)
      refine RD.pure (i := 8) (v := .int .i64 (p : Int)) rfl (by kernel_rfl) (by kernel_rfl) (by kernel_rfl) (by decide) (fun _ _ _ h => h) (fun _ => HC) (by kernel_rfl) ?y9 ?r9
      case y9 => (intro W; clear HC hO hB HX hlt HV HST HTT hord h; go_simp)
      refine RD.pure (i := 9) (v := .pointer (some ⟨g, p * 2, none⟩)) rfl (by kernel_rfl) (by kernel_rfl) (by kernel_rfl) (by decide) (fun _ _ _ h => h) (fun _ => HC) (by kernel_rfl) ?y10 ?r10
      case y10 => (intro W; clear HC hO hB HX hlt HV HST HTT hord h; go_simp)
      refine RD.take (i := 10) (v := .agg #[.int .i64 b0, .int .i64 b1]) rfl (by kernel_rfl) (by kernel_rfl) (by kernel_rfl) (by kernel_rfl) (fun _ _ _ h => h) HC (by kernel_rfl) ?y11 ?r11
      case y11 => (intro W hW; obtain ⟨u0, u1, u2, u3, u4, u5, u6, u7, u8, u9, u10, u11, u12, _⟩ := hW; clear HC hO hB HX hlt HV HST HTT hord h; go_simp)
      refine RD.take (i := 11) (v := .agg #[.int .i64 s0, .int .i64 s1, .int .i64 s2, .int .i64 s3, .int .i64 s4, .int .i64 s5, .bool s6]) rfl (by kernel_rfl) (by kernel_rfl) (by kernel_rfl) (by kernel_rfl) (fun _ _ _ h => h) HC (by kernel_rfl) ?y12 ?r12
      case y12 => (intro W hW; obtain ⟨u0, u1, u2, u3, u4, u5, u6, u7, u8, u9, u10, u11, u12, _⟩ := hW; clear HC hO hB HX hlt HV HST HTT hord h; go_simp)
      refine RD.pure (i := 12) (v := .pointer (some ⟨w.heap.size, 0, none⟩)) rfl (by kernel_rfl) (by kernel_rfl) (by kernel_rfl) (by decide) (fun _ _ _ h => h) (fun _ => HC) (by kernel_rfl) ?y13 ?r13
      case y13 => (intro W; clear HC hO hB HX hlt HV HST HTT hord h; go_simp)
      refine RD.take (i := 13) (v := .agg #[.int .i64 (x.1.1), .int .i64 (x.1.2)]) rfl (by kernel_rfl) (by kernel_rfl) (by kernel_rfl) (by kernel_rfl) (fun _ _ _ h => h) HC (by kernel_rfl) ?y14 ?r14
      case y14 => (intro W hW; obtain ⟨u0, u1, u2, u3, u4, u5, u6, u7, u8, u9, u10, u11, u12, _⟩ := hW; clear HC hO hB HX hlt HV HST HTT hord h; go_simp)
      refine RD.want (i := 14) (by kernel_rfl) rfl (by kernel_rfl) (fun K hK => ?_)
      go_simp
      refine (HST _).mono ?_
      rintro e w1 ⟨rfl, hq⟩
      simp only
      have HC1 := HC.later hq hlt
      have hlt1 := hlt.mono hq.size
      have hO1 := owns_below hO hq
      have hB1 := hB.then hq hb0.size
      have HX1 := HX.below hq hzw
      have hzw1 := Nat.lt_of_lt_of_le hzw hq.size
      refine hK _ _ (fun _ => HC1) ?_
      clear hK K hq HC hlt hO hB HX hzw
      have HC := HC1
      clear HC1
      have hlt := hlt1
      clear hlt1
      have hO := hO1
      clear hO1
      have hB := hB1
      clear hB1
      have HX := HX1
      clear HX1
      have hzw := hzw1
      clear hzw1
      refine RD.want (i := 15) (by kernel_rfl) rfl (by kernel_rfl) (fun K hK => ?_)
      go_simp
      refine (HTT _).mono ?_
      rintro e w2 ⟨rfl, hq⟩
      simp only
      have HC1 := HC.later hq hlt
      have hlt1 := hlt.mono hq.size
      have hO1 := owns_below hO hq
      have hB1 := hB.then hq hb0.size
      have HX1 := HX.below hq hzw
      have hzw1 := Nat.lt_of_lt_of_le hzw hq.size
      refine hK _ _ (fun _ => HC1) ?_
      clear hK K hq HC hlt hO hB HX hzw
      have HC := HC1
      clear HC1
      have hlt := hlt1
      clear hlt1
      have hO := hO1
      clear hO1
      have hB := hB1
      clear hB1
      have HX := HX1
      clear HX1
      have hzw := hzw1
      clear hzw1
      refine RD.pure (i := 16) (v := .pointer (some ⟨g, (p + 1) * 2, none⟩)) rfl (by kernel_rfl) (by kernel_rfl) (by kernel_rfl) (by decide) (fun _ _ _ h => h) (fun _ => HC) (by kernel_rfl) ?y15 ?r15
      case y15 => (intro W; clear HC hO hB HX hlt HV HST HTT hord h; go_simp)
      refine RD.want (i := 17) (by kernel_rfl) rfl (by kernel_rfl) (fun K hK => ?_)
      go_simp
      have d0 : ∃ v, w2.cell? ⟨g, (p + 1) * 2, none⟩ = some v := ⟨_, HC.2.2.1⟩
      have d1 : ∃ v, w2.cell? ⟨g, (p + 1) * 2 + 1, none⟩ = some v := ⟨_, HC.2.2.2.1⟩
      obtain ⟨v0, d0⟩ := d0
      obtain ⟨v1, d1⟩ := d1
      have f0 := hO.frozenAt ((p + 1) * 2)
      have f1 := hO.frozenAt ((p + 1) * 2 + 1)
      have hE := ((hO.stored ((p + 1) * 2) (.int .i64 r0)).1.stored ((p + 1) * 2 + 1) (.int .i64 r1)).1
      have hEB := (hB.setCell (p := ⟨g, (p + 1) * 2, none⟩) hgB (.int .i64 r0)).setCell (p := ⟨g, (p + 1) * 2 + 1, none⟩) hgB (.int .i64 r1)
      have hEh : ((w2.setCell ⟨g, (p + 1) * 2, none⟩ (.int .i64 r0)).setCell ⟨g, (p + 1) * 2 + 1, none⟩ (.int .i64 r1)).heap[w.heap.size]? = w2.heap[w.heap.size]? := (Below.heap_setCell _ ⟨g, (p + 1) * 2 + 1, none⟩ _ _ (show w.heap.size ≠ g by omega)).trans (Below.heap_setCell _ ⟨g, (p + 1) * 2, none⟩ _ _ (show w.heap.size ≠ g by omega))
      have hEX : BxC w.heap.size _ _ := fun i => (World.cell?_of_block (w := w2) (a := ⟨w.heap.size, i, none⟩) hEh).trans (HX i)
      have hEz : w.heap.size < ((w2.setCell ⟨g, (p + 1) * 2, none⟩ (.int .i64 r0)).setCell ⟨g, (p + 1) * 2 + 1, none⟩ (.int .i64 r1)).heap.size := by simpa using hzw
      rw [HV.out] at hE
      have HE : Hid _ := hE
      have HEB : Hid _ := hEB
      have HEX : Hid _ := hEX
      have HEZ : Hid _ := hEz
      clear hE hEB hEX hEz hEh hO hB HX
      go_simp
      refine hK _ _ (not_clean (by kernel_rfl)) ?_
      clear hK K d0 d1 f0 f1 HC hlt
      refine RD.done (by kernel_rfl) ?_
      go_wp2
      go_roundw
      case rel => exact ⟨k + 1, by omega, by go_num, by rw [hV1.out]; exact HE.out, HEB.out, HEX.out, HEZ.out⟩
      case measure => simp [intOf]; omega
    · have hke : k = x.2.1.length := by omega
      subst hke
      have HO : Hid _ := hO
      have HB : Hid _ := hB
      clear hO hB HX
      go_wp2
      go_end0
      exact ⟨rfl, HO.out, HB.out⟩
set_option maxRecDepth 100000 in
set_option maxHeartbeats 16000000 in
theorem iWalkB (x : DFlyPath) (ao : Option Addr) (cap : Nat) (w0 w : World) (g c go gc : Nat) (h : PathAt w0 x ao cap) (hp : PathOk x) (hb0 : Below w0.heap.size w0 w) (hgo : w0.heap.size ≤ go) (hne : go ≠ g) (hgol : go < w.heap.size) (hgc : x.2.1.length + 1 ≤ gc) (hgm : gc ≤ 9223372036854775807)
    (hown : w.ownsRow w0.heap.size 65 2 (.slice (some ⟨g, 0, none⟩) (x.2.1.length + 1) c) (x.2.1.length + 1) (valsFlySpan (spL (bkS x 0) x.2.1.length)))
    (hord : ∀ j, j ≤ x.2.1.length → w.cell? ⟨go, j, none⟩ = some (.int .i64 ((bkO x.2.1.length j : Nat) : Int))) :
    Calls Try.prog 43 #[.agg #[.int .i64 x.1.1, .int .i64 x.1.2, .slice ao x.2.1.length cap, .int .i64 x.2.2.1, .int .i64 x.2.2.2], (.slice (some ⟨g, 0, none⟩) (x.2.1.length + 1) c), (.slice (some ⟨go, 0, none⟩) (x.2.1.length + 1) gc), .func (.func 47) #[] #[]] w fun e w' => e = .returned (.tuple #[]) ∧
      w'.ownsRow w0.heap.size 65 2 (.slice (some ⟨g, 0, none⟩) (x.2.1.length + 1) c) (x.2.1.length + 1) (valsFlySpan (spL (bkS x x.2.1.length) x.2.1.length)) ∧ Bel2 w0.heap.size g w w' := by
  have hn := hp.2.1.2
  have hn1 := hp.2.1.1
  have hcl := h.1
  have hcm : cap ≤ 9223372036854775807 := h.2.1
  have HP : Hid (PathOk x) := hp
  have hkr := kind_range hp
  clear hp
  obtain ⟨w1, hw1⟩ : ∃ w1 : World, w1 = w.alloc (.cells #[.int .i64 x.1.1, .int .i64 x.1.2, .slice ao x.2.1.length cap, .int .i64 x.2.2.1, .int .i64 x.2.2.2] 34) := ⟨_, rfl⟩
  have hgw : g < w.heap.size := (hown.lt g rfl).2
  have hgB : w0.heap.size ≤ g := (hown.lt g rfl).1
  have hcc : x.2.1.length + 1 ≤ c ∧ c ≤ 9223372036854775807 := by
    rcases hown.2 with ⟨h1, _⟩ | ⟨_, c3, _, h1, _, _, h2, h3, _⟩
    · simp at h1
    · have := h3; unfold maxLen at this; cases h1; omega
  have hB1 : Bel2 w0.heap.size g w w1 := by rw [hw1]; exact ⟨(Below.refl _ _).alloc hb0.size _, fun b hb _ => Below.heap_alloc _ _ _ hb⟩
  have hX1 : BxC w.heap.size #[.int .i64 x.1.1, .int .i64 x.1.2, .slice ao x.2.1.length cap, .int .i64 x.2.2.1, .int .i64 x.2.2.2] w1 := by rw [hw1]; exact BxC.new _ _ _
  have hO1 : w1.ownsRow w0.heap.size 65 2 (.slice (some ⟨g, 0, none⟩) (x.2.1.length + 1) c) (x.2.1.length + 1) (valsFlySpan (spL (bkS x 0) x.2.1.length)) := by rw [hw1]; exact hown.alloc _
  have hz1 : w.heap.size < w1.heap.size := by rw [hw1]; simp
  go_enter Try.func43, Try.ntmps43
  go_wp2
  rw [← hw1]
  clear hw1 hown
  go_loopw [15] (fun i wr => ∃ k : Nat, k ≤ x.2.1.length ∧ i = .int .i64 k ∧ wr.ownsRow w0.heap.size 65 2 (.slice (some ⟨g, 0, none⟩) (x.2.1.length + 1) c) (x.2.1.length + 1) (valsFlySpan (spL (bkS x k) x.2.1.length)) ∧ Bel2 w0.heap.size g w wr ∧ BxC w.heap.size #[.int .i64 x.1.1, .int .i64 x.1.2, .slice ao x.2.1.length cap, .int .i64 x.2.2.1, .int .i64 x.2.2.2] wr ∧ w.heap.size < wr.heap.size) (fun i _ => x.2.1.length - (intOf i).toNat)
  case atStart => exact ⟨0, Nat.zero_le _, rfl, hO1, hB1, hX1, hz1⟩
  case round =>
    clear hO1 hB1 hX1 hz1
    obtain ⟨k, hk, rfl, hO, hB, HX, hzw⟩ := hrel
    by_cases hkn : k < x.2.1.length
    · have hkI : (k : Int) < (x.2.1.length : Int) := by omega
      obtain ⟨p, hpd⟩ : ∃ p, p = x.2.1.length - (k + 1) := ⟨_, rfl⟩
      have hpn : p < x.2.1.length := by omega
      have hO1 := hord (k + 1) (by omega)
      have hO0 := hord k (by omega)
      have hPL : bkO x.2.1.length (k + 1) = p := by unfold bkO; omega
      have hBY : bkO x.2.1.length k = p + 1 := by unfold bkO; omega
      rw [hPL] at hO1
      rw [hBY] at hO0
      have r1 := (hB.oth go hgol hne)
      have o1 : wr.cell? ⟨go, 1 + k, none⟩ = some (.int .i64 ((p : Int))) := by
        rw [show 1 + k = k + 1 by omega, World.cell?_of_block (w := w) (a := ⟨go, k + 1, none⟩) r1, hO1]
        try simp
      have o0 : wr.cell? ⟨go, k, none⟩ = some (.int .i64 ((p : Int) + 1)) := by
        rw [World.cell?_of_block (w := w) (a := ⟨go, k, none⟩) r1, hO0]
        try simp
      have HV : Hid _ := spL_set (bkS x k) (bkS x (k + 1)) x.2.1.length (p) (by omega) (fun i hi => by
        have h1 := bkS_next x k i hkn hi
        have h2 := bkS_next x k (p) hkn (by omega)
        rw [hPL] at h1 h2
        rw [if_pos rfl] at h2
        rw [h2]
        exact h1)
      have hTV : bkS x (k + 1) (p) = bkT (bkS x k (p)) (bkS x k (p + 1)) x.1.1 (mostAt x p) := by
        have h2 := bkS_next x k (p) hkn (by omega)
        rw [hPL, if_pos rfl, hBY] at h2
        rw [h2]
        congr 2
        omega
      have hcA : (valsFlySpan (spL (bkS x k) x.2.1.length))[p * 2]? = _ := valsFlySpan_at0 _ p (by rw [spL_len]; omega)
      have hcB : (valsFlySpan (spL (bkS x k) x.2.1.length))[p * 2 + 1]? = _ := valsFlySpan_at1 _ p (by rw [spL_len]; omega)
      have hcC : (valsFlySpan (spL (bkS x k) x.2.1.length))[(p + 1) * 2]? = _ := valsFlySpan_at0 _ (p + 1) (by rw [spL_len]; omega)
      have hcD : (valsFlySpan (spL (bkS x k) x.2.1.length))[(p + 1) * 2 + 1]? = _ := valsFlySpan_at1 _ (p + 1) (by rw [spL_len]; omega)
      simp only [spL_get] at hcA hcB hcC hcD
      have g0 := (hO.cellAt (p * 2) (by omega)).trans hcA
      have g1 := (hO.cellAt (p * 2 + 1) (by omega)).trans hcB
      have g2 := (hO.cellAt ((p + 1) * 2) (by omega)).trans hcC
      have g3 := (hO.cellAt ((p + 1) * 2 + 1) (by omega)).trans hcD
      have hsm := bkS_small HP.out k (p + 1) (by omega)
      have hmr := most_range HP.out p
      rw [hTV] at HV
      clear hcA hcB hcC hcD hO1 hO0 hPL hBY hTV r1
      obtain ⟨V1, hV1e⟩ : ∃ V1, valsFlySpan (spL (bkS x (k + 1)) x.2.1.length) = V1 := ⟨_, rfl⟩
      rw [hV1e] at HV
      have hV1 := hid hV1e
      clear hV1e
      generalize valsFlySpan (spL (bkS x k) x.2.1.length) = V0 at *
      generalize bkS x k (p) = A at *
      generalize bkS x k (p + 1) = Bq at *
      have HTT := iAhead A Bq x.1.1 (mostAt x p) hsm (by omega) (by omega)
      have HST := fun W => iStay (x.2.1[p]'hpn) x.1 W
      rw [← mostAt_in hpn] at HST
      generalize mostAt x p = m at *
      generalize bkT A Bq x.1.1 m = Rr at *
      obtain ⟨a0, a1⟩ := A
      obtain ⟨b0, b1⟩ := Bq
      obtain ⟨r0, r1⟩ := Rr
      simp only at g0 g1 g2 g3 HV HTT
      obtain ⟨b, off, rfl, hok, c0, c1, c2, c3, c4, c5, c6, _⟩ := elem_FlyStep h hpn
      have hbw := fun o => (hB.bel.cell (p := ⟨b, o, none⟩) hok).trans (hb0.cell (p := ⟨b, o, none⟩) hok)
      have d0 := (hbw _).trans c0
      have d1 := (hbw _).trans c1
      have d2 := (hbw _).trans c2
      have d3 := (hbw _).trans c3
      have d4 := (hbw _).trans c4
      have d5 := (hbw _).trans c5
      have d6 := (hbw _).trans c6
      clear c0 c1 c2 c3 c4 c5 c6 hbw
      generalize x.2.1[p]'hpn = ST at *
      obtain ⟨s0, s1, s2, s3, s4, s5, s6⟩ := ST
      simp only [vSt, cSt, vKi] at d0 d1 d2 d3 d4 d5 d6 HST
      have y0 := HX 0
      have y1 := HX 1
      have y2 := HX 2
      simp at y0 y1 y2
      have hpI : (p : Int) < (x.2.1.length : Int) := by omega
      have hpI1 : (p : Int) < (x.2.1.length : Int) + 1 := by omega
      have hpI2 : (p : Int) + 1 < (x.2.1.length : Int) + 1 := by omega
      have hkI1 : (k : Int) < (x.2.1.length : Int) + 1 := by omega
      have hpp : (p : Int) < (p : Int) + 1 := by omega
      have hp1N : ((p : Int) + 1).toNat = p + 1 := by omega
      have hp1p : ¬ (p : Int) + 1 < 0 := by omega
      have hO_ := hid hO
      have hB_ := hid hB
      have HX_ := hid HX
      have HST_ := hid HST
      have HTT_ := hid HTT
      have hsm_ := hid hsm
      clear hO hB HX HST HTT hsm hpd
      go_wp2_with fail
      obtain ⟨wa, hwa⟩ : ∃ wa : World, wa = wr.alloc (.cells #[.int .i64 s0, .int .i64 s1, .int .i64 s2, .int .i64 s3, .int .i64 s4, .int .i64 s5, .bool s6] 76) := ⟨_, rfl⟩
      rw [← hwa]
      have hba : Below wr.heap.size wr wa := by rw [hwa]; exact (Below.refl _ _).alloc (Nat.le_refl _) _
      have hSB : BxC wr.heap.size #[.int .i64 s0, .int .i64 s1, .int .i64 s2, .int .i64 s3, .int .i64 s4, .int .i64 s5, .bool s6] wa := by rw [hwa]; exact BxC.new _ _ _
      have hza : wr.heap.size < wa.heap.size := by rw [hwa]; simp
      have hgr : g < wr.heap.size := by omega
      have e0 := hSB 0
      have e1 := hSB 1
      have e2 := hSB 2
      have e3 := hSB 3
      have e4 := hSB 4
      have e5 := hSB 5
      have e6 := hSB 6
      simp at e0 e1 e2 e3 e4 e5 e6
      have hO := (owns_below hO_.out hba).drew
      have hB : Bel2 w0.heap.size g w wa.drew := hB_.out.then hba.drew hb0.size
      have HX : BxC w.heap.size #[.int .i64 x.1.1, .int .i64 x.1.2, .slice (some ⟨b, off, none⟩) x.2.1.length cap, .int .i64 x.2.2.1, .int .i64 x.2.2.2] wa.drew := HX_.out.below hba.drew hzw
      have HC : CL [(⟨g, p * 2, none⟩, .int .i64 a0), (⟨g, p * 2 + 1, none⟩, .int .i64 a1), (⟨g, (p + 1) * 2, none⟩, .int .i64 b0), (⟨g, (p + 1) * 2 + 1, none⟩, .int .i64 b1), (⟨wr.heap.size, 0, none⟩, .int .i64 s0), (⟨wr.heap.size, 1, none⟩, .int .i64 s1), (⟨wr.heap.size, 2, none⟩, .int .i64 s2), (⟨wr.heap.size, 3, none⟩, .int .i64 s3), (⟨wr.heap.size, 4, none⟩, .int .i64 s4), (⟨wr.heap.size, 5, none⟩, .int .i64 s5), (⟨wr.heap.size, 6, none⟩, .bool s6), (⟨w.heap.size, 0, none⟩, .int .i64 (x.1.1)), (⟨w.heap.size, 1, none⟩, .int .i64 (x.1.2))] wa.drew := ⟨(hba.cell (p := ⟨g, p * 2, none⟩) hgr).trans g0, (hba.cell (p := ⟨g, p * 2 + 1, none⟩) hgr).trans g1, (hba.cell (p := ⟨g, (p + 1) * 2, none⟩) hgr).trans g2, (hba.cell (p := ⟨g, (p + 1) * 2 + 1, none⟩) hgr).trans g3, e0, e1, e2, e3, e4, e5, e6, (hba.cell (p := ⟨w.heap.size, 0, none⟩) hzw).trans y0, (hba.cell (p := ⟨w.heap.size, 1, none⟩) hzw).trans y1, trivial⟩
      have hlt : CLlt wa.drew.heap.size [(⟨g, p * 2, none⟩, .int .i64 a0), (⟨g, p * 2 + 1, none⟩, .int .i64 a1), (⟨g, (p + 1) * 2, none⟩, .int .i64 b0), (⟨g, (p + 1) * 2 + 1, none⟩, .int .i64 b1), (⟨wr.heap.size, 0, none⟩, .int .i64 s0), (⟨wr.heap.size, 1, none⟩, .int .i64 s1), (⟨wr.heap.size, 2, none⟩, .int .i64 s2), (⟨wr.heap.size, 3, none⟩, .int .i64 s3), (⟨wr.heap.size, 4, none⟩, .int .i64 s4), (⟨wr.heap.size, 5, none⟩, .int .i64 s5), (⟨wr.heap.size, 6, none⟩, .bool s6), (⟨w.heap.size, 0, none⟩, .int .i64 (x.1.1)), (⟨w.heap.size, 1, none⟩, .int .i64 (x.1.2))] := by
        have h1 : g < wa.drew.heap.size := Nat.lt_trans hgr hza
        have h2 : w.heap.size < wa.drew.heap.size := Nat.lt_trans hzw hza
        have h3 : wr.heap.size < wa.drew.heap.size := hza
        exact ⟨h1, h1, h1, h1, h3, h3, h3, h3, h3, h3, h3, h2, h2, trivial⟩
      have hzd : w.heap.size < wa.drew.heap.size := Nat.lt_trans hzw hza
      have HST := HST_.out
      have HTT := HTT_.out
      clear hzw
      have hzw := hzd
      refine wp_region_RD (CL [(⟨g, p * 2, none⟩, .int .i64 a0), (⟨g, p * 2 + 1, none⟩, .int .i64 a1), (⟨g, (p + 1) * 2, none⟩, .int .i64 b0), (⟨g, (p + 1) * 2 + 1, none⟩, .int .i64 b1), (⟨wr.heap.size, 0, none⟩, .int .i64 s0), (⟨wr.heap.size, 1, none⟩, .int .i64 s1), (⟨wr.heap.size, 2, none⟩, .int .i64 s2), (⟨wr.heap.size, 3, none⟩, .int .i64 s3), (⟨wr.heap.size, 4, none⟩, .int .i64 s4), (⟨wr.heap.size, 5, none⟩, .int .i64 s5), (⟨wr.heap.size, 6, none⟩, .bool s6), (⟨w.heap.size, 0, none⟩, .int .i64 (x.1.1)), (⟨w.heap.size, 1, none⟩, .int .i64 (x.1.2))]) [17] mixedT ?_
      generalize wr.heap.size = sb at *
      generalize wa.drew = wd at *
      clear hwa hba hSB hza hgr e0 e1 e2 e3 e4 e5 e6 hO_ hB_ HX_ HST_ HTT_ g0 g1 g2 g3 y0 y1 y2 d0 d1 d2 d3 d4 d5 d6 o0 o1 hzd
      refine RD.pure (i := 0) (v := .slice (some ⟨g, 0, none⟩) (x.2.1.length + 1) c) rfl (by kernel_rfl) (by kernel_rfl) (by kernel_rfl) (by decide) (fun _ _ _ h => h) (fun _ => HC) (by kernel_rfl) ?y16 ?r16
      case y16 => (intro W; clear HC hO hB HX hlt HV HST HTT hord h; go_simp)
      refine RD.pure (i := 1) (v := .int .i64 (p : Int)) rfl (by kernel_rfl) (by kernel_rfl) (by kernel_rfl) (by decide) (fun _ _ _ h => h) (fun _ => HC) (by kernel_rfl) ?y17 ?r17
      case y17 => (intro W; clear HC hO hB HX hlt HV HST HTT hord h; go_simp)
      refine RD.pure (i := 2) (v := .func (.func 47) #[] #[]) rfl (by kernel_rfl) (by kernel_rfl) (by kernel_rfl) (by decide) (fun _ _ _ h => h) (fun _ => HC) (by kernel_rfl) ?y18 ?r18
      case y18 => (intro W; clear HC hO hB HX hlt HV HST HTT hord h; go_simp)
      refine RD.pure (i := 3) (v := .slice (some ⟨g, 0, none⟩) (x.2.1.length + 1) c) rfl (by kernel_rfl) (by kernel_rfl) (by kernel_rfl) (by decide) (fun _ _ _ h => h) (fun _ => HC) (by kernel_rfl) ?y19 ?r19
      case y19 => (intro W; clear HC hO hB HX hlt HV HST HTT hord h; go_simp)
      refine RD.pure (i := 4) (v := .int .i64 (p : Int)) rfl (by kernel_rfl) (by kernel_rfl) (by kernel_rfl) (by decide) (fun _ _ _ h => h) (fun _ => HC) (by kernel_rfl) ?y20 ?r20
      case y20 => (intro W; clear HC hO hB HX hlt HV HST HTT hord h; go_simp)
      refine RD.pure (i := 5) (v := .pointer (some ⟨g, p * 2, none⟩)) rfl (by kernel_rfl) (by kernel_rfl) (by kernel_rfl) (by decide) (fun _ _ _ h => h) (fun _ => HC) (by kernel_rfl) ?y21 ?r21
      case y21 => (intro W; clear HC hO hB HX hlt HV HST HTT hord h; go_simp)
      refine RD.take (i := 6) (v := .agg #[.int .i64 a0, .int .i64 a1]) rfl (by kernel_rfl) (by kernel_rfl) (by kernel_rfl) (by kernel_rfl) (fun _ _ _ h => h) HC (by kernel_rfl) ?y22 ?r22
      case y22 => (intro W hW; obtain ⟨u0, u1, u2, u3, u4, u5, u6, u7, u8, u9, u10, u11, u12, _⟩ := hW; clear HC hO hB HX hlt HV HST HTT hord h; go_simp)
      refine RD.pure (i := 7) (v := .slice (some ⟨g, 0, none⟩) (x.2.1.length + 1) c) rfl (by kernel_rfl) (by kernel_rfl) (by kernel_rfl) (by decide) (fun _ _ _ h => h) (fun _ => HC) (by kernel_rfl) ?y23 ?r23
      case y23 => (intro W; clear HC hO hB HX hlt HV HST HTT hord h; go_simp)
      refine RD.pure (i := 8) (v := .int .i64 ((p : Int) + 1)) rfl (by kernel_rfl) (by kernel_rfl) (by kernel_rfl) (by decide) (fun _ _ _ h => h) (fun _ => HC) (by kernel_rfl) ?y24 ?r24
      case y24 => (intro W; clear HC hO hB HX hlt HV HST HTT hord h; go_simp)
      refine RD.pure (i := 9) (v := .pointer (some ⟨g, (p + 1) * 2, none⟩)) rfl (by kernel_rfl) (by kernel_rfl) (by kernel_rfl) (by decide) (fun _ _ _ h => h) (fun _ => HC) (by kernel_rfl) ?y25 ?r25
      case y25 => (intro W; clear HC hO hB HX hlt HV HST HTT hord h; go_simp)
      refine RD.take (i := 10) (v := .agg #[.int .i64 b0, .int .i64 b1]) rfl (by kernel_rfl) (by kernel_rfl) (by kernel_rfl) (by kernel_rfl) (fun _ _ _ h => h) HC (by kernel_rfl) ?y26 ?r26
      case y26 => (intro W hW; obtain ⟨u0, u1, u2, u3, u4, u5, u6, u7, u8, u9, u10, u11, u12, _⟩ := hW; clear HC hO hB HX hlt HV HST HTT hord h; go_simp)
      refine RD.take (i := 11) (v := .agg #[.int .i64 s0, .int .i64 s1, .int .i64 s2, .int .i64 s3, .int .i64 s4, .int .i64 s5, .bool s6]) rfl (by kernel_rfl) (by kernel_rfl) (by kernel_rfl) (by kernel_rfl) (fun _ _ _ h => h) HC (by kernel_rfl) ?y27 ?r27
      case y27 => (intro W hW; obtain ⟨u0, u1, u2, u3, u4, u5, u6, u7, u8, u9, u10, u11, u12, _⟩ := hW; clear HC hO hB HX hlt HV HST HTT hord h; go_simp)
      refine RD.pure (i := 12) (v := .pointer (some ⟨w.heap.size, 0, none⟩)) rfl (by kernel_rfl) (by kernel_rfl) (by kernel_rfl) (by decide) (fun _ _ _ h => h) (fun _ => HC) (by kernel_rfl) ?y28 ?r28
      case y28 => (intro W; clear HC hO hB HX hlt HV HST HTT hord h; go_simp)
      refine RD.take (i := 13) (v := .agg #[.int .i64 (x.1.1), .int .i64 (x.1.2)]) rfl (by kernel_rfl) (by kernel_rfl) (by kernel_rfl) (by kernel_rfl) (fun _ _ _ h => h) HC (by kernel_rfl) ?y29 ?r29
      case y29 => (intro W hW; obtain ⟨u0, u1, u2, u3, u4, u5, u6, u7, u8, u9, u10, u11, u12, _⟩ := hW; clear HC hO hB HX hlt HV HST HTT hord h; go_simp)
      refine RD.want (i := 14) (by kernel_rfl) rfl (by kernel_rfl) (fun K hK => ?_)
      go_simp
      refine (HST _).mono ?_
      rintro e w1 ⟨rfl, hq⟩
      simp only
      have HC1 := HC.later hq hlt
      have hlt1 := hlt.mono hq.size
      have hO1 := owns_below hO hq
      have hB1 := hB.then hq hb0.size
      have HX1 := HX.below hq hzw
      have hzw1 := Nat.lt_of_lt_of_le hzw hq.size
      refine hK _ _ (fun _ => HC1) ?_
      clear hK K hq HC hlt hO hB HX hzw
      have HC := HC1
      clear HC1
      have hlt := hlt1
      clear hlt1
      have hO := hO1
      clear hO1
      have hB := hB1
      clear hB1
      have HX := HX1
      clear HX1
      have hzw := hzw1
      clear hzw1
      refine RD.want (i := 15) (by kernel_rfl) rfl (by kernel_rfl) (fun K hK => ?_)
      go_simp
      refine (HTT _).mono ?_
      rintro e w2 ⟨rfl, hq⟩
      simp only
      have HC1 := HC.later hq hlt
      have hlt1 := hlt.mono hq.size
      have hO1 := owns_below hO hq
      have hB1 := hB.then hq hb0.size
      have HX1 := HX.below hq hzw
      have hzw1 := Nat.lt_of_lt_of_le hzw hq.size
      refine hK _ _ (fun _ => HC1) ?_
      clear hK K hq HC hlt hO hB HX hzw
      have HC := HC1
      clear HC1
      have hlt := hlt1
      clear hlt1
      have hO := hO1
      clear hO1
      have hB := hB1
      clear hB1
      have HX := HX1
      clear HX1
      have hzw := hzw1
      clear hzw1
      refine RD.pure (i := 16) (v := .pointer (some ⟨g, p * 2, none⟩)) rfl (by kernel_rfl) (by kernel_rfl) (by kernel_rfl) (by decide) (fun _ _ _ h => h) (fun _ => HC) (by kernel_rfl) ?y30 ?r30
      case y30 => (intro W; clear HC hO hB HX hlt HV HST HTT hord h; go_simp)
      refine RD.want (i := 17) (by kernel_rfl) rfl (by kernel_rfl) (fun K hK => ?_)
      go_simp
      have d0 : ∃ v, w2.cell? ⟨g, p * 2, none⟩ = some v := ⟨_, HC.1⟩
      have d1 : ∃ v, w2.cell? ⟨g, p * 2 + 1, none⟩ = some v := ⟨_, HC.2.1⟩
      obtain ⟨v0, d0⟩ := d0
      obtain ⟨v1, d1⟩ := d1
      have f0 := hO.frozenAt (p * 2)
      have f1 := hO.frozenAt (p * 2 + 1)
      have hE := ((hO.stored (p * 2) (.int .i64 r0)).1.stored (p * 2 + 1) (.int .i64 r1)).1
      have hEB := (hB.setCell (p := ⟨g, p * 2, none⟩) hgB (.int .i64 r0)).setCell (p := ⟨g, p * 2 + 1, none⟩) hgB (.int .i64 r1)
      have hEh : ((w2.setCell ⟨g, p * 2, none⟩ (.int .i64 r0)).setCell ⟨g, p * 2 + 1, none⟩ (.int .i64 r1)).heap[w.heap.size]? = w2.heap[w.heap.size]? := (Below.heap_setCell _ ⟨g, p * 2 + 1, none⟩ _ _ (show w.heap.size ≠ g by omega)).trans (Below.heap_setCell _ ⟨g, p * 2, none⟩ _ _ (show w.heap.size ≠ g by omega))
      have hEX : BxC w.heap.size _ _ := fun i => (World.cell?_of_block (w := w2) (a := ⟨w.heap.size, i, none⟩) hEh).trans (HX i)
      have hEz : w.heap.size < ((w2.setCell ⟨g, p * 2, none⟩ (.int .i64 r0)).setCell ⟨g, p * 2 + 1, none⟩ (.int .i64 r1)).heap.size := by simpa using hzw
      rw [HV.out] at hE
      have HE : Hid _ := hE
      have HEB : Hid _ := hEB
      have HEX : Hid _ := hEX
      have HEZ : Hid _ := hEz
      clear hE hEB hEX hEz hEh hO hB HX
      go_simp
      refine hK _ _ (not_clean (by kernel_rfl)) ?_
      clear hK K d0 d1 f0 f1 HC hlt
      refine RD.done (by kernel_rfl) ?_
      go_wp2
      go_roundw
      case rel => exact ⟨k + 1, by omega, by go_num, by rw [hV1.out]; exact HE.out, HEB.out, HEX.out, HEZ.out⟩
      case measure => simp [intOf]; omega
    · have hke : k = x.2.1.length := by omega
      subst hke
      have HO : Hid _ := hO
      have HB : Hid _ := hB
      clear hO hB HX
      go_wp2
      go_end0
      exact ⟨rfl, HO.out, HB.out⟩

end Fly
end Go.Proofs.Ytpjacfnjjkoikaa
