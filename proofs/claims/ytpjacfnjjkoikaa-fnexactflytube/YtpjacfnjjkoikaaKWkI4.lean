/- DERIVED. impl.flyBack, slices.ContainsFunc at empty, impl.FlySpans: their walks (written by wip/tools/mk_wk2.py). -/
import Derived.Test.YtpjacfnjjkoikaaKWkI2
import Derived.Test.YtpjacfnjjkoikaaKWkI3
import Derived.Test.YtpjacfnjjkoikaaKFyI5
namespace Go.Proofs.Ytpjacfnjjkoikaa
namespace Fly
open Go.RowKit
set_option linter.unusedSimpArgs false
set_option linter.unusedVariables false


theorem iFwd1 (n : Nat) (w : World) (hn : n ≤ 100) :
    Calls Try.prog 44 #[.int .i64 ((n : Int) + 1)] w fun e w' => ∃ g bc, e = .returned (.slice (some ⟨g, 0, none⟩) (n + 1) bc) ∧ w'.ownsRow w.heap.size 3 1 (.slice (some ⟨g, 0, none⟩) (n + 1) bc) (n + 1) (spI (fun k => (k : Int)) (n + 1)) ∧ Below w.heap.size w w' := by
  have h := iFwd (n + 1) w (by omega)
  rw [show ((n + 1 : Nat) : Int) = (n : Int) + 1 from by omega] at h
  refine h.mono ?_
  rintro e w' ⟨bo, bc, rfl, hO, hB⟩
  obtain ⟨g, c, hv⟩ := owns_pos hO
  cases hv
  exact ⟨g, bc, rfl, hO, hB⟩
set_option maxHeartbeats 1000000 in
theorem iBack1 (n : Nat) (w : World) (hn : n ≤ 100) :
    Calls Try.prog 46 #[.int .i64 ((n : Int) + 1)] w fun e w' => ∃ g bc, e = .returned (.slice (some ⟨g, 0, none⟩) (n + 1) bc) ∧ w'.ownsRow w.heap.size 3 1 (.slice (some ⟨g, 0, none⟩) (n + 1) bc) (n + 1) (spI (fun k => ((n - k : Nat) : Int)) (n + 1)) ∧ Below w.heap.size w w' := by
  go_enter Try.func46, Try.ntmps46
  go_wp2_with fail
  refine (iFwd1 n w hn).mono ?_
  rintro e w1 ⟨g, bc, rfl, hO, hB⟩
  have HB := hid hB
  have hR := iReverse (fun k => (k : Int)) g (n + 1) bc w.heap.size w1 (by omega) (by omega) hB.size hO
  clear hO hB
  go_wp2_with fail
  refine hR.mono ?_
  rintro e w2 ⟨rfl, hO2, hB2⟩
  have HO := hid hO2
  have HB2 := hid (HB.out.trans hB2.bel)
  clear hO2 hB2 hR
  go_wp2
  go_ret
  exact ⟨g, bc, rfl, by simpa using HO.out, HB2.out⟩

/-- A span of a list has nothing. -/
def EmptyIn (L : List RFlySpan) : Prop := ∃ k, ∃ h : k < L.length, (L[k]'h).2 < (L[k]'h).1
set_option maxHeartbeats 2000000 in
theorem iIdxEmpty (L : List RFlySpan) (ao : Option Addr) (cap : Nat) (w : World) (h : AtFlySpan w ao L) (hl : L.length ≤ 1000) (hcp : L.length ≤ cap) :
    Calls Try.prog 85 #[.slice ao L.length cap, .func (.func 49) #[] #[]] w fun e w' => ((EmptyIn L ∧ ∃ k : Nat, k ≤ 1000 ∧ e = .returned (.int .i64 k)) ∨ (¬ EmptyIn L ∧ e = .returned (.int .i64 (-1)))) ∧ Below w.heap.size w w' := by
  have HE := fun (s : RFlySpan) W => iEmpty s W
  go_enter Try.func85, Try.ntmps85
  go_wp2
  go_loopw [8] (fun v wr => ∃ k : Nat, k ≤ L.length ∧ v = .int .i64 k ∧ Hid (∀ j (h : j < L.length), j < k → (L[j]'h).1 ≤ (L[j]'h).2) ∧ Below w.heap.size w wr) (fun v _ => L.length - (intOf v).toNat)
  case atStart => exact ⟨0, Nat.zero_le _, rfl, fun j _ hj => by omega, Below.refl _ _⟩
  case round =>
    obtain ⟨k, hk, rfl, hno, hB⟩ := hrel
    by_cases hlt : k < L.length
    · obtain ⟨g, rfl, hg, c0, c1⟩ := h.elem hlt
      have f0 := (hB.cell (p := ⟨g, k * 2, none⟩) hg).trans c0
      have f1 := (hB.cell (p := ⟨g, k * 2 + 1, none⟩) hg).trans c1
      have hkI : (k : Int) < (L.length : Int) := by omega
      have HY := hid (fun h1 : (L[k]'hlt).2 < (L[k]'hlt).1 => (⟨k, hlt, h1⟩ : EmptyIn L))
      have HN := hid (fun (h1 : (L[k]'hlt).1 ≤ (L[k]'hlt).2) => (fun j hj hjk => by
        by_cases e : j = k
        · subst e; exact h1
        · exact hno.out j hj (by omega) : ∀ j (h : j < L.length), j < k + 1 → (L[j]'h).1 ≤ (L[j]'h).2))
      have HQ := HE (L[k]'hlt)
      have HB := hid hB
      generalize L[k]'hlt = s at *
      clear c0 c1 hno hB h HE
      by_cases he : s.2 < s.1
      · have hde : decide (s.2 < s.1) = true := by simpa using he
        rw [hde] at HQ
        have HA := hid (HY.out he)
        clear he hde HY HN
        go_wp2_with fail
        refine (HQ _).mono ?_
        rintro e w1 ⟨rfl, hb1⟩
        have hB1 := hid (HB.out.trans (hb1.mono HB.out.size))
        clear hb1 HQ
        go_wp2
        go_ret
        exact ⟨.inl ⟨HA.out, k, by omega, rfl⟩, hB1.out⟩
      · have hde : decide (s.2 < s.1) = false := by simpa using he
        rw [hde] at HQ
        have HA := hid (HN.out (by omega))
        clear he hde HY HN
        go_wp2_with fail
        refine (HQ _).mono ?_
        rintro e w1 ⟨rfl, hb1⟩
        have hB1 := hid (HB.out.trans (hb1.mono HB.out.size))
        clear hb1 HQ
        go_wp2
        go_roundw
        case rel => exact ⟨k + 1, by omega, by go_num, HA, hB1.out⟩
        case measure => simp [intOf]; omega
    · have hke : k = L.length := by omega
      subst hke
      have HN := hid (fun (h1 : EmptyIn L) => by obtain ⟨j, hj, e⟩ := h1; have := hno.out j hj hj; omega : ¬ EmptyIn L)
      have HB := hid hB
      clear hno hB
      go_wp2
      go_ret
      exact ⟨.inr ⟨HN.out, rfl⟩, HB.out⟩
set_option maxHeartbeats 1000000 in
theorem iHasEmpty (L : List RFlySpan) (ao : Option Addr) (cap : Nat) (w : World) (h : AtFlySpan w ao L) (hl : L.length ≤ 1000) (hcp : L.length ≤ cap) :
    Calls Try.prog 48 #[.slice ao L.length cap, .func (.func 49) #[] #[]] w fun e w' => e = .returned (.bool (pb (EmptyIn L))) ∧ Below w.heap.size w w' := by
  go_enter Try.func48, Try.ntmps48
  go_wp2_with fail
  refine (iIdxEmpty L ao cap w h hl hcp).mono ?_
  rintro e w1 ⟨⟨ha, n, hn, rfl⟩ | ⟨ha, rfl⟩, hb1⟩
  · have HA := hid (pb_yes ha)
    have HB := hid hb1
    have hnI : (0 : Int) ≤ (n : Int) := by omega
    clear ha hb1 h
    go_wp2
    go_ret
    exact ⟨by rw [HA.out]; first | rfl | simp, HB.out⟩
  · have HA := hid (pb_no ha)
    have HB := hid hb1
    clear ha hb1 h
    go_wp2
    go_ret
    exact ⟨by rw [HA.out]; first | rfl | simp, HB.out⟩

end Fly
end Go.Proofs.Ytpjacfnjjkoikaa
