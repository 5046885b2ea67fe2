/- DERIVED. Spans of a path whose windows may be empty, on plain data. -/
import Derived.Test.YtpjacfnjjkoikaaKWkD
import Derived.Test.YtpjacfnjjkoikaaKTsS3
import Derived.Test.YtpjacfnjjkoikaaKRD0
namespace Go.Proofs.Ytpjacfnjjkoikaa
namespace Fly
open Go.RowKit
set_option linter.unusedSimpArgs false
set_option linter.unusedVariables false


/-- Windows that have anything lie in 0..10000. -/
def Narrow (x : DFlyPath) : Prop := ∀ k, lowAt x k ≤ highAt x k → 0 ≤ lowAt x k ∧ highAt x k ≤ 10000
theorem narrow_ok {x : DFlyPath} (hp : PathOk x) : Narrow x := fun k _ => win_range hp k
noncomputable def spG (x : DFlyPath) : List RFlySpan × Bool := if pb (FwOk x ∧ BkOk x) then (spansL x, true) else ([], false)
theorem spG_yes {x : DFlyPath} (h1 : FwOk x) (h2 : BkOk x) : spG x = (spansL x, true) := by unfold spG; rw [if_pos (pb_yes ⟨h1, h2⟩)]
theorem spG_no {x : DFlyPath} (h : ¬ (FwOk x ∧ BkOk x)) : spG x = ([], false) := by unfold spG; rw [if_neg (by rw [pb_no h]; decide)]
theorem spG_ok {x : DFlyPath} (hp : PathOk x) : spG x = spansF x := by
  by_cases h : FwOk x ∧ BkOk x
  · rw [spG_yes h.1 h.2, spans_yes hp h.1 h.2]
  · rw [spG_no h, spans_no fun h1 => h h1.2]
theorem most_rangeK {x : DFlyPath} (hk : KindOk x.1) (k : Nat) : 1 ≤ mostAt x k ∧ mostAt x k ≤ 10000 := by
  obtain ⟨h1, h2, h3⟩ := hk
  unfold mostAt
  split
  · split <;> omega
  · omega
theorem fw_in (x : DFlyPath) : ∀ k, lowAt x k ≤ (fw x k).1 ∧ (fw x k).2 ≤ highAt x k
  | 0 => ⟨Int.le_refl _, Int.le_refl _⟩
  | k + 1 => ⟨fmx_ge _ _, fmn_le _ _⟩
theorem fw_rng {x : DFlyPath} (h : Narrow x) (k : Nat) (hk : (fw x k).1 ≤ (fw x k).2) : 0 ≤ (fw x k).1 ∧ (fw x k).1 ≤ 10000 ∧ 0 ≤ (fw x k).2 ∧ (fw x k).2 ≤ 10000 := by
  have h1 := fw_in x k
  have h2 := h k (by omega)
  omega
theorem bk_rng {x : DFlyPath} (h : Narrow x) (d : Nat) (hd : d ≤ x.2.1.length) (hk : (bk x d).1 ≤ (bk x d).2) : 0 ≤ (bk x d).1 ∧ (bk x d).1 ≤ 10000 ∧ 0 ≤ (bk x d).2 ∧ (bk x d).2 ≤ 10000 := by
  have h0 := bk_in_fw x d hd
  have h1 := fw_rng h (x.2.1.length - d) (by omega)
  omega
def spR (T : Nat → RFlySpan) (k : Nat) : List RFlySpan := (List.range k).map T
theorem spR_len (T : Nat → RFlySpan) (k : Nat) : (spR T k).length = k := by simp [spR]
theorem spR_get (T : Nat → RFlySpan) (k j : Nat) (h : j < (spR T k).length) : (spR T k)[j] = T j := by simp [spR]
theorem spR_snoc (T : Nat → RFlySpan) (k : Nat) : valsFlySpan (spR T k) ++ [.int .i64 (T k).1, .int .i64 (T k).2] = valsFlySpan (spR T (k + 1)) := by
  unfold spR
  rw [List.range_succ, List.map_append]
  exact (valsFlySpan_snoc _ _).symm
theorem bkS_fin (x : DFlyPath) (d j : Nat) (hd : d < x.2.1.length) (hj : j ≤ x.2.1.length) : bkS x (d + 1) j = if j = x.2.1.length - 1 - d then bk x (d + 1) else bkS x d j := by
  have h := bkS_next x d j hd hj
  unfold bkO at h
  rw [h, show x.2.1.length - 1 - d = x.2.1.length - (d + 1) by omega]
  by_cases e : j = x.2.1.length - (d + 1)
  · rw [if_pos e, if_pos e]
    have h2 := bkS_next x d (x.2.1.length - (d + 1)) hd (by omega)
    unfold bkO at h2
    rw [if_pos rfl] at h2
    rw [← h2]
    unfold bkS
    rw [if_pos (Nat.le_refl _)]
    congr 1; omega
  · rw [if_neg e, if_neg e]
theorem spL_back24 (x : DFlyPath) : spL (bkS x x.2.1.length) x.2.1.length = spansL x := by
  unfold spL spansL
  exact List.map_congr_left fun k hk => bkS_end x k (by have := List.mem_range.1 hk; omega)
theorem own_some {W : World} {b : Nat} {e : TypeId} {size k n : Nat} {ao : Option Addr} {cap : Nat} {xs : List Value} (h : W.ownsRow b e size (.slice ao n cap) k xs) (hk : 0 < k) : ∃ g, ao = some ⟨g, 0, none⟩ := by
  rcases h.2 with ⟨_, h0⟩ | ⟨g, c3, _, h1, _⟩
  · omega
  · cases h1; exact ⟨g, rfl⟩
theorem sMxB (a b m : Int) (w : World) (h : fmx a b = m) : Calls Try.prog 73 #[.int .i64 a, .int .i64 b] w fun e w' => e = .returned (.int .i64 m) ∧ Below w.heap.size w w' :=
  (sMx a b m w h).mono fun e w' h => ⟨h.1, h.2 ▸ Below.refl _ _⟩
theorem sMnB (a b m : Int) (w : World) (h : fmn a b = m) : Calls Try.prog 74 #[.int .i64 a, .int .i64 b] w fun e w' => e = .returned (.int .i64 m) ∧ Below w.heap.size w w' :=
  (sMn a b m w h).mono fun e w' h => ⟨h.1, h.2 ▸ Below.refl _ _⟩

end Fly
end Go.Proofs.Ytpjacfnjjkoikaa
