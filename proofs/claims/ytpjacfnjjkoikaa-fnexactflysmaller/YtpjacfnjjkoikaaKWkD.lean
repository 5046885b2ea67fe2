/- DERIVED. Spans of a path as they become, step by step, on plain data. -/
import Derived.Test.YtpjacfnjjkoikaaKTsD
import Derived.Test.YtpjacfnjjkoikaaKBl2
namespace Go.Proofs.Ytpjacfnjjkoikaa
namespace Fly
open Go.RowKit
set_option linter.unusedSimpArgs false
set_option linter.unusedVariables false


/-- What a span becomes by the one ahead of it, and by the one behind it. -/
def fwT (a b : RFlySpan) (q m : Int) : RFlySpan := (fmx a.1 (b.1 + q), fmn a.2 (b.2 + m))
def bkT (a b : RFlySpan) (q m : Int) : RFlySpan := (fmx a.1 (b.1 - m), fmn a.2 (b.2 - q))
/-- The windows, the spans behind k rounds forward, behind k rounds back. -/
def fwS (x : DFlyPath) (k j : Nat) : RFlySpan := if j ≤ k then fw x j else (lowAt x j, highAt x j)
def bkS (x : DFlyPath) (k j : Nat) : RFlySpan := if x.2.1.length - k ≤ j then bk x (x.2.1.length - j) else fw x j
def fwO (n j : Nat) : Nat := j
def bkO (n j : Nat) : Nat := n - j
def spL (T : Nat → RFlySpan) (n : Nat) : List RFlySpan := (List.range (n + 1)).map T
theorem spL_len (T : Nat → RFlySpan) (n : Nat) : (spL T n).length = n + 1 := by simp [spL]
theorem spL_get (T : Nat → RFlySpan) (n k : Nat) (h : k < (spL T n).length) : (spL T n)[k] = T k := by simp [spL]
theorem spL_set (T T' : Nat → RFlySpan) (n j : Nat) (hj : j ≤ n) (h : ∀ i, i ≤ n → T' i = if i = j then T' j else T i) :
    ((valsFlySpan (spL T n)).set (j * 2) (.int .i64 (T' j).1)).set (j * 2 + 1) (.int .i64 (T' j).2) = valsFlySpan (spL T' n) := by
  have e : spL T' n = (spL T n).set j (T' j) := by
    apply List.ext_getElem
    · simp [spL]
    · intro i h1 h2
      rw [spL_get, List.getElem_set]
      have hi : i ≤ n := by rw [spL_len] at h1; omega
      rw [h i hi]
      by_cases hij : j = i
      · subst hij; simp
      · rw [if_neg (fun e => hij e.symm), if_neg hij, spL_get]
  rw [e]
  have hl : j < (spL T n).length := by rw [spL_len]; omega
  generalize T' j = t
  generalize spL T n = l at *
  clear e h
  induction l generalizing j with
  | nil => simp at hl
  | cons a l ih =>
    cases j with
    | zero => simp [valsFlySpan_cons]
    | succ j =>
      have h2 := ih j (by omega) (by simpa using hl)
      rw [valsFlySpan_cons, show (j + 1) * 2 = j * 2 + 1 + 1 by omega, List.set_cons_succ, List.set_cons_succ, List.set_cons_succ, List.set_cons_succ, List.set_cons_succ, valsFlySpan_cons, h2]

theorem fwS_next (x : DFlyPath) (k j : Nat) (hk : k < x.2.1.length) (hj : j ≤ x.2.1.length) :
    fwS x (k + 1) j = if j = fwO x.2.1.length (k + 1) then fwT (fwS x k (fwO x.2.1.length (k + 1))) (fwS x k (fwO x.2.1.length k)) x.1.1 (mostAt x (min (fwO x.2.1.length k) (fwO x.2.1.length (k + 1)))) else fwS x k j := by
  unfold fwO
  by_cases e : j = k + 1
  · subst e
    rw [if_pos rfl, Nat.min_eq_left (by omega)]
    unfold fwS fwT
    rw [if_pos (Nat.le_refl _), if_neg (by omega), if_pos (Nat.le_refl _)]
    rfl
  · rw [if_neg e]
    unfold fwS
    by_cases h : j ≤ k
    · rw [if_pos h, if_pos (by omega)]
    · rw [if_neg h, if_neg (by omega)]
theorem bkS_next (x : DFlyPath) (k j : Nat) (hk : k < x.2.1.length) (hj : j ≤ x.2.1.length) :
    bkS x (k + 1) j = if j = bkO x.2.1.length (k + 1) then bkT (bkS x k (bkO x.2.1.length (k + 1))) (bkS x k (bkO x.2.1.length k)) x.1.1 (mostAt x (min (bkO x.2.1.length k) (bkO x.2.1.length (k + 1)))) else bkS x k j := by
  unfold bkO
  by_cases e : j = x.2.1.length - (k + 1)
  · subst e
    rw [if_pos rfl, Nat.min_eq_right (by omega)]
    unfold bkS bkT
    rw [if_pos (Nat.le_refl _), if_neg (by omega), if_pos (Nat.le_refl _), show x.2.1.length - (x.2.1.length - (k + 1)) = k + 1 by omega, show x.2.1.length - (x.2.1.length - k) = k by omega]
    rfl
  · rw [if_neg e]
    unfold bkS
    by_cases h : x.2.1.length - k ≤ j
    · rw [if_pos h, if_pos (by omega)]
    · rw [if_neg h, if_neg (by omega)]
theorem fwS_begin (x : DFlyPath) (j : Nat) : fwS x 0 j = (lowAt x j, highAt x j) := by
  unfold fwS
  by_cases h : j ≤ 0
  · rw [if_pos h]
    obtain rfl : j = 0 := by omega
    rfl
  · rw [if_neg h]
theorem fwS_end (x : DFlyPath) (j : Nat) (hj : j ≤ x.2.1.length) : fwS x x.2.1.length j = fw x j := by unfold fwS; rw [if_pos hj]
theorem bkS_begin (x : DFlyPath) (j : Nat) (hj : j ≤ x.2.1.length) : bkS x 0 j = fw x j := by
  unfold bkS
  by_cases h : x.2.1.length - 0 ≤ j
  · rw [if_pos h]
    obtain rfl : j = x.2.1.length := by omega
    rw [Nat.sub_self]
    rfl
  · rw [if_neg h]
theorem bkS_end (x : DFlyPath) (j : Nat) (hj : j ≤ x.2.1.length) : bkS x x.2.1.length j = bk x (x.2.1.length - j) := by unfold bkS; rw [if_pos (by omega)]

/-- All that becomes of the spans of a path that is ok stays small. -/
def Small (s : RFlySpan) : Prop := -1000000 ≤ s.1 ∧ s.1 ≤ 1000000 ∧ -1000000 ≤ s.2 ∧ s.2 ≤ 1000000
theorem most_range {x : DFlyPath} (hp : PathOk x) (k : Nat) : 1 ≤ mostAt x k ∧ mostAt x k ≤ 10000 := by
  have hk := kind_range hp
  unfold mostAt
  split
  · split <;> omega
  · omega
theorem win_full {x : DFlyPath} (hp : PathOk x) (k : Nat) : 0 ≤ lowAt x k ∧ lowAt x k ≤ 10000 ∧ 0 ≤ highAt x k ∧ highAt x k ≤ 10000 := by
  by_cases h : k < x.2.1.length
  · rw [lowAt_in h, highAt_in h]
    have h1 := (hp.2.2.1 k h).2.2.2.2.2
    unfold TicksOk at h1
    omega
  · rw [lowAt_end h, highAt_end h]
    have h1 := hp.2.2.2.2
    unfold TicksOk at h1
    omega
theorem fw_small {x : DFlyPath} (hp : PathOk x) : ∀ k, 0 ≤ (fw x k).1 ∧ (fw x k).1 ≤ 10000 + 50 * (k : Int) ∧ 0 ≤ (fw x k).2 ∧ (fw x k).2 ≤ 10000
  | 0 => by have := win_full hp 0; show 0 ≤ lowAt x 0 ∧ lowAt x 0 ≤ _ ∧ 0 ≤ highAt x 0 ∧ highAt x 0 ≤ _; omega
  | k + 1 => by
    have h := fw_small hp k
    have hw := win_full hp (k + 1)
    have hm := most_range hp k
    have hk := kind_range hp
    rw [fw_next]
    unfold fmx fmn
    simp only
    split <;> split <;> omega
theorem bk_small {x : DFlyPath} (hp : PathOk x) : ∀ d, d ≤ x.2.1.length → 0 ≤ (bk x d).1 ∧ (bk x d).1 ≤ 12000 ∧ -(50 * (d : Int)) ≤ (bk x d).2 ∧ (bk x d).2 ≤ 10000
  | 0, _ => by
    have h := fw_small hp x.2.1.length
    have hn := hp.2.1.2
    show 0 ≤ (fw x x.2.1.length).1 ∧ _ ∧ _ ≤ (fw x x.2.1.length).2 ∧ _
    simp only [bk]
    omega
  | d + 1, hd => by
    have h := bk_small hp d (by omega)
    have hf := fw_small hp (x.2.1.length - (d + 1))
    have hm := most_range hp (x.2.1.length - (d + 1))
    have hk := kind_range hp
    have hn := hp.2.1.2
    simp only [bk]
    unfold fmx fmn
    split <;> split <;> omega
theorem fwS_small {x : DFlyPath} (hp : PathOk x) (k j : Nat) (hj : j ≤ x.2.1.length) : Small (fwS x k j) := by
  have hn := hp.2.1.2
  unfold Small fwS
  split
  · have := fw_small hp j; omega
  · have := win_full hp j
    simp only
    omega
theorem bkS_small {x : DFlyPath} (hp : PathOk x) (k j : Nat) (hj : j ≤ x.2.1.length) : Small (bkS x k j) := by
  have hn := hp.2.1.2
  unfold Small bkS
  split
  · have := bk_small hp (x.2.1.length - j) (by omega); omega
  · have := fw_small hp j; omega
/-- What is empty on the way there is so in the end. -/
theorem bk_in_fw (x : DFlyPath) : ∀ d, d ≤ x.2.1.length → (fw x (x.2.1.length - d)).1 ≤ (bk x d).1 ∧ (bk x d).2 ≤ (fw x (x.2.1.length - d)).2
  | 0, _ => ⟨Int.le_refl _, Int.le_refl _⟩
  | d + 1, _ => ⟨fmx_ge _ _, fmn_le _ _⟩
theorem fwOk_of {x : DFlyPath} (h : BkOk x) : FwOk x := fun k hk => by
  have h1 := bk_in_fw x (x.2.1.length - k) (by omega)
  have h2 := h (x.2.1.length - k) (by omega)
  rw [show x.2.1.length - (x.2.1.length - k) = k by omega] at h1
  omega
theorem spans_range (x : DFlyPath) : ∀ k (h : k < (spansF x).1.length), 0 ≤ ((spansF x).1[k]'h).2 ∧ ((spansF x).1[k]'h).2 ≤ 10000 := by
  by_cases hp : PathOk x ∧ FwOk x ∧ BkOk x
  · rw [spans_yes hp.1 hp.2.1 hp.2.2]
    intro k hk
    have hk2 : k < (spansL x).length := hk
    rw [spansL_len] at hk2
    have e : (spansL x)[k]'hk = bk x (x.2.1.length - k) := by simp [spansL]
    show 0 ≤ ((spansL x)[k]'hk).2 ∧ ((spansL x)[k]'hk).2 ≤ 10000
    rw [e]
    have h1 := bk_small hp.1 (x.2.1.length - k) (by omega)
    have h2 := hp.2.2 (x.2.1.length - k) (by omega)
    omega
  · rw [spans_no hp]
    intro k hk
    simp at hk

end Fly
end Go.Proofs.Ytpjacfnjjkoikaa
