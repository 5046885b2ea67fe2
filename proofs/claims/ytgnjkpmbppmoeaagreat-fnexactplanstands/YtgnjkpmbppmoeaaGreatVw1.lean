/- DERIVED. Small helpers of the generated texts. -/
import Derived.Test.YtgnjkpmbppmoeaaGreatVw0
import Derived.Deep.RegionWith
namespace Go.Proofs.YtgnjkpmbppmoeaaGreat
open Go.RowKit
set_option linter.unusedSimpArgs false
set_option linter.unusedVariables false

/-- What is left of L behind a weight; -1 where it is too great. -/
def szR (L : Int) (wt : Nat) : Int := if (wt : Int) ≤ L then L - wt else -1

theorem szR_yes {L : Int} {wt : Nat} (h : (wt : Int) ≤ L) : szR L wt = L - wt := by simp [szR, h]
theorem szR_no {L : Int} {wt : Nat} (h : ¬ (wt : Int) ≤ L) : szR L wt = -1 := by simp only [szR, h, if_false]

theorem sum_take {α : Type} (f : α → Nat) (l : List α) (k : Nat) (h : k < l.length) : ((l.take (k + 1)).map f).sum = ((l.take k).map f).sum + f (l[k]'h) := by
  rw [List.take_succ_eq_append_getElem h, List.map_append, List.sum_append]
  simp only [List.map_cons, List.map_nil, List.sum_cons, List.sum_nil, Nat.add_zero]

theorem sum_le {α : Type} (f : α → Nat) (l : List α) (k : Nat) : ((l.take k).map f).sum ≤ (l.map f).sum := by
  have h : (l.map f).sum = ((l.take k).map f).sum + ((l.drop k).map f).sum := by
    rw [← List.sum_append, ← List.map_append, List.take_append_drop]
  omega

theorem sum_elem {α : Type} (f : α → Nat) (l : List α) (k : Nat) (h : k < l.length) : f (l[k]'h) ≤ (l.map f).sum := by
  have h1 := sum_take f l k h
  have h2 := sum_le f l (k + 1)
  omega

theorem bcell {W w1 : World} (hb : Below W.heap.size W w1) : (∀ b o, b < W.heap.size → w1.cell? ⟨b, o, none⟩ = W.cell? ⟨b, o, none⟩) ∧ (∀ b o, b < W.heap.size → w1.frozen? ⟨b, o, none⟩ = W.frozen? ⟨b, o, none⟩) :=
  ⟨fun b o h => hb.cell (p := ⟨b, o, none⟩) h, fun b o h => hb.frozen (p := ⟨b, o, none⟩) h⟩

end Go.Proofs.YtgnjkpmbppmoeaaGreat
