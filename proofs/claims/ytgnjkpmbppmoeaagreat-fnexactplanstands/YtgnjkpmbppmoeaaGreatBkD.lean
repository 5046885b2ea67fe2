/- DERIVED. What a book of plans is, on plain data. -/
import Derived.Test.YtgnjkpmbppmoeaaGreatGVb
import Derived.Test.YtgnjkpmbppmoeaaGreatGPw
namespace Go.Proofs.YtgnjkpmbppmoeaaGreat
open Go.RowKit
set_option linter.unusedSimpArgs false
set_option linter.unusedVariables false

/-- The first k of an entry's fields are ok, and what they say ascends. -/
def FldTo (x : DPlanBase) (n : ByteArray) (fs : List DPlanField) (k : Nat) : Prop := ∀ j (h : j < fs.length), j < k → ChangeOk x (n, fs[j]'h) ∧ ∀ h0 : 0 < j, (fs[j - 1]'(by omega)).1 < (fs[j]'h).1
def EntOk (x : DPlanBase) (e : DPlanEntry) : Prop := NameOk e.1 ∧ 0 < e.2.length ∧ FldTo x e.1 e.2 e.2.length
def BookOk (b : DPlanBook) : Prop := BaseOk b.1 ∧ b.2.length ≤ 12 ∧ RowTo (EntOk b.1) (fun e : DPlanEntry => e.1) b.2 b.2.length

theorem FldTo.zero {x : DPlanBase} {n : ByteArray} {fs : List DPlanField} : FldTo x n fs 0 := fun j _ h => by omega
theorem FldTo.next {x : DPlanBase} {n : ByteArray} {fs : List DPlanField} {k : Nat} (h : FldTo x n fs k) (hk : k < fs.length) (h1 : ChangeOk x (n, fs[k]'hk)) (h2 : ∀ h0 : 0 < k, (fs[k - 1]'(by omega)).1 < (fs[k]'hk).1) : FldTo x n fs (k + 1) := fun j hj h3 => by
  by_cases e : j = k
  · subst e; exact ⟨h1, h2⟩
  · exact h j hj (by omega)
theorem fld_small {fs : List DPlanField} (h : wPlanFieldS fs ≤ 1048576) {k : Nat} (hk : k < fs.length) : (fs[k]'hk).2.2.size ≤ 1048576 := by
  have h1 := sum_elem wPlanField fs k hk
  unfold wPlanFieldS at h
  have h2 : wPlanField (fs[k]'hk) = (fs[k]'hk).2.2.size := rfl
  omega
theorem ent_small {es : List DPlanEntry} (h : wPlanEntryS es ≤ 1048576) {k : Nat} (hk : k < es.length) : wPlanFieldS (es[k]'hk).2 ≤ 1048576 := by
  have h1 := sum_elem wPlanEntry es k hk
  unfold wPlanEntryS at h
  have h2 : wPlanEntry (es[k]'hk) = (es[k]'hk).1.size + wPlanFieldS (es[k]'hk).2 := rfl
  omega

end Go.Proofs.YtgnjkpmbppmoeaaGreat
