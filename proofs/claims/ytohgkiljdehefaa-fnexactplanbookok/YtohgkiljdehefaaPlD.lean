/- DERIVED. What a base of plans is, on plain data. -/
import Derived.Test.YtohgkiljdehefaaVPlanBase
import Derived.Test.YtohgkiljdehefaaNmD
import Derived.Test.YtohgkiljdehefaaPbD
namespace Go.Proofs.Ytohgkiljdehefaa
open Go.RowKit
set_option linter.unusedSimpArgs false
set_option linter.unusedVariables false

def KindOk (k : DPlanKind) : Prop := NameOk k.1 ∧ InR k.2.1 1 k.2.2 ∧ k.2.2 ≤ 50
def PtOk (p : DPlanPoint) : Prop := NameOk p.1 ∧ InR p.2.1 0 15 ∧ InR p.2.2 0 15
/-- The first k of a list are ok, and their names ascend. -/
def RowTo {α : Type} (ok : α → Prop) (nm : α → ByteArray) (l : List α) (k : Nat) : Prop := ∀ j (h : j < l.length), j < k → ok (l[j]'h) ∧ ∀ h0 : 0 < j, SLess (nm (l[j - 1]'(by omega))) (nm (l[j]'h))
/-- None of the first m points is in point k's cell. -/
def NoneAt (ps : List DPlanPoint) (k m : Nat) : Prop := ∀ t (ht : t < ps.length) (hk : k < ps.length), t < m → ¬ ((ps[t]'ht).2.1 = (ps[k]'hk).2.1 ∧ (ps[t]'ht).2.2 = (ps[k]'hk).2.2)
/-- Of the first k points no two are in one cell. -/
def ApartTo (ps : List DPlanPoint) (k : Nat) : Prop := ∀ j, j < k → NoneAt ps j j
def BaseOk (b : DPlanBase) : Prop := (b.1.length ≤ 6 ∧ b.2.length ≤ 16) ∧ RowTo KindOk (fun x : DPlanKind => x.1) b.1 b.1.length ∧ RowTo PtOk (fun x : DPlanPoint => x.1) b.2 b.2.length ∧ ApartTo b.2 b.2.length

theorem RowTo.zero {α : Type} {ok : α → Prop} {nm : α → ByteArray} {l : List α} : RowTo ok nm l 0 := fun j _ h => by omega
theorem RowTo.next {α : Type} {ok : α → Prop} {nm : α → ByteArray} {l : List α} {k : Nat} (h : RowTo ok nm l k) (hk : k < l.length) (h1 : ok (l[k]'hk)) (h2 : ∀ h0 : 0 < k, SLess (nm (l[k - 1]'(by omega))) (nm (l[k]'hk))) : RowTo ok nm l (k + 1) := fun j hj h3 => by
  by_cases e : j = k
  · subst e; exact ⟨h1, h2⟩
  · exact h j hj (by omega)
theorem RowTo.mono {α : Type} {ok : α → Prop} {nm : α → ByteArray} {l : List α} {k m : Nat} (h : RowTo ok nm l k) (hm : m ≤ k) : RowTo ok nm l m := fun j hj h3 => h j hj (by omega)
theorem ApartTo.zero {ps : List DPlanPoint} : ApartTo ps 0 := fun j h => by omega
theorem ApartTo.next {ps : List DPlanPoint} {k : Nat} (h : ApartTo ps k) (h1 : NoneAt ps k k) : ApartTo ps (k + 1) := fun j h3 => by
  by_cases e : j = k
  · subst e; exact h1
  · exact h j (by omega)

abbrev kindCells (k : DPlanKind) : Array Value := #[.string k.1, .int .i64 k.2.1, .int .i64 k.2.2]
abbrev ptCells (k : DPlanPoint) : Array Value := #[.string k.1, .int .i64 k.2.1, .int .i64 k.2.2]

end Go.Proofs.Ytohgkiljdehefaa
