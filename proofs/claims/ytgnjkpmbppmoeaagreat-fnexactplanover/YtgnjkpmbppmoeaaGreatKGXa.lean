/- DERIVED. Names, and numbers within bounds, on plain data. -/
import Derived.Test.YtgnjkpmbppmoeaaGreatKGVw
import Derived.Test.YtgnjkpmbppmoeaaGreatKGVa
namespace Go.Proofs.YtgnjkpmbppmoeaaGreat
open Go.RowKit
set_option linter.unusedSimpArgs false
set_option linter.unusedVariables false

def NameByte (c : UInt8) : Prop := (97 ≤ c.toNat ∧ c.toNat ≤ 122) ∨ (48 ≤ c.toNat ∧ c.toNat ≤ 57) ∨ c.toNat = 45
def NameOk (s : ByteArray) : Prop := 1 ≤ s.size ∧ s.size ≤ 8 ∧ ∀ i (h : i < s.size), NameByte (s[i]'h)
def SLess (a b : ByteArray) : Prop := Op.bytesLess a.toList b.toList = true
def InR (n lo hi : Int) : Prop := lo ≤ n ∧ n ≤ hi

end Go.Proofs.YtgnjkpmbppmoeaaGreat

/- DERIVED. Bools of propositions, texts that are the same, boxes: plain helpers. -/
namespace Go.Proofs.YtgnjkpmbppmoeaaGreat
open Go.RowKit
set_option linter.unusedSimpArgs false
set_option linter.unusedVariables false

/-- Whether something holds, as a bool. -/
noncomputable def pb (p : Prop) : Bool := @decide p (Classical.propDecidable p)
theorem pb_iff {p : Prop} : pb p = true ↔ p := by unfold pb; simp
theorem pb_yes {p : Prop} (h : p) : pb p = true := pb_iff.2 h
theorem pb_no {p : Prop} (h : ¬ p) : pb p = false := by
  cases e : pb p
  · rfl
  · exact absurd (pb_iff.1 e) h
theorem pb_same {p q : Prop} (h : p ↔ q) : pb p = pb q := by rw [propext h]

/-- Texts are the same just if their bytes are. -/
theorem beqL {a b : ByteArray} : (a.toList == b.toList) = true ↔ a = b := by
  constructor
  · intro h
    have h1 : a.toList = b.toList := beq_iff_eq.1 h
    rw [ByteArray.toList_eq, ByteArray.toList_eq] at h1
    exact ByteArray.ext (Array.ext' h1)
  · rintro rfl
    exact beq_iff_eq.2 rfl
theorem beqL_no {a b : ByteArray} (h : ¬ a = b) : (a.toList == b.toList) = false := by
  cases e : a.toList == b.toList
  · rfl
  · exact absurd (beqL.1 e) h

/-- A box holds these values. -/
def BxC (b : Nat) (cs : Array Value) (W : World) : Prop := ∀ i, W.cell? ⟨b, i, none⟩ = cs[i]?
theorem BxC.below {b n : Nat} {cs : Array Value} {w w' : World} (h : BxC b cs w) (hb : Below n w w') (hn : b < n) : BxC b cs w' := fun i => (hb.cell (p := ⟨b, i, none⟩) hn).trans (h i)
theorem BxC.new (w : World) (cs : Array Value) (t : TypeId) : BxC w.heap.size cs (w.alloc (.cells cs t)) := fun i => by
  unfold World.cell?
  rw [show (w.alloc (.cells cs t)).heap[w.heap.size]? = some (.cells cs t (0, 0)) from heap_alloc_new w _]
  rfl

theorem box_in {w wr : World} {cs : Array Value} {t : TypeId} (h : Below (w.alloc (.cells cs t)).heap.size (w.alloc (.cells cs t)) wr) (i : Nat) : wr.cell? ⟨w.heap.size, i, none⟩ = cs[i]? := by
  rw [h.cell (p := ⟨w.heap.size, i, none⟩) (by simp)]
  have : (w.alloc (.cells cs t)).heap[w.heap.size]? = some (.cells cs t (0, 0)) := heap_alloc_new w _
  unfold World.cell?
  simp only [this]
  rfl

end Go.Proofs.YtgnjkpmbppmoeaaGreat

/- DERIVED. What a base of plans is, on plain data. -/
namespace Go.Proofs.YtgnjkpmbppmoeaaGreat
open Go.RowKit
set_option linter.unusedSimpArgs false
set_option linter.unusedVariables false

def KindOk (k : DPlanKind) : Prop := NameOk k.1 ∧ InR k.2.1 1 k.2.2 ∧ k.2.2 ≤ 50
def PtOk (p : DPlanPoint) : Prop := NameOk p.1 ∧ InR p.2.1 0 15 ∧ InR p.2.2 0 15
/-- The first k of a list are ok, and their names ascend. -/
def RowTo {α : Type} (ok : α → Prop) (nm : α → ByteArray) (l : List α) (k : Nat) : Prop := ∀ j (h : j < l.length), j < k → ok (l[j]'h) ∧ ∀ h0 : 0 < j, SLess (nm (l[j - 1]'(by omega))) (nm (l[j]'h))
/-- None of the first m points is in point k's cell. -/
def NoneAt (ps : List DPlanPoint) (k m : Nat) : Prop := ∀ t (ht : t < ps.length) (hk : k < ps.length), t < m → ¬ ((ps[t]'ht).2.1 = (ps[k]'hk).2.1 ∧ (ps[t]'ht).2.2 = (ps[k]'hk).2.2)
/-- Of the first k points no two are in one cell. -/
def ApartTo (ps : List DPlanPoint) (k : Nat) : Prop := ∀ j, j < k → NoneAt ps j j
def BaseOk (b : DPlanBase) : Prop := (b.1.length ≤ 6 ∧ b.2.length ≤ 16) ∧ RowTo KindOk (fun x : DPlanKind => x.1) b.1 b.1.length ∧ RowTo PtOk (fun x : DPlanPoint => x.1) b.2 b.2.length ∧ ApartTo b.2 b.2.length

theorem RowTo.zero {α : Type} {ok : α → Prop} {nm : α → ByteArray} {l : List α} : RowTo ok nm l 0 := fun j _ h => by omega
theorem RowTo.next {α : Type} {ok : α → Prop} {nm : α → ByteArray} {l : List α} {k : Nat} (h : RowTo ok nm l k) (hk : k < l.length) (h1 : ok (l[k]'hk)) (h2 : ∀ h0 : 0 < k, SLess (nm (l[k - 1]'(by omega))) (nm (l[k]'hk))) : RowTo ok nm l (k + 1) := fun j hj h3 => by
  by_cases e : j = k
  · subst e; exact ⟨h1, h2⟩
  · exact h j hj (by omega)
theorem RowTo.mono {α : Type} {ok : α → Prop} {nm : α → ByteArray} {l : List α} {k m : Nat} (h : RowTo ok nm l k) (hm : m ≤ k) : RowTo ok nm l m := fun j hj h3 => h j hj (by omega)
theorem ApartTo.zero {ps : List DPlanPoint} : ApartTo ps 0 := fun j h => by omega
theorem ApartTo.next {ps : List DPlanPoint} {k : Nat} (h : ApartTo ps k) (h1 : NoneAt ps k k) : ApartTo ps (k + 1) := fun j h3 => by
  by_cases e : j = k
  · subst e; exact h1
  · exact h j (by omega)

abbrev kindCells (k : DPlanKind) : Array Value := #[.string k.1, .int .i64 k.2.1, .int .i64 k.2.2]
abbrev ptCells (k : DPlanPoint) : Array Value := #[.string k.1, .int .i64 k.2.1, .int .i64 k.2.2]

end Go.Proofs.YtgnjkpmbppmoeaaGreat
