/- DERIVED. What fits, on plain data. -/
import Derived.Test.YtohgkiljdehefaaGreatGXa
import Derived.Test.YtohgkiljdehefaaGreatPwD
namespace Go.Proofs.YtohgkiljdehefaaGreat
open Go.RowKit
set_option linter.unusedSimpArgs false
set_option linter.unusedVariables false

def HasNm {α : Type} (nm : α → ByteArray) (l : List α) (n : ByteArray) : Prop := ∃ i, ∃ h : i < l.length, nm (l[i]'h) = n
def NoNm {α : Type} (nm : α → ByteArray) (l : List α) (n : ByteArray) (k : Nat) : Prop := ∀ i (h : i < l.length), i < k → ¬ nm (l[i]'h) = n
theorem NoNm.next {α : Type} {nm : α → ByteArray} {l : List α} {n : ByteArray} {k : Nat} (h : NoNm nm l n k) (hk : k < l.length) (h1 : ¬ nm (l[k]'hk) = n) : NoNm nm l n (k + 1) := fun i hi h2 => by
  by_cases e : i = k
  · subst e; exact h1
  · exact h i hi (by omega)
theorem NoNm.all {α : Type} {nm : α → ByteArray} {l : List α} {n : ByteArray} (h : NoNm nm l n l.length) : ¬ HasNm nm l n := fun ⟨i, hi, h1⟩ => h i hi hi h1

abbrev nmK : DPlanKind → ByteArray := fun x => x.1
abbrev nmP : DPlanPoint → ByteArray := fun x => x.1

def TimeOk (ws : List ByteArray) : Prop := ∃ a b, ws = [a, b] ∧ DecOk a ∧ DecOk b ∧ decN a ≤ decN b ∧ decN b ≤ 10000
def LevelOk (v : ByteArray) : Prop := DecOk v ∧ InR (decN v) 1 6
def RouteTo (ps : List DPlanPoint) (ws : List ByteArray) (k : Nat) : Prop := ∀ i (h : i < ws.length), i < k → HasNm nmP ps (ws[i]'h) ∧ ∀ h0 : 0 < i, ¬ (ws[i - 1]'(by omega)) = ws[i]'h
def RouteOk (ps : List DPlanPoint) (ws : List ByteArray) : Prop := InR (ws.length : Int) 2 8 ∧ RouteTo ps ws ws.length
theorem RouteTo.zero {ps : List DPlanPoint} {ws : List ByteArray} : RouteTo ps ws 0 := fun i _ h => by omega
theorem RouteTo.next {ps : List DPlanPoint} {ws : List ByteArray} {k : Nat} (h : RouteTo ps ws k) (hk : k < ws.length) (h1 : HasNm nmP ps (ws[k]'hk)) (h2 : ∀ h0 : 0 < k, ¬ (ws[k - 1]'(by omega)) = ws[k]'hk) : RouteTo ps ws (k + 1) := fun i hi h3 => by
  by_cases e : i = k
  · subst e; exact ⟨h1, h2⟩
  · exact h i hi (by omega)
def openB : ByteArray := ⟨#[111, 112, 101, 110]⟩
def closedB : ByteArray := ⟨#[99, 108, 111, 115, 101, 100]⟩
def StateOk (v : ByteArray) : Prop := v = openB ∨ v = closedB

/-- What is said of thing 'what' fits, whether or not the base is ok. -/
def FitsAs (b : DPlanBase) (what : Int) (v : ByteArray) : Prop :=
  (what = 1 ∧ HasNm nmK b.1 v) ∨ (what = 2 ∧ TimeOk (wordsP v)) ∨ (what = 3 ∧ LevelOk v) ∨ (what = 4 ∧ RouteOk b.2 (wordsP v)) ∨ (what = 5 ∧ StateOk v)
def FitsOk (b : DPlanBase) (what : Int) (v : ByteArray) : Prop := BaseOk b ∧ FitsAs b what v
/-- Flight, What, Number, Value. -/
abbrev DChange := ByteArray × Int × Int × ByteArray
def ChangeOk (b : DPlanBase) (c : DChange) : Prop := NameOk c.1 ∧ InR c.2.2.1 1 1000000 ∧ FitsOk b c.2.1 c.2.2.2

theorem fits1 (b : DPlanBase) (v : ByteArray) : FitsAs b 1 v ↔ HasNm nmK b.1 v := by unfold FitsAs; simp
theorem fits2 (b : DPlanBase) (v : ByteArray) : FitsAs b 2 v ↔ TimeOk (wordsP v) := by unfold FitsAs; simp
theorem fits3 (b : DPlanBase) (v : ByteArray) : FitsAs b 3 v ↔ LevelOk v := by unfold FitsAs; simp
theorem fits4 (b : DPlanBase) (v : ByteArray) : FitsAs b 4 v ↔ RouteOk b.2 (wordsP v) := by unfold FitsAs; simp
theorem fits5 (b : DPlanBase) (v : ByteArray) : FitsAs b 5 v ↔ StateOk v := by unfold FitsAs; simp
theorem fits_no (b : DPlanBase) (what : Int) (v : ByteArray) (h : ¬ (1 ≤ what ∧ what ≤ 5)) : ¬ FitsAs b what v := by
  rintro (⟨h1, _⟩ | ⟨h1, _⟩ | ⟨h1, _⟩ | ⟨h1, _⟩ | ⟨h1, _⟩) <;> omega

end Go.Proofs.YtohgkiljdehefaaGreat
