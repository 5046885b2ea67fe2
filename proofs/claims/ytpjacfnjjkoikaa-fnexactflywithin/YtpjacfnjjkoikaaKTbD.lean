/- DERIVED. Tubes on plain data. -/
import Derived.Test.YtpjacfnjjkoikaaKFyD
import Derived.Test.YtpjacfnjjkoikaaKVFlyBox
namespace Go.Proofs.Ytpjacfnjjkoikaa
namespace Fly
open Go.RowKit
set_option linter.unusedSimpArgs false
set_option linter.unusedVariables false

abbrev vBo (b : DFlyBox) : Value := .agg #[.int .i64 b.1, .int .i64 b.2.1, .int .i64 b.2.2.1, .int .i64 b.2.2.2.1, .int .i64 b.2.2.2.2.1, .int .i64 b.2.2.2.2.2]
def HasB (b : DFlyBox) (x y lv t : Int) : Prop := b.1 = x ∧ b.2.1 = y ∧ InR lv b.2.2.1 b.2.2.2.1 ∧ InR t b.2.2.2.2.1 b.2.2.2.2.2
def Within (l : List DFlyBox) (x y lv t : Int) : Prop := ∃ i, ∃ h : i < l.length, HasB (l[i]'h) x y lv t
def NoneB (a : DFlyBox) : Prop := a.2.2.1 > a.2.2.2.1 ∨ a.2.2.2.2.1 > a.2.2.2.2.2
def CovB (b a : DFlyBox) : Prop := a.1 = b.1 ∧ a.2.1 = b.2.1 ∧ b.2.2.1 ≤ a.2.2.1 ∧ a.2.2.2.1 ≤ b.2.2.2.1 ∧ b.2.2.2.2.1 ≤ a.2.2.2.2.1 ∧ a.2.2.2.2.2 ≤ b.2.2.2.2.2
/-- A box has nothing, or one of the first k has all of it. -/
def InTo (a : DFlyBox) (l : List DFlyBox) (k : Nat) : Prop := NoneB a ∨ ∃ i, ∃ h : i < l.length, i < k ∧ CovB (l[i]'h) a
def Smaller (l m : List DFlyBox) : Prop := ∀ i (h : i < l.length), InTo (l[i]'h) m m.length
theorem InTo.zero {a : DFlyBox} {l : List DFlyBox} : InTo a l 0 ↔ NoneB a := ⟨fun h => h.elim id (fun ⟨_, _, h, _⟩ => absurd h (by omega)), .inl⟩
theorem InTo.more {a : DFlyBox} {l : List DFlyBox} {k : Nat} (h : InTo a l k) : InTo a l (k + 1) := h.elim .inl (fun ⟨i, h1, h2, h3⟩ => .inr ⟨i, h1, by omega, h3⟩)
theorem InTo.next {a : DFlyBox} {l : List DFlyBox} {k : Nat} (hk : k < l.length) (hn : ¬ InTo a l k) : InTo a l (k + 1) ↔ CovB (l[k]'hk) a := by
  constructor
  · rintro (h | ⟨i, h1, h2, h3⟩)
    · exact absurd (.inl h) hn
    · by_cases e : i = k
      · subst e; exact h3
      · exact absurd (.inr ⟨i, h1, by omega, h3⟩) hn
  · exact fun h => .inr ⟨k, hk, by omega, h⟩
theorem pb_iff {p q : Prop} (h : p ↔ q) : pb p = pb q := by
  by_cases hq : q
  · rw [pb_yes hq, pb_yes (h.2 hq)]
  · rw [pb_no hq, pb_no (fun hp => hq (h.1 hp))]

end Fly
end Go.Proofs.Ytpjacfnjjkoikaa
