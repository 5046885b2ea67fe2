/- DERIVED. By gv.py (lists left out): data, view and the laws' own functions over PlanChange. -/
import Derived.Test.YtohgkiljdehefaaRows
import Derived.Test.YtohgkiljdehefaaVw1
namespace Go.Proofs.Ytohgkiljdehefaa
open Go.RowKit
set_option linter.unusedSimpArgs false
set_option linter.unusedVariables false

abbrev DPlanChange := ByteArray × Int × Int × ByteArray
def vPlanChange : View DPlanChange := vPair vStr (vPair vInt (vPair vInt vStr))
theorem vPlanChange_size : vPlanChange.size = 4 := rfl

theorem cells_PlanChange {ok : Nat → Prop} {w : World} {c : List Value} {x : DPlanChange} (h : vPlanChange.rel ok w c x) :
    c = [.string x.1, .int .i64 x.2.1, .int .i64 x.2.2.1, .string x.2.2.2] ∧ x.1.size ≤ maxLen ∧ In64 x.2.1 ∧ In64 x.2.2.1 ∧ x.2.2.2.size ≤ maxLen := by
  obtain ⟨c0, r0, rfl, ⟨rfl, p0⟩, c1, r1, rfl, ⟨rfl, p1⟩, c2, r2, rfl, ⟨rfl, p2⟩, rfl, p3⟩ := h
  exact ⟨rfl, p0, p1, p2, p3⟩

theorem mk_PlanChange {ok : Nat → Prop} {w : World} {x : DPlanChange} (p0 : x.1.size ≤ maxLen) (p1 : In64 x.2.1) (p2 : In64 x.2.2.1) (p3 : x.2.2.2.size ≤ maxLen) : vPlanChange.rel ok w [.string x.1, .int .i64 x.2.1, .int .i64 x.2.2.1, .string x.2.2.2] x :=
  ⟨[_], _, rfl, ⟨rfl, p0⟩, [_], _, rfl, ⟨rfl, p1⟩, [_], _, rfl, ⟨rfl, p2⟩, rfl, p3⟩

theorem elem_PlanChange {ok : Nat → Prop} {w : World} {ao : Option Addr} {cap : Nat} {l : List DPlanChange} (h : SliceAt vPlanChange ok w ao cap l) {i : Nat} (hi : i < l.length) :
    ∃ b off, ao = some ⟨b, off, none⟩ ∧ ok b ∧ w.cell? ⟨b, off + i * 4, none⟩ = some (.string (l[i]'hi).1) ∧ w.cell? ⟨b, off + i * 4 + 1, none⟩ = some (.int .i64 (l[i]'hi).2.1) ∧ w.cell? ⟨b, off + i * 4 + 2, none⟩ = some (.int .i64 (l[i]'hi).2.2.1) ∧ w.cell? ⟨b, off + i * 4 + 3, none⟩ = some (.string (l[i]'hi).2.2.2) ∧ (l[i]'hi).1.size ≤ maxLen ∧ In64 (l[i]'hi).2.1 ∧ In64 (l[i]'hi).2.2.1 ∧ (l[i]'hi).2.2.2.size ≤ maxLen := by
  obtain ⟨b, off, c, h1, h2, h3, h4⟩ := h.elem hi
  obtain ⟨rfl, p0, p1, p2, p3⟩ := cells_PlanChange h3
  exact ⟨b, off, h1, h2, h4 0 (by decide), h4 1 (by decide), h4 2 (by decide), h4 3 (by decide), p0, p1, p2, p3⟩

def wPlanChange (x : DPlanChange) : Nat := x.1.size + x.2.2.2.size
def wPlanChangeS (l : List DPlanChange) : Nat := l.length + (l.map wPlanChange).sum

set_option maxHeartbeats 400000 in
theorem szPlanChange_any (x : DPlanChange) (L : Int) (w : World) (h0 : 0 ≤ L) (h1 : L ≤ 1048576) (p0 : x.1.size ≤ maxLen) (p3 : x.2.2.2.size ≤ maxLen) :
    Calls Try.prog 15 #[.agg #[.string x.1, .int .i64 x.2.1, .int .i64 x.2.2.1, .string x.2.2.2], .int .i64 L] w fun e w' => e = .returned (.int .i64 (szR L (wPlanChange x))) ∧ Below w.heap.size w w' := by
  unfold maxLen at p0
  unfold maxLen at p3
  go_enter Try.func15, Try.ntmps15
  by_cases n0 : (x.1.size : Int) ≤ L
  · by_cases n3 : (x.2.2.2.size : Int) ≤ L - x.1.size
    · have HR : Hid (szR L (wPlanChange x) = L - x.1.size - x.2.2.2.size) := by
        have h : szR L (wPlanChange x) = L - (wPlanChange x : Nat) := szR_yes (by unfold wPlanChange; omega)
        show _ = _
        rw [h]; unfold wPlanChange; omega
      go_wp2
      go_ret
      exact ⟨by rw [HR.out]; rfl, by repeat (first | exact Below.refl _ _ | refine Below.alloc ?_ (by simp; try omega) _)⟩
    · have HR : Hid (szR L (wPlanChange x) = -1) := szR_no (by unfold wPlanChange; omega)
      go_wp2
      go_ret
      exact ⟨by rw [HR.out]; rfl, by repeat (first | exact Below.refl _ _ | refine Below.alloc ?_ (by simp; try omega) _)⟩
  · have HR : Hid (szR L (wPlanChange x) = -1) := szR_no (by unfold wPlanChange; omega)
    go_wp2
    go_ret
    exact ⟨by rw [HR.out]; rfl, by repeat (first | exact Below.refl _ _ | refine Below.alloc ?_ (by simp; try omega) _)⟩

theorem toPlanChange_any (x : DPlanChange) (w : World) :
    Calls Try.prog 17 #[.agg #[.string x.1, .int .i64 x.2.1, .int .i64 x.2.2.1, .string x.2.2.2]] w fun e w' => e = .returned (.agg #[.string x.1, .int .i64 x.2.1, .int .i64 x.2.2.1, .string x.2.2.2]) ∧ Below w.heap.size w w' := by
  go_enter Try.func17, Try.ntmps17
  go_wp2
  exact bodyPost_ret (v := .agg #[.string x.1, .int .i64 x.2.1, .int .i64 x.2.2.1, .string x.2.2.2]) (by simp [results, Try.results17, go_sem]) rfl ⟨rfl, by repeat (first | exact Below.refl _ _ | refine Below.alloc ?_ (by simp; try omega) _)⟩

end Go.Proofs.Ytohgkiljdehefaa
