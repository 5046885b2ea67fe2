/- DERIVED. By gv.py: data, view and the laws' own functions over FlyKind. -/
import Derived.Test.YtfjeiegoblaadaaRows
import Derived.Test.YtfjeiegoblaadaaVw1
namespace Go.Proofs.Ytfjeiegoblaadaa
open Go.RowKit
set_option linter.unusedSimpArgs false
set_option linter.unusedVariables false

abbrev DFlyKind := Int × Int
def vFlyKind : View DFlyKind := vPair vInt vInt
theorem vFlyKind_size : vFlyKind.size = 2 := rfl

theorem cells_FlyKind {ok : Nat → Prop} {w : World} {c : List Value} {x : DFlyKind} (h : vFlyKind.rel ok w c x) :
    c = [.int .i64 x.1, .int .i64 x.2] ∧ In64 x.1 ∧ In64 x.2 := by
  obtain ⟨c0, r0, rfl, ⟨rfl, p0⟩, rfl, p1⟩ := h
  exact ⟨rfl, p0, p1⟩

theorem mk_FlyKind {ok : Nat → Prop} {w : World} {x : DFlyKind} (p0 : In64 x.1) (p1 : In64 x.2) : vFlyKind.rel ok w [.int .i64 x.1, .int .i64 x.2] x :=
  ⟨[_], _, rfl, ⟨rfl, p0⟩, rfl, p1⟩

theorem elem_FlyKind {ok : Nat → Prop} {w : World} {ao : Option Addr} {cap : Nat} {l : List DFlyKind} (h : SliceAt vFlyKind ok w ao cap l) {i : Nat} (hi : i < l.length) :
    ∃ b off, ao = some ⟨b, off, none⟩ ∧ ok b ∧ w.cell? ⟨b, off + i * 2, none⟩ = some (.int .i64 (l[i]'hi).1) ∧ w.cell? ⟨b, off + i * 2 + 1, none⟩ = some (.int .i64 (l[i]'hi).2) ∧ In64 (l[i]'hi).1 ∧ In64 (l[i]'hi).2 := by
  obtain ⟨b, off, c, h1, h2, h3, h4⟩ := h.elem hi
  obtain ⟨rfl, p0, p1⟩ := cells_FlyKind h3
  exact ⟨b, off, h1, h2, h4 0 (by decide), h4 1 (by decide), p0, p1⟩

def wFlyKindS (l : List DFlyKind) : Nat := l.length

theorem toFlyKind_any (x : DFlyKind) (w : World) :
    Calls Try.prog 8 #[.agg #[.int .i64 x.1, .int .i64 x.2]] w fun e w' => e = .returned (.agg #[.int .i64 x.1, .int .i64 x.2]) ∧ Below w.heap.size w w' := by
  go_enter Try.func8, Try.ntmps8
  go_wp2
  exact bodyPost_ret (v := .agg #[.int .i64 x.1, .int .i64 x.2]) (by simp [results, Try.results8, go_sem]) rfl ⟨rfl, by repeat (first | exact Below.refl _ _ | refine Below.alloc ?_ (by simp; try omega) _)⟩

set_option maxHeartbeats 400000 in
theorem eqFlyKind_any (x : DFlyKind) (w : World) :
    Calls Try.prog 31 #[.agg #[.int .i64 x.1, .int .i64 x.2], .agg #[.int .i64 x.1, .int .i64 x.2]] w fun e w' => e = .returned (.bool true) ∧ Below w.heap.size w w' := by
  go_enter Try.func31, Try.ntmps31
  go_wp2
  go_ret
  exact ⟨rfl, by repeat (first | exact Below.refl _ _ | refine Below.alloc ?_ (by simp; try omega) _)⟩

end Go.Proofs.Ytfjeiegoblaadaa
