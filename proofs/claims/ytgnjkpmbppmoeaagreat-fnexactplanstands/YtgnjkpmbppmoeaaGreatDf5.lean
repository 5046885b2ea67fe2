/- DERIVED. What a draft is behind some fields, on plain data. -/
import Derived.Test.YtgnjkpmbppmoeaaGreatDf4
import Derived.Test.YtgnjkpmbppmoeaaGreatBkD
namespace Go.Proofs.YtgnjkpmbppmoeaaGreat
namespace Std
open Go.RowKit
set_option linter.unusedSimpArgs false
set_option linter.unusedVariables false

def NoF (fs : List DPlanField) (wh : Int) (k : Nat) : Prop := ∀ j (h : j < fs.length), j < k → ¬ (fs[j]'h).1 = wh
/-- A draft says what a value says of a thing. -/
structure SaysD (x : DPlanBase) (d : DDraft) (wh : Int) (v : ByteArray) : Prop where
  k : wh = 1 → d.k = findD nmK zK x.1 v
  f : wh = 2 → d.f = decZ ((wordsP v).getD 0 ByteArray.empty)
  b : wh = 2 → d.b = decZ ((wordsP v).getD 1 ByteArray.empty)
  l : wh = 3 → d.l = decZ v
  r : wh = 4 → d.r = wordsP v
  c : wh = 5 → d.c = decide (v = closB)
structure DftTo (x : DPlanBase) (fs : List DPlanField) (k : Nat) (d : DDraft) : Prop where
  m : ∀ wh, 1 ≤ wh → wh ≤ 4 → (wh ∈ d.m ↔ NoF fs wh k)
  s : ∀ j (h : j < fs.length), j < k → SaysD x d (fs[j]'h).1 (fs[j]'h).2.2
  c : NoF fs 5 k → d.c = false
  v : ∀ a ∈ d.m, 1 ≤ a ∧ a ≤ 4
  nd : d.m.Nodup
theorem DftTo.zero (x : DPlanBase) (fs : List DPlanField) : DftTo x fs 0 draft0 where
  m := fun wh h1 h2 => ⟨fun _ j _ h => by omega, fun _ => by
    obtain rfl | rfl | rfl | rfl : wh = 1 ∨ wh = 2 ∨ wh = 3 ∨ wh = 4 := by omega
    all_goals decide⟩
  s := fun j _ h => by omega
  c := fun _ => rfl
  v := by decide
  nd := by decide
theorem noF_next {fs : List DPlanField} {wh : Int} {k : Nat} (hk : k < fs.length) : NoF fs wh (k + 1) ↔ NoF fs wh k ∧ ¬ (fs[k]'hk).1 = wh := by
  constructor
  · exact fun h => ⟨fun j hj h1 => h j hj (by omega), h k hk (by omega)⟩
  · rintro ⟨h1, h2⟩ j hj h3
    by_cases e : j = k
    · subst e; exact h2
    · exact h1 j hj (by omega)
theorem mem_er {m : List Int} (hn : m.Nodup) (a b : Int) : a ∈ m.erase b ↔ a ≠ b ∧ a ∈ m := hn.mem_erase_iff
theorem DftTo.next {x : DPlanBase} {fs : List DPlanField} {k : Nat} {d : DDraft} (h : DftTo x fs k d) (hk : k < fs.length) {wh nu : Int} {v : ByteArray} (hf : fs[k]'hk = (wh, nu, v)) (h1 : 1 ≤ wh) (h5 : wh ≤ 5) (hn : NoF fs wh k) : DftTo x fs (k + 1) (hearD x d wh v) := by
  have e0 : (fs[k]'hk).1 = wh := by rw [hf]
  have e2 : (fs[k]'hk).2.2 = v := by rw [hf]
  have hs0 : ∀ d', (∀ j (h : j < fs.length), j < k → SaysD x d' (fs[j]'h).1 (fs[j]'h).2.2) → SaysD x d' wh v → ∀ j (h : j < fs.length), j < k + 1 → SaysD x d' (fs[j]'h).1 (fs[j]'h).2.2 := fun d' a b j hj hj1 => by
    by_cases e : j = k
    · subst e; rw [e0, e2]; exact b
    · exact a j hj (by omega)
  have hm : ∀ w', NoF fs w' (k + 1) ↔ NoF fs w' k ∧ ¬ wh = w' := fun w' => by rw [noF_next hk, e0]
  obtain rfl | rfl | rfl | rfl | rfl : wh = 1 ∨ wh = 2 ∨ wh = 3 ∨ wh = 4 ∨ wh = 5 := by omega
  all_goals
    unfold hearD
    simp only [↓reduceIte, (by decide : ¬ (2 : Int) = 1), (by decide : ¬ (3 : Int) = 1), (by decide : ¬ (3 : Int) = 2), (by decide : ¬ (4 : Int) = 1), (by decide : ¬ (4 : Int) = 2), (by decide : ¬ (4 : Int) = 3), (by decide : ¬ (5 : Int) = 1), (by decide : ¬ (5 : Int) = 2), (by decide : ¬ (5 : Int) = 3), (by decide : ¬ (5 : Int) = 4)]
    refine ⟨fun w' a b => ?_, hs0 _ (fun j hj hjk => ?_) ?_, fun a => ?_, fun a ha => ?_, ?_⟩
  all_goals first
    | exact h.nd
    | exact h.nd.erase _
    | (show w' ∈ d.m.erase _ ↔ _; rw [mem_er h.nd, hm, h.m w' a b]; exact ⟨fun ⟨p, q⟩ => ⟨q, fun e => p e.symm⟩, fun ⟨p, q⟩ => ⟨fun e => q e.symm, p⟩⟩)
    | (show w' ∈ d.m ↔ _; rw [hm, h.m w' a b]; exact ⟨fun p => ⟨p, by omega⟩, fun p => p.1⟩; done)
    | (have g := h.s j hj hjk; have g1 := hn j hj hjk; exact ⟨by first | exact g.k | exact fun e => absurd e g1, by first | exact g.f | exact fun e => absurd e g1, by first | exact g.b | exact fun e => absurd e g1, by first | exact g.l | exact fun e => absurd e g1, by first | exact g.r | exact fun e => absurd e g1, by first | exact g.c | exact fun e => absurd e g1⟩; done)
    | (exact ⟨by intro e; first | rfl | omega, by intro e; first | rfl | omega, by intro e; first | rfl | omega, by intro e; first | rfl | omega, by intro e; first | rfl | omega, by intro e; first | rfl | omega⟩; done)
    | (exact h.c ((hm 5).1 a).1; done)
    | (exact absurd rfl ((hm 5).1 a).2; done)
    | (exact h.v a (List.mem_of_mem_erase ha); done)
    | (exact h.v a ha; done)

theorem fld_asc {x : DPlanBase} {n : ByteArray} {fs : List DPlanField} (h : FldTo x n fs fs.length) : ∀ (d j : Nat) (hj : j + (d + 1) < fs.length), (fs[j]'(by omega)).1 < (fs[j + (d + 1)]'hj).1
  | 0, j, hj => (h (j + 1) hj hj).2 (by omega)
  | d + 1, j, hj => Int.lt_trans (fld_asc h d j (by omega)) ((h (j + (d + 1) + 1) hj hj).2 (by omega))
theorem fld_noF {x : DPlanBase} {n : ByteArray} {fs : List DPlanField} (h : FldTo x n fs fs.length) {k : Nat} (hk : k < fs.length) : NoF fs (fs[k]'hk).1 k := fun j hj hjk e => by
  obtain ⟨d, rfl⟩ : ∃ d, k = j + (d + 1) := ⟨k - j - 1, by omega⟩
  have := fld_asc h d j hk
  omega
theorem fits_in {x : DPlanBase} {wh : Int} {v : ByteArray} (h : FitsAs x wh v) : 1 ≤ wh ∧ wh ≤ 5 := by
  rcases h with ⟨rfl, _⟩ | ⟨rfl, _⟩ | ⟨rfl, _⟩ | ⟨rfl, _⟩ | ⟨rfl, _⟩ <;> exact ⟨by decide, by decide⟩

/-- A flight: name, kind, from, by, level, route. -/
abbrev DFlight := ByteArray × DPlanKind × Int × Int × Int × List ByteArray
def zF : DFlight := (ByteArray.empty, (ByteArray.empty, 0, 0), 0, 0, 0, [])
def outD (nm : ByteArray) (d : DDraft) : DFlight × Bool := if d.m.length = 0 ∧ d.c = false then ((nm, d.k, d.f, d.b, d.l, d.r), true) else (zF, false)
def flV (f : DFlight) (rv : Value) : Value := .agg #[.string f.1, .string f.2.1.1, .int .i64 f.2.1.2.1, .int .i64 f.2.1.2.2, .int .i64 f.2.2.1, .int .i64 f.2.2.2.1, .int .i64 f.2.2.2.2.1, rv]
def GivesF (o : DFlight × Bool) (w : World) (e : Ending) (w' : World) : Prop :=
  ∃ rv, e = .returned (.tuple #[flV o.1 rv, .bool o.2]) ∧ w'.ownsRow w.heap.size 9 1 rv o.1.2.2.2.2.2.length (strB o.1.2.2.2.2.2) ∧ Below w.heap.size w w'

end Std
end Go.Proofs.YtgnjkpmbppmoeaaGreat
