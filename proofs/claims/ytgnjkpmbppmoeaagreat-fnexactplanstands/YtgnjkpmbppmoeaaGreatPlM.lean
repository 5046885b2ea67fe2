/- DERIVED. A map from cells to numbers: which cells are there, and how many. -/
import Derived.Test.YtgnjkpmbppmoeaaGreatGXa
import Derived.Test.YtgnjkpmbppmoeaaGreatIM0
import Derived.Test.YtgnjkpmbppmoeaaGreatGNm
import Derived.DeepKeys4
import Derived.RegionTactic
import Derived.BigRegion
namespace Go.Proofs.YtgnjkpmbppmoeaaGreat
namespace Pm
open Go.RowKit Go.Maps
open Go.WideMaps (KeyLaw)
set_option linter.unusedSimpArgs false
set_option linter.unusedVariables false

abbrev Cell := Int × Int
def InC (s : Cell) : Prop := In64 s.1 ∧ In64 s.2
abbrev cellVal (s : Cell) : Value := .agg #[.int .i64 s.1, .int .i64 s.2]
def cellLit (s : Cell) : Lit := .string (keyBytes [.int .i64 s.1, .int .i64 s.2])

theorem laid : laidOutB Tryz.prog = true := by kernel_rfl
theorem row : (84 : TypeId) < Tryz.prog.types.size := of_decide_eq_true (by kernel_rfl)
theorem wide : (match Tryz.prog.underlying 84 with | some (.array _ _) | some (.struct _) => true | _ => false) = true := by rw [Tryz.underlying84]
set_option maxRecDepth 100000 in
theorem cellLaw : KeyLaw Tryz.prog 84 := deep_law_laid laid (m := 2) (by omega) row (by kernel_rfl) wide
theorem mapT : Tryz.prog.underlying 182 = some (.map 84 3) := by kernel_rfl
theorem intT : Tryz.prog.underlying 3 = some (.int .i64) := by kernel_rfl
theorem intZ (u : World) : (zeroValue 3).run Tryz.prog u = .ok (.int .i64 0) u := by kernel_rfl

theorem wf64 {x : Int} (h : In64 x) : (Lit.int .i64 x).wf = true := by
  simpa [In64, Lit.wf, IntKind.min, IntKind.max, IntKind.signed, IntKind.bits] using h

theorem litInt (d : Nat) {x : Int} (h : In64 x) : Tryz.prog.keyLits (d + 1) 3 [.int .i64 x] = some [.int .i64 x] := by
  have := wf64 h
  simp [Program.keyLits, intT, this]

theorem cellCells : Tryz.prog.cellsOf 84 = 2 := by kernel_rfl
theorem intCells : Tryz.prog.cellsOf 3 = 1 := by kernel_rfl
theorem succ_of_lt {k n : Nat} (h : k < n) : ∃ d, n = d + 1 := ⟨n - 1, by omega⟩
theorem types : ∃ d, Tryz.prog.types.size = d + 1 := succ_of_lt row
theorem keyT : Tryz.prog.keyType 84 = true := by kernel_rfl

theorem cellKey (s : Cell) (h : InC s) : keyOf Tryz.prog 84 (cellVal s) = some (cellLit s) := by
  obtain ⟨x, y⟩ := s
  obtain ⟨h1, h2⟩ := h
  obtain ⟨d, hd⟩ := types
  have hf : (Value.agg #[.int .i64 x, .int .i64 y]).formed Tryz.prog 84 = true := by simp [Value.formed, Tryz.underlying84, cellCells]
  have hl : Tryz.prog.keyLits (Tryz.prog.types.size + 1) 84 [.int .i64 x, .int .i64 y] = some [.int .i64 x, .int .i64 y] := by
    rw [hd]
    unfold Program.keyLits
    rw [Tryz.underlying84]
    simp only [cellCells]
    simp [intCells, litInt d h1, litInt d h2]
  unfold keyOf
  rw [Tryz.underlying84]
  simp only [keyT, hf, Bool.and_self, if_true]
  show Option.map _ (Tryz.prog.keyLits (Tryz.prog.types.size + 1) 84 [.int .i64 x, .int .i64 y]) = _
  rw [hl]
  rfl

theorem cellInj {s t : Cell} (hs : InC s) (ht : InC t) (h : cellLit s = cellLit t) : s = t := by
  have := cellLaw.inj (cellKey s hs) (h ▸ cellKey t ht)
  obtain ⟨x, y⟩ := s
  obtain ⟨x', y'⟩ := t
  simpa using this

theorem cellIsKey (s : Cell) (h : InC s) : WideAt.IsKeyLit (cellLit s) := (Keyed.of_law cellLaw).key (cellKey s h)

/-- The cells of the first k points. -/
def CellOf (ps : List DPlanPoint) (k : Nat) (s : Cell) : Prop := ∃ j, ∃ h : j < ps.length, j < k ∧ s = (ps[j]'h).2

/-- The map has just the cells of the first k points, each with a number from 1 to k; they are k just if no two are the same. -/
def Has (D : DataW Unit) (ps : List DPlanPoint) (k : Nat) : Prop :=
  (∀ s, InC s → Maps.has D (cellLit s) = pb (CellOf ps k s)) ∧ (∀ s, InC s → ∃ c : Int, D.atKey (cellLit s) (.lit (.int .i64 0)) = .lit (.int .i64 c) ∧ 0 ≤ c ∧ c ≤ k) ∧ Maps.size D ≤ k ∧ (Maps.size D = k ↔ ApartTo ps k)

theorem cellOf_next {ps : List DPlanPoint} {k : Nat} (h : k < ps.length) (s : Cell) : CellOf ps (k + 1) s ↔ CellOf ps k s ∨ s = (ps[k]'h).2 := by
  constructor
  · rintro ⟨j, hj, h1, h2⟩
    by_cases e : j = k
    · subst e; exact .inr h2
    · exact .inl ⟨j, hj, by omega, h2⟩
  · rintro (⟨j, hj, h1, h2⟩ | h2)
    · exact ⟨j, hj, by omega, h2⟩
    · exact ⟨k, h, by omega, h2⟩

theorem noneAt_iff {ps : List DPlanPoint} {k : Nat} (h : k < ps.length) : NoneAt ps k k ↔ ¬ CellOf ps k (ps[k]'h).2 := by
  constructor
  · rintro h1 ⟨j, hj, h2, h3⟩
    exact h1 j hj h h2 ⟨by rw [← h3], by rw [← h3]⟩
  · intro h1 t ht hk h2 h3
    exact h1 ⟨t, ht, h2, by rw [Prod.ext_iff]; exact ⟨h3.1.symm, h3.2.symm⟩⟩

theorem Has.zero {ps : List DPlanPoint} : Has (.map []) ps 0 := by
  refine ⟨fun s _ => ?_, fun s _ => ⟨0, rfl, by omega, by omega⟩, Nat.le_refl _, ⟨fun _ => ApartTo.zero, fun _ => rfl⟩⟩
  rw [pb_no (fun ⟨j, _, h, _⟩ => by omega)]
  rfl

theorem Has.next {D : DataW Unit} {ps : List DPlanPoint} {k : Nat} (h : Has D ps k) (hk : k < ps.length) (hs : InC (ps[k]'hk).2) (hD : Tidy D) (hM : IsMap D) {c : Int} (hc : D.atKey (cellLit (ps[k]'hk).2) (.lit (.int .i64 0)) = .lit (.int .i64 c)) :
    Has (D.put (cellLit (ps[k]'hk).2) (.lit (.int .i64 (c + 1)))) ps (k + 1) := by
  obtain ⟨h1, h2, h3, h4⟩ := h
  obtain ⟨c', hc', hc0, hck⟩ := h2 _ hs
  rw [hc] at hc'
  cases hc'
  refine ⟨fun s hi => ?_, fun s hi => ?_, ?_, ?_⟩
  · by_cases e : s = (ps[k]'hk).2
    · rw [e, has_put_same hM (cellIsKey _ hs), pb_yes ((cellOf_next hk _).2 (.inr rfl))]
    · rw [has_put_other (fun h => e (cellInj hi hs h)), h1 s hi]
      exact pb_same ⟨fun h => (cellOf_next hk _).2 (.inl h), fun h => ((cellOf_next hk _).1 h).resolve_right e⟩
  · by_cases e : s = (ps[k]'hk).2
    · rw [e]; exact ⟨c + 1, atKey_put_same hM (cellIsKey _ hs) _ _, by omega, by omega⟩
    · rw [atKey_put_other (fun h => e (cellInj hi hs h))]
      obtain ⟨c2, g1, g2, g3⟩ := h2 s hi
      exact ⟨c2, g1, g2, by omega⟩
  · rw [size_put hD, h1 _ hs]
    split <;> omega
  · rw [size_put hD, h1 _ hs]
    by_cases hin : CellOf ps k (ps[k]'hk).2
    · rw [pb_yes hin]
      simp only [if_true]
      exact ⟨fun h => by omega, fun h => absurd hin ((noneAt_iff hk).1 (h k (by omega)))⟩
    · rw [pb_no hin]
      simp only [Bool.false_eq_true, if_false]
      constructor
      · intro h
        exact (h4.1 (by omega)).next ((noneAt_iff hk).2 hin)
      · intro h
        have := h4.2 (fun j hj => h j (by omega))
        omega

end Pm
end Go.Proofs.YtgnjkpmbppmoeaaGreat
