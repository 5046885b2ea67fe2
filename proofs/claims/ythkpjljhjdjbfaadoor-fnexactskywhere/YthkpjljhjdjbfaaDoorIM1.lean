/- DERIVED. impl.skyTaken: what it holds, take: its walk. -/
import Derived.Test.YthkpjljhjdjbfaaDoorIS0
import Derived.Test.YthkpjljhjdjbfaaDoorSkyM
import Derived.Test.YthkpjljhjdjbfaaDoorIM0
import Derived.DeepKeys4
import Derived.RegionTactic
import Derived.BigRegion
namespace Go.Proofs.YthkpjljhjdjbfaaDoor
open Go.RowKit Go.Maps
open Go.WideMaps (KeyLaw)
set_option linter.unusedSimpArgs false
set_option linter.unusedVariables false

def InS (s : Spot) : Prop := In64 s.1 ∧ In64 s.2.1 ∧ In64 s.2.2
abbrev spotVal (s : Spot) : Value := .agg #[.int .i64 s.1, .int .i64 s.2.1, .int .i64 s.2.2]
def spotLit (s : Spot) : Lit := .string (keyBytes [.int .i64 s.1, .int .i64 s.2.1, .int .i64 s.2.2])

theorem spotLaid : laidOutB Tryd.prog = true := by kernel_rfl
theorem spotRow : (112 : TypeId) < Tryd.prog.types.size := of_decide_eq_true (by kernel_rfl)
theorem spotWide : (match Tryd.prog.underlying 112 with | some (.array _ _) | some (.struct _) => true | _ => false) = true := by rw [Tryd.underlying112]
set_option maxRecDepth 100000 in
theorem spotLaw : KeyLaw Tryd.prog 112 := deep_law_laid spotLaid (m := 2) (by omega) spotRow (by kernel_rfl) spotWide
theorem takenT : Tryd.prog.underlying 108 = some (.map 112 3) := by kernel_rfl
theorem intT : Tryd.prog.underlying 3 = some (.int .i64) := by kernel_rfl
theorem intZ (u : World) : (zeroValue 3).run Tryd.prog u = .ok (.int .i64 0) u := by kernel_rfl

theorem wf64 {x : Int} (h : In64 x) : (Lit.int .i64 x).wf = true := by
  simpa [In64, Lit.wf, IntKind.min, IntKind.max, IntKind.signed, IntKind.bits] using h

theorem litInt (d : Nat) {x : Int} (h : In64 x) : Tryd.prog.keyLits (d + 1) 3 [.int .i64 x] = some [.int .i64 x] := by
  have := wf64 h
  simp [Program.keyLits, intT, this]

theorem spotCells : Tryd.prog.cellsOf 112 = 3 := by kernel_rfl
theorem intCells : Tryd.prog.cellsOf 3 = 1 := by kernel_rfl
theorem succ_of_lt {k n : Nat} (h : k < n) : ∃ d, n = d + 1 := ⟨n - 1, by omega⟩
theorem spotTypes : ∃ d, Tryd.prog.types.size = d + 1 := succ_of_lt spotRow
theorem spotKT : Tryd.prog.keyType 112 = true := by kernel_rfl

theorem spotKey (s : Spot) (h : InS s) : keyOf Tryd.prog 112 (spotVal s) = some (spotLit s) := by
  obtain ⟨x, y, l⟩ := s
  obtain ⟨h1, h2, h3⟩ := h
  obtain ⟨d, hd⟩ := spotTypes
  have hf : (Value.agg #[.int .i64 x, .int .i64 y, .int .i64 l]).formed Tryd.prog 112 = true := by simp [Value.formed, Tryd.underlying112, spotCells]
  have hl : Tryd.prog.keyLits (Tryd.prog.types.size + 1) 112 [.int .i64 x, .int .i64 y, .int .i64 l] = some [.int .i64 x, .int .i64 y, .int .i64 l] := by
    rw [hd]
    unfold Program.keyLits
    rw [Tryd.underlying112]
    simp only [spotCells]
    simp [intCells, litInt d h1, litInt d h2, litInt d h3]
  unfold keyOf
  rw [Tryd.underlying112]
  simp only [spotKT, hf, Bool.and_self, if_true]
  show Option.map _ (Tryd.prog.keyLits (Tryd.prog.types.size + 1) 112 [.int .i64 x, .int .i64 y, .int .i64 l]) = _
  rw [hl]
  rfl

theorem spotInj {s t : Spot} (hs : InS s) (ht : InS t) (h : spotLit s = spotLit t) : s = t := by
  have := spotLaw.inj (spotKey s hs) (h ▸ spotKey t ht)
  obtain ⟨x, y, l⟩ := s
  obtain ⟨x', y', l'⟩ := t
  simpa using this

theorem spotIsKey (s : Spot) (h : InS s) : WideAt.IsKeyLit (spotLit s) := (Keyed.of_law spotLaw).key (spotKey s h)

/-- Block B is a map in which the n spots of S have the number 1, and no other spot is there. -/
def Taken (w : World) (B : Nat) (S : Spot → Prop) (n : Nat) : Prop :=
  ∃ D : DataW Unit, w.ownsMap Tryd.prog 112 (plainElem Tryd.prog 3) B n D ∧ Maps.size D = n ∧ (∀ s, InS s → S s → D.atKey (spotLit s) (.lit (.int .i64 0)) = .lit (.int .i64 1) ∧ Maps.has D (spotLit s) = true) ∧ ∀ s, InS s → ¬ S s → Maps.has D (spotLit s) = false

theorem Taken.made (w : World) : Taken (w.alloc (.map #[] 0)) w.heap.size (fun _ => False) 0 :=
  ⟨.map [], World.ownsMap_made w _ _ _, rfl, fun s _ h => h.elim, fun s _ _ => rfl⟩

theorem Taken.lt {w : World} {B n : Nat} {S : Spot → Prop} (h : Taken w B S n) : B < w.heap.size := by
  obtain ⟨D, h1, _⟩ := h
  exact h1.lt

theorem Taken.kept {w w' : World} {B n : Nat} {S : Spot → Prop} {row : Option Nat} (h : Taken w B S n) (hg : w.grownBy w' row) (hne : some B ≠ row) : Taken w' B S n := by
  obtain ⟨D, h1, h2⟩ := h
  exact ⟨D, h1.kept hg hne, h2⟩

theorem Taken.alloc {w : World} {B n : Nat} {S : Spot → Prop} (h : Taken w B S n) (o : Obj) : Taken (w.alloc o) B S n := h.kept (World.grownBy_alloc w o none) (by simp)

theorem Taken.below {w w' : World} {B n m : Nat} {S : Spot → Prop} (h : Taken w B S n) (hb : Below m w w') (hm : B < m) : Taken w' B S n := by
  obtain ⟨D, ⟨es, clock, h1, h2⟩, h3⟩ := h
  exact ⟨D, ⟨es, clock, (hb.block B hm).trans h1, h2⟩, h3⟩

theorem Taken.same {w : World} {B n : Nat} {S S' : Spot → Prop} (h : Taken w B S n) (hS : ∀ s, S s ↔ S' s) : Taken w B S' n := by
  obtain ⟨D, h1, h2, h3, h4⟩ := h
  exact ⟨D, h1, h2, fun s hs h => h3 s hs ((hS s).2 h), fun s hs h => h4 s hs (fun h' => h ((hS s).1 h'))⟩

end Go.Proofs.YthkpjljhjdjbfaaDoor
