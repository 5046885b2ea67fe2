/- DERIVED. A map of numbers that the call has made: 'm[k]++' in whatever order its look-up and its entry come. No program is named here. -/
import Derived.WalkKit
import Derived.WideKeyEntry
import Derived.Maps.OwnSet
import Derived.Maps.OwnOps
import Derived.Test.YtgnjkpmbppmoeaaGreatKGXa
import Derived.Test.YtgnjkpmbppmoeaaGreatKGNm
import Derived.DeepKeys4
import Derived.RegionTactic
import Derived.BigRegion
import Derived.Test.YtgnjkpmbppmoeaaGreatRows
import Derived.WalkSpells
import Derived.WalkLawsBesides
namespace Go.Proofs.YtgnjkpmbppmoeaaGreat
open Go.RowKit Go.Maps
open Go.WideMaps (KeyLaw)
open Go.WideElems (findIdx_born findIdx_arr modify_last set_self entry_then_store)
open Go.ChangeMaps (setBlock heap_setBlock_same heap_setBlock_other modify_eq_set)
set_option linter.unusedSimpArgs false
set_option linter.unusedVariables false

section
variable {P : Program} {w : World} {t k e : TypeId} {b n : Nat} {D : DataW Unit}

theorem look_hit {es : Array MapEntry} {clock : Nat} {key v : Value} {kl : Lit} (K : KeyLaw P k) (ht : P.underlying t = some (.map k e)) (hb : w.heap[b]? = some (.map es clock)) (hks : ∀ x ∈ es.toList, ∃ l, keyOf P k x.key = some l)
    (hkey : keyOf P k key = some kl) (hex : ∃ x ∈ es.toList, x.key = key) (hall : ∀ x ∈ es.toList, x.key = key → x.val = v) : (Instr.lookup t (.map (some b)) key false).run P w = .ok v w := by
  rcases K.find w hkey es.toList hks with ⟨h1, h2⟩ | ⟨j, e0, h1, h2, h3⟩
  · obtain ⟨x, hx, hk⟩ := hex
    exact absurd hk (h2 x hx)
  · have hv := hall e0 (List.mem_of_getElem? h2) h3
    simp [Instr.lookup, run_underlying ht, MapKept.run_getObj_map hb, K.check w _ hkey, h1, hv, Result.andThen]

theorem grown_setBlock {w : World} {b : Nat} {es : Array MapEntry} {clock : Nat} (hb : w.heap[b]? = some (.map es clock)) (o : Obj) : w.grownBy (setBlock w b o) (some b) :=
  ⟨rfl, rfl, rfl, by simp [setBlock], fun i _ hi => heap_setBlock_other hb _ (fun e => hi (by rw [e]))⟩

/-- The entry of a key: the number that stands there (0 where there was none), in whatever order it is looked up; and the store into it. -/
theorem own_incr (K : KeyLaw P k) (ht : P.underlying t = some (.map k e)) (he : P.underlying e = some (.int .i64)) (hz : ∀ u : World, (zeroValue e).run P u = .ok (.int .i64 0) u)
    (hown : w.ownsMap P k (plainElem P e) b n D) (hn : n < maxLen) {key : Value} {kl : Lit} (hkey : keyOf P k key = some kl) :
    ∃ (c : Int) (st : Nat) (w2 : World), D.atKey kl (.lit (.int .i64 0)) = .lit (.int .i64 c) ∧ (Instr.lookup t (.map (some b)) key false).run P w = .ok (.int .i64 c) w ∧
      (Instr.mapEntry t (.map (some b)) key).run P w = .ok (.tuple #[.int .i64 c, .int .i64 st]) w2 ∧ (Instr.lookup t (.map (some b)) key false).run P w2 = .ok (.int .i64 c) w2 ∧ w.grownBy w2 (some b) ∧
      ∀ v : Int, (Lit.int .i64 v).wf = true → ∃ w3, (Instr.entryStore t (.map (some b)) (.int .i64 st) (.int .i64 v)).run P w2 = .ok () w3 ∧ w3.ownsMap P k (plainElem P e) b (n + 1) (D.put kl (.lit (.int .i64 v))) ∧ w.grownBy w3 (some b) := by
  obtain ⟨c, hl, hat, hwc⟩ := hown.lookup_int (Keyed.of_law K) ht he (hz w) hkey
  have hupd := fun (v : Int) (hv : (Lit.int .i64 v).wf = true) => hown.update (Keyed.of_law K) ht hn hkey (plainElem_int he hv)
  obtain ⟨es, clock, hb, F, hs, hD⟩ := hown
  obtain ⟨s1, s2, _⟩ := F.stamped
  have fin : ∀ (es1 : Array MapEntry) (clock1 st : Nat), (∀ v : Int, ∃ es' clock', (Instr.entryStore t (.map (some b)) (.int .i64 st) (.int .i64 v)).run P (setBlock w b (.map es1 clock1)) = .ok () (setBlock (setBlock w b (.map es1 clock1)) b (.map es' clock')) ∧
        (Instr.mapUpdate t (.map (some b)) key (.int .i64 v)).run P w = .ok () (setBlock w b (.map es' clock'))) →
      ∀ v : Int, (Lit.int .i64 v).wf = true → ∃ w3, (Instr.entryStore t (.map (some b)) (.int .i64 st) (.int .i64 v)).run P (setBlock w b (.map es1 clock1)) = .ok () w3 ∧ w3.ownsMap P k (plainElem P e) b (n + 1) (D.put kl (.lit (.int .i64 v))) ∧ w.grownBy w3 (some b) := by
    intro es1 clock1 st hS v hv
    obtain ⟨es', clock', r1, r2⟩ := hS v
    obtain ⟨w', u1, u2, u3⟩ := hupd v hv
    rw [r2] at u1
    cases u1
    have hsb : setBlock (setBlock w b (.map es1 clock1)) b (.map es' clock') = setBlock w b (.map es' clock') := by
      unfold setBlock; simp
    exact ⟨_, r1, by rw [hsb]; exact u2, by rw [hsb]; exact u3⟩
  rcases K.find w hkey es.toList F.keys with ⟨h1, h2⟩ | ⟨j, e0, h1, h2, h3⟩
  · have hc : c = 0 := by
      have : (Instr.lookup t (.map (some b)) key false).run P w = .ok (.int .i64 0) w := by
        simp [Instr.lookup, run_underlying ht, MapKept.run_getObj_map hb, K.check w _ hkey, h1, hz, Result.andThen]
      rw [this] at hl
      simp at hl
      exact hl.symm
    subst hc
    have hb2 : (setBlock w b (.map (es.push ⟨key, .int .i64 0, clock⟩) (clock + 1))).heap[b]? = some (.map (es.push ⟨key, .int .i64 0, clock⟩) (clock + 1)) := heap_setBlock_same hb _
    refine ⟨0, clock, setBlock w b (.map (es.push ⟨key, .int .i64 0, clock⟩) (clock + 1)), hat, hl, ?_, ?_, grown_setBlock hb _, ?_⟩
    · simp [Instr.mapEntry, run_underlying ht, MapKept.run_getObj_map hb, K.check w false hkey, h1, hz, MapKept.run_setObj_map _ hb, Result.andThen, setBlock, goInt]
    · refine look_hit K ht hb2 ?_ hkey ⟨⟨key, .int .i64 0, clock⟩, by simp, rfl⟩ ?_
      · intro x hx
        simp only [Array.toList_push, List.mem_append, List.mem_singleton] at hx
        rcases hx with hx | rfl
        · exact F.keys x hx
        · exact ⟨kl, hkey⟩
      · intro x hx hk
        simp only [Array.toList_push, List.mem_append, List.mem_singleton] at hx
        rcases hx with hx | rfl
        · exact absurd hk (h2 x hx)
        · rfl
    · refine fin _ _ _ (fun v => ⟨es.push ⟨key, .int .i64 v, clock⟩, clock + 1, ?_, ?_⟩)
      · have hidx : (es.push ⟨key, .int .i64 0, clock⟩).findIdx? (fun e => ((e.born : Nat) : Int) == ((clock : Nat) : Int)) = some es.size := by
          rw [findIdx_arr]
          exact findIdx_born (l := (es.push ⟨key, .int .i64 0, clock⟩).toList) (j := es.size) (e0 := ⟨key, .int .i64 0, clock⟩) (by
            simp only [Array.toList_push, List.map_append, List.map_cons, List.map_nil]
            refine List.nodup_append.2 ⟨s2, by simp, fun a ha c hc e1 => ?_⟩
            simp only [List.mem_singleton] at hc
            obtain ⟨x, hx, rfl⟩ := List.mem_map.1 ha
            have := s1 x hx
            omega) (by simp)
        have hmod : (es.push ⟨key, .int .i64 0, clock⟩).modify es.size (fun e => { e with val := .int .i64 v }) = es.push ⟨key, .int .i64 v, clock⟩ := by
          apply Array.ext'
          rw [Array.toList_modify, Array.toList_push, Array.toList_push, ← Array.length_toList, modify_last]
        generalize setBlock w b (.map (es.push ⟨key, .int .i64 0, clock⟩) (clock + 1)) = w2 at hb2 ⊢
        simp [Instr.entryStore, MapKept.run_getObj_map hb2, asInt, asIntOf, hidx, hmod, MapKept.run_setObj_map _ hb2, Result.andThen, setBlock]
      · simp [Instr.mapUpdate, run_underlying ht, MapKept.run_getObj_map hb, K.check w false hkey, h1, MapKept.run_setObj_map _ hb, Result.andThen, setBlock]
  · have hj : es[j]? = some e0 := by simpa using h2
    have hval : e0.val = .int .i64 c := by
      have : (Instr.lookup t (.map (some b)) key false).run P w = .ok e0.val w := by
        simp [Instr.lookup, run_underlying ht, MapKept.run_getObj_map hb, K.check w _ hkey, h1, Result.andThen]
      rw [this] at hl
      simpa using hl
    have hsame : es.modify j (fun e => { e with key := key }) = es := by
      apply Array.ext'
      rw [Array.toList_modify, modify_eq_set _ _ _ _ h2]
      have : ({ e0 with key := key } : MapEntry) = e0 := by rw [← h3]
      rw [this]
      exact set_self _ _ _ h2
    have hb2 : (setBlock w b (.map es clock)).heap[b]? = some (.map es clock) := heap_setBlock_same hb _
    have hww : setBlock w b (.map es clock) = w := by
      obtain ⟨hlt, hget⟩ := Array.getElem?_eq_some_iff.1 hb
      unfold setBlock
      have : w.heap.setIfInBounds b (.map es clock) = w.heap := by
        apply Array.ext_getElem?
        intro i
        rw [Array.getElem?_setIfInBounds]
        by_cases e1 : b = i
        · subst e1; rw [if_pos rfl, if_pos hlt, hb]
        · rw [if_neg e1]
      rw [this]
    refine ⟨c, e0.born, setBlock w b (.map es clock), hat, hl, ?_, by rw [hww]; exact hl, grown_setBlock hb _, ?_⟩
    · simp [Instr.mapEntry, run_underlying ht, MapKept.run_getObj_map hb, K.check w false hkey, h1, hj, h3, K.stays w hkey, hsame, hval, MapKept.run_setObj_map _ hb, Result.andThen, setBlock, goInt]
    · refine fin _ _ _ (fun v => ⟨es.modify j (fun e' => { e' with key := key, val := .int .i64 v }), clock, ?_, ?_⟩)
      · have hidx : es.findIdx? (fun e => ((e.born : Nat) : Int) == ((e0.born : Nat) : Int)) = some j := by
          rw [findIdx_arr]
          exact findIdx_born s2 h2
        have hmod : es.modify j (fun e => { e with val := .int .i64 v }) = es.modify j (fun e' => { e' with key := key, val := .int .i64 v }) := by
          apply Array.ext'
          rw [Array.toList_modify, Array.toList_modify, modify_eq_set _ _ _ _ h2, modify_eq_set _ _ _ _ h2, ← h3]
        generalize setBlock w b (.map es clock) = w2 at hb2 ⊢
        simp [Instr.entryStore, MapKept.run_getObj_map hb2, asInt, asIntOf, hidx, hmod, MapKept.run_setObj_map _ hb2, Result.andThen, setBlock]
      · simp [Instr.mapUpdate, run_underlying ht, MapKept.run_getObj_map hb, K.check w false hkey, h1, hj, h3, K.stays w hkey, MapKept.run_setObj_map _ hb, Result.andThen, setBlock]

end

end Go.Proofs.YtgnjkpmbppmoeaaGreat

/- DERIVED. A map from cells to numbers: which cells are there, and how many. -/
namespace Go.Proofs.YtgnjkpmbppmoeaaGreat
namespace Pm
open Go.RowKit Go.Maps
open Go.WideMaps (KeyLaw)
set_option linter.unusedSimpArgs false
set_option linter.unusedVariables false

abbrev Cell := Int × Int
def InC (s : Cell) : Prop := In64 s.1 ∧ In64 s.2
abbrev cellVal (s : Cell) : Value := .agg #[.int .i64 s.1, .int .i64 s.2]
def cellLit (s : Cell) : Lit := .string (keyBytes [.int .i64 s.1, .int .i64 s.2])

theorem laid : laidOutB Tryz.prog = true := by kernel_rfl
theorem row : (84 : TypeId) < Tryz.prog.types.size := of_decide_eq_true (by kernel_rfl)
theorem wide : (match Tryz.prog.underlying 84 with | some (.array _ _) | some (.struct _) => true | _ => false) = true := by rw [Tryz.underlying84]
set_option maxRecDepth 100000 in
theorem cellLaw : KeyLaw Tryz.prog 84 := deep_law_laid laid (m := 2) (by omega) row (by kernel_rfl) wide
theorem mapT : Tryz.prog.underlying 182 = some (.map 84 3) := by kernel_rfl
theorem intT : Tryz.prog.underlying 3 = some (.int .i64) := by kernel_rfl
theorem intZ (u : World) : (zeroValue 3).run Tryz.prog u = .ok (.int .i64 0) u := by kernel_rfl

theorem wf64 {x : Int} (h : In64 x) : (Lit.int .i64 x).wf = true := by
  simpa [In64, Lit.wf, IntKind.min, IntKind.max, IntKind.signed, IntKind.bits] using h

theorem litInt (d : Nat) {x : Int} (h : In64 x) : Tryz.prog.keyLits (d + 1) 3 [.int .i64 x] = some [.int .i64 x] := by
  have := wf64 h
  simp [Program.keyLits, intT, this]

theorem cellCells : Tryz.prog.cellsOf 84 = 2 := by kernel_rfl
theorem intCells : Tryz.prog.cellsOf 3 = 1 := by kernel_rfl
theorem succ_of_lt {k n : Nat} (h : k < n) : ∃ d, n = d + 1 := ⟨n - 1, by omega⟩
theorem types : ∃ d, Tryz.prog.types.size = d + 1 := succ_of_lt row
theorem keyT : Tryz.prog.keyType 84 = true := by kernel_rfl

theorem cellKey (s : Cell) (h : InC s) : keyOf Tryz.prog 84 (cellVal s) = some (cellLit s) := by
  obtain ⟨x, y⟩ := s
  obtain ⟨h1, h2⟩ := h
  obtain ⟨d, hd⟩ := types
  have hf : (Value.agg #[.int .i64 x, .int .i64 y]).formed Tryz.prog 84 = true := by simp [Value.formed, Tryz.underlying84, cellCells]
  have hl : Tryz.prog.keyLits (Tryz.prog.types.size + 1) 84 [.int .i64 x, .int .i64 y] = some [.int .i64 x, .int .i64 y] := by
    rw [hd]
    unfold Program.keyLits
    rw [Tryz.underlying84]
    simp only [cellCells]
    simp [intCells, litInt d h1, litInt d h2]
  unfold keyOf
  rw [Tryz.underlying84]
  simp only [keyT, hf, Bool.and_self, if_true]
  show Option.map _ (Tryz.prog.keyLits (Tryz.prog.types.size + 1) 84 [.int .i64 x, .int .i64 y]) = _
  rw [hl]
  rfl

theorem cellInj {s t : Cell} (hs : InC s) (ht : InC t) (h : cellLit s = cellLit t) : s = t := by
  have := cellLaw.inj (cellKey s hs) (h ▸ cellKey t ht)
  obtain ⟨x, y⟩ := s
  obtain ⟨x', y'⟩ := t
  simpa using this

theorem cellIsKey (s : Cell) (h : InC s) : WideAt.IsKeyLit (cellLit s) := (Keyed.of_law cellLaw).key (cellKey s h)

/-- The cells of the first k points. -/
def CellOf (ps : List DPlanPoint) (k : Nat) (s : Cell) : Prop := ∃ j, ∃ h : j < ps.length, j < k ∧ s = (ps[j]'h).2

/-- The map has just the cells of the first k points, each with a number from 1 to k; they are k just if no two are the same. -/
def Has (D : DataW Unit) (ps : List DPlanPoint) (k : Nat) : Prop :=
  (∀ s, InC s → Maps.has D (cellLit s) = pb (CellOf ps k s)) ∧ (∀ s, InC s → ∃ c : Int, D.atKey (cellLit s) (.lit (.int .i64 0)) = .lit (.int .i64 c) ∧ 0 ≤ c ∧ c ≤ k) ∧ Maps.size D ≤ k ∧ (Maps.size D = k ↔ ApartTo ps k)

theorem cellOf_next {ps : List DPlanPoint} {k : Nat} (h : k < ps.length) (s : Cell) : CellOf ps (k + 1) s ↔ CellOf ps k s ∨ s = (ps[k]'h).2 := by
  constructor
  · rintro ⟨j, hj, h1, h2⟩
    by_cases e : j = k
    · subst e; exact .inr h2
    · exact .inl ⟨j, hj, by omega, h2⟩
  · rintro (⟨j, hj, h1, h2⟩ | h2)
    · exact ⟨j, hj, by omega, h2⟩
    · exact ⟨k, h, by omega, h2⟩

theorem noneAt_iff {ps : List DPlanPoint} {k : Nat} (h : k < ps.length) : NoneAt ps k k ↔ ¬ CellOf ps k (ps[k]'h).2 := by
  constructor
  · rintro h1 ⟨j, hj, h2, h3⟩
    exact h1 j hj h h2 ⟨by rw [← h3], by rw [← h3]⟩
  · intro h1 t ht hk h2 h3
    exact h1 ⟨t, ht, h2, by rw [Prod.ext_iff]; exact ⟨h3.1.symm, h3.2.symm⟩⟩

theorem Has.zero {ps : List DPlanPoint} : Has (.map []) ps 0 := by
  refine ⟨fun s _ => ?_, fun s _ => ⟨0, rfl, by omega, by omega⟩, Nat.le_refl _, ⟨fun _ => ApartTo.zero, fun _ => rfl⟩⟩
  rw [pb_no (fun ⟨j, _, h, _⟩ => by omega)]
  rfl

theorem Has.next {D : DataW Unit} {ps : List DPlanPoint} {k : Nat} (h : Has D ps k) (hk : k < ps.length) (hs : InC (ps[k]'hk).2) (hD : Tidy D) (hM : IsMap D) {c : Int} (hc : D.atKey (cellLit (ps[k]'hk).2) (.lit (.int .i64 0)) = .lit (.int .i64 c)) :
    Has (D.put (cellLit (ps[k]'hk).2) (.lit (.int .i64 (c + 1)))) ps (k + 1) := by
  obtain ⟨h1, h2, h3, h4⟩ := h
  obtain ⟨c', hc', hc0, hck⟩ := h2 _ hs
  rw [hc] at hc'
  cases hc'
  refine ⟨fun s hi => ?_, fun s hi => ?_, ?_, ?_⟩
  · by_cases e : s = (ps[k]'hk).2
    · rw [e, has_put_same hM (cellIsKey _ hs), pb_yes ((cellOf_next hk _).2 (.inr rfl))]
    · rw [has_put_other (fun h => e (cellInj hi hs h)), h1 s hi]
      exact pb_same ⟨fun h => (cellOf_next hk _).2 (.inl h), fun h => ((cellOf_next hk _).1 h).resolve_right e⟩
  · by_cases e : s = (ps[k]'hk).2
    · rw [e]; exact ⟨c + 1, atKey_put_same hM (cellIsKey _ hs) _ _, by omega, by omega⟩
    · rw [atKey_put_other (fun h => e (cellInj hi hs h))]
      obtain ⟨c2, g1, g2, g3⟩ := h2 s hi
      exact ⟨c2, g1, g2, by omega⟩
  · rw [size_put hD, h1 _ hs]
    split <;> omega
  · rw [size_put hD, h1 _ hs]
    by_cases hin : CellOf ps k (ps[k]'hk).2
    · rw [pb_yes hin]
      simp only [if_true]
      exact ⟨fun h => by omega, fun h => absurd hin ((noneAt_iff hk).1 (h k (by omega)))⟩
    · rw [pb_no hin]
      simp only [Bool.false_eq_true, if_false]
      constructor
      · intro h
        exact (h4.1 (by omega)).next ((noneAt_iff hk).2 hin)
      · intro h
        have := h4.2 (fun j hj => h j (by omega))
        omega

end Pm
end Go.Proofs.YtgnjkpmbppmoeaaGreat

/- DERIVED. (impl.PlanPoint).cell: its walk. -/
namespace Go.Proofs.YtgnjkpmbppmoeaaGreat
open Go.RowKit
set_option linter.unusedSimpArgs false
set_option linter.unusedVariables false

set_option maxHeartbeats 1000000 in
theorem ptCell (n : ByteArray) (x y : Int) (w : World) :
    Calls Tryz.prog 51 #[.agg #[.string n, .int .i64 x, .int .i64 y]] w fun e w' => e = .returned (.agg #[.int .i64 x, .int .i64 y]) ∧ Below w.heap.size w w' := by
  go_enter Tryz.func51, Tryz.ntmps51
  go_wp2
  refine bodyPost_ret (v := .agg #[.int .i64 x, .int .i64 y]) (by simp [results, Tryz.results51, go_sem]) rfl ⟨rfl, ?_⟩
  repeat (first | exact Below.refl _ _ | refine Below.setCell ?_ (by simp; try omega) _ | refine Below.alloc ?_ (by simp; try omega) _)

end Go.Proofs.YtgnjkpmbppmoeaaGreat
