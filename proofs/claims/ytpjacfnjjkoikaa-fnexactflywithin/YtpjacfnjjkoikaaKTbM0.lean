/- DERIVED. A map that the call has made, of whatever values: its entry read and stored into, its look-up. No program is named here. -/
import Derived.WalkKit
import Derived.WideKeyEntry
import Derived.Maps.OwnSet
import Derived.Maps.OwnOps
import Derived.Maps.Views
namespace Go.Proofs.Ytpjacfnjjkoikaa
open Go.RowKit Go.Maps
open Go.WideMaps (KeyLaw)
open Go.WideElems (entry_then_store Fit)
open Go.ChangeMaps (setBlock heap_setBlock_same heap_setBlock_other)
set_option linter.unusedSimpArgs false
set_option linter.unusedVariables false

/-- An element as it lies. -/
def asIs (v : Value) : Option (DataW Value × List MemPlace) := some (.held v, [])

section
variable {P : Program} {w : World} {t k e : TypeId} {b n : Nat} {D : DataW Value}

theorem grown_setB {w : World} {b : Nat} (o : Obj) : w.grownBy (setBlock w b o) (some b) :=
  ⟨rfl, rfl, rfl, by simp [setBlock], fun i _ hi => by
    by_cases e : i = b
    · subst e; exact absurd rfl hi
    · show (w.heap.setIfInBounds b o)[i]? = _
      rw [Array.getElem?_setIfInBounds, if_neg (fun e1 => e e1.symm)]⟩

theorem own_look (K : KeyLaw P k) (ht : P.underlying t = some (.map k e)) {z : Value} (hz : (zeroValue e).run P w = .ok z w) (hown : w.ownsMap P k asIs b n D) {key : Value} {kl : Lit} (hkey : keyOf P k key = some kl) :
    ∃ v, (Instr.lookup t (.map (some b)) key false).run P w = .ok v w ∧ D.atKey kl (.held z) = .held v := by
  obtain ⟨v, ps, h1, h2⟩ := hown.lookup (Keyed.of_law K) ht hz (zd := .held z) (zp := []) rfl hkey
  refine ⟨v, h1, ?_⟩
  have h3 : (DataW.held v, ([] : List MemPlace)) = (D.atKey kl (.held z), ps) := Option.some.inj h2
  exact (Prod.mk.inj h3).1.symm

/-- The entry of a key, what stands there (z where there was none); and whatever is stored into it later, as long as the map's block is not turned between. -/
theorem own_entry (K : KeyLaw P k) (ht : P.underlying t = some (.map k e)) {z : Value} (hz : ∀ u : World, (zeroValue e).run P u = .ok z u) (hown : w.ownsMap P k asIs b n D) (hn : n < maxLen) {key : Value} {kl : Lit} (hkey : keyOf P k key = some kl) :
    ∃ (v : Value) (st : Nat) (w2 : World), D.atKey kl (.held z) = .held v ∧ (Instr.mapEntry t (.map (some b)) key).run P w = .ok (.tuple #[v, .int .i64 st]) w2 ∧ w.grownBy w2 (some b) ∧ w2.heap.size = w.heap.size ∧
      ∀ (w3 : World) (val : Value), w3.heap[b]? = w2.heap[b]? → ∃ w4, (Instr.entryStore t (.map (some b)) (.int .i64 st) val).run P w3 = .ok () w4 ∧ w4.ownsMap P k asIs b (n + 1) (D.put kl (.held val)) ∧ w3.grownBy w4 (some b) ∧ w4.heap.size = w3.heap.size := by
  have hupd := fun (val : Value) => hown.update (Keyed.of_law K) ht hn hkey (val := val) (d := .held val) (ps := []) rfl
  have hlk := own_look K ht (hz w) hown hkey
  obtain ⟨es, clock, hb, F, hs, hD⟩ := hown
  obtain ⟨_, _, s3⟩ := F.stamped
  obtain ⟨v0, st, es1, clock1, hrun, hv0, hst⟩ := entry_then_store (z := z) K ht hz hb F hkey
  obtain ⟨v, hl, hat⟩ := hlk
  have hvv : v = v0 := by
    rcases Maps.fit_look false (Keyed.of_law K) ht (hz w) hb F hkey with ⟨h1, h2, _⟩ | ⟨e0, y, h1, h2, h3, _⟩
    · rw [h1] at hl
      have hzv : z = v := by simpa using hl
      rcases hv0 with ⟨e1, he1, hk1, _⟩ | ⟨_, h0⟩
      · exact absurd hk1 (h2 e1 he1)
      · rw [h0, hzv]
    · rw [h3] at hl
      have hev : e0.val = v := by simpa using hl
      rcases hv0 with ⟨e1, he1, hk1, h0⟩ | ⟨h0, _⟩
      · have he : e1 = e0 := by
          obtain ⟨i, hi⟩ := List.mem_iff_getElem?.1 he1
          obtain ⟨j, hj⟩ := List.mem_iff_getElem?.1 h1
          have hki : (es.toList.map (·.key))[i]? = some key := by rw [List.getElem?_map, hi]; simp [hk1]
          have hkj : (es.toList.map (·.key))[j]? = some key := by rw [List.getElem?_map, hj]; simp [h2]
          have hij : i = j := (List.getElem?_inj (List.getElem?_eq_some_iff.1 hki).1 s3).1 (hki.trans hkj.symm)
          subst hij
          rw [hi] at hj
          exact Option.some.inj hj
        rw [h0, he, hev]
      · exact absurd h2 (h0 e0 h1)
  subst hvv
  refine ⟨v, st, setBlock w b (.map es1 clock1), hat, hrun, grown_setB _, by simp [setBlock], fun w3 val hw3 => ?_⟩
  have hblt := (Array.getElem?_eq_some_iff.1 hb).1
  have h3b : w3.heap[b]? = some (.map es1 clock1) := hw3.trans (heap_setBlock_same hb _)
  obtain ⟨es', clock', r1, r2⟩ := hst w3 val h3b
  obtain ⟨w', u1, u2, u3⟩ := hupd val
  rw [r2] at u1
  cases u1
  obtain ⟨es2, clk2, q1, q2, q3, q4⟩ := u2
  rw [heap_setBlock_same hb] at q1
  cases q1
  exact ⟨setBlock w3 b (.map es' clock'), r1, ⟨es', clock', heap_setBlock_same h3b _, q2, q3, q4⟩, grown_setB _, by simp [setBlock]⟩

end
end Go.Proofs.Ytpjacfnjjkoikaa
