/- DERIVED. impl.planSaids: a map of what is said, by what a change is about: its walk. -/
import Derived.Test.YtgnjkpmbppmoeaaGreatGPw
import Derived.Test.YtgnjkpmbppmoeaaGreatPlI0
import Derived.Maps.OwnSet
import Derived.Maps.OwnOps
import Derived.Maps.Keyed
namespace Go.Proofs.YtgnjkpmbppmoeaaGreat
namespace Psd
open Go.RowKit Go.Maps
set_option linter.unusedSimpArgs false
set_option linter.unusedVariables false

/-- An element as it is. -/
def asIs (v : Value) : Option (DataW Value × List MemPlace) := some (.held v, [])

theorem mapT : Tryz.prog.underlying 163 = some (.map 3 161) := by kernel_rfl
theorem intT : Tryz.prog.underlying 3 = some (.int .i64) := by kernel_rfl
theorem saidZ (u : World) : (zeroValue 161).run Tryz.prog u = .ok .nilIface u := by kernel_rfl
theorem keyed : Keyed Tryz.prog 3 := int_keyed intT
theorem key (a : Int) (h : In64 a) : keyOf Tryz.prog 3 (.int .i64 a) = some (.int .i64 a) := keyOf_int_mk intT (by simpa [In64, Lit.wf, IntKind.min, IntKind.max, IntKind.signed, IntKind.bits] using h)

/-- What is said of thing a. -/
def saidV (ks ps : Value) (a : Int) : Value :=
  if a = 1 then .iface 184 (.agg #[ks]) else if a = 2 then .iface 186 (.agg #[]) else if a = 3 then .iface 187 (.agg #[]) else if a = 4 then .iface 189 (.agg #[ps]) else if a = 5 then .iface 190 (.agg #[]) else .nilIface

theorem put_at {D : DataW Value} (hD : IsMap D) {a k : Int} (hk : In64 k) (d z : DataW Value) : (D.put (.int .i64 k) d).atKey (.int .i64 a) z = if a = k then d else D.atKey (.int .i64 a) z := by
  by_cases e : a = k
  · subst e; rw [if_pos rfl, atKey_put_same hD (keyed.key (key a hk))]
  · rw [if_neg e, atKey_put_other (fun h => e (by cases h; rfl))]
theorem put_has {D : DataW Value} (hD : IsMap D) {a k : Int} (hk : In64 k) (d : DataW Value) : Maps.has (D.put (.int .i64 k) d) (.int .i64 a) = if a = k then true else Maps.has D (.int .i64 a) := by
  by_cases e : a = k
  · subst e; rw [if_pos rfl, has_put_same hD (keyed.key (key a hk))]
  · rw [if_neg e, has_put_other (fun h => e (by cases h; rfl))]

set_option maxRecDepth 100000 in
set_option maxHeartbeats 4000000 in
theorem said_any (ao0 ao1 : Option Addr) (n0 n1 cap0 cap1 : Nat) (w : World) :
    Calls Tryz.prog 103 #[.agg #[.slice ao0 n0 cap0, .slice ao1 n1 cap1]] w fun e w' => ∃ B : Nat, e = .returned (.map (some B)) ∧ (∀ a : Int, In64 a → (Instr.lookup 163 (.map (some B)) (.int .i64 a) true).run Tryz.prog w' = .ok (.tuple #[saidV (.slice ao0 n0 cap0) (.slice ao1 n1 cap1) a, .bool (decide (1 ≤ a ∧ a ≤ 5))]) w') ∧ Below w.heap.size w w' := by
  have hmm := @run_makeMap Tryz.prog
  have hb0 : Below w.heap.size w ((w.alloc (.cells #[.slice ao0 n0 cap0, .slice ao1 n1 cap1] 40)).alloc (.map #[] 0)) := ((Below.refl _ _).alloc (Nat.le_refl _) _).alloc (by simp) _
  have hown0 : ((w.alloc (.cells #[.slice ao0 n0 cap0, .slice ao1 n1 cap1] 40)).alloc (.map #[] 0)).ownsMap Tryz.prog 3 asIs (w.heap.size + 1) 0 (.map []) := by
    have := World.ownsMap_made (H := Value) (w.alloc (.cells #[.slice ao0 n0 cap0, .slice ao1 n1 cap1] 40)) Tryz.prog 3 asIs
    rwa [World.size_alloc] at this
  have i1 : In64 1 := by unfold In64; omega
  have i2 : In64 2 := by unfold In64; omega
  have i3 : In64 3 := by unfold In64; omega
  have i4 : In64 4 := by unfold In64; omega
  have i5 : In64 5 := by unfold In64; omega
  obtain ⟨w1, r1, o1, g1⟩ := hown0.update keyed mapT (by unfold maxLen; omega) (key 1 i1) (show asIs (.iface 184 (.agg #[.slice ao0 n0 cap0])) = some (.held _, []) from rfl)
  obtain ⟨w2, r2, o2, g2⟩ := o1.update keyed mapT (by unfold maxLen; omega) (key 2 i2) (show asIs (.iface 186 (.agg #[])) = some (.held _, []) from rfl)
  obtain ⟨w3, r3, o3, g3⟩ := o2.update keyed mapT (by unfold maxLen; omega) (key 3 i3) (show asIs (.iface 187 (.agg #[])) = some (.held _, []) from rfl)
  obtain ⟨w4, r4, o4, g4⟩ := o3.update keyed mapT (by unfold maxLen; omega) (key 4 i4) (show asIs (.iface 189 (.agg #[.slice ao1 n1 cap1])) = some (.held _, []) from rfl)
  obtain ⟨w5, r5, o5, g5⟩ := o4.update keyed mapT (by unfold maxLen; omega) (key 5 i5) (show asIs (.iface 190 (.agg #[])) = some (.held _, []) from rfl)
  have hG := ((((g1.trans g2).trans g3).trans g4).trans g5)
  have hB5 : Below w.heap.size w w5 := hb0.grown hG hb0.size (fun j hj => by cases hj; omega)
  have hgc : ∀ (W : World), ((w.alloc (.cells #[.slice ao0 n0 cap0, .slice ao1 n1 cap1] 40)).alloc (.map #[] 0)).grownBy W (some (w.heap.size + 1)) → W.cell? ⟨w.heap.size, 1, none⟩ = some (.slice ao1 n1 cap1) := by
    intro W hg
    have hb : W.heap[w.heap.size]? = some (.cells #[.slice ao0 n0 cap0, .slice ao1 n1 cap1] 40 (0, 0)) := (hg.block w.heap.size (by simp; omega) (by simp)).trans ((heap_alloc_old _ _ (by simp)).trans (heap_alloc_new w _))
    unfold World.cell?
    simp only [hb]
    rfl
  have c3 := hgc w3 ((g1.trans g2).trans g3)
  have hz3 : w.heap.size < w3.heap.size := by have := ((g1.trans g2).trans g3).size; simp at this; omega
  have HL : Hid (∀ a : Int, In64 a → (Instr.lookup 163 (.map (some (w.heap.size + 1))) (.int .i64 a) true).run Tryz.prog w5 = .ok (.tuple #[saidV (.slice ao0 n0 cap0) (.slice ao1 n1 cap1) a, .bool (decide (1 ≤ a ∧ a ≤ 5))]) w5) := fun a ha => by
    obtain ⟨v, pl, hr, hv⟩ := o5.look_ok keyed mapT (saidZ w5) (show asIs .nilIface = some (.held _, []) from rfl) (key a ha)
    rw [put_has o4.isMap i5, put_has o3.isMap i4, put_has o2.isMap i3, put_has o1.isMap i2, put_has hown0.isMap i1] at hr
    rw [put_at o4.isMap i5, put_at o3.isMap i4, put_at o2.isMap i3, put_at o1.isMap i2, put_at hown0.isMap i1] at hv
    have e1 : (if a = 5 then true else if a = 4 then true else if a = 3 then true else if a = 2 then true else if a = 1 then true else Maps.has (DataW.map [] : DataW Value) (.int .i64 a)) = decide (1 ≤ a ∧ a ≤ 5) := by
      by_cases a5 : a = 5
      · subst a5; rfl
      · by_cases a4 : a = 4
        · subst a4; rfl
        · by_cases a3 : a = 3
          · subst a3; rfl
          · by_cases a2 : a = 2
            · subst a2; rfl
            · by_cases a1 : a = 1
              · subst a1; rfl
              · rw [if_neg a5, if_neg a4, if_neg a3, if_neg a2, if_neg a1]
                have : decide (1 ≤ a ∧ a ≤ 5) = false := by simp; omega
                rw [this]; rfl
    have e2 : v = saidV (.slice ao0 n0 cap0) (.slice ao1 n1 cap1) a := by
      unfold asIs at hv
      simp only [Option.some.injEq, Prod.mk.injEq] at hv
      have hv := hv.1
      unfold saidV
      by_cases a5 : a = 5
      · subst a5; simp only [if_true] at hv; cases hv; rfl
      · by_cases a4 : a = 4
        · subst a4; simp at hv; rw [hv]; rfl
        · by_cases a3 : a = 3
          · subst a3; simp at hv; rw [hv]; rfl
          · by_cases a2 : a = 2
            · subst a2; simp at hv; rw [hv]; rfl
            · by_cases a1 : a = 1
              · subst a1; simp at hv; rw [hv]; rfl
              · rw [if_neg a5, if_neg a4, if_neg a3, if_neg a2, if_neg a1] at hv
                rw [if_neg a1, if_neg a2, if_neg a3, if_neg a4, if_neg a5]
                have : (DataW.map [] : DataW Value).atKey (.int .i64 a) (.held .nilIface) = .held .nilIface := rfl
                rw [this] at hv
                cases hv; rfl
    rw [e1, e2] at hr
    exact hr
  clear o1 o2 o3 o4 o5 g1 g2 g3 g4 g5 hG hgc hown0 hb0 i1 i2 i3 i4 i5
  go_enter Tryz.func103, Tryz.ntmps103
  go_wp2
  go_ret
  exact ⟨w.heap.size + 1, rfl, HL.out, hB5⟩

end Psd
end Go.Proofs.YtgnjkpmbppmoeaaGreat
