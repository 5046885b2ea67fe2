/-
  For every list of boxes, every cell, level and tick, laws.FnExactFlyWithin returns true, and all of it reads behind the call as it read before: impl.FlyWithin answers as the specification's does and writes into no argument.
  No condition of ours: the statement as given (Rows.FnExactFlyWithinSaid).
-/
import Derived.Test.YtpjacfnjjkoikaaKTbI
import Derived.Test.YtpjacfnjjkoikaaKTbS0
import Derived.Deep.RegionWith
import Derived.ProofKit
import Derived.OpenShut
import Derived.ChangeOld
import Derived.Lib.LaidTab
import Derived.ChangeBears2
namespace Go.Proofs.Ytpjacfnjjkoikaa
namespace ExWithin
open Go.RowKit
set_option linter.unusedSimpArgs false
set_option linter.unusedVariables false

set_option maxRecDepth 100000 in
set_option maxHeartbeats 16000000 in
theorem small (ao0 : Option Addr) (cap0 : Nat) (l0 : List DFlyBox) (a1 : Int) (a2 : Int) (a3 : Int) (a4 : Int) (w : World) (hl0 : SliceAt vFlyBox (old w) w ao0 cap0 l0) (ha1 : In64 a1) (ha2 : In64 a2) (ha3 : In64 a3) (ha4 : In64 a4) (hn : wFlyBoxS l0 ≤ 1048576) :
    Calls Try.prog 7 #[.slice ao0 l0.length cap0, .int .i64 a1, .int .i64 a2, .int .i64 a3, .int .i64 a4] w fun e w' => e = .returned (.bool true) ∧ Below w.heap.size w w' := by
  have hn0 : wFlyBoxS l0 ≤ 1048576 := by omega
  have hq0 : l0.length ≤ 1048576 := by have := hn0; unfold wFlyBoxS at this; omega
  have hsz0 : szR (1048576) (wFlyBoxS l0) = 1048576 - (wFlyBoxS l0 : Int) := szR_yes (by omega)
  have hnn0 : decide ((1048576 - (wFlyBoxS l0 : Int)) < 0) = false := by simp; omega
  have HSW := fun ao0' cap0' W (u0 : SliceAt vFlyBox (old W) W ao0' cap0' l0) => Fly.sWithin l0 a1 a2 a3 a4 ao0' cap0' W u0
  have HIW := fun ao0' cap0' W (u0 : SliceAt vFlyBox (old W) W ao0' cap0' l0) => Fly.iWithin l0 a1 a2 a3 a4 ao0' cap0' W u0 (by omega) ha1 ha2 ha3 ha4
  obtain ⟨R0, hRe0⟩ : ∃ R, R = (pb (Fly.Within l0 a1 a2 a3 a4)) := ⟨_, rfl⟩
  simp only [← hRe0] at HSW HIW
  clear hRe0
  have hbn0 : (R0 != R0) = false := by simp
  have B_0 : Below w.heap.size w w := Below.refl _ _
  have hz_0 : w.heap.size ≤ w.heap.size := Nat.le_refl _
  have HT := szFlyBoxS_any ao0 cap0 l0 1048576 w (by omega) (by omega) (hl0.later B_0)
  rw [hsz0] at HT
  go_enter Try.func7, Try.ntmps7
  go_wp2_with fail
  refine HT.mono ?_
  rintro e w1 ⟨rfl, hb⟩
  clear HT
  clear hsz0 
  have hz_1 : w.heap.size ≤ w1.heap.size := hb.size
  have B_1 := B_0.trans (hb.mono (by omega))
  clear B_0 hb
  obtain ⟨L0, hL0⟩ : ∃ L : Int, 1048576 - (wFlyBoxS l0 : Int) = L := ⟨_, rfl⟩
  simp only [hL0] at hnn0 ⊢
  clear hL0
  have HT := toFlyBoxS_any ao0 cap0 l0 w1 hn0 (hl0.later B_1)
  go_wp2_with fail
  refine HT.mono ?_
  rintro e w2 ⟨ao0p, cap0p, rfl, v, hb⟩
  clear HT
  have hz_2 : w1.heap.size ≤ w2.heap.size := hb.size
  have B_2 := B_1.trans (hb.mono (by omega))
  clear B_1 hb
  have v0_2 := v.mono fresh_old
  clear v
  have HT := HSW ao0p cap0p w2 v0_2
  go_wp2_with fail
  refine HT.mono ?_
  rintro e w3 ⟨rfl, hb⟩
  clear HT
  clear v0_2
  have hz_3 : w2.heap.size ≤ w3.heap.size := hb.size
  have B_3 := B_2.trans (hb.mono (by omega))
  clear B_2 hb
  clear HSW
  have HT := toFlyBoxS_any ao0 cap0 l0 w3 hn0 (hl0.later B_3)
  go_wp2_with fail
  refine HT.mono ?_
  rintro e w4 ⟨ao0q, cap0q, rfl, v, hb⟩
  clear HT
  have hz_4 : w3.heap.size ≤ w4.heap.size := hb.size
  have B_4 := B_3.trans (hb.mono (by omega))
  clear B_3 hb
  have x0_4 := v.mono fresh_old
  clear v
  have HT := HIW ao0q cap0q w4 x0_4
  go_wp2_with fail
  refine HT.mono ?_
  rintro e w5 ⟨rfl, hb⟩
  clear HT
  have hz_5 : w4.heap.size ≤ w5.heap.size := hb.size
  have B_5 := B_4.trans (hb.mono (by omega))
  have x0_5 := x0_4.later hb
  clear B_4 x0_4 hb
  clear HIW
  have HT := toFlyBoxS_any ao0 cap0 l0 w5 hn0 (hl0.later B_5)
  go_wp2_with fail
  refine HT.mono ?_
  rintro e w6 ⟨ao0r, cap0r, rfl, v, hb⟩
  clear HT
  have hz_6 : w5.heap.size ≤ w6.heap.size := hb.size
  have B_6 := B_5.trans (hb.mono (by omega))
  have x0_6 := x0_5.later hb
  clear B_5 x0_5 hb
  have y0_6 := v.mono fresh_old
  clear v
  have HT := eqFlyBoxS_any ao0q ao0r cap0q cap0r l0 w6 hn0 x0_6 y0_6
  go_wp2_with fail
  refine HT.mono ?_
  rintro e w7 ⟨rfl, hb⟩
  clear HT
  clear y0_6 x0_6
  have hz_7 : w6.heap.size ≤ w7.heap.size := hb.size
  have B_7 := B_6.trans (hb.mono (by omega))
  clear B_6 hb
  go_wp2
  go_ret
  exact ⟨rfl, B_7⟩

set_option maxRecDepth 100000 in
set_option maxHeartbeats 2000000 in
theorem great0 (ao0 : Option Addr) (cap0 : Nat) (l0 : List DFlyBox) (a1 : Int) (a2 : Int) (a3 : Int) (a4 : Int) (w : World) (hl0 : SliceAt vFlyBox (old w) w ao0 cap0 l0) (ha1 : In64 a1) (ha2 : In64 a2) (ha3 : In64 a3) (ha4 : In64 a4) (hx : ¬ wFlyBoxS l0 ≤ 1048576) :
    Calls Try.prog 7 #[.slice ao0 l0.length cap0, .int .i64 a1, .int .i64 a2, .int .i64 a3, .int .i64 a4] w fun e w' => e = .returned (.bool true) ∧ Below w.heap.size w w' := by
  have B0 : Below w.heap.size w w := Below.refl w.heap.size w
  have hs : szR (1048576) (wFlyBoxS l0) = -1 := szR_no (by omega)
  have HT := szFlyBoxS_any ao0 cap0 l0 1048576 _ (by omega) (by omega) (hl0.later B0)
  rw [hs] at HT
  have z0 : w.heap.size + 0 ≤ (w).heap.size := by simp
  go_enter Try.func7, Try.ntmps7
  go_wp2_with fail
  refine HT.mono ?_
  rintro e w1 ⟨rfl, hb⟩
  have B1 := B0.trans (hb.mono B0.size)
  have z1 := Nat.le_trans z0 hb.size
  clear HT hs hb z0 B0 
  go_wp2
  go_ret
  exact ⟨rfl, B1⟩

theorem walked (ao0 : Option Addr) (cap0 : Nat) (l0 : List DFlyBox) (a1 : Int) (a2 : Int) (a3 : Int) (a4 : Int) (w : World) (hl0 : SliceAt vFlyBox (old w) w ao0 cap0 l0) (ha1 : In64 a1) (ha2 : In64 a2) (ha3 : In64 a3) (ha4 : In64 a4) :
    Calls Try.prog 7 #[.slice ao0 l0.length cap0, .int .i64 a1, .int .i64 a2, .int .i64 a3, .int .i64 a4] w fun e w' => e = .returned (.bool true) ∧ Below w.heap.size w w' := by
  rcases (Decidable.em (wFlyBoxS l0 ≤ 1048576)).symm with hx | hn0
  · exact great0 ao0 cap0 l0 a1 a2 a3 a4 w hl0 ha1 ha2 ha3 ha4 hx
  · exact small ao0 cap0 l0 a1 a2 a3 a4 w hl0 ha1 ha2 ha3 ha4 hn0

theorem opFlyBox : Opens Try.prog 82 vFlyBox :=
  opens_struct Try.underlying82 (by kernel_rfl) (opensFs_cons rfl (by kernel_rfl) (opens_int Try.underlying3) (opensFs_cons rfl (by kernel_rfl) (opens_int Try.underlying3) (opensFs_cons rfl (by kernel_rfl) (opens_int Try.underlying3) (opensFs_cons rfl (by kernel_rfl) (opens_int Try.underlying3) (opensFs_cons rfl (by kernel_rfl) (opens_int Try.underlying3) (opensFs_one rfl (by kernel_rfl) (opens_int Try.underlying3)))))))

open Go.ChangeShapes Go.WideShapes Go.ChangeAt
theorem own : ownKnob Try.prog.godebug = none := by kernel_rfl
theorem laidOut : laidOutB Try.prog = true := by kernel_rfl

set_option maxRecDepth 100000 in
theorem lifted (os : Os) (started : os.Started) (H : Type) (enc : TypeId × Value → H) :
    ReturnsInHanded {} Try.checked os 7 .any (Rows.fnExactFlyWithinSpec.pre6 enc Try.prog Try.f7 Rows.fnExactFlyWithinRow.domain false) (Rows.fnExactFlyWithinSpec.post enc Try.prog Try.f7 false true false false) := by
  refine returnsInHanded_of_change (C := Try.checked) own started (by kernel_rfl) Try.func7
    (ChangeSpec.witness6 (enc := enc) (C := Try.checked) false ⟨#[], #[.slice none 0 0, .int .i64 0, .int .i64 0, .int .i64 0, .int .i64 0], []⟩ 8 (by kernel_rfl) (by kernel_rfl) (by kernel_rfl) (by kernel_rfl)) ?_
  intro W base args ds gs before hval0 hW hcnd _
  have hval : ∀ (j : Nat) t v, Try.f7.params[j]? = some t → args[j]? = some v → Value.okWide Try.prog W .any base t v := hval0
  have hW' := hW
  obtain ⟨p, q, hA0, hV, rfl, hfz, hnd⟩ := hW
  have hA : DataW.TrodAll enc Try.prog W 0 (fun _ => true) true Try.f7.params.toList args.toList ds p := hA0
  rw [Try.params7] at hA hval
  have hlt := hA.lt
  obtain ⟨v0, vs0, d0, ds0, pp0, qq0, hargs, rfl, rfl, h0, r0⟩ := trodAll_cons hA
  obtain ⟨v1, vs1, d1, ds1, pp1, qq1, rfl, rfl, rfl, h1, r1⟩ := trodAll_cons r0
  obtain ⟨v2, vs2, d2, ds2, pp2, qq2, rfl, rfl, rfl, h2, r2⟩ := trodAll_cons r1
  obtain ⟨v3, vs3, d3, ds3, pp3, qq3, rfl, rfl, rfl, h3, r3⟩ := trodAll_cons r2
  obtain ⟨v4, vs4, d4, ds4, pp4, qq4, rfl, rfl, rfl, h4, r4⟩ := trodAll_cons r3
  obtain ⟨rfl, rfl, rfl⟩ := trodAll_nil r4
  obtain rfl : args = #[v0, v1, v2, v3, v4] := by cases args; simp_all
  obtain ⟨rfl, rfl⟩ := trodVars_none hV
  obtain ⟨ao0, ln0, cap0, rfl⟩ := okWide_slice Try.underlying49 (hval 0 49 v0 rfl rfl)
  obtain ⟨l0, hl0, rfl⟩ : ∃ l0 : List DFlyBox, SliceAt vFlyBox (old W) W ao0 cap0 l0 ∧ ln0 = l0.length := by
    obtain ⟨fl, hy⟩ := h0
    obtain ⟨l, lao, lcap, hlc, hl⟩ := (opens_slice Try.underlying49 (by kernel_rfl) (by decide) opFlyBox) _ _ _ _ _ _ _ _ _ hy
    have e : ([.slice ao0 ln0 cap0] : List Value) = [.slice lao l.length lcap] := hlc
    simp at e
    obtain ⟨rfl, rfl, rfl⟩ := e
    exact ⟨l, hl, rfl⟩
  obtain ⟨a1, rfl⟩ := okWide_int Try.underlying3 (hval 1 3 v1 rfl rfl)
  have ha1 : In64 a1 := by
    obtain ⟨fl, hy⟩ := h1
    obtain ⟨z, hz, hz2⟩ := opens_int Try.underlying3 _ _ _ _ _ _ _ _ _ hy
    have e : ([.int .i64 a1] : List Value) = [.int .i64 z] := hz
    simp at e
    rw [e]; exact hz2
  obtain ⟨a2, rfl⟩ := okWide_int Try.underlying3 (hval 2 3 v2 rfl rfl)
  have ha2 : In64 a2 := by
    obtain ⟨fl, hy⟩ := h2
    obtain ⟨z, hz, hz2⟩ := opens_int Try.underlying3 _ _ _ _ _ _ _ _ _ hy
    have e : ([.int .i64 a2] : List Value) = [.int .i64 z] := hz
    simp at e
    rw [e]; exact hz2
  obtain ⟨a3, rfl⟩ := okWide_int Try.underlying3 (hval 3 3 v3 rfl rfl)
  have ha3 : In64 a3 := by
    obtain ⟨fl, hy⟩ := h3
    obtain ⟨z, hz, hz2⟩ := opens_int Try.underlying3 _ _ _ _ _ _ _ _ _ hy
    have e : ([.int .i64 a3] : List Value) = [.int .i64 z] := hz
    simp at e
    rw [e]; exact hz2
  obtain ⟨a4, rfl⟩ := okWide_int Try.underlying3 (hval 4 3 v4 rfl rfl)
  have ha4 : In64 a4 := by
    obtain ⟨fl, hy⟩ := h4
    obtain ⟨z, hz, hz2⟩ := opens_int Try.underlying3 _ _ _ _ _ _ _ _ _ hy
    have e : ([.int .i64 a4] : List Value) = [.int .i64 z] := hz
    simp at e
    rw [e]; exact hz2
  clear hA0 hval0
  refine (walked ao0 cap0 l0 a1 a2 a3 a4 W hl0 ha1 ha2 ha3 ha4).mono fun e W' ⟨he, bel⟩ => ?_
  subst he
  exact ⟨_, rfl, _, _, _, [], _, _, hW', trodAll_mk1 (shut_bool Try.underlying4 _), (trodAll_cons_mk (Below.trod laidOut (by kernel_rfl) (of_decide_eq_true (by kernel_rfl)) h0 bel (fun y hy => hlt y (by simp [hy]))) (trodAll_cons_mk (Below.trod laidOut (by kernel_rfl) (of_decide_eq_true (by kernel_rfl)) h1 bel (fun y hy => hlt y (by simp [hy]))) (trodAll_cons_mk (Below.trod laidOut (by kernel_rfl) (of_decide_eq_true (by kernel_rfl)) h2 bel (fun y hy => hlt y (by simp [hy]))) (trodAll_cons_mk (Below.trod laidOut (by kernel_rfl) (of_decide_eq_true (by kernel_rfl)) h3 bel (fun y hy => hlt y (by simp [hy]))) (trodAll_cons_mk (Below.trod laidOut (by kernel_rfl) (of_decide_eq_true (by kernel_rfl)) h4 bel (fun y hy => hlt y (by simp [hy]))) trodAll_mk0))))), rfl, bel.frame _, fun h => by cases h⟩

theorem over : Rows.fnExactFlyWithinRow.holds Try.pinned (OpenSpec.ofChange Rows.fnExactFlyWithinSpec) :=
  OpenClaim.holds_of_wide 7 Try.f7 rfl rfl rfl rfl rfl rfl rfl ⟨rfl, rfl, rfl, rfl, rfl⟩ rfl rfl rfl rfl rfl (by kernel_rfl) Try.func7 (by kernel_rfl)
    (of_decide_eq_true (by kernel_rfl)) (by unfold Func.isWrapper; first | (rw [if_pos (by decide +kernel)]; kernel_rfl) | (rw [if_neg (by decide +kernel)]; exact ⟨rfl, rfl⟩))
    (fun os started H enc _ => lifted os started H enc)
end ExWithin

theorem exactWithin_proved : Rows.FnExactFlyWithinSaid := ExWithin.over
#print axioms exactWithin_proved
end Go.Proofs.Ytpjacfnjjkoikaa
