/-
  For every list of ticks and every tick, laws.FnExactFlyWhere returns true, and both read behind the call as they read before: impl.FlyWhere answers as the specification's FlyWhere does, the place and whether there is one, and writes into no argument.
  No condition of ours: the statement as given (Rows.FnExactFlyWhereSaid).
-/
import Derived.Test.YtfjeiegoblaadaaFwI0
import Derived.Deep.RegionWith
import Derived.ProofKit
import Derived.OpenShut
import Derived.ChangeOld
import Derived.Lib.LaidTab
import Derived.ChangeBears2
namespace Go.Proofs.Ytfjeiegoblaadaa
namespace ExFyWhere
open Go.RowKit
set_option linter.unusedSimpArgs false
set_option linter.unusedVariables false

set_option maxRecDepth 100000 in
set_option maxHeartbeats 8000000 in
theorem small (ao0 : Option Addr) (cap0 : Nat) (l0 : List Int) (a1 : Int) (w : World) (hl0 : SliceAt vInt (old w) w ao0 cap0 l0) (ha1 : In64 a1) (hq0 : l0.length ≤ 1048576) :
    Calls Try.prog 6 #[.slice ao0 l0.length cap0, .int .i64 a1] w fun e w' => e = .returned (.bool true) ∧ Below w.heap.size w w' := by
  have hq0I : ¬ (1048576 : Int) < (l0.length : Int) := by omega
  have HSW := fun ao0' cap0' W (u0 : SliceAt vInt (old W) W ao0' cap0' l0) => Fly.sWhere l0 a1 ao0' cap0' W u0
  have HIW := fun ao0' cap0' W (u0 : SliceAt vInt (old W) W ao0' cap0' l0) => Fly.iWhere l0 a1 ao0' cap0' W u0
  obtain ⟨R0, hRe0⟩ : ∃ R, R = ((Fly.whereOf l0 a1).1) := ⟨_, rfl⟩
  simp only [← hRe0] at HSW HIW
  clear hRe0
  have hbn0 : (R0 != R0) = false := by simp
  obtain ⟨R1, hRe1⟩ : ∃ R, R = ((Fly.whereOf l0 a1).2) := ⟨_, rfl⟩
  simp only [← hRe1] at HSW HIW
  clear hRe1
  have hbn1 : (R1 != R1) = false := by simp
  have B_0 : Below w.heap.size w w := Below.refl _ _
  have hz_0 : w.heap.size ≤ w.heap.size := Nat.le_refl _
  have HT := toIntS_any ao0 cap0 l0 w hq0 (hl0.later B_0)
  go_enter Try.func6, Try.ntmps6
  go_wp2_with fail
  refine HT.mono ?_
  rintro e w1 ⟨ao0p, cap0p, rfl, v, hb⟩
  clear HT
  have hz_1 : w.heap.size ≤ w1.heap.size := hb.size
  have B_1 := B_0.trans (hb.mono (by omega))
  clear B_0 hb
  have v0_1 := v.mono fresh_old
  clear v
  have HT := HSW ao0p cap0p w1 v0_1
  go_wp2_with fail
  refine HT.mono ?_
  rintro e w2 ⟨rfl, hb⟩
  clear HT
  clear v0_1
  have hz_2 : w1.heap.size ≤ w2.heap.size := hb.size
  have B_2 := B_1.trans (hb.mono (by omega))
  clear B_1 hb
  clear HSW
  have HT := toIntS_any ao0 cap0 l0 w2 hq0 (hl0.later B_2)
  go_wp2_with fail
  refine HT.mono ?_
  rintro e w3 ⟨ao0q, cap0q, rfl, v, hb⟩
  clear HT
  have hz_3 : w2.heap.size ≤ w3.heap.size := hb.size
  have B_3 := B_2.trans (hb.mono (by omega))
  clear B_2 hb
  have x0_3 := v.mono fresh_old
  clear v
  have HT := HIW ao0q cap0q w3 x0_3
  go_wp2_with fail
  refine HT.mono ?_
  rintro e w4 ⟨rfl, hb⟩
  clear HT
  have hz_4 : w3.heap.size ≤ w4.heap.size := hb.size
  have B_4 := B_3.trans (hb.mono (by omega))
  have x0_4 := x0_3.later hb
  clear B_3 x0_3 hb
  clear HIW
  have HT := toIntS_any ao0 cap0 l0 w4 hq0 (hl0.later B_4)
  go_wp2_with fail
  refine HT.mono ?_
  rintro e w5 ⟨ao0r, cap0r, rfl, v, hb⟩
  clear HT
  have hz_5 : w4.heap.size ≤ w5.heap.size := hb.size
  have B_5 := B_4.trans (hb.mono (by omega))
  have x0_5 := x0_4.later hb
  clear B_4 x0_4 hb
  have y0_5 := v.mono fresh_old
  clear v
  have HT := eqIntS_any ao0q ao0r cap0q cap0r l0 w5 hq0 x0_5 y0_5
  go_wp2_with fail
  refine HT.mono ?_
  rintro e w6 ⟨rfl, hb⟩
  clear HT
  clear y0_5 x0_5
  have hz_6 : w5.heap.size ≤ w6.heap.size := hb.size
  have B_6 := B_5.trans (hb.mono (by omega))
  clear B_5 hb
  go_wp2
  go_ret
  exact ⟨rfl, B_6⟩

set_option maxRecDepth 100000 in
set_option maxHeartbeats 2000000 in
theorem great0 (ao0 : Option Addr) (cap0 : Nat) (l0 : List Int) (a1 : Int) (w : World) (hl0 : SliceAt vInt (old w) w ao0 cap0 l0) (ha1 : In64 a1) (hx : ¬ l0.length ≤ 1048576) :
    Calls Try.prog 6 #[.slice ao0 l0.length cap0, .int .i64 a1] w fun e w' => e = .returned (.bool true) ∧ Below w.heap.size w w' := by
  have hxI : (1048576 : Int) < (l0.length : Int) := by omega
  have B0 : Below w.heap.size w w := Below.refl w.heap.size w
  go_enter Try.func6, Try.ntmps6
  go_wp2
  go_ret
  exact ⟨rfl, B0⟩

theorem walked (ao0 : Option Addr) (cap0 : Nat) (l0 : List Int) (a1 : Int) (w : World) (hl0 : SliceAt vInt (old w) w ao0 cap0 l0) (ha1 : In64 a1) :
    Calls Try.prog 6 #[.slice ao0 l0.length cap0, .int .i64 a1] w fun e w' => e = .returned (.bool true) ∧ Below w.heap.size w w' := by
  rcases (Decidable.em (l0.length ≤ 1048576)).symm with hx | hq0
  · exact great0 ao0 cap0 l0 a1 w hl0 ha1 hx
  · exact small ao0 cap0 l0 a1 w hl0 ha1 hq0


open Go.ChangeShapes Go.WideShapes Go.ChangeAt
theorem own : ownKnob Try.prog.godebug = none := by kernel_rfl
theorem laidOut : laidOutB Try.prog = true := by kernel_rfl

set_option maxRecDepth 100000 in
theorem lifted (os : Os) (started : os.Started) (H : Type) (enc : TypeId × Value → H) :
    ReturnsInHanded {} Try.checked os 6 .any (Rows.fnExactFlyWhereSpec.pre6 enc Try.prog Try.f6 Rows.fnExactFlyWhereRow.domain false) (Rows.fnExactFlyWhereSpec.post enc Try.prog Try.f6 false true false false) := by
  refine returnsInHanded_of_change (C := Try.checked) own started (by kernel_rfl) Try.func6
    (ChangeSpec.witness6 (enc := enc) (C := Try.checked) false ⟨#[], #[.slice none 0 0, .int .i64 0], []⟩ 8 (by kernel_rfl) (by kernel_rfl) (by kernel_rfl) (by kernel_rfl)) ?_
  intro W base args ds gs before hval0 hW hcnd _
  have hval : ∀ (j : Nat) t v, Try.f6.params[j]? = some t → args[j]? = some v → Value.okWide Try.prog W .any base t v := hval0
  have hW' := hW
  obtain ⟨p, q, hA0, hV, rfl, hfz, hnd⟩ := hW
  have hA : DataW.TrodAll enc Try.prog W 0 (fun _ => true) true Try.f6.params.toList args.toList ds p := hA0
  rw [Try.params6] at hA hval
  have hlt := hA.lt
  obtain ⟨v0, vs0, d0, ds0, pp0, qq0, hargs, rfl, rfl, h0, r0⟩ := trodAll_cons hA
  obtain ⟨v1, vs1, d1, ds1, pp1, qq1, rfl, rfl, rfl, h1, r1⟩ := trodAll_cons r0
  obtain ⟨rfl, rfl, rfl⟩ := trodAll_nil r1
  obtain rfl : args = #[v0, v1] := by cases args; simp_all
  obtain ⟨rfl, rfl⟩ := trodVars_none hV
  obtain ⟨ao0, ln0, cap0, rfl⟩ := okWide_slice Try.underlying39 (hval 0 39 v0 rfl rfl)
  obtain ⟨l0, hl0, rfl⟩ : ∃ l0 : List Int, SliceAt vInt (old W) W ao0 cap0 l0 ∧ ln0 = l0.length := by
    obtain ⟨fl, hy⟩ := h0
    obtain ⟨l, lao, lcap, hlc, hl⟩ := (opens_slice Try.underlying39 (by kernel_rfl) (by decide) (opens_int Try.underlying3)) _ _ _ _ _ _ _ _ _ hy
    have e : ([.slice ao0 ln0 cap0] : List Value) = [.slice lao l.length lcap] := hlc
    simp at e
    obtain ⟨rfl, rfl, rfl⟩ := e
    exact ⟨l, hl, rfl⟩
  obtain ⟨a1, rfl⟩ := okWide_int Try.underlying3 (hval 1 3 v1 rfl rfl)
  have ha1 : In64 a1 := by
    obtain ⟨fl, hy⟩ := h1
    obtain ⟨z, hz, hz2⟩ := opens_int Try.underlying3 _ _ _ _ _ _ _ _ _ hy
    have e : ([.int .i64 a1] : List Value) = [.int .i64 z] := hz
    simp at e
    rw [e]; exact hz2
  clear hA0 hval0
  refine (walked ao0 cap0 l0 a1 W hl0 ha1).mono fun e W' ⟨he, bel⟩ => ?_
  subst he
  exact ⟨_, rfl, _, _, _, [], _, _, hW', trodAll_mk1 (shut_bool Try.underlying4 _), (trodAll_cons_mk (Below.trod laidOut (by kernel_rfl) (of_decide_eq_true (by kernel_rfl)) h0 bel (fun y hy => hlt y (by simp [hy]))) (trodAll_cons_mk (Below.trod laidOut (by kernel_rfl) (of_decide_eq_true (by kernel_rfl)) h1 bel (fun y hy => hlt y (by simp [hy]))) trodAll_mk0)), rfl, bel.frame _, fun h => by cases h⟩

theorem over : Rows.fnExactFlyWhereRow.holds Try.pinned (OpenSpec.ofChange Rows.fnExactFlyWhereSpec) :=
  OpenClaim.holds_of_wide 6 Try.f6 rfl rfl rfl rfl rfl rfl rfl ⟨rfl, rfl, rfl, rfl, rfl⟩ rfl rfl rfl rfl rfl (by kernel_rfl) Try.func6 (by kernel_rfl)
    (of_decide_eq_true (by kernel_rfl)) (by unfold Func.isWrapper; first | (rw [if_pos (by decide +kernel)]; kernel_rfl) | (rw [if_neg (by decide +kernel)]; exact ⟨rfl, rfl⟩))
    (fun os started H enc _ => lifted os started H enc)
end ExFyWhere

theorem exactWhere_proved : Rows.FnExactFlyWhereSaid := ExFyWhere.over
#print axioms exactWhere_proved
end Go.Proofs.Ytfjeiegoblaadaa
