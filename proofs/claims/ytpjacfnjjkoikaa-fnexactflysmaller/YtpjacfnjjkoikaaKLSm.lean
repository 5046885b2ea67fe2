/-
  For any two lists of boxes, laws.FnExactFlySmaller returns true, and all of it reads behind the call as it read before: impl.FlySmaller answers as the specification's does and writes into no argument.
  No condition of ours: the statement as given (Rows.FnExactFlySmallerSaid).
-/
import Derived.Test.YtpjacfnjjkoikaaKTbI
import Derived.Test.YtpjacfnjjkoikaaKTbS0
import Derived.Deep.RegionWith
import Derived.ProofKit
import Derived.OpenShut
import Derived.ChangeOld
import Derived.Lib.LaidTab
import Derived.ChangeBears2
namespace Go.Proofs.Ytpjacfnjjkoikaa
namespace ExSmaller
open Go.RowKit
set_option linter.unusedSimpArgs false
set_option linter.unusedVariables false

set_option maxRecDepth 100000 in
set_option maxHeartbeats 16000000 in
theorem small (ao0 : Option Addr) (cap0 : Nat) (l0 : List DFlyBox) (ao1 : Option Addr) (cap1 : Nat) (l1 : List DFlyBox) (w : World) (hl0 : SliceAt vFlyBox (old w) w ao0 cap0 l0) (hl1 : SliceAt vFlyBox (old w) w ao1 cap1 l1) (hn : wFlyBoxS l0 + wFlyBoxS l1 ≤ 1048576) :
    Calls Try.prog 8 #[.slice ao0 l0.length cap0, .slice ao1 l1.length cap1] w fun e w' => e = .returned (.bool true) ∧ Below w.heap.size w w' := by
  have hn0 : wFlyBoxS l0 ≤ 1048576 := by omega
  have hn1 : wFlyBoxS l1 ≤ 1048576 := by omega
  have hq0 : l0.length ≤ 1048576 := by have := hn0; unfold wFlyBoxS at this; omega
  have hq1 : l1.length ≤ 1048576 := by have := hn1; unfold wFlyBoxS at this; omega
  have hsz0 : szR (1048576) (wFlyBoxS l0) = 1048576 - (wFlyBoxS l0 : Int) := szR_yes (by omega)
  have hnn0 : decide ((1048576 - (wFlyBoxS l0 : Int)) < 0) = false := by simp; omega
  have hsz1 : szR ((1048576 - (wFlyBoxS l0 : Int))) (wFlyBoxS l1) = (1048576 - (wFlyBoxS l0 : Int)) - (wFlyBoxS l1 : Int) := szR_yes (by omega)
  have hnn1 : decide (((1048576 - (wFlyBoxS l0 : Int)) - (wFlyBoxS l1 : Int)) < 0) = false := by simp; omega
  have HSW := fun ao0' cap0' ao1' cap1' W (u0 : SliceAt vFlyBox (old W) W ao0' cap0' l0) (u1 : SliceAt vFlyBox (old W) W ao1' cap1' l1) => Fly.sSmaller l0 l1 ao0' cap0' ao1' cap1' W u0 u1
  have HIW := fun ao0' cap0' ao1' cap1' W (u0 : SliceAt vFlyBox (old W) W ao0' cap0' l0) (u1 : SliceAt vFlyBox (old W) W ao1' cap1' l1) => Fly.iSmaller l0 l1 ao0' cap0' ao1' cap1' W u0 u1 (by omega)
  obtain ⟨R0, hRe0⟩ : ∃ R, R = (pb (Fly.Smaller l0 l1)) := ⟨_, rfl⟩
  simp only [← hRe0] at HSW HIW
  clear hRe0
  have hbn0 : (R0 != R0) = false := by simp
  have B_0 : Below w.heap.size w w := Below.refl _ _
  have hz_0 : w.heap.size ≤ w.heap.size := Nat.le_refl _
  have HT := szFlyBoxS_any ao0 cap0 l0 1048576 w (by omega) (by omega) (hl0.later B_0)
  rw [hsz0] at HT
  go_enter Try.func8, Try.ntmps8
  go_wp2_with fail
  refine HT.mono ?_
  rintro e w1 ⟨rfl, hb⟩
  clear HT
  clear hsz0 
  have hz_1 : w.heap.size ≤ w1.heap.size := hb.size
  have B_1 := B_0.trans (hb.mono (by omega))
  clear B_0 hb
  obtain ⟨L0, hL0⟩ : ∃ L : Int, 1048576 - (wFlyBoxS l0 : Int) = L := ⟨_, rfl⟩
  simp only [hL0] at hnn0 hnn1 hsz1 ⊢
  have hL0r : 0 ≤ L0 ∧ L0 ≤ 1048576 := by omega
  have HT := szFlyBoxS_any ao1 cap1 l1 L0 w1 (by omega) (by omega) (hl1.later B_1)
  rw [hsz1] at HT
  go_wp2_with fail
  refine HT.mono ?_
  rintro e w2 ⟨rfl, hb⟩
  clear HT
  clear hsz1 
  have hz_2 : w1.heap.size ≤ w2.heap.size := hb.size
  have B_2 := B_1.trans (hb.mono (by omega))
  clear B_1 hb
  obtain ⟨L1, hL1⟩ : ∃ L : Int, L0 - (wFlyBoxS l1 : Int) = L := ⟨_, rfl⟩
  simp only [hL1] at hnn1 ⊢
  clear hL0 hL1 hL0r
  have HT := toFlyBoxS_any ao0 cap0 l0 w2 hn0 (hl0.later B_2)
  go_wp2_with fail
  refine HT.mono ?_
  rintro e w3 ⟨ao0p, cap0p, rfl, v, hb⟩
  clear HT
  have hz_3 : w2.heap.size ≤ w3.heap.size := hb.size
  have B_3 := B_2.trans (hb.mono (by omega))
  clear B_2 hb
  have v0_3 := v.mono fresh_old
  clear v
  have HT := toFlyBoxS_any ao1 cap1 l1 w3 hn1 (hl1.later B_3)
  go_wp2_with fail
  refine HT.mono ?_
  rintro e w4 ⟨ao1p, cap1p, rfl, v, hb⟩
  clear HT
  have hz_4 : w3.heap.size ≤ w4.heap.size := hb.size
  have B_4 := B_3.trans (hb.mono (by omega))
  have v0_4 := v0_3.later hb
  clear B_3 v0_3 hb
  have v1_4 := v.mono fresh_old
  clear v
  have HT := HSW ao0p cap0p ao1p cap1p w4 v0_4 v1_4
  go_wp2_with fail
  refine HT.mono ?_
  rintro e w5 ⟨rfl, hb⟩
  clear HT
  clear v0_4 v1_4
  have hz_5 : w4.heap.size ≤ w5.heap.size := hb.size
  have B_5 := B_4.trans (hb.mono (by omega))
  clear B_4 hb
  clear HSW
  have HT := toFlyBoxS_any ao0 cap0 l0 w5 hn0 (hl0.later B_5)
  go_wp2_with fail
  refine HT.mono ?_
  rintro e w6 ⟨ao0q, cap0q, rfl, v, hb⟩
  clear HT
  have hz_6 : w5.heap.size ≤ w6.heap.size := hb.size
  have B_6 := B_5.trans (hb.mono (by omega))
  clear B_5 hb
  have x0_6 := v.mono fresh_old
  clear v
  have HT := toFlyBoxS_any ao1 cap1 l1 w6 hn1 (hl1.later B_6)
  go_wp2_with fail
  refine HT.mono ?_
  rintro e w7 ⟨ao1q, cap1q, rfl, v, hb⟩
  clear HT
  have hz_7 : w6.heap.size ≤ w7.heap.size := hb.size
  have B_7 := B_6.trans (hb.mono (by omega))
  have x0_7 := x0_6.later hb
  clear B_6 x0_6 hb
  have x1_7 := v.mono fresh_old
  clear v
  have HT := HIW ao0q cap0q ao1q cap1q w7 x0_7 x1_7
  go_wp2_with fail
  refine HT.mono ?_
  rintro e w8 ⟨rfl, hb⟩
  clear HT
  have hz_8 : w7.heap.size ≤ w8.heap.size := hb.size
  have B_8 := B_7.trans (hb.mono (by omega))
  have x0_8 := x0_7.later hb
  have x1_8 := x1_7.later hb
  clear B_7 x0_7 x1_7 hb
  clear HIW
  have HT := toFlyBoxS_any ao0 cap0 l0 w8 hn0 (hl0.later B_8)
  go_wp2_with fail
  refine HT.mono ?_
  rintro e w9 ⟨ao0r, cap0r, rfl, v, hb⟩
  clear HT
  have hz_9 : w8.heap.size ≤ w9.heap.size := hb.size
  have B_9 := B_8.trans (hb.mono (by omega))
  have x0_9 := x0_8.later hb
  have x1_9 := x1_8.later hb
  clear B_8 x0_8 x1_8 hb
  have y0_9 := v.mono fresh_old
  clear v
  have HT := eqFlyBoxS_any ao0q ao0r cap0q cap0r l0 w9 hn0 x0_9 y0_9
  go_wp2_with fail
  refine HT.mono ?_
  rintro e w10 ⟨rfl, hb⟩
  clear HT
  clear y0_9 x0_9
  have hz_10 : w9.heap.size ≤ w10.heap.size := hb.size
  have B_10 := B_9.trans (hb.mono (by omega))
  have x1_10 := x1_9.later hb
  clear B_9 x1_9 hb
  have HT := toFlyBoxS_any ao1 cap1 l1 w10 hn1 (hl1.later B_10)
  go_wp2_with fail
  refine HT.mono ?_
  rintro e w11 ⟨ao1r, cap1r, rfl, v, hb⟩
  clear HT
  have hz_11 : w10.heap.size ≤ w11.heap.size := hb.size
  have B_11 := B_10.trans (hb.mono (by omega))
  have x1_11 := x1_10.later hb
  clear B_10 x1_10 hb
  have y1_11 := v.mono fresh_old
  clear v
  have HT := eqFlyBoxS_any ao1q ao1r cap1q cap1r l1 w11 hn1 x1_11 y1_11
  go_wp2_with fail
  refine HT.mono ?_
  rintro e w12 ⟨rfl, hb⟩
  clear HT
  clear y1_11 x1_11
  have hz_12 : w11.heap.size ≤ w12.heap.size := hb.size
  have B_12 := B_11.trans (hb.mono (by omega))
  clear B_11 hb
  go_wp2
  go_ret
  exact ⟨rfl, B_12⟩

set_option maxRecDepth 100000 in
set_option maxHeartbeats 2000000 in
theorem great0 (ao0 : Option Addr) (cap0 : Nat) (l0 : List DFlyBox) (ao1 : Option Addr) (cap1 : Nat) (l1 : List DFlyBox) (w : World) (hl0 : SliceAt vFlyBox (old w) w ao0 cap0 l0) (hl1 : SliceAt vFlyBox (old w) w ao1 cap1 l1) (hx : ¬ wFlyBoxS l0 ≤ 1048576) :
    Calls Try.prog 8 #[.slice ao0 l0.length cap0, .slice ao1 l1.length cap1] w fun e w' => e = .returned (.bool true) ∧ Below w.heap.size w w' := by
  have B0 : Below w.heap.size w w := Below.refl w.heap.size w
  have hs : szR (1048576) (wFlyBoxS l0) = -1 := szR_no (by omega)
  have HT := szFlyBoxS_any ao0 cap0 l0 1048576 _ (by omega) (by omega) (hl0.later B0)
  rw [hs] at HT
  have z0 : w.heap.size + 0 ≤ (w).heap.size := by simp
  go_enter Try.func8, Try.ntmps8
  go_wp2_with fail
  refine HT.mono ?_
  rintro e w1 ⟨rfl, hb⟩
  have B1 := B0.trans (hb.mono B0.size)
  have z1 := Nat.le_trans z0 hb.size
  clear HT hs hb z0 B0 
  go_wp2
  go_ret
  exact ⟨rfl, B1⟩

set_option maxRecDepth 100000 in
set_option maxHeartbeats 2000000 in
theorem great1 (ao0 : Option Addr) (cap0 : Nat) (l0 : List DFlyBox) (ao1 : Option Addr) (cap1 : Nat) (l1 : List DFlyBox) (w : World) (hl0 : SliceAt vFlyBox (old w) w ao0 cap0 l0) (hl1 : SliceAt vFlyBox (old w) w ao1 cap1 l1) (hn : wFlyBoxS l0 ≤ 1048576) (hx : ¬ wFlyBoxS l0 + wFlyBoxS l1 ≤ 1048576) :
    Calls Try.prog 8 #[.slice ao0 l0.length cap0, .slice ao1 l1.length cap1] w fun e w' => e = .returned (.bool true) ∧ Below w.heap.size w w' := by
  have B0 : Below w.heap.size w w := Below.refl w.heap.size w
  have hs : szR (1048576) (wFlyBoxS l0) = 1048576 - (wFlyBoxS l0 : Int) := szR_yes (by omega)
  have hnn0 : decide (1048576 - (wFlyBoxS l0 : Int) < 0) = false := by simp; omega
  have HT := szFlyBoxS_any ao0 cap0 l0 1048576 _ (by omega) (by omega) (hl0.later B0)
  rw [hs] at HT
  have z0 : w.heap.size + 0 ≤ (w).heap.size := by simp
  go_enter Try.func8, Try.ntmps8
  go_wp2_with fail
  refine HT.mono ?_
  rintro e w1 ⟨rfl, hb⟩
  have B1 := B0.trans (hb.mono B0.size)
  have z1 := Nat.le_trans z0 hb.size
  clear HT hs hb z0 B0 
  obtain ⟨L0, hL0⟩ : ∃ L : Int, 1048576 - (wFlyBoxS l0 : Int) = L := ⟨_, rfl⟩
  have hL0r : 0 ≤ L0 ∧ L0 ≤ 1048576 := by omega
  simp only [hL0] at hnn0 ⊢
  have hs : szR (L0) (wFlyBoxS l1) = -1 := szR_no (by omega)
  have HT := szFlyBoxS_any ao1 cap1 l1 L0 _ (by omega) (by omega) (hl1.later B1)
  rw [hs] at HT
  go_wp2_with fail
  refine HT.mono ?_
  rintro e w2 ⟨rfl, hb⟩
  have B2 := B1.trans (hb.mono B1.size)
  have z2 := Nat.le_trans z1 hb.size
  clear HT hs hb z1 B1 
  go_wp2
  go_ret
  exact ⟨rfl, B2⟩

theorem walked (ao0 : Option Addr) (cap0 : Nat) (l0 : List DFlyBox) (ao1 : Option Addr) (cap1 : Nat) (l1 : List DFlyBox) (w : World) (hl0 : SliceAt vFlyBox (old w) w ao0 cap0 l0) (hl1 : SliceAt vFlyBox (old w) w ao1 cap1 l1) :
    Calls Try.prog 8 #[.slice ao0 l0.length cap0, .slice ao1 l1.length cap1] w fun e w' => e = .returned (.bool true) ∧ Below w.heap.size w w' := by
  rcases (Decidable.em (wFlyBoxS l0 ≤ 1048576)).symm with hx | hn0
  · exact great0 ao0 cap0 l0 ao1 cap1 l1 w hl0 hl1 hx
  rcases (Decidable.em (wFlyBoxS l0 + wFlyBoxS l1 ≤ 1048576)).symm with hx | hn1
  · exact great1 ao0 cap0 l0 ao1 cap1 l1 w hl0 hl1 hn0 hx
  · exact small ao0 cap0 l0 ao1 cap1 l1 w hl0 hl1 hn1

theorem opFlyBox : Opens Try.prog 82 vFlyBox :=
  opens_struct Try.underlying82 (by kernel_rfl) (opensFs_cons rfl (by kernel_rfl) (opens_int Try.underlying3) (opensFs_cons rfl (by kernel_rfl) (opens_int Try.underlying3) (opensFs_cons rfl (by kernel_rfl) (opens_int Try.underlying3) (opensFs_cons rfl (by kernel_rfl) (opens_int Try.underlying3) (opensFs_cons rfl (by kernel_rfl) (opens_int Try.underlying3) (opensFs_one rfl (by kernel_rfl) (opens_int Try.underlying3)))))))

open Go.ChangeShapes Go.WideShapes Go.ChangeAt
theorem own : ownKnob Try.prog.godebug = none := by kernel_rfl
theorem laidOut : laidOutB Try.prog = true := by kernel_rfl

set_option maxRecDepth 100000 in
theorem lifted (os : Os) (started : os.Started) (H : Type) (enc : TypeId × Value → H) :
    ReturnsInHanded {} Try.checked os 8 .any (Rows.fnExactFlySmallerSpec.pre6 enc Try.prog Try.f8 Rows.fnExactFlySmallerRow.domain false) (Rows.fnExactFlySmallerSpec.post enc Try.prog Try.f8 false true false false) := by
  refine returnsInHanded_of_change (C := Try.checked) own started (by kernel_rfl) Try.func8
    (ChangeSpec.witness6 (enc := enc) (C := Try.checked) false ⟨#[], #[.slice none 0 0, .slice none 0 0], []⟩ 8 (by kernel_rfl) (by kernel_rfl) (by kernel_rfl) (by kernel_rfl)) ?_
  intro W base args ds gs before hval0 hW hcnd _
  have hval : ∀ (j : Nat) t v, Try.f8.params[j]? = some t → args[j]? = some v → Value.okWide Try.prog W .any base t v := hval0
  have hW' := hW
  obtain ⟨p, q, hA0, hV, rfl, hfz, hnd⟩ := hW
  have hA : DataW.TrodAll enc Try.prog W 0 (fun _ => true) true Try.f8.params.toList args.toList ds p := hA0
  rw [Try.params8] at hA hval
  have hlt := hA.lt
  obtain ⟨v0, vs0, d0, ds0, pp0, qq0, hargs, rfl, rfl, h0, r0⟩ := trodAll_cons hA
  obtain ⟨v1, vs1, d1, ds1, pp1, qq1, rfl, rfl, rfl, h1, r1⟩ := trodAll_cons r0
  obtain ⟨rfl, rfl, rfl⟩ := trodAll_nil r1
  obtain rfl : args = #[v0, v1] := by cases args; simp_all
  obtain ⟨rfl, rfl⟩ := trodVars_none hV
  obtain ⟨ao0, ln0, cap0, rfl⟩ := okWide_slice Try.underlying49 (hval 0 49 v0 rfl rfl)
  obtain ⟨l0, hl0, rfl⟩ : ∃ l0 : List DFlyBox, SliceAt vFlyBox (old W) W ao0 cap0 l0 ∧ ln0 = l0.length := by
    obtain ⟨fl, hy⟩ := h0
    obtain ⟨l, lao, lcap, hlc, hl⟩ := (opens_slice Try.underlying49 (by kernel_rfl) (by decide) opFlyBox) _ _ _ _ _ _ _ _ _ hy
    have e : ([.slice ao0 ln0 cap0] : List Value) = [.slice lao l.length lcap] := hlc
    simp at e
    obtain ⟨rfl, rfl, rfl⟩ := e
    exact ⟨l, hl, rfl⟩
  obtain ⟨ao1, ln1, cap1, rfl⟩ := okWide_slice Try.underlying49 (hval 1 49 v1 rfl rfl)
  obtain ⟨l1, hl1, rfl⟩ : ∃ l1 : List DFlyBox, SliceAt vFlyBox (old W) W ao1 cap1 l1 ∧ ln1 = l1.length := by
    obtain ⟨fl, hy⟩ := h1
    obtain ⟨l, lao, lcap, hlc, hl⟩ := (opens_slice Try.underlying49 (by kernel_rfl) (by decide) opFlyBox) _ _ _ _ _ _ _ _ _ hy
    have e : ([.slice ao1 ln1 cap1] : List Value) = [.slice lao l.length lcap] := hlc
    simp at e
    obtain ⟨rfl, rfl, rfl⟩ := e
    exact ⟨l, hl, rfl⟩
  clear hA0 hval0
  refine (walked ao0 cap0 l0 ao1 cap1 l1 W hl0 hl1).mono fun e W' ⟨he, bel⟩ => ?_
  subst he
  exact ⟨_, rfl, _, _, _, [], _, _, hW', trodAll_mk1 (shut_bool Try.underlying4 _), (trodAll_cons_mk (Below.trod laidOut (by kernel_rfl) (of_decide_eq_true (by kernel_rfl)) h0 bel (fun y hy => hlt y (by simp [hy]))) (trodAll_cons_mk (Below.trod laidOut (by kernel_rfl) (of_decide_eq_true (by kernel_rfl)) h1 bel (fun y hy => hlt y (by simp [hy]))) trodAll_mk0)), rfl, bel.frame _, fun h => by cases h⟩

theorem over : Rows.fnExactFlySmallerRow.holds Try.pinned (OpenSpec.ofChange Rows.fnExactFlySmallerSpec) :=
  OpenClaim.holds_of_wide 8 Try.f8 rfl rfl rfl rfl rfl rfl rfl ⟨rfl, rfl, rfl, rfl, rfl⟩ rfl rfl rfl rfl rfl (by kernel_rfl) Try.func8 (by kernel_rfl)
    (of_decide_eq_true (by kernel_rfl)) (by unfold Func.isWrapper; first | (rw [if_pos (by decide +kernel)]; kernel_rfl) | (rw [if_neg (by decide +kernel)]; exact ⟨rfl, rfl⟩))
    (fun os started H enc _ => lifted os started H enc)
end ExSmaller

theorem exactSmaller_proved : Rows.FnExactFlySmallerSaid := ExSmaller.over
#print axioms exactSmaller_proved
end Go.Proofs.Ytpjacfnjjkoikaa
