/-
  For every two places, laws.FnExactSkyNear returns true, and both read behind the call as they read before: impl.SkyNear answers as the specification's SkyNear does, at numbers at the ends of int too.
  No condition of ours: the statement as given (Rows.FnExactSkyNearSaid).
-/
import Derived.Test.YtcfnfglbbdoghaaNr0
import Derived.Test.YtcfnfglbbdoghaaPQ0
import Derived.Deep.RegionWith
import Derived.ProofKit
import Derived.OpenShut
import Derived.ChangeOld
namespace Go.Proofs.Ytcfnfglbbdoghaa
namespace ExactNear
open Go.ChangeShapes Go.WideShapes Go.ChangeAt Go.RowKit
set_option linter.unusedVariables false
set_option linter.unusedSimpArgs false

theorem mixedF : Try.prog.follows .mixedOrders = true := by kernel_rfl
/-- The two boxes. -/
def BoxC (b : Nat) (p q : DPlace) (W : World) : Prop :=
  W.cell? ⟨b, 0, none⟩ = some (.int .i64 p.1) ∧ W.cell? ⟨b, 1, none⟩ = some (.int .i64 p.2.1) ∧ W.cell? ⟨b, 2, none⟩ = some (.int .i64 p.2.2) ∧ W.cell? ⟨b + 1, 0, none⟩ = some (.int .i64 q.1) ∧ W.cell? ⟨b + 1, 1, none⟩ = some (.int .i64 q.2.1) ∧ W.cell? ⟨b + 1, 2, none⟩ = some (.int .i64 q.2.2)

theorem boxC_below {b n : Nat} {p q : DPlace} {w w' : World} (h : BoxC b p q w) (hb : Below n w w') (hn : b + 1 < n) : BoxC b p q w' := by
  obtain ⟨h0, h1, h2, h3, h4, h5⟩ := h
  exact ⟨(hb.cell (p := ⟨b, 0, none⟩) (by show b < n; omega)).trans h0, (hb.cell (p := ⟨b, 1, none⟩) (by show b < n; omega)).trans h1, (hb.cell (p := ⟨b, 2, none⟩) (by show b < n; omega)).trans h2, (hb.cell (p := ⟨b + 1, 0, none⟩) hn).trans h3, (hb.cell (p := ⟨b + 1, 1, none⟩) hn).trans h4, (hb.cell (p := ⟨b + 1, 2, none⟩) hn).trans h5⟩

set_option maxHeartbeats 2000000 in
theorem law_any (p q : DPlace) (w : World) (hp : WholeP p) (hq : WholeP q) :
    Calls Try.prog 3 #[vPl p, vPl q] w fun e w' => e = .returned (.bool true) ∧ Below w.heap.size w w' := by
  obtain ⟨x, y, l⟩ := p
  obtain ⟨x', y', l'⟩ := q
  have HP := fun W => toPlace (x, y, l) W
  have HQ := fun W => toPlace (x', y', l') W
  have HS := fun W => sNear (x, y, l) (x', y', l') W hp hq
  have HI := fun W => iNear (x, y, l) (x', y', l') W hp hq
  generalize nearB (x, y, l) (x', y', l') = v at HS HI
  simp only [vPl] at *
  obtain ⟨w0, hw0⟩ : ∃ w0, w0 = ((w.alloc (.cells #[.int .i64 x, .int .i64 y, .int .i64 l] 23)).alloc (.cells #[.int .i64 x', .int .i64 y', .int .i64 l'] 23)) := ⟨_, rfl⟩
  have hb0 : Below w.heap.size w w0 := by rw [hw0]; exact ((Below.refl _ _).alloc (Nat.le_refl _) _).alloc (by simp) _
  have hsz : Hid (w0.heap.size = w.heap.size + 2) := by rw [hw0]; show _ = _; simp
  have HC0 : BoxC w.heap.size (x, y, l) (x', y', l') w0.drew := by rw [hw0]; exact ⟨by go_simp, by go_simp, by go_simp, by go_simp, by go_simp, by go_simp⟩
  have hvv : (v != v) = false := by simp
  go_enter Try.func3, Try.ntmps3
  go_wp2_with fail
  rw [← hw0]
  clear hw0
  have hbd := hb0.drew
  have hle : w.heap.size + 2 ≤ w0.drew.heap.size := by have := hsz.out; simp; omega
  clear hb0 hsz
  refine wp_region_RC (BoxC w.heap.size (x, y, l) (x', y', l')) mixedF ?_
  refine RC.take (i := 0) (v := ?v00) rfl (by kernel_rfl) (by kernel_rfl) (by kernel_rfl) (fun _ _ _ h => h) HC0 (by rfl) ?y00 ?r00
  case y00 => (intro W hW; obtain ⟨c0, c1, c2, c3, c4, c5⟩ := hW; go_simp; try with_reducible rfl)
  refine RC.take (i := 2) (v := ?v02) rfl (by kernel_rfl) (by kernel_rfl) (by kernel_rfl) (fun _ _ _ h => h) HC0 (by rfl) ?y02 ?r02
  case y02 => (intro W hW; obtain ⟨c0, c1, c2, c3, c4, c5⟩ := hW; go_simp; try with_reducible rfl)
  refine RC.want (i := 1) (by kernel_rfl) rfl (by rfl) (fun K hK => ?_)
  go_simp
  refine (HP _).mono ?_
  rintro e w00 ⟨rfl, hc⟩
  simp only
  have HC1 := boxC_below HC0 hc hle
  have hle1 : w.heap.size + 2 ≤ w00.heap.size := Nat.le_trans hle hc.size
  have hbe := hbd.trans (hc.mono (by omega))
  clear hc HC0 hle hbd
  refine hK _ _ HC1 ?_
  clear hK K
  have HC0 := HC1
  have hle := hle1
  have hbd := hbe
  clear HC1 hle1 hbe
  refine RC.want (i := 3) (by kernel_rfl) rfl (by rfl) (fun K hK => ?_)
  go_simp
  refine (HQ _).mono ?_
  rintro e w01 ⟨rfl, hc⟩
  simp only
  have HC1 := boxC_below HC0 hc hle
  have hle1 : w.heap.size + 2 ≤ w01.heap.size := Nat.le_trans hle hc.size
  have hbe := hbd.trans (hc.mono (by omega))
  clear hc HC0 hle hbd
  refine hK _ _ HC1 ?_
  clear hK K
  have HC0 := HC1
  have hle := hle1
  have hbd := hbe
  clear HC1 hle1 hbe
  refine RC.want (i := 4) (by kernel_rfl) rfl (by rfl) (fun K hK => ?_)
  go_simp
  refine (HS _).mono ?_
  rintro e w02 ⟨rfl, hc⟩
  simp only
  have HC1 := boxC_below HC0 hc hle
  have hle1 : w.heap.size + 2 ≤ w02.heap.size := Nat.le_trans hle hc.size
  have hbe := hbd.trans (hc.mono (by omega))
  clear hc HC0 hle hbd
  refine hK _ _ HC1 ?_
  clear hK K
  have HC0 := HC1
  have hle := hle1
  have hbd := hbe
  clear HC1 hle1 hbe
  refine RC.take (i := 5) (v := ?v05) rfl (by kernel_rfl) (by kernel_rfl) (by kernel_rfl) (fun _ _ _ h => h) HC0 (by rfl) ?y05 ?r05
  case y05 => (intro W hW; go_simp; try with_reducible rfl)
  refine RC.done (by kernel_rfl) ?_
  go_wp2_with fail
  have HC1 := boxC_below HC0 ((Below.refl (w.heap.size + 2) _).drew) (by omega)
  have hbe := hbd.drew
  have hle1 : w.heap.size + 2 ≤ w02.drew.heap.size := hle
  clear HC0 hbd hle
  have HC0 := HC1
  have hle := hle1
  have hbd := hbe
  clear HC1 hle1 hbe
  refine wp_region_RC (BoxC w.heap.size (x, y, l) (x', y', l')) mixedF ?_
  refine RC.take (i := 0) (v := ?v10) rfl (by kernel_rfl) (by kernel_rfl) (by kernel_rfl) (fun _ _ _ h => h) HC0 (by rfl) ?y10 ?r10
  case y10 => (intro W hW; obtain ⟨c0, c1, c2, c3, c4, c5⟩ := hW; go_simp; try with_reducible rfl)
  refine RC.take (i := 2) (v := ?v12) rfl (by kernel_rfl) (by kernel_rfl) (by kernel_rfl) (fun _ _ _ h => h) HC0 (by rfl) ?y12 ?r12
  case y12 => (intro W hW; obtain ⟨c0, c1, c2, c3, c4, c5⟩ := hW; go_simp; try with_reducible rfl)
  refine RC.want (i := 1) (by kernel_rfl) rfl (by rfl) (fun K hK => ?_)
  go_simp
  refine (HP _).mono ?_
  rintro e w10 ⟨rfl, hc⟩
  simp only
  have HC1 := boxC_below HC0 hc hle
  have hle1 : w.heap.size + 2 ≤ w10.heap.size := Nat.le_trans hle hc.size
  have hbe := hbd.trans (hc.mono (by omega))
  clear hc HC0 hle hbd
  refine hK _ _ HC1 ?_
  clear hK K
  have HC0 := HC1
  have hle := hle1
  have hbd := hbe
  clear HC1 hle1 hbe
  refine RC.want (i := 3) (by kernel_rfl) rfl (by rfl) (fun K hK => ?_)
  go_simp
  refine (HQ _).mono ?_
  rintro e w11 ⟨rfl, hc⟩
  simp only
  have HC1 := boxC_below HC0 hc hle
  have hle1 : w.heap.size + 2 ≤ w11.heap.size := Nat.le_trans hle hc.size
  have hbe := hbd.trans (hc.mono (by omega))
  clear hc HC0 hle hbd
  refine hK _ _ HC1 ?_
  clear hK K
  have HC0 := HC1
  have hle := hle1
  have hbd := hbe
  clear HC1 hle1 hbe
  refine RC.want (i := 4) (by kernel_rfl) rfl (by rfl) (fun K hK => ?_)
  go_simp
  refine (HI _).mono ?_
  rintro e w12 ⟨rfl, hc⟩
  simp only
  have HC1 := boxC_below HC0 hc hle
  have hle1 : w.heap.size + 2 ≤ w12.heap.size := Nat.le_trans hle hc.size
  have hbe := hbd.trans (hc.mono (by omega))
  clear hc HC0 hle hbd
  refine hK _ _ HC1 ?_
  clear hK K
  have HC0 := HC1
  have hle := hle1
  have hbd := hbe
  clear HC1 hle1 hbe
  refine RC.take (i := 5) (v := ?v15) rfl (by kernel_rfl) (by kernel_rfl) (by kernel_rfl) (fun _ _ _ h => h) HC0 (by rfl) ?y15 ?r15
  case y15 => (intro W hW; go_simp; try with_reducible rfl)
  refine RC.done (by kernel_rfl) ?_
  go_wp2_with fail
  go_ret
  exact ⟨rfl, hbd⟩

def vPlace : View DPlace := vPair vInt (vPair vInt vInt)
theorem opPlace : Opens Try.prog 23 vPlace :=
  opens_struct Try.underlying23 (by kernel_rfl) (opensFs_cons rfl (by kernel_rfl) (opens_int Try.underlying3) (opensFs_cons rfl (by kernel_rfl) (opens_int Try.underlying3) (opensFs_one rfl (by kernel_rfl) (opens_int Try.underlying3))))
theorem cells_place {ok : Nat → Prop} {w : World} {c : List Value} {p : DPlace} (h : vPlace.rel ok w c p) : c = [.int .i64 p.1, .int .i64 p.2.1, .int .i64 p.2.2] ∧ WholeP p := by
  obtain ⟨c0, r0, rfl, ⟨rfl, p0⟩, c1, r1, rfl, ⟨rfl, p1⟩, rfl, p2⟩ := h
  exact ⟨rfl, p0, p1, p2⟩

theorem own : ownKnob Try.prog.godebug = none := by kernel_rfl
theorem laidOut : laidOutB Try.prog = true := by kernel_rfl

theorem place_of {H : Type} {enc : TypeId × Value → H} {W : World} {base : Nat} {v : Value} {d : DataW H} {p : List MemPlace} (hv : Value.okWide Try.prog W .any base 23 v) (h : DataW.Trod enc Try.prog W 0 (fun _ => true) true 23 v d p) : ∃ q : DPlace, v = vPl q ∧ WholeP q := by
  obtain ⟨cs, rfl, hcs⟩ := okWide_struct Try.underlying23 hv
  obtain ⟨fuel, h1⟩ := h
  obtain ⟨x, hx⟩ := opPlace _ _ _ _ _ _ _ _ _ h1
  obtain ⟨hc, hw⟩ := cells_place hx
  refine ⟨x, ?_, hw⟩
  obtain rfl : cs = #[.int .i64 x.1, .int .i64 x.2.1, .int .i64 x.2.2] := by
    apply Array.ext'
    exact hc
  rfl

set_option maxRecDepth 100000 in
theorem lifted (os : Os) (started : os.Started) (H : Type) (enc : TypeId × Value → H) :
    ReturnsInHanded {} Try.checked os 3 .any (Rows.fnExactSkyNearSpec.pre6 enc Try.prog Try.f3 Rows.fnExactSkyNearRow.domain false) (Rows.fnExactSkyNearSpec.post enc Try.prog Try.f3 false true false false) := by
  refine returnsInHanded_of_change (C := Try.checked) own started (by kernel_rfl) Try.func3
    (ChangeSpec.witness6 (enc := enc) (C := Try.checked) false ⟨#[], #[vPl (0, 0, 0), vPl (0, 0, 0)], []⟩ 8 (by kernel_rfl) (by kernel_rfl) (by kernel_rfl) (by kernel_rfl)) ?_
  intro W base args ds gs before hval0 hW hcnd _
  have hval : ∀ (j : Nat) t v, Try.f3.params[j]? = some t → args[j]? = some v → Value.okWide Try.prog W .any base t v := hval0
  have hW' := hW
  obtain ⟨p, q, hA0, hV, rfl, hfz, hnd⟩ := hW
  have hA : DataW.TrodAll enc Try.prog W 0 (fun _ => true) true Try.f3.params.toList args.toList ds p := hA0
  rw [Try.params3] at hA hval
  have hlt := hA.lt
  obtain ⟨v0, vs0, d0, ds0, p0, q0, hargs, rfl, rfl, h0, r0⟩ := trodAll_cons hA
  obtain ⟨v1, vs1, d1, ds1, p1, q1, rfl, rfl, rfl, h1, r1⟩ := trodAll_cons r0
  obtain ⟨rfl, rfl, rfl⟩ := trodAll_nil r1
  obtain rfl : args = #[v0, v1] := by cases args; simp_all
  obtain ⟨rfl, rfl⟩ := trodVars_none hV
  obtain ⟨a, rfl, ha⟩ := place_of (hval 0 23 v0 rfl rfl) h0
  obtain ⟨b, rfl, hb⟩ := place_of (hval 1 23 v1 rfl rfl) h1
  clear hA0 hval0
  refine (law_any a b W ha hb).mono fun e W' ⟨he, bel⟩ => ?_
  subst he
  exact ⟨_, rfl, _, _, _, [], _, _, hW', trodAll_mk1 (shut_bool Try.underlying4 _), (trodAll_cons_mk (Below.trod laidOut (by kernel_rfl) (of_decide_eq_true (by kernel_rfl)) h0 bel (fun y hy => hlt y (by simp [hy]))) (trodAll_cons_mk (Below.trod laidOut (by kernel_rfl) (of_decide_eq_true (by kernel_rfl)) h1 bel (fun y hy => hlt y (by simp [hy]))) trodAll_mk0)), rfl, bel.frame _, fun h => by cases h⟩

theorem over : Rows.fnExactSkyNearRow.holds Try.pinned (OpenSpec.ofChange Rows.fnExactSkyNearSpec) :=
  OpenClaim.holds_of_wide 3 Try.f3 rfl rfl rfl rfl rfl rfl rfl ⟨rfl, rfl, rfl, rfl, rfl⟩ rfl rfl rfl rfl rfl (by kernel_rfl) Try.func3 (by kernel_rfl)
    (of_decide_eq_true (by kernel_rfl)) (by unfold Func.isWrapper; first | (rw [if_pos (by decide +kernel)]; kernel_rfl) | (rw [if_neg (by decide +kernel)]; exact ⟨rfl, rfl⟩))
    (fun os started H enc _ => lifted os started H enc)
end ExactNear

theorem exactNear_proved : Rows.FnExactSkyNearSaid := ExactNear.over
#print axioms exactNear_proved
end Go.Proofs.Ytcfnfglbbdoghaa
