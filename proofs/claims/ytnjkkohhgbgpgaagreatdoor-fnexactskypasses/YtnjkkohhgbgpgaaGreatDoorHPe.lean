/-
  For every sky and every list of places, laws.FnExactSkyPasses returns true, and both read behind the call as they read before: impl.SkyPasses answers as the specification's SkyPasses does, passes and code, writes into no argument, keeps nothing of one, and its answer owns its memory.
  The package's array of turn words starts as the program's text lays it: the given tie pays that (a tied card, Rows.FnExactSkyPassesCardSaid). No condition of ours.
-/
import Derived.Test.YtnjkkohhgbgpgaaGreatDoorCards
import Derived.Test.YtnjkkohhgbgpgaaGreatDoorTie
import Derived.Test.YtnjkkohhgbgpgaaGreatDoorHPd
import Derived.ProofKit
import Derived.OpenShut
import Derived.ShutString
import Derived.OpenVars
import Derived.ChangeOld
import Derived.Deep.DeepHandedRow
namespace Go.Proofs.YtnjkkohhgbgpgaaGreatDoor
namespace ExactPasses
open Go.ChangeShapes Go.WideShapes Go.ChangeAt Go.RowKit
open Go.ChangeMaps (open_string shut_string)
set_option linter.unusedVariables false

theorem own : ownKnob Tryz.prog.godebug = none := by kernel_rfl
theorem opList : Opens Tryz.prog 48 (vSlice vSkyPlace) := opens_slice Tryz.underlying48 (by kernel_rfl) (by decide) (opens_struct Tryz.underlying95 (by kernel_rfl) (opensFs_cons rfl (by kernel_rfl) (opens_int Tryz.underlying3) (opensFs_cons rfl (by kernel_rfl) (opens_int Tryz.underlying3) (opensFs_one rfl (by kernel_rfl) (opens_int Tryz.underlying3)))))
theorem laidOut : laidOutB Tryz.prog = true := by kernel_rfl

set_option maxRecDepth 100000 in
theorem contract (H : Type) (enc : TypeId × Value → H) (W : World) (base : Nat) (args : Array Value) (ds gs : List (DataW H)) (before : List MemPlace)
    (hval : ∀ (j : Nat) t v, Tryz.f4.params[j]? = some t → args[j]? = some v → Value.okWide Tryz.prog W .any base t v)
    (hW : DataW.Whole enc Tryz.prog Tryz.f4.params.toList Rows.fnExactSkyPassesSpec.vars false W args.toList ds gs before) (hL : laidMetH Tryz.prog Rows.fnExactSkyPassesRow.laid W) :
    Calls Tryz.prog 4 args W fun e W' => ∃ v, e = .returned v ∧ Rows.fnExactSkyPassesSpec.post enc Tryz.prog Tryz.f4 false true false false W args v W' := by
  have hW' := hW
  have hT : TurnsLaid W := turns_of_laid (rest := []) hL
  obtain ⟨p, q, hA0, hV, rfl, hfz, hnd⟩ := hW
  have hA : DataW.TrodAll enc Tryz.prog W 0 (fun _ => true) true Tryz.f4.params.toList args.toList ds p := hA0
  rw [Tryz.params4] at hA hval
  have hlt := hA.lt
  obtain ⟨v0, vs0, d0, ds0, p0, q0, hargs, rfl, rfl, h0, r0⟩ := trodAll_cons hA
  obtain ⟨v1, vs1, d1, ds1, p1, q1, rfl, rfl, rfl, h1x, r1⟩ := trodAll_cons r0
  obtain ⟨rfl, rfl, rfl⟩ := trodAll_nil r1
  obtain rfl : args = #[v0, v1] := by cases args; simp_all
  obtain ⟨la, ln, lc, rfl⟩ := okWide_slice Tryz.underlying48 (hval 1 48 v1 rfl rfl)
  have h1x' := h1x
  obtain ⟨fl, h1y⟩ := h1x
  obtain ⟨l, lao, lcap, hlc, hl⟩ := opList _ _ _ _ _ _ _ _ _ h1y
  obtain ⟨rfl, rfl, rfl⟩ : la = lao ∧ ln = l.length ∧ lc = lcap := by
    have e : ([.slice la ln lc] : List Value) = [.slice lao l.length lcap] := hlc
    simp at e
    exact e
  obtain ⟨cs, rfl, hcs⟩ := okWide_struct Tryz.underlying27 (hval 0 27 v0 rfl rfl)
  obtain ⟨fuel, h1⟩ := h0
  obtain ⟨x, hx⟩ := opSky _ _ _ _ _ _ _ _ _ h1
  obtain ⟨ao3, cap3, ao4, cap4, ao5, cap5, ao6, cap6, hc, _, _, _, p3, p4, p5, p6⟩ := cells_Sky hx
  obtain rfl : cs = skyCells x ao3 cap3 ao4 cap4 ao5 cap5 ao6 cap6 := by
    apply Array.ext'
    exact hc
  obtain ⟨gd, hgs⟩ : ∃ g1, gs = [g1] := by
    obtain ⟨_, _, _, _, d, _, e, _⟩ := trodVars_one hV
    exact ⟨d, e⟩
  subst hgs
  clear hA0 hval hx hc hcs
  refine (passesLaw x ao3 cap3 ao4 cap4 ao5 cap5 ao6 cap6 la lc l W ⟨p3, p4, p5, p6⟩ hl hT).mono fun e W' ⟨he, bel⟩ => ?_
  subst he
  refine ⟨_, rfl, _, _, _, [], _, _, hW', trodAll_mk1 (shut_bool Tryz.underlying4 _), trodAll_cons_mk (Below.trod laidOut (by kernel_rfl) (of_decide_eq_true (by kernel_rfl)) ⟨fuel, h1⟩ bel (fun y hy => hlt y (by simp [hy]))) (trodAll_cons_mk (Below.trod laidOut (by kernel_rfl) (of_decide_eq_true (by kernel_rfl)) h1x' bel (fun y hy => hlt y (by simp [hy]))) trodAll_mk0), Below.trodVars laidOut bel (by kernel_rfl) hV, bel.frame _, fun h => by cases h⟩

/-- A world for the witness: the settled one, the array (block 0) holding what its initialiser lays. -/
noncomputable def laidWorld (os : Os) : World :=
  { World.holding Tryz.prog os ⟨#[], #[], []⟩ with heap := (World.holding Tryz.prog os ⟨#[], #[], []⟩).heap.modify 0 fun
      | .cells _ t frozen => .cells turnCells t frozen
      | o => o }
def nothing : Value := .agg #[.int .i64 0, .int .i64 0, .int .i64 0, .slice none 0 0, .slice none 0 0, .slice none 0 0, .slice none 0 0]
theorem laid_met (os : Os) : laidMet Tryz.prog Rows.fnExactSkyPassesRow.laid ((laidWorld os).forCall (fun _ _ => 0) ⟨#[], #[nothing, .slice none 0 0], []⟩).memory :=
  laidMet_of_run' 8 (by kernel_rfl) (by kernel_rfl)

theorem reads (os : Os) {H : Type} (enc : TypeId × Value → H) : ∃ places, DataW.whole enc Tryz.prog ((laidWorld os).forCall (fun _ _ => 0) ⟨#[], #[nothing, .slice none 0 0], []⟩).memory Tryz.f4.params.toList Rows.fnExactSkyPassesSpec.vars false #[nothing, .slice none 0 0].toList 8 = some ([.agg [.lit (.int .i64 0), .lit (.int .i64 0), .lit (.int .i64 0), .nil, .nil, .nil, .nil], .nil], [.agg [.lit (.string [110]), .lit (.string [110, 101]), .lit (.string [101]), .lit (.string [115, 101]), .lit (.string [115]), .lit (.string [115, 119]), .lit (.string [119]), .lit (.string [110, 119])]], places) :=
  ⟨MemPlace.row ⟨0, 0, none⟩ 8, by kernel_rfl⟩

set_option maxRecDepth 100000 in
theorem lifted (os : Os) (started : os.Started) (H : Type) (enc : TypeId × Value → H) (F : Stop.Interp) :
    ReturnsInHanded {} Tryz.checked os 4 .any ((OpenSpec.ofChange Rows.fnExactSkyPassesSpec).preRow enc Tryz.prog Tryz.f4 Rows.fnExactSkyPassesRow.domain false Rows.fnExactSkyPassesRow.laid) (((OpenSpec.ofChange Rows.fnExactSkyPassesSpec).at F).post enc Tryz.prog Tryz.f4 false true false false) := by
  obtain ⟨places, hx⟩ := reads os enc
  refine returnsInHanded_of_row (C := Tryz.checked) (s := OpenSpec.ofChange Rows.fnExactSkyPassesSpec) own started (by kernel_rfl) Tryz.func4
    (witness_row_at (enc := enc) (C := Tryz.checked) false (laidWorld os) #[nothing, .slice none 0 0] rfl (by kernel_rfl) (by kernel_rfl) (by kernel_rfl)
      (OpenSpec.preRow_of_cond 8 hx (by kernel_rfl) (fun k hk => by cases hk) (by kernel_rfl) (laid_met os))) ?_
  intro W base args ds gs before hval hW _ _ _ hL _ _
  exact contract H enc W base args ds gs before hval hW hL

theorem said : Rows.FnExactSkyPassesSaid :=
  OpenClaim.holds_of_cond 4 Tryz.f4 rfl rfl rfl rfl rfl rfl rfl ⟨rfl, rfl, rfl, rfl, rfl⟩ rfl rfl rfl rfl rfl (by kernel_rfl) Tryz.func4 (by kernel_rfl)
    (of_decide_eq_true (by kernel_rfl)) (by unfold Func.isWrapper; first | (rw [if_pos (by decide +kernel)]; kernel_rfl) | (rw [if_neg (by decide +kernel)]; exact ⟨rfl, rfl⟩))
    (fun os started H enc _ F => by rw [OpenClaim.pre_eq_preRow]; exact lifted os started H enc F)

theorem plain (f : FuncId) (fn : Func) (hf : Tryz.pinned.checked.prog.funcNamed "loop.example/lapwing/laws.FnExactSkyPasses" = some f) (hfn : Tryz.pinned.checked.prog.funcs[f]? = some fn) :
    false = Tryz.pinned.checked.prog.looks [] ∧ ∀ (j : Nat) t, fn.params[j]? = some t → Tryz.pinned.checked.prog.wantsStandIn t = false := by
  obtain rfl : f = 4 := Option.some.inj ((show Tryz.prog.funcNamed "loop.example/lapwing/laws.FnExactSkyPasses" = some 4 by kernel_rfl).symm.trans hf) |>.symm
  obtain rfl : fn = Tryz.f4 := (Option.some.inj (Tryz.func4.symm.trans hfn)).symm
  refine ⟨by kernel_rfl, fun j t ht => ?_⟩
  rw [Tryz.params4] at ht
  have ht2 : t = 27 ∨ t = 48 := by simpa using Array.mem_of_getElem? ht
  rcases ht2 with rfl | rfl
  · exact (show Tryz.prog.wantsStandIn 27 = false by kernel_rfl)
  · exact (show Tryz.prog.wantsStandIn 48 = false by kernel_rfl)

end ExactPasses

/-- The card. -/
theorem exactPasses_proved : Rows.FnExactSkyPassesCardSaid :=
  Claim7.holds_tied_plain_at .later [] _ _ _ _ ExactPasses.said (fun _ h => by cases h) (by kernel_rfl) (fun _ h => by cases h) fnExactSkyPasses_row_tie rfl ⟨rfl, rfl⟩ (by kernel_rfl) rfl ExactPasses.plain (by kernel_rfl)
#print axioms exactPasses_proved
end Go.Proofs.YtnjkkohhgbgpgaaGreatDoor
