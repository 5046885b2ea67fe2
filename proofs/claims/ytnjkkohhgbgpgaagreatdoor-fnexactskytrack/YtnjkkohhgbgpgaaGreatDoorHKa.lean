import Derived.Test.YtnjkkohhgbgpgaaGreatDoorVw1
import Derived.RegionTactic
import Derived.Test.YtnjkkohhgbgpgaaGreatDoorRows
import Derived.WalkKit
import Derived.WalkSpells
import Derived.WalkLawsBesides
import Derived.Deep.QuietTactic
import Derived.BigQuiet
import Derived.RangeFuncNested
import Derived.RangeFuncBound
import Derived.RangeFuncCalls
import Derived.RangeFuncLeaves
import Derived.RangeFuncBox
import Derived.Shelf.Abstract
import Derived.Shelf.RegionOpen
import Derived.OwnWalkIn
import Derived.TacticsInMore
import Derived.LoopNIn
import Derived.LoopIn
import Derived.Maps.AppendAt
import Derived.Deep.RegionWith

/- DERIVED. A region that draws its order and lays blocks: what reads the same in every world of a class is taken first. -/
namespace Go.Proofs.YtnjkkohhgbgpgaaGreatDoor
open Go.RowKit
set_option linter.unusedSimpArgs false
set_option linter.unusedVariables false

section
variable {P : Program} {ops : Array Oper} {md : Region.Mode} {Q : Exit → Act → World → Prop} {C : World → Prop}

/-- Every order of the region goes well, and every world on the way is of the class. -/
def wpAnyC (P : Program) (md : Region.Mode) (ops : Array Oper) (C : World → Prop) (Q : Exit → Act → World → Prop) : Nat → Array Bool → Act → World → Prop
  | 0, listed, a, w => Region.ready md ops listed = [] ∧ Q .normal a w
  | n + 1, listed, a, w => (Region.ready md ops listed = [] → Q .normal a w) ∧ ∀ i ∈ Region.ready md ops listed, wpOp P ops Q i (fun a' w' => C w' ∧ wpAnyC P md ops C Q n (listed.setIfInBounds i true) a' w') a w

theorem wpAny_of_C : ∀ (n : Nat) (listed : Array Bool) (a : Act) (w : World), wpAnyC P md ops C Q n listed a w → wpAny P md ops Q n listed a w
  | 0, _, _, _, h => h
  | n + 1, listed, a, w, h => ⟨h.1, fun i hi => wpOp_mono (fun a' w' h' => wpAny_of_C n _ a' w' h'.2) (h.2 i hi)⟩

/-- An operation that yields v in every world of the class. -/
def YC (P : Program) (ops : Array Oper) (C : World → Prop) (o : Oper) (v : Value) (a : Act) : Prop :=
  (Region.wanted o (yielded ops a.tmps) = true ∧ ∀ w, C w → (execOp a.eval o).run P w = .ok (.value v) w) ∨ (Region.wanted o (yielded ops a.tmps) = false ∧ v = undef)

theorem YC.step {i : Nat} {o : Oper} {v : Value} {a : Act} (hi : ops[i]? = some o) (hy : YC P ops C o v a) {K : Act → World → Prop} {w : World} (hC : C w) (h : K (a.put o.dst v) w) : wpOp P ops Q i K a w := by
  unfold wpOp
  simp only [hi]
  rcases hy with ⟨h1, h2⟩ | ⟨h1, rfl⟩
  · simp only [h1, if_true, Oper.wp, h2 w hC, Oper.upon]
    exact .inl h
  · simp only [h1, Bool.false_eq_true, if_false]
    exact h

theorem YC.same {o : Oper} {v : Value} {a a' : Act} (hy : YC P ops C o v a) (he : execOp a'.eval o = execOp a.eval o) (hw : Region.wanted o (yielded ops a'.tmps) = Region.wanted o (yielded ops a.tmps)) : YC P ops C o v a' := by
  unfold YC at *
  rw [he, hw]
  exact hy

theorem wpOp_putC {j : Nat} {oi oj : Oper} {v : Value} (hj : ops[j]? = some oj) (hap : oi.apart ops oj = true) (hsi : ∀ cs b, oi.op ≠ .select cs b) (hsj : ∀ cs b, oj.op ≠ .select cs b)
    (hQ : ∀ c a w, Q (.panic c) (a.put oi.dst v) w → Q (.panic c) a w) {K : Act → World → Prop} {a : Act} {w : World} (hy : YC P ops C oi v a) (h : wpOp P ops Q j K (a.put oi.dst v) w) :
    wpOp P ops Q j (fun a' w' => YC P ops C oi v a' ∧ K (a'.put oi.dst v) w') a w := by
  obtain ⟨p1, p2, p3⟩ := Oper.apart_spec hap
  have kp : ∀ (a : Act), YC P ops C oi v a → ∀ u, YC P ops C oi v (a.put oj.dst u) := fun a hy u => hy.same (execOp_put oi hsi a oj.dst u p3) (wanted_put oi a oj.dst u p3)
  have kd : ∀ d, YC P ops C oi v { a with defers := d :: a.defers } := fun d => hy.same rfl rfl
  unfold wpOp at *
  simp only [hj] at *
  rw [wanted_put oj a oi.dst v p1] at h
  split
  · rename_i hw
    simp only [hw, if_true] at h
    rcases h with h | ⟨h4, h5⟩
    case inr => exact .inr ⟨by unfold Oper.asks at *; rw [execOp_put oj hsj a oi.dst v p1] at h4; exact h4, h5⟩
    refine .inl ?_
    unfold Oper.wp at *
    rw [execOp_put oj hsj a oi.dst v p1] at h
    generalize (execOp a.eval oj).run P w = r at *
    cases r with
    | ok n w' =>
      cases n <;> simp only [Oper.upon] at h ⊢
      case value u => exact ⟨kp a hy u, by rw [← Act.put_comm a v u p2]; exact h⟩
      case skip => exact ⟨kp a hy _, by rw [← Act.put_comm a v undef p2]; exact h⟩
      case defer d =>
        refine ⟨kp _ (kd d) _, ?_⟩
        rw [← Act.put_comm _ v undef p2, ← Act.put_defers]
        exact h
      case enter f args =>
        refine Calls.mono h fun e w'' he => ?_
        cases e with
        | returned u => exact ⟨kp a hy u, by rw [← Act.put_comm a v u p2]; exact he⟩
        | panicked c => exact hQ _ _ _ he
        | outgrown => exact he
      case row row args => exact Rows.mono h fun u w'' he => ⟨kp a hy u, by rw [← Act.put_comm a v u p2]; exact he⟩
    | halt x w' =>
      cases x <;> simp only [Oper.upon] at h ⊢
      case panic u => exact hQ _ _ _ h
  · rename_i hw
    simp only [hw] at h
    exact ⟨kp a hy _, by rw [← Act.put_comm a v undef p2]; exact h⟩

theorem wpAnyC_first {i : Nat} {oi : Oper} {v : Value} (hi : ops[i]? = some oi) (hsel : ∀ (j : Nat) (o : Oper) cs b, ops[j]? = some o → o.op ≠ .select cs b)
    (hQ : ∀ c a w, Q (.panic c) (a.put oi.dst v) w → Q (.panic c) a w) :
    ∀ (n : Nat) (listed : Array Bool) (a : Act) (w : World),
      (∀ j oj, ops[j]? = some oj → j ≠ i → listed.getD j true = false → (∀ e ∈ oj.after, Region.binds md e = true → e.on ≠ i) → oi.apart ops oj = true) →
      i ∈ Region.ready md ops listed → YC P ops C oi v a → C w →
      wpAnyC P md ops C Q n (listed.setIfInBounds i true) (a.put oi.dst v) w → wpAnyC P md ops C Q (n + 1) listed a w := by
  intro n
  induction n with
  | zero =>
    intro listed a w _ hr hy hC H
    refine ⟨fun h => (by rw [h] at hr; cases hr), fun j hj => ?_⟩
    by_cases hji : j = i
    · subst hji; exact hy.step hi hC ⟨hC, H⟩
    · have := ready_mono hj hji
      rw [H.1] at this
      cases this
  | succ n ih =>
    intro listed a w hfree hr hy hC H
    refine ⟨fun h => (by rw [h] at hr; cases hr), fun j hj => ?_⟩
    by_cases hji : j = i
    · subst hji; exact hy.step hi hC ⟨hC, H⟩
    · have h1 := H.2 j (ready_mono hj hji)
      obtain ⟨hjun, oj, hoj, hall⟩ := mem_ready.1 hj
      have hnot : ∀ e ∈ oj.after, Region.binds md e = true → e.on ≠ i := fun e he hb heq => by
        have h1 := hall e he hb
        have h0 := (mem_ready.1 hr).1
        rw [heq] at h1
        rcases Nat.lt_or_ge i listed.size with h' | h'
        · simp [h'] at h0 h1; rw [h0] at h1; cases h1
        · simp [Array.getElem?_eq_none h'] at h1
      have h2 := wpOp_putC hoj (hfree j oj hoj hji hjun hnot) (fun cs b => hsel i oi cs b hi) (fun cs b => hsel j oj cs b hoj) hQ hy h1
      have hfree' : ∀ k ok, ops[k]? = some ok → k ≠ i → (listed.setIfInBounds j true).getD k true = false → (∀ e ∈ ok.after, Region.binds md e = true → e.on ≠ i) → oi.apart ops ok = true := fun k ok hk hki hun hno => by
        refine hfree k ok hk hki ?_ hno
        by_cases hjk : j = k
        · subst hjk; exact hjun
        · rw [getD_set_ne true hjk] at hun; exact hun
      refine wpOp_mono (fun a' w' h3 => ⟨h3.2.1, ih (listed.setIfInBounds j true) a' w' hfree' (ready_mono hr (Ne.symm hji)) h3.1 h3.2.1 ?_⟩) h2
      rw [Array.setIfInBounds_comm _ _ hji]
      exact h3.2.2

/-- A region's state, behind a structure (so that nothing runs down it). -/
structure RC (P : Program) (md : Region.Mode) (ops : Array Oper) (C : World → Prop) (Q : Exit → Act → World → Prop) (n : Nat) (listed : Array Bool) (a : Act) (w : World) : Prop where
  out : wpAnyC P md ops C Q n listed a w

theorem RC.take {i : Nat} {oi : Oper} {v : Value} {n : Nat} {listed : Array Bool} {a : Act} {w : World} (hi : ops[i]? = some oi) (hs : Region.noSelect ops = true) (hf : Region.free md ops listed i = true) (hr : (Region.ready md ops listed).contains i = true)
    (hQ : ∀ c a w, Q (.panic c) (a.put oi.dst v) w → Q (.panic c) a w) (hC : C w) (hw : Region.wanted oi (yielded ops a.tmps) = true) (hy : ∀ w, C w → (execOp a.eval oi).run P w = .ok (.value v) w)
    (h : RC P md ops C Q n (listed.setIfInBounds i true) (a.put oi.dst v) w) : RC P md ops C Q (n + 1) listed a w :=
  ⟨wpAnyC_first hi (Region.noSelect_spec hs) hQ n listed a w (Region.free_spec hi hf) (by simpa using hr) (.inl ⟨hw, hy⟩) hC h.out⟩

theorem RC.one {i : Nat} {o : Oper} {n : Nat} {listed : Array Bool} {a : Act} {w : World} (hr : Region.ready md ops listed = [i]) (ho : ops[i]? = some o)
    (h : ∀ K' : Act → World → Prop, (∀ a w, C w → RC P md ops C Q n (listed.setIfInBounds i true) a w → K' a w) → if Region.wanted o (yielded ops a.tmps) = true then Oper.wp P o a w K' Q else K' (a.put o.dst undef) w) : RC P md ops C Q (n + 1) listed a w := by
  refine ⟨⟨fun h0 => absurd (hr.symm.trans h0) (by simp), fun j hj => ?_⟩⟩
  rw [hr] at hj
  obtain rfl : j = i := by simpa using hj
  exact wpOp_step ho fun K' hK => h K' fun a w h1 h2 => hK a w ⟨h1, h2.out⟩

theorem RC.two {i k : Nat} {o p : Oper} {n : Nat} {listed : Array Bool} {a : Act} {w : World} (hr : Region.ready md ops listed = [i, k]) (ho : ops[i]? = some o) (hp : ops[k]? = some p)
    (h : ∀ K' : Act → World → Prop, (∀ a w, C w → RC P md ops C Q n (listed.setIfInBounds i true) a w → K' a w) → if Region.wanted o (yielded ops a.tmps) = true then Oper.wp P o a w K' Q else K' (a.put o.dst undef) w)
    (h' : ∀ K' : Act → World → Prop, (∀ a w, C w → RC P md ops C Q n (listed.setIfInBounds k true) a w → K' a w) → if Region.wanted p (yielded ops a.tmps) = true then Oper.wp P p a w K' Q else K' (a.put p.dst undef) w) : RC P md ops C Q (n + 1) listed a w := by
  refine ⟨⟨fun h0 => absurd (hr.symm.trans h0) (by simp), fun j hj => ?_⟩⟩
  rw [hr] at hj
  have hj' : j = i ∨ j = k := by simpa using hj
  rcases hj' with rfl | rfl
  · exact wpOp_step ho fun K' hK => h K' fun a w h1 h2 => hK a w ⟨h1, h2.out⟩
  · exact wpOp_step hp fun K' hK => h' K' fun a w h1 h2 => hK a w ⟨h1, h2.out⟩

theorem RC.want {i : Nat} {o : Oper} {n : Nat} {listed : Array Bool} {a : Act} {w : World} (hr : Region.ready md ops listed = [i]) (ho : ops[i]? = some o) (hw : Region.wanted o (yielded ops a.tmps) = true)
    (h : ∀ K' : Act → World → Prop, (∀ a w, C w → RC P md ops C Q n (listed.setIfInBounds i true) a w → K' a w) → Oper.wp P o a w K' Q) : RC P md ops C Q (n + 1) listed a w :=
  RC.one hr ho fun K' hK => by rw [if_pos hw]; exact h K' hK

theorem RC.done {listed : Array Bool} {a : Act} {w : World} (hr : Region.ready md ops listed = []) (h : Q .normal a w) : RC P md ops C Q 0 listed a w := ⟨⟨hr, h⟩⟩

theorem wp_region_RC (C : World → Prop) {id : Nat} {a : Act} {w : World} (hm : P.follows .mixedOrders = true) (h : RC P .any ops C Q ops.size (Array.replicate ops.size false) a w.drew) : (Code.region id ops true).wp P Q a w :=
  wp_region_any hm (wpAny_of_C _ _ _ _ h.out)

end
end Go.Proofs.YtnjkkohhgbgpgaaGreatDoor

/- DERIVED. How far two numbers are apart (impl.skyDistance): its walk. -/
namespace Go.Proofs.YtnjkkohhgbgpgaaGreatDoor
open Go.RowKit
set_option linter.unusedSimpArgs false
set_option linter.unusedVariables false

def Whole (x : Int) : Prop := -9223372036854775808 ≤ x ∧ x ≤ 9223372036854775807
def apartOf (a b : Int) : Int := if a ≤ b then b - a else a - b

theorem dist_any (a b : Int) (w : World) (ha : Whole a) (hb : Whole b) :
    Calls Tryz.prog 138 #[.int .i64 a, .int .i64 b] w fun e w' => e = .returned (.int .u64 (apartOf a b)) ∧ w = w' := by
  obtain ⟨ha1, ha2⟩ := ha
  obtain ⟨hb1, hb2⟩ := hb
  rcases Int.lt_trichotomy a b with h | h | h
  · have e : apartOf a b = b - a := by unfold apartOf; split <;> omega
    rw [e]
    clear e
    go_enter Tryz.func138, Tryz.ntmps138
    go_wp2
    go_ret
    exact ⟨congrArg (fun z => Ending.returned (Value.int .u64 z)) (by simp [IntKind.wrap, IntKind.bits, IntKind.signed]; omega), rfl⟩
  · subst h
    have e : apartOf a a = 0 := by unfold apartOf; split <;> omega
    rw [e]
    clear e
    go_enter Tryz.func138, Tryz.ntmps138
    go_wp2
    go_ret
    exact ⟨rfl, rfl⟩
  · have e : apartOf a b = a - b := by unfold apartOf; split <;> omega
    rw [e]
    clear e
    go_enter Tryz.func138, Tryz.ntmps138
    go_wp2
    go_ret
    exact ⟨congrArg (fun z => Ending.returned (Value.int .u64 z)) (by simp [IntKind.wrap, IntKind.bits, IntKind.signed]; omega), rfl⟩

end Go.Proofs.YtnjkkohhgbgpgaaGreatDoor

/- DERIVED. Legs on plain data; the program's small functions over cells: skyHasLegs, skyStepsApart, skyLineOf, nearest, cell: their walks. -/
namespace Go.Proofs.YtnjkkohhgbgpgaaGreatDoor
namespace Leg
open Go.RowKit
set_option linter.unusedSimpArgs false
set_option linter.unusedVariables false

abbrev DCell := Int × Int
def vCe (c : DCell) : Value := .agg #[.int .i64 c.1, .int .i64 c.2]
/-- A cell that has legs. -/
def InLeg (c : DCell) : Prop := (0 ≤ c.1 ∧ c.1 ≤ 15) ∧ 0 ≤ c.2 ∧ c.2 ≤ 15
instance (c : DCell) : Decidable (InLeg c) := by unfold InLeg; infer_instance
def stepsOf (a b : DCell) : Int := if apartOf a.1 b.1 < apartOf a.2 b.2 then apartOf a.2 b.2 else apartOf a.1 b.1
def nearOf (n f t k : Int) : Int := if n = 0 then f else (2 * (f * n + (t - f) * k) + n) / (2 * n)
def cellOf (n : Int) (a b : DCell) (k : Int) : DCell := (nearOf n a.1 b.1 k, nearOf n a.2 b.2 k)
/-- The lesser one, by X, then by Y (or the same). -/
def Lesser (a b : DCell) : Prop := a.1 < b.1 ∨ (a.1 = b.1 ∧ a.2 ≤ b.2)
instance (a b : DCell) : Decidable (Lesser a b) := by unfold Lesser; infer_instance
def legUp (a b : DCell) : List DCell := (List.range ((stepsOf a b).toNat + 1)).map fun (k : Nat) => cellOf (stepsOf a b) a b (k : Int)
def legOf (a b : DCell) : List DCell := if InLeg a ∧ InLeg b then (if Lesser a b then legUp a b else (legUp b a).reverse) else []

theorem from_is (n lo hi : Int) (w : World) :
    Calls Tryz.prog 102 #[.int .i64 n, .int .i64 lo, .int .i64 hi] w fun e w' => e = .returned (.bool (decide (lo ≤ n ∧ n ≤ hi))) ∧ w = w' := by
  by_cases h1 : lo ≤ n
  · by_cases h2 : n ≤ hi
    · go_enter Tryz.func102, Tryz.ntmps102
      go_wp2
      go_ret
      exact ⟨by simp [h1, h2], rfl⟩
    · go_enter Tryz.func102, Tryz.ntmps102
      go_wp2
      go_ret
      exact ⟨by simp [h1, h2]; try omega, rfl⟩
  · go_enter Tryz.func102, Tryz.ntmps102
    go_wp2
    go_ret
    exact ⟨by simp [h1]; try omega, rfl⟩

theorem from_b (n lo hi : Int) (w : World) (v : Bool) (h : v = decide (lo ≤ n ∧ n ≤ hi)) :
    Calls Tryz.prog 102 #[.int .i64 n, .int .i64 lo, .int .i64 hi] w fun e w' => e = .returned (.bool v) ∧ w = w' := by rw [h]; exact from_is n lo hi w

set_option maxHeartbeats 1000000 in
theorem hasLegs (c : DCell) (w : World) :
    Calls Tryz.prog 116 #[vCe c] w fun e w' => e = .returned (.bool (decide (InLeg c))) ∧ Below w.heap.size w w' := by
  obtain ⟨x, y⟩ := c
  simp only [vCe]
  have HB : Below w.heap.size w (w.alloc (.cells #[.int .i64 x, .int .i64 y] 67)) := (Below.refl _ _).alloc (Nat.le_refl _) _
  by_cases hx : 0 ≤ x ∧ x ≤ 15
  · have HX := fun w => from_b x 0 15 w true (by simp [hx])
    by_cases hy : 0 ≤ y ∧ y ≤ 15
    · have HY := fun w => from_b y 0 15 w true (by simp [hy])
      have e : decide (InLeg (x, y)) = true := by simp [InLeg, hx, hy]
      rw [e]
      clear e hx hy
      go_enter Tryz.func116, Tryz.ntmps116
      go_wp2_with fail
      refine (HX _).mono ?_
      rintro e w' ⟨rfl, rfl⟩
      clear HX
      go_wp2_with fail
      refine (HY _).mono ?_
      rintro e w' ⟨rfl, rfl⟩
      go_wp2
      go_ret
      exact ⟨rfl, HB⟩
    · have HY := fun w => from_b y 0 15 w false (by simp [hy])
      have e : decide (InLeg (x, y)) = false := decide_eq_false fun h => hy h.2
      rw [e]
      clear e hx hy
      go_enter Tryz.func116, Tryz.ntmps116
      go_wp2_with fail
      refine (HX _).mono ?_
      rintro e w' ⟨rfl, rfl⟩
      clear HX
      go_wp2_with fail
      refine (HY _).mono ?_
      rintro e w' ⟨rfl, rfl⟩
      go_wp2
      go_ret
      exact ⟨rfl, HB⟩
  · have HX := fun w => from_b x 0 15 w false (by simp [hx])
    have e : decide (InLeg (x, y)) = false := decide_eq_false fun h => hx h.1
    rw [e]
    clear e hx
    go_enter Tryz.func116, Tryz.ntmps116
    go_wp2_with fail
    refine (HX _).mono ?_
    rintro e w' ⟨rfl, rfl⟩
    go_wp2
    go_ret
    exact ⟨rfl, HB⟩

theorem apart_le {a b : Int} (ha : 0 ≤ a ∧ a ≤ 15) (hb : 0 ≤ b ∧ b ≤ 15) : 0 ≤ apartOf a b ∧ apartOf a b ≤ 15 := by unfold apartOf; split <;> omega
theorem steps_le {a b : DCell} (ha : InLeg a) (hb : InLeg b) : 0 ≤ stepsOf a b ∧ stepsOf a b ≤ 15 := by
  have h1 := apart_le ha.1 hb.1
  have h2 := apart_le ha.2 hb.2
  unfold stepsOf
  split <;> assumption
theorem whole_of {a : Int} (ha : 0 ≤ a ∧ a ≤ 15) : Whole a := ⟨by omega, by omega⟩

theorem dist_b (a b d : Int) (w : World) (ha : Whole a) (hb : Whole b) (hd : apartOf a b = d) :
    Calls Tryz.prog 138 #[.int .i64 a, .int .i64 b] w fun e w' => e = .returned (.int .u64 d) ∧ w = w' := hd ▸ dist_any a b w ha hb

set_option maxHeartbeats 1000000 in
theorem stepsApart (a b : DCell) (w : World) (ha : InLeg a) (hb : InLeg b) :
    Calls Tryz.prog 128 #[vCe a, vCe b] w fun e w' => e = .returned (.int .i64 (stepsOf a b)) ∧ Below w.heap.size w w' := by
  obtain ⟨x, y⟩ := a
  obtain ⟨x', y'⟩ := b
  have h1 := apart_le ha.1 hb.1
  have h2 := apart_le ha.2 hb.2
  have hx := whole_of ha.1
  have hx' := whole_of hb.1
  have hy := whole_of ha.2
  have hy' := whole_of hb.2
  simp only [vCe, stepsOf] at *
  generalize hd : apartOf x x' = d at *
  generalize he : apartOf y y' = e at *
  have HB : Below w.heap.size w ((w.alloc (.cells #[.int .i64 x, .int .i64 y] 67)).alloc (.cells #[.int .i64 x', .int .i64 y'] 67)).drew := (((Below.refl _ _).alloc (Nat.le_refl _) _).alloc (by simp) _).drew
  obtain ⟨hd1, hd2⟩ := h1
  obtain ⟨he1, he2⟩ := h2
  clear ha hb
  have HD : ∀ k, Below w.heap.size w (((w.alloc (.cells #[.int .i64 x, .int .i64 y] 67)).alloc (.cells #[.int .i64 x', .int .i64 y'] 67)).drewN k) := fun k => below_drewN (((Below.refl _ _).alloc (Nat.le_refl _) _).alloc (by simp) _) k
  clear HB
  go_enter Tryz.func128, Tryz.ntmps128
  go_wp2_with fail
  go_quiet ((go_at_call 138; refine (dist_b _ _ _ _ (by assumption) (by assumption) (by assumption)).mono ?_; rintro e w' ⟨rfl, rfl⟩; exact ⟨rfl, _, rfl⟩))
  go_wp2
  all_goals
    go_ret
    exact ⟨rfl, HD _⟩

/-- The values of a line. -/
def lineCells (a b : DCell) (n : Int) : Array Value := #[.int .i64 a.1, .int .i64 a.2, .int .i64 b.1, .int .i64 b.2, .int .i64 n]

set_option maxHeartbeats 1000000 in
theorem lineOf (a b : DCell) (w : World) (ha : InLeg a) (hb : InLeg b) :
    Calls Tryz.prog 117 #[vCe a, vCe b] w fun e w' => e = .returned (.tuple (if Lesser a b then #[.agg (lineCells a b (stepsOf a b)), .int .i64 1] else #[.agg (lineCells b a (stepsOf a b)), .int .i64 (-1)])) ∧ Below w.heap.size w w' := by
  have HS := fun W => stepsApart a b W ha hb
  generalize stepsOf a b = n at *
  obtain ⟨x, y⟩ := a
  obtain ⟨x', y'⟩ := b
  simp only [vCe, lineCells] at *
  obtain ⟨w0, hw0⟩ : ∃ w0, w0 = (((w.alloc (.cells #[.int .i64 x, .int .i64 y] 67)).alloc (.cells #[.int .i64 x', .int .i64 y'] 67)).alloc (.cells #[.int .i64 0, .int .i64 0, .int .i64 0, .int .i64 0, .int .i64 0] 167)) := ⟨_, rfl⟩
  have hb0 : Below w.heap.size w w0 := by rw [hw0]; exact (((Below.refl _ _).alloc (Nat.le_refl _) _).alloc (by simp) _).alloc (by simp; omega) _
  have HL : Lesser (x, y) (x', y') ↔ (x < x' ∨ (x = x' ∧ y ≤ y')) := Iff.rfl
  have e1 : w0.heap.size = w.heap.size + 3 := by rw [hw0]; simp
  clear hw0
  by_cases h1 : x < x'
  · rw [if_pos (HL.2 (.inl h1))]
    clear HL hb0 e1
    go_enter Tryz.func117, Tryz.ntmps117
    go_wp2_with fail
    refine (HS _).mono ?_
    rintro e w1 ⟨rfl, hb1⟩
    obtain ⟨bc, bf⟩ := bcell hb1
    have hb2 := (((Below.refl w.heap.size w).alloc (Nat.le_refl _) _).alloc (by simp) _).alloc (by simp; omega) _ |>.trans (hb1.mono (by simp; omega))
    have z1 := hb1.size
    simp at z1 bc bf
    have y10 : w.heap.size < w1.heap.size := by omega
    have y11 : w.heap.size + 1 < w1.heap.size := by omega
    have y12 : w.heap.size + 1 + 1 < w1.heap.size := by omega
    go_wp2
    refine bodyPost_ret (v := .tuple #[.agg #[.int .i64 x, .int .i64 y, .int .i64 x', .int .i64 y', .int .i64 n], .int .i64 1]) (by simp [results, Tryz.results117, go_sem, bc, bf, y10, y11, y12]) rfl ⟨rfl, ?_⟩
    repeat (first | refine Below.setCell ?_ (by simp; try omega) _ | exact hb2)
  · by_cases h2 : x = x'
    · by_cases h3 : y ≤ y'
      · rw [if_pos (HL.2 (.inr ⟨h2, h3⟩))]
        clear HL hb0 e1
        subst h2
        go_enter Tryz.func117, Tryz.ntmps117
        go_wp2_with fail
        refine (HS _).mono ?_
        rintro e w1 ⟨rfl, hb1⟩
        obtain ⟨bc, bf⟩ := bcell hb1
        have hb2 := (((Below.refl w.heap.size w).alloc (Nat.le_refl _) _).alloc (by simp) _).alloc (by simp; omega) _ |>.trans (hb1.mono (by simp; omega))
        have z1 := hb1.size
        simp at z1 bc bf
        have y10 : w.heap.size < w1.heap.size := by omega
        have y11 : w.heap.size + 1 < w1.heap.size := by omega
        have y12 : w.heap.size + 1 + 1 < w1.heap.size := by omega
        go_wp2
        refine bodyPost_ret (v := .tuple #[.agg #[.int .i64 x, .int .i64 y, .int .i64 x, .int .i64 y', .int .i64 n], .int .i64 1]) (by simp [results, Tryz.results117, go_sem, bc, bf, y10, y11, y12]) rfl ⟨rfl, ?_⟩
        repeat (first | refine Below.setCell ?_ (by simp; try omega) _ | exact hb2)
      · rw [if_neg (fun h => by rcases HL.1 h with h | h <;> omega)]
        clear HL hb0 e1
        subst h2
        go_enter Tryz.func117, Tryz.ntmps117
        go_wp2_with fail
        refine (HS _).mono ?_
        rintro e w1 ⟨rfl, hb1⟩
        obtain ⟨bc, bf⟩ := bcell hb1
        have hb2 := (((Below.refl w.heap.size w).alloc (Nat.le_refl _) _).alloc (by simp) _).alloc (by simp; omega) _ |>.trans (hb1.mono (by simp; omega))
        have z1 := hb1.size
        simp at z1 bc bf
        have y10 : w.heap.size < w1.heap.size := by omega
        have y11 : w.heap.size + 1 < w1.heap.size := by omega
        have y12 : w.heap.size + 1 + 1 < w1.heap.size := by omega
        go_wp2
        refine bodyPost_ret (v := .tuple #[.agg #[.int .i64 x, .int .i64 y', .int .i64 x, .int .i64 y, .int .i64 n], .int .i64 (-1)]) (by simp [results, Tryz.results117, go_sem, bc, bf, y10, y11, y12]) rfl ⟨rfl, ?_⟩
        repeat (first | refine Below.setCell ?_ (by simp; try omega) _ | exact hb2)
    · rw [if_neg (fun h => by rcases HL.1 h with h | h <;> omega)]
      clear HL hb0 e1
      have h2b : (x == x') = false := by simp [h2]
      go_enter Tryz.func117, Tryz.ntmps117
      go_wp2_with fail
      refine (HS _).mono ?_
      rintro e w1 ⟨rfl, hb1⟩
      obtain ⟨bc, bf⟩ := bcell hb1
      have hb2 := (((Below.refl w.heap.size w).alloc (Nat.le_refl _) _).alloc (by simp) _).alloc (by simp; omega) _ |>.trans (hb1.mono (by simp; omega))
      have z1 := hb1.size
      simp at z1 bc bf
      have y10 : w.heap.size < w1.heap.size := by omega
      have y11 : w.heap.size + 1 < w1.heap.size := by omega
      have y12 : w.heap.size + 1 + 1 < w1.heap.size := by omega
      go_wp2
      refine bodyPost_ret (v := .tuple #[.agg #[.int .i64 x', .int .i64 y', .int .i64 x, .int .i64 y, .int .i64 n], .int .i64 (-1)]) (by simp [results, Tryz.results117, go_sem, bc, bf, y10, y11, y12]) rfl ⟨rfl, ?_⟩
      repeat (first | refine Below.setCell ?_ (by simp; try omega) _ | exact hb2)

set_option maxHeartbeats 1000000 in
theorem nearest (a1 a2 b1 b2 n f t k : Int) (w : World) (hf : 0 ≤ f ∧ f ≤ 15) (ht : 0 ≤ t ∧ t ≤ 15) (hn : 0 ≤ n ∧ n ≤ 15) (hk : 0 ≤ k ∧ k ≤ n) :
    Calls Tryz.prog 139 #[.agg #[.int .i64 a1, .int .i64 a2, .int .i64 b1, .int .i64 b2, .int .i64 n], .int .i64 f, .int .i64 t, .int .i64 k] w fun e w' => e = .returned (.int .i64 (nearOf n f t k)) ∧ Below w.heap.size w w' := by
  have HB : Below w.heap.size w (w.alloc (.cells #[.int .i64 a1, .int .i64 a2, .int .i64 b1, .int .i64 b2, .int .i64 n] 167)) := (Below.refl _ _).alloc (Nat.le_refl _) _
  by_cases h0 : n = 0
  · subst h0
    go_enter Tryz.func139, Tryz.ntmps139
    go_wp2
    go_ret
    exact ⟨by simp [nearOf], HB⟩
  · have hnb : (n == 0) = false := by simp [h0]
    have p1 : 0 ≤ f * n := Int.mul_nonneg hf.1 hn.1
    have p2 : f * n ≤ 225 := by
      have h := Int.mul_le_mul hf.2 hn.2 hn.1 (by omega : (0 : Int) ≤ 15)
      omega
    have q1 : -(f * n) ≤ (t - f) * k := by
      have e1 : (t - f) * k = t * k - f * k := Int.sub_mul ..
      have e2 : 0 ≤ t * k := Int.mul_nonneg ht.1 hk.1
      have e3 : f * k ≤ f * n := Int.mul_le_mul_of_nonneg_left hk.2 hf.1
      omega
    have q2 : (t - f) * k ≤ 225 := by
      have e1 : (t - f) * k = t * k - f * k := Int.sub_mul ..
      have e2 : 0 ≤ f * k := Int.mul_nonneg hf.1 hk.1
      have e3 : t * k ≤ 15 * 15 := Int.mul_le_mul ht.2 (by omega) hk.1 (by omega)
      omega
    obtain ⟨hf1, hf2⟩ := hf
    obtain ⟨ht1, ht2⟩ := ht
    obtain ⟨hn1, hn2⟩ := hn
    obtain ⟨hk1, hk2⟩ := hk
    go_enter Tryz.func139, Tryz.ntmps139
    go_wp2
    go_ret
    exact ⟨by simp [nearOf, h0], HB⟩

end Leg
end Go.Proofs.YtnjkkohhgbgpgaaGreatDoor

/- DERIVED. The program's cell of a line: its walk. -/
namespace Go.Proofs.YtnjkkohhgbgpgaaGreatDoor
namespace Leg
open Go.RowKit
set_option linter.unusedSimpArgs false
set_option linter.unusedVariables false

theorem mixedL : Tryz.prog.follows .mixedOrders = true := by kernel_rfl
/-- The box of a line. -/
def LineC (b : Nat) (f t : DCell) (n : Int) (W : World) : Prop :=
  W.cell? ⟨b, 0, none⟩ = some (.int .i64 f.1) ∧ W.cell? ⟨b, 1, none⟩ = some (.int .i64 f.2) ∧ W.cell? ⟨b, 2, none⟩ = some (.int .i64 t.1) ∧ W.cell? ⟨b, 3, none⟩ = some (.int .i64 t.2) ∧ W.cell? ⟨b, 4, none⟩ = some (.int .i64 n)
theorem LineC.below {b m : Nat} {f t : DCell} {n : Int} {w w' : World} (h : LineC b f t n w) (hb : Below m w w') (hn : b < m) : LineC b f t n w' := by
  obtain ⟨h0, h1, h2, h3, h4⟩ := h
  exact ⟨(hb.cell (p := ⟨b, 0, none⟩) hn).trans h0, (hb.cell (p := ⟨b, 1, none⟩) hn).trans h1, (hb.cell (p := ⟨b, 2, none⟩) hn).trans h2, (hb.cell (p := ⟨b, 3, none⟩) hn).trans h3, (hb.cell (p := ⟨b, 4, none⟩) hn).trans h4⟩

set_option maxHeartbeats 2000000 in
theorem cell_any (f t : DCell) (n k : Int) (w : World) (hf : InLeg f) (ht : InLeg t) (hn : 0 ≤ n ∧ n ≤ 15) (hk : 0 ≤ k ∧ k ≤ n) :
    Calls Tryz.prog 130 #[.agg (lineCells f t n), .int .i64 k] w fun e w' => e = .returned (vCe (cellOf n f t k)) ∧ Below w.heap.size w w' := by
  obtain ⟨x, y⟩ := f
  obtain ⟨x', y'⟩ := t
  have HX := fun W => nearest x y x' y' n x x' k W hf.1 ht.1 hn hk
  have HY := fun W => nearest x y x' y' n y y' k W hf.2 ht.2 hn hk
  simp only [vCe, cellOf, lineCells] at *
  generalize nearOf n x x' k = u at *
  generalize nearOf n y y' k = v at *
  obtain ⟨w0, hw0⟩ : ∃ w0, w0 = (w.alloc (.cells #[.int .i64 x, .int .i64 y, .int .i64 x', .int .i64 y', .int .i64 n] 167)).alloc (.cells #[.int .i64 0, .int .i64 0] 67) := ⟨_, rfl⟩
  have hb0 : Below w.heap.size w w0 := by rw [hw0]; exact ((Below.refl _ _).alloc (Nat.le_refl _) _).alloc (by simp) _
  have hsz : Hid (w0.heap.size = w.heap.size + 2) := by rw [hw0]; show _ = _; simp
  have HC0 : LineC w.heap.size (x, y) (x', y') n w0.drew := by rw [hw0]; exact ⟨by go_simp, by go_simp, by go_simp, by go_simp, by go_simp⟩
  have c0 : w0.drew.cell? ⟨w.heap.size + 1, 0, none⟩ = some (.int .i64 0) := by rw [hw0]; go_simp
  have c1 : w0.drew.cell? ⟨w.heap.size + 1, 1, none⟩ = some (.int .i64 0) := by rw [hw0]; go_simp
  have f0 : w0.drew.frozen? ⟨w.heap.size + 1, 0, none⟩ = false := by rw [hw0]; go_simp
  have f1 : w0.drew.frozen? ⟨w.heap.size + 1, 1, none⟩ = false := by rw [hw0]; go_simp
  clear hf ht hn hk
  go_enter Tryz.func130, Tryz.ntmps130
  go_wp2_with fail
  rw [← hw0]
  clear hw0
  have hbd := hb0.drew
  have hle : w.heap.size + 2 ≤ w0.drew.heap.size := by have := hsz.out; simp; omega
  clear hb0 hsz
  refine wp_region_RC (LineC w.heap.size (x, y) (x', y') n) mixedL ?_
  refine RC.take (i := 0) (v := ?va0) rfl (by kernel_rfl) (by kernel_rfl) (by kernel_rfl) (fun _ _ _ h => h) HC0 (by rfl) ?ya0 ?ra0
  case ya0 => (intro W hW; obtain ⟨c0, c1, c2, c3, c4⟩ := hW; go_simp; try with_reducible rfl)
  refine RC.take (i := 1) (v := ?va1) rfl (by kernel_rfl) (by kernel_rfl) (by kernel_rfl) (fun _ _ _ h => h) HC0 (by rfl) ?ya1 ?ra1
  case ya1 => (intro W hW; obtain ⟨c0, c1, c2, c3, c4⟩ := hW; go_simp; try with_reducible rfl)
  refine RC.take (i := 2) (v := ?va2) rfl (by kernel_rfl) (by kernel_rfl) (by kernel_rfl) (fun _ _ _ h => h) HC0 (by rfl) ?ya2 ?ra2
  case ya2 => (intro W hW; obtain ⟨c0, c1, c2, c3, c4⟩ := hW; go_simp; try with_reducible rfl)
  refine RC.take (i := 3) (v := ?va3) rfl (by kernel_rfl) (by kernel_rfl) (by kernel_rfl) (fun _ _ _ h => h) HC0 (by rfl) ?ya3 ?ra3
  case ya3 => (intro W hW; obtain ⟨c0, c1, c2, c3, c4⟩ := hW; go_simp; try with_reducible rfl)
  refine RC.take (i := 4) (v := ?va4) rfl (by kernel_rfl) (by kernel_rfl) (by kernel_rfl) (fun _ _ _ h => h) HC0 (by rfl) ?ya4 ?ra4
  case ya4 => (intro W hW; obtain ⟨c0, c1, c2, c3, c4⟩ := hW; go_simp; try with_reducible rfl)
  refine RC.take (i := 5) (v := ?va5) rfl (by kernel_rfl) (by kernel_rfl) (by kernel_rfl) (fun _ _ _ h => h) HC0 (by rfl) ?ya5 ?ra5
  case ya5 => (intro W hW; obtain ⟨c0, c1, c2, c3, c4⟩ := hW; go_simp; try with_reducible rfl)
  refine RC.take (i := 6) (v := ?va6) rfl (by kernel_rfl) (by kernel_rfl) (by kernel_rfl) (fun _ _ _ h => h) HC0 (by rfl) ?ya6 ?ra6
  case ya6 => (intro W hW; obtain ⟨c0, c1, c2, c3, c4⟩ := hW; go_simp; try with_reducible rfl)
  refine RC.take (i := 7) (v := ?va7) rfl (by kernel_rfl) (by kernel_rfl) (by kernel_rfl) (fun _ _ _ h => h) HC0 (by rfl) ?ya7 ?ra7
  case ya7 => (intro W hW; obtain ⟨c0, c1, c2, c3, c4⟩ := hW; go_simp; try with_reducible rfl)
  refine RC.take (i := 9) (v := ?va9) rfl (by kernel_rfl) (by kernel_rfl) (by kernel_rfl) (fun _ _ _ h => h) HC0 (by rfl) ?ya9 ?ra9
  case ya9 => (intro W hW; obtain ⟨c0, c1, c2, c3, c4⟩ := hW; go_simp; try with_reducible rfl)
  refine RC.take (i := 10) (v := ?va10) rfl (by kernel_rfl) (by kernel_rfl) (by kernel_rfl) (fun _ _ _ h => h) HC0 (by rfl) ?ya10 ?ra10
  case ya10 => (intro W hW; obtain ⟨c0, c1, c2, c3, c4⟩ := hW; go_simp; try with_reducible rfl)
  refine RC.take (i := 11) (v := ?va11) rfl (by kernel_rfl) (by kernel_rfl) (by kernel_rfl) (fun _ _ _ h => h) HC0 (by rfl) ?ya11 ?ra11
  case ya11 => (intro W hW; obtain ⟨c0, c1, c2, c3, c4⟩ := hW; go_simp; try with_reducible rfl)
  refine RC.take (i := 12) (v := ?va12) rfl (by kernel_rfl) (by kernel_rfl) (by kernel_rfl) (fun _ _ _ h => h) HC0 (by rfl) ?ya12 ?ra12
  case ya12 => (intro W hW; obtain ⟨c0, c1, c2, c3, c4⟩ := hW; go_simp; try with_reducible rfl)
  refine RC.take (i := 13) (v := ?va13) rfl (by kernel_rfl) (by kernel_rfl) (by kernel_rfl) (fun _ _ _ h => h) HC0 (by rfl) ?ya13 ?ra13
  case ya13 => (intro W hW; obtain ⟨c0, c1, c2, c3, c4⟩ := hW; go_simp; try with_reducible rfl)
  refine RC.take (i := 14) (v := ?va14) rfl (by kernel_rfl) (by kernel_rfl) (by kernel_rfl) (fun _ _ _ h => h) HC0 (by rfl) ?ya14 ?ra14
  case ya14 => (intro W hW; obtain ⟨c0, c1, c2, c3, c4⟩ := hW; go_simp; try with_reducible rfl)
  refine RC.take (i := 15) (v := ?va15) rfl (by kernel_rfl) (by kernel_rfl) (by kernel_rfl) (fun _ _ _ h => h) HC0 (by rfl) ?ya15 ?ra15
  case ya15 => (intro W hW; obtain ⟨c0, c1, c2, c3, c4⟩ := hW; go_simp; try with_reducible rfl)
  refine RC.take (i := 16) (v := ?va16) rfl (by kernel_rfl) (by kernel_rfl) (by kernel_rfl) (fun _ _ _ h => h) HC0 (by rfl) ?ya16 ?ra16
  case ya16 => (intro W hW; obtain ⟨c0, c1, c2, c3, c4⟩ := hW; go_simp; try with_reducible rfl)
  refine RC.want (i := 8) (by kernel_rfl) rfl (by rfl) (fun K hK => ?_)
  go_simp
  refine (HX _).mono ?_
  rintro e w1 ⟨rfl, hc⟩
  simp only
  have HC1 := HC0.below hc (by omega)
  have hle1 : w.heap.size + 2 ≤ w1.heap.size := Nat.le_trans hle hc.size
  have hbe := hbd.trans (hc.mono (by omega))
  have d0 := (hc.cell (p := ⟨w.heap.size + 1, 0, none⟩) (by show w.heap.size + 1 < _; omega)).trans c0
  have d1 := (hc.cell (p := ⟨w.heap.size + 1, 1, none⟩) (by show w.heap.size + 1 < _; omega)).trans c1
  have g0 := (hc.frozen (p := ⟨w.heap.size + 1, 0, none⟩) (by show w.heap.size + 1 < _; omega)).trans f0
  have g1 := (hc.frozen (p := ⟨w.heap.size + 1, 1, none⟩) (by show w.heap.size + 1 < _; omega)).trans f1
  clear hc HC0 hle hbd c0 c1 f0 f1
  refine hK _ _ HC1 ?_
  clear hK K
  have HC0 := HC1
  have hle := hle1
  have hbd := hbe
  have c0 := d0
  have c1 := d1
  have f0 := g0
  have f1 := g1
  clear HC1 hle1 hbe d0 d1 g0 g1
  refine RC.want (i := 17) (by kernel_rfl) rfl (by rfl) (fun K hK => ?_)
  go_simp
  refine (HY _).mono ?_
  rintro e w2 ⟨rfl, hc⟩
  simp only
  have HC1 := HC0.below hc (by omega)
  have hle1 : w.heap.size + 2 ≤ w2.heap.size := Nat.le_trans hle hc.size
  have hbe := hbd.trans (hc.mono (by omega))
  have d0 := (hc.cell (p := ⟨w.heap.size + 1, 0, none⟩) (by show w.heap.size + 1 < _; omega)).trans c0
  have d1 := (hc.cell (p := ⟨w.heap.size + 1, 1, none⟩) (by show w.heap.size + 1 < _; omega)).trans c1
  have g0 := (hc.frozen (p := ⟨w.heap.size + 1, 0, none⟩) (by show w.heap.size + 1 < _; omega)).trans f0
  have g1 := (hc.frozen (p := ⟨w.heap.size + 1, 1, none⟩) (by show w.heap.size + 1 < _; omega)).trans f1
  clear hc HC0 hle hbd c0 c1 f0 f1
  refine hK _ _ HC1 ?_
  clear hK K
  have HC0 := HC1
  have hle := hle1
  have hbd := hbe
  have c0 := d0
  have c1 := d1
  have f0 := g0
  have f1 := g1
  clear HC1 hle1 hbe d0 d1 g0 g1
  refine RC.take (i := 18) (v := ?va18) rfl (by kernel_rfl) (by kernel_rfl) (by kernel_rfl) (fun _ _ _ h => h) HC0 (by rfl) ?ya18 ?ra18
  case ya18 => (intro W hW; obtain ⟨c0, c1, c2, c3, c4⟩ := hW; go_simp; try with_reducible rfl)
  refine RC.want (i := 19) (by kernel_rfl) rfl (by rfl) (fun K hK => ?_)
  go_simp
  have hb3 : Below (w.heap.size + 1) w2 ((w2.setCell ⟨w.heap.size + 1, 0, none⟩ (.int .i64 u)).setCell ⟨w.heap.size + 1, 1, none⟩ (.int .i64 v)) := ((Below.refl _ _).setCell (p := ⟨w.heap.size + 1, 0, none⟩) (Nat.le_refl _) _).setCell (p := ⟨w.heap.size + 1, 1, none⟩) (Nat.le_refl _) _
  refine hK _ _ (HC0.below hb3 (by omega)) ?_
  clear hK K
  refine RC.done (by kernel_rfl) ?_
  have y1 : w.heap.size + 1 < w2.heap.size := by omega
  go_wp2
  exact bodyPost_ret (v := .agg #[.int .i64 u, .int .i64 v]) (by simp [results, Tryz.results130, go_sem, c0, c1, y1]) rfl ⟨rfl, hbd.trans (hb3.mono (by omega))⟩

end Leg
end Go.Proofs.YtnjkkohhgbgpgaaGreatDoor

/- DERIVED. The program's iterator over a line's cells, forward and back: its contract. -/
namespace Go.Proofs.YtnjkkohhgbgpgaaGreatDoor
namespace Leg
open Go.RowKit Go.Shelf
set_option linter.unusedSimpArgs false
set_option linter.unusedVariables false
attribute [local go_sem] Oper.semAt_some

/-- What the iterator asks of a round: its two boxes are kept. -/
def KpB (Bb Bl : Nat) (W W' : World) : Prop := W.heap.size ≤ W'.heap.size ∧ W'.heap[Bb]? = W.heap[Bb]? ∧ W'.heap[Bl]? = W.heap[Bl]?
theorem LineC.kept {b : Nat} {f t : DCell} {n : Int} {w w' : World} (h : LineC b f t n w) (hb : w'.heap[b]? = w.heap[b]?) : LineC b f t n w' := by
  obtain ⟨h0, h1, h2, h3, h4⟩ := h
  exact ⟨(World.cell?_of_block (w := w) hb).trans h0, (World.cell?_of_block (w := w) hb).trans h1, (World.cell?_of_block (w := w) hb).trans h2, (World.cell?_of_block (w := w) hb).trans h3, (World.cell?_of_block (w := w) hb).trans h4⟩
theorem grown_of_below {W W' : World} (h : Below W.heap.size W W') : W.grownBy W' none := ⟨h.os, h.tape, h.output, h.size, fun k hk _ => h.block k hk⟩

set_option maxRecDepth 100000 in
set_option maxHeartbeats 2000000 in
/-- The iterator, going forth: for every loop body that keeps the two boxes. -/
theorem cells1_forth (m : Nat) (hm : 1 ≤ m) (l Bb Bl : Nat) (f t : DCell) (N : Nat) (xs : List DCell) (hxs : Hid (xs = (List.range (N + 1)).map (fun (j : Nat) => cellOf (N : Int) f t (j : Int)))) (hf : InLeg f) (ht : InLeg t) (hN : N ≤ 15) (J Jx : List DCell → World → Prop) (W0 : World) (hJ : AbidesFrom W0.heap.size J)
    (hY : ∀ pre x W, J pre W → pre.length < N + 1 → YieldAt Fence.wide (m - 1) Tryz.prog l #[vCe x] W fun e W' =>
      (e = .returned (.bool true) ∧ J (pre ++ [x]) W' ∧ KpB Bb Bl W W') ∨ (e = .returned (.bool false) ∧ Jx (pre ++ [x]) W'))
    (hBb : W0.cell? ⟨Bb, 0, none⟩ = some (.int .i64 (1))) (hBl : LineC Bl f t (N : Int) W0) (hb1 : Bb < W0.heap.size) (hb2 : Bl < W0.heap.size) (h0 : J [] W0) :
    CallsIn Fence.wide m Tryz.prog 129 #[.func (.yield l) #[] #[], .pointer (some ⟨Bb, 0, none⟩), .pointer (some ⟨Bl, 0, none⟩)] W0 fun e W' => (∃ v, e = .returned v) ∧
      ((∃ ys, ys = xs ∧ J ys W') ∨ (∃ pre, pre <+: xs ∧ Jx pre W')) := by
  obtain ⟨x, y⟩ := f
  obtain ⟨x', y'⟩ := t
  have hNI : (N : Int) ≤ 15 := by omega
  have hc := hBl
  obtain ⟨c0, c1, c2, c3, c4⟩ := hc
  refine callsIn_of_wp Tryz.func129 rfl trivial ?_ rfl
  simp only [Tryz.ntmps129, List.size_toArray, List.length_cons, List.length_nil, Nat.reduceAdd, Nat.reduceSub, Array.replicate_succ, Array.replicate_zero, List.push_toArray, List.append_toArray, List.nil_append, List.cons_append]
  gi_wp2
  gi_loopw [4, 12] (fun v i wr => ∃ j : Nat, j ≤ N + 1 ∧ v = .int .i64 (j : Int) ∧ i = .int .i64 j ∧ Hid (J ((List.range j).map (fun (j : Nat) => cellOf (N : Int) (x, y) (x', y') (j : Int))) wr) ∧ wr.cell? ⟨Bb, 0, none⟩ = some (.int .i64 (1)) ∧ LineC Bl (x, y) (x', y') (N : Int) wr ∧ W0.heap.size ≤ wr.heap.size) (fun _ i _ => N + 1 - (intOf i).toNat)
  case atStart => exact ⟨0, by omega, by simp, rfl, h0, hBb, hBl, Nat.le_refl _⟩
  case round =>
    obtain ⟨j, hj, rfl, rfl, HJ, hcb, hcl, hnr⟩ := hrel
    by_cases hlt : j < N + 1
    · have hcl' := hcl
      obtain ⟨e0, e1, e2, e3, e4⟩ := hcl'
      have hltI : (j : Int) < (N : Int) + 1 := by omega
      have HCELL := fun W => callsIn_wide (n := m - 1) |>.2 (cell_any (x, y) (x', y') (N : Int) ((j : Int)) W hf ht ⟨by omega, by omega⟩ ⟨by omega, by omega⟩)
      obtain ⟨c, HCD⟩ : ∃ c, Hid (cellOf (N : Int) (x, y) (x', y') ((j : Int)) = c) := ⟨_, rfl⟩
      have HCD' : cellOf (N : Int) (x, y) (x', y') ((j : Int)) = c := HCD
      rw [HCD'] at HCELL
      clear HCD'
      obtain ⟨cx, cy⟩ := c
      simp only [lineCells, vCe] at HCELL
      gi_wp2_with fail
      refine ⟨trivial, (HCELL _).mono ?_⟩
      rintro e w1 ⟨rfl, hbc⟩
      have HJ1 := hJ _ wr w1 none HJ.out (grown_of_below hbc) (fun r h => by cases h)
      have hcb1 : w1.cell? ⟨Bb, 0, none⟩ = some (.int .i64 (1)) := (hbc.cell (p := ⟨Bb, 0, none⟩) (by show Bb < _; omega)).trans hcb
      have hcl1 := hcl.below hbc (by omega)
      have hs1 := hbc.size
      obtain ⟨fn, tmps, assign, body, hy, hR⟩ := hY _ (cx, cy) w1 HJ1 (by simp; omega)
      simp only [vCe] at hy
      clear HCELL hcb hcl e0 e1 e2 e3 e4 HJ HJ1
      gi_wp2_with fail
      refine hR.mono ?_
      rintro e W3 (⟨rfl, hJ3, hk3⟩ | ⟨rfl, hJx3⟩)
      · have hcb3 : W3.cell? ⟨Bb, 0, none⟩ = some (.int .i64 (1)) := (World.cell?_of_block (w := w1) (a := ⟨Bb, 0, none⟩) hk3.2.1).trans hcb1
        have hcl3 := hcl1.kept hk3.2.2
        have hs3 := hk3.1
        have HJ3 : Hid (J ((List.range (j + 1)).map (fun (j : Nat) => cellOf (N : Int) (x, y) (x', y') (j : Int))) W3) := by
          rw [List.range_succ, List.map_append, List.map_cons, List.map_nil, HCD.out]
          exact hJ3
        clear hJ3
        gi_wp2
        go_roundw
        case rel => exact ⟨j + 1, by omega, by go_num, by go_num, HJ3, hcb3, hcl3, by omega⟩
        case measure => simp [intOf]; omega
      · gi_wp2
        refine bodyPost_ret (results_none rfl _ _ _) rfl ?_
        refine ⟨⟨_, rfl⟩, .inr ⟨_, ?_, hJx3⟩⟩
        refine ⟨(List.range' (j + 1) (N - j)).map (fun (j : Nat) => cellOf (N : Int) (x, y) (x', y') (j : Int)), ?_⟩
        have e1 : List.range (N + 1) = List.range j ++ j :: List.range' (j + 1) (N - j) := by
          have h1 : N + 1 = j + (N - j + 1) := by omega
          rw [List.range_eq_range', List.range_eq_range', h1, ← List.range'_append_1, List.range'_succ]
          simp
        rw [hxs.out, e1, List.map_append, List.map_cons, HCD.out]
        simp
    · have hje : j = N + 1 := by omega
      have hltI : ¬ (j : Int) < (N : Int) + 1 := by omega
      subst hje
      gi_wp2
      go_end0
      have HE : J xs wr := by rw [hxs.out]; exact HJ.out
      first | exact ⟨⟨_, rfl⟩, .inl ⟨_, rfl, HE⟩⟩ | exact ⟨⟨_, rfl⟩, .inl HE⟩ | exact .inl HE

set_option maxRecDepth 100000 in
set_option maxHeartbeats 2000000 in
/-- The iterator, going back: for every loop body that keeps the two boxes. -/
theorem cells1_back (m : Nat) (hm : 1 ≤ m) (l Bb Bl : Nat) (f t : DCell) (N : Nat) (xs : List DCell) (hxs : Hid (xs = (List.range (N + 1)).map (fun (j : Nat) => cellOf (N : Int) f t ((N : Int) - (j : Int))))) (hf : InLeg f) (ht : InLeg t) (hN : N ≤ 15) (J Jx : List DCell → World → Prop) (W0 : World) (hJ : AbidesFrom W0.heap.size J)
    (hY : ∀ pre x W, J pre W → pre.length < N + 1 → YieldAt Fence.wide (m - 1) Tryz.prog l #[vCe x] W fun e W' =>
      (e = .returned (.bool true) ∧ J (pre ++ [x]) W' ∧ KpB Bb Bl W W') ∨ (e = .returned (.bool false) ∧ Jx (pre ++ [x]) W'))
    (hBb : W0.cell? ⟨Bb, 0, none⟩ = some (.int .i64 (-1))) (hBl : LineC Bl f t (N : Int) W0) (hb1 : Bb < W0.heap.size) (hb2 : Bl < W0.heap.size) (h0 : J [] W0) :
    CallsIn Fence.wide m Tryz.prog 129 #[.func (.yield l) #[] #[], .pointer (some ⟨Bb, 0, none⟩), .pointer (some ⟨Bl, 0, none⟩)] W0 fun e W' => (∃ v, e = .returned v) ∧
      ((∃ ys, ys = xs ∧ J ys W') ∨ (∃ pre, pre <+: xs ∧ Jx pre W')) := by
  obtain ⟨x, y⟩ := f
  obtain ⟨x', y'⟩ := t
  have hNI : (N : Int) ≤ 15 := by omega
  have hc := hBl
  obtain ⟨c0, c1, c2, c3, c4⟩ := hc
  refine callsIn_of_wp Tryz.func129 rfl trivial ?_ rfl
  simp only [Tryz.ntmps129, List.size_toArray, List.length_cons, List.length_nil, Nat.reduceAdd, Nat.reduceSub, Array.replicate_succ, Array.replicate_zero, List.push_toArray, List.append_toArray, List.nil_append, List.cons_append]
  gi_wp2
  gi_loopw [4, 12] (fun v i wr => ∃ j : Nat, j ≤ N + 1 ∧ v = .int .i64 ((N : Int) - (j : Int)) ∧ i = .int .i64 j ∧ Hid (J ((List.range j).map (fun (j : Nat) => cellOf (N : Int) (x, y) (x', y') ((N : Int) - (j : Int)))) wr) ∧ wr.cell? ⟨Bb, 0, none⟩ = some (.int .i64 (-1)) ∧ LineC Bl (x, y) (x', y') (N : Int) wr ∧ W0.heap.size ≤ wr.heap.size) (fun _ i _ => N + 1 - (intOf i).toNat)
  case atStart => exact ⟨0, by omega, by simp, rfl, h0, hBb, hBl, Nat.le_refl _⟩
  case round =>
    obtain ⟨j, hj, rfl, rfl, HJ, hcb, hcl, hnr⟩ := hrel
    by_cases hlt : j < N + 1
    · have hcl' := hcl
      obtain ⟨e0, e1, e2, e3, e4⟩ := hcl'
      have hltI : (j : Int) < (N : Int) + 1 := by omega
      have HCELL := fun W => callsIn_wide (n := m - 1) |>.2 (cell_any (x, y) (x', y') (N : Int) (((N : Int) - (j : Int))) W hf ht ⟨by omega, by omega⟩ ⟨by omega, by omega⟩)
      obtain ⟨c, HCD⟩ : ∃ c, Hid (cellOf (N : Int) (x, y) (x', y') (((N : Int) - (j : Int))) = c) := ⟨_, rfl⟩
      have HCD' : cellOf (N : Int) (x, y) (x', y') (((N : Int) - (j : Int))) = c := HCD
      rw [HCD'] at HCELL
      clear HCD'
      obtain ⟨cx, cy⟩ := c
      simp only [lineCells, vCe] at HCELL
      gi_wp2_with fail
      refine ⟨trivial, (HCELL _).mono ?_⟩
      rintro e w1 ⟨rfl, hbc⟩
      have HJ1 := hJ _ wr w1 none HJ.out (grown_of_below hbc) (fun r h => by cases h)
      have hcb1 : w1.cell? ⟨Bb, 0, none⟩ = some (.int .i64 (-1)) := (hbc.cell (p := ⟨Bb, 0, none⟩) (by show Bb < _; omega)).trans hcb
      have hcl1 := hcl.below hbc (by omega)
      have hs1 := hbc.size
      obtain ⟨fn, tmps, assign, body, hy, hR⟩ := hY _ (cx, cy) w1 HJ1 (by simp; omega)
      simp only [vCe] at hy
      clear HCELL hcb hcl e0 e1 e2 e3 e4 HJ HJ1
      gi_wp2_with fail
      refine hR.mono ?_
      rintro e W3 (⟨rfl, hJ3, hk3⟩ | ⟨rfl, hJx3⟩)
      · have hcb3 : W3.cell? ⟨Bb, 0, none⟩ = some (.int .i64 (-1)) := (World.cell?_of_block (w := w1) (a := ⟨Bb, 0, none⟩) hk3.2.1).trans hcb1
        have hcl3 := hcl1.kept hk3.2.2
        have hs3 := hk3.1
        have HJ3 : Hid (J ((List.range (j + 1)).map (fun (j : Nat) => cellOf (N : Int) (x, y) (x', y') ((N : Int) - (j : Int)))) W3) := by
          rw [List.range_succ, List.map_append, List.map_cons, List.map_nil, HCD.out]
          exact hJ3
        clear hJ3
        gi_wp2
        go_roundw
        case rel => exact ⟨j + 1, by omega, by go_num, by go_num, HJ3, hcb3, hcl3, by omega⟩
        case measure => simp [intOf]; omega
      · gi_wp2
        refine bodyPost_ret (results_none rfl _ _ _) rfl ?_
        refine ⟨⟨_, rfl⟩, .inr ⟨_, ?_, hJx3⟩⟩
        refine ⟨(List.range' (j + 1) (N - j)).map (fun (j : Nat) => cellOf (N : Int) (x, y) (x', y') ((N : Int) - (j : Int))), ?_⟩
        have e1 : List.range (N + 1) = List.range j ++ j :: List.range' (j + 1) (N - j) := by
          have h1 : N + 1 = j + (N - j + 1) := by omega
          rw [List.range_eq_range', List.range_eq_range', h1, ← List.range'_append_1, List.range'_succ]
          simp
        rw [hxs.out, e1, List.map_append, List.map_cons, HCD.out]
        simp
    · have hje : j = N + 1 := by omega
      have hltI : ¬ (j : Int) < (N : Int) + 1 := by omega
      subst hje
      gi_wp2
      go_end0
      have HE : J xs wr := by rw [hxs.out]; exact HJ.out
      first | exact ⟨⟨_, rfl⟩, .inl ⟨_, rfl, HE⟩⟩ | exact ⟨⟨_, rfl⟩, .inl HE⟩ | exact .inl HE

end Leg
end Go.Proofs.YtnjkkohhgbgpgaaGreatDoor

/- DERIVED. impl.SkyLeg: its walk. -/
namespace Go.Proofs.YtnjkkohhgbgpgaaGreatDoor
namespace Leg
open Go.RowKit Go.Shelf
set_option linter.unusedSimpArgs false
set_option linter.unusedVariables false
attribute [local go_sem] Oper.semAt_some

def cellVals (l : List DCell) : List Value := l.flatMap fun c => [Value.int .i64 c.1, Value.int .i64 c.2]

set_option maxHeartbeats 1000000 in
theorem cellsFn (f t : DCell) (n s : Int) (w : World) :
    Calls Tryz.prog 118 #[.agg (lineCells f t n), .int .i64 s] w fun e w' => e = .returned (.func (.func 129) #[] #[.pointer (some ⟨w.heap.size + 1, 0, none⟩), .pointer (some ⟨w.heap.size, 0, none⟩)]) ∧ w' = (w.alloc (.cells (lineCells f t n) 167)).alloc (.cells #[.int .i64 s] 168) := by
  simp only [lineCells]
  go_enter Tryz.func118, Tryz.ntmps118
  go_wp2
  go_ret
  exact ⟨rfl, rfl⟩

/-- A box of two cells. -/
def Box2 (W : World) (B : Nat) (c : DCell) : Prop := W.heap[B]? = some (.cells #[.int .i64 c.1, .int .i64 c.2] 67 (0, 0))
theorem box2_own (B : Nat) (c : DCell) : Own (fun (_ : Unit) W => Box2 W B c) := fun s X Y row hs hg hrow =>
  (hg.block B (Array.getElem?_eq_some_iff.1 hs).1 (fun e' => by obtain ⟨o, ho, hc⟩ := hrow B e'.symm; rw [show X.heap[B]? = _ from hs] at ho; cases ho; cases hc)).trans hs

theorem cells_own (B : Nat) (cs : Array Value) (t : TypeId) {β : Type} : Own (fun (_ : β) W => W.heap[B]? = some (.cells cs t (0, 0))) := fun s X Y row hs hg hrow =>
  (hg.block B (Array.getElem?_eq_some_iff.1 hs).1 (fun e' => by obtain ⟨o, ho, hc⟩ := hrow B e'.symm; rw [hs] at ho; cases ho; cases hc)).trans hs
theorem not_row {W : World} {B : Nat} {t e : TypeId} {cs : Array Value} (h : W.heap[B]? = some (.cells cs t (0, 0))) (hte : t ≠ e) {base size k : Nat} {v : Value} {xs : List Value} (hr : W.ownsRow base e size v k xs) : some B ≠ v.ownBlock := by
  rcases hr.2 with ⟨rfl, _⟩ | ⟨g, cap, cur, rfl, _, hgb, _⟩
  · simp [Value.ownBlock]
  · intro e'
    obtain rfl : B = g := by simpa [Value.ownBlock] using e'
    have := h.symm.trans hgb
    simp at this
    exact hte this.2
theorem ownsRow_base {W : World} {b b' : Nat} {e : TypeId} {size k : Nat} {v : Value} {xs : List Value} (h : W.ownsRow b e size v k xs) (hb : b' ≤ b) : W.ownsRow b' e size v k xs := by
  refine ⟨h.1, ?_⟩
  rcases h.2 with h1 | ⟨g, cap, cur, h1, h2, h3⟩
  · exact .inl h1
  · exact .inr ⟨g, cap, cur, h1, Nat.le_trans hb h2, h3⟩
theorem cellVals_snoc (l : List DCell) (c : DCell) : cellVals (l ++ [c]) = cellVals l ++ [Value.int .i64 c.1, Value.int .i64 c.2] := by simp [cellVals]
/-- A block of another type lies as it lay behind an append and the store of its result. -/
theorem kept_append {W w1 : World} {B k : Nat} {t e : TypeId} {cs : Array Value} {base size n : Nat} {v v' : Value} {xs : List Value} {tmp : Obj} (h : W.heap[k]? = some (.cells cs t (0, 0))) (hte : t ≠ e) (hr : W.ownsRow base e size v n xs) (hg : (W.alloc tmp).grownBy w1 v.ownBlock) (hk : k ≠ B) : (w1.setCell ⟨B, 0, none⟩ v').heap[k]? = W.heap[k]? := by
  have hlt := (Array.getElem?_eq_some_iff.1 h).1
  rw [Below.heap_setCell w1 ⟨B, 0, none⟩ v' k hk, hg.block k (by simp; omega) (not_row h hte hr), Below.heap_alloc W tmp k hlt]

theorem kpB_t {Bb Bl : Nat} {A B C : World} (h : KpB Bb Bl A B) (k : KpB Bb Bl B C) : KpB Bb Bl A C := ⟨Nat.le_trans h.1 k.1, k.2.1.trans h.2.1, k.2.2.trans h.2.2⟩
theorem kpB_b {Bb Bl m : Nat} (h1 : Bb < m) (h2 : Bl < m) (W : World) (l : Nat) (o o' : Obj) (hl : m ≤ l) (ho : W.heap[l]? = some o) (hc : o.isCells = false) (hw : o.isWalk = false) : KpB Bb Bl W (W.putObj l o') :=
  ⟨by simp, World.putObj_heap_other (by omega), World.putObj_heap_other (by omega)⟩
theorem kpB_grown {Bb Bl : Nat} {W W' : World} {row : Option Nat} (h : W.grownBy W' row) (h1 : Bb < W.heap.size) (h2 : Bl < W.heap.size) (n1 : some Bb ≠ row) (n2 : some Bl ≠ row) : KpB Bb Bl W W' := ⟨h.size, h.block _ h1 n1, h.block _ h2 n2⟩

theorem infoCell : (Tryz.prog.info? 67).map (fun i => (i.zero, i.size, i.bytes)) = some (some (.agg #[.int .i64 0, .int .i64 0]), 2, 16) := by kernel_rfl

/-- What the iterator's contract gives, whichever way it goes. -/
def StopsAt (m : Nat) (s : Int) (f t : DCell) (N : Nat) (xs : List DCell) : Prop :=
  ∀ (Bb Bl : Nat) (w : World), w.cell? ⟨Bb, 0, none⟩ = some (.int .i64 s) → LineC Bl f t (N : Int) w → Bb < w.heap.size → Bl < w.heap.size →
    SeqStopsK Fence.wide m Tryz.prog 129 #[.pointer (some ⟨Bb, 0, none⟩), .pointer (some ⟨Bl, 0, none⟩)] (fun c : DCell => #[vCe c]) (KpB Bb Bl) (fun ys => ys = xs) (fun pre => pre <+: xs) (N + 1) w

set_option maxHeartbeats 2000000 in
set_option maxRecDepth 100000 in
theorem leg_core (a b f t : DCell) (s : Int) (N : Nat) (xs : List DCell) (w : World) (ha : InLeg a) (hb : InLeg b) (hN : N ≤ 15) (hxs : Hid (xs.length = N + 1))
    (HL : ∀ W, CallsIn Fence.wide 5 Tryz.prog 117 #[vCe a, vCe b] W fun e w' => e = .returned (.tuple #[.agg (lineCells f t (N : Int)), .int .i64 s]) ∧ Below W.heap.size W w') (HS : StopsAt 5 s f t N xs) :
    CallsIn Fence.wide 6 Tryz.prog 82 #[vCe a, vCe b] w fun e w' => ∃ v, e = .returned v ∧ w'.ownsRow w.heap.size 67 2 v xs.length (cellVals xs) ∧ Below w.heap.size w w' := by
  have HA := fun W => callsIn_wide (n := 5) |>.2 (hasLegs a W)
  have HB := fun W => callsIn_wide (n := 5) |>.2 (hasLegs b W)
  have HC := fun W => callsIn_wide (n := 5) |>.2 (cellsFn f t (N : Int) s W)
  rw [decide_eq_true ha] at HA
  rw [decide_eq_true hb] at HB
  clear ha hb
  obtain ⟨i0, hi, hz0, hz1, hz2⟩ := info_parts infoCell
  obtain ⟨x, y⟩ := a
  obtain ⟨x', y'⟩ := b
  obtain ⟨fx, fy⟩ := f
  obtain ⟨tx, ty⟩ := t
  simp only [vCe, lineCells] at HA HB HC HL ⊢
  refine callsIn_of_wp_marks Tryz.func82 rfl trivial ?_ rfl
  simp only [Tryz.ntmps82, List.size_toArray, List.length_cons, List.length_nil, Nat.reduceAdd, Nat.reduceSub, Array.replicate_succ, Array.replicate_zero, List.push_toArray, List.append_toArray, List.nil_append, List.cons_append]
  gi_wp2_with fail
  refine ⟨trivial, (HA _).mono ?_⟩
  rintro e w1 ⟨rfl, hb1⟩
  clear HA
  obtain ⟨bc1, bf1⟩ := bcell hb1
  have z1 := hb1.size
  simp at z1 bc1 bf1
  have y10 : w.heap.size < w1.heap.size := by omega
  have y11 : w.heap.size + 1 < w1.heap.size := by omega
  gi_wp2_with fail
  refine ⟨trivial, (HB _).mono ?_⟩
  rintro e w2 ⟨rfl, hb2⟩
  clear HB
  obtain ⟨bc2, bf2⟩ := bcell hb2
  have z2 := hb2.size
  have y20 : w.heap.size < w2.heap.size := by omega
  have y21 : w.heap.size + 1 < w2.heap.size := by omega
  gi_wp2_with fail
  refine ⟨trivial, (HL _).mono ?_⟩
  rintro e w3 ⟨rfl, hb3⟩
  clear HL
  have hB3 : Below w.heap.size w w3 := ((((Below.refl w.heap.size w).alloc (Nat.le_refl _) _).alloc (by simp) _).trans (hb1.mono (by simp; omega))).trans ((hb2.mono (by omega)).trans (hb3.mono (by omega)))
  have z3 := hB3.size
  clear bc1 bf1 bc2 bf2 hb1 hb2 hb3 z1 z2 y10 y11 y20 y21
  gi_wp2_with fail
  refine ⟨trivial, (HC _).mono ?_⟩
  rintro e w4 ⟨rfl, rfl⟩
  clear HC
  gi_wp2
  have hsz : ((((w3.alloc (.cells #[.int .i64 fx, .int .i64 fy, .int .i64 tx, .int .i64 ty, .int .i64 (N : Int)] 167)).alloc (.cells #[.slice none 0 0] 31)).alloc (.cells #[.int .i64 fx, .int .i64 fy, .int .i64 tx, .int .i64 ty, .int .i64 (N : Int)] 167)).alloc (.cells #[.int .i64 s] 168)).heap.size = w3.heap.size + 4 := by simp
  have bO : Boxed ((((w3.alloc (.cells #[.int .i64 fx, .int .i64 fy, .int .i64 tx, .int .i64 ty, .int .i64 (N : Int)] 167)).alloc (.cells #[.slice none 0 0] 31)).alloc (.cells #[.int .i64 fx, .int .i64 fy, .int .i64 tx, .int .i64 ty, .int .i64 (N : Int)] 167)).alloc (.cells #[.int .i64 s] 168)) (w3.heap.size + 1) 31 (.slice none 0 0) := by
    have h := ((Boxed.new (w3.alloc (.cells #[.int .i64 fx, .int .i64 fy, .int .i64 tx, .int .i64 ty, .int .i64 (N : Int)] 167)) 31 (.slice none 0 0)).alloc (.cells #[.int .i64 fx, .int .i64 fy, .int .i64 tx, .int .i64 ty, .int .i64 (N : Int)] 167)).alloc (.cells #[.int .i64 s] 168)
    rwa [World.size_alloc] at h
  have bL : LineC (w3.heap.size + 1 + 1) (fx, fy) (tx, ty) (N : Int) ((((w3.alloc (.cells #[.int .i64 fx, .int .i64 fy, .int .i64 tx, .int .i64 ty, .int .i64 (N : Int)] 167)).alloc (.cells #[.slice none 0 0] 31)).alloc (.cells #[.int .i64 fx, .int .i64 fy, .int .i64 tx, .int .i64 ty, .int .i64 (N : Int)] 167)).alloc (.cells #[.int .i64 s] 168)) := ⟨by go_simp, by go_simp, by go_simp, by go_simp, by go_simp⟩
  have bS : ((((w3.alloc (.cells #[.int .i64 fx, .int .i64 fy, .int .i64 tx, .int .i64 ty, .int .i64 (N : Int)] 167)).alloc (.cells #[.slice none 0 0] 31)).alloc (.cells #[.int .i64 fx, .int .i64 fy, .int .i64 tx, .int .i64 ty, .int .i64 (N : Int)] 167)).alloc (.cells #[.int .i64 s] 168)).cell? ⟨w3.heap.size + 1 + 1 + 1, 0, none⟩ = some (.int .i64 s) := by go_simp
  have bL2 : ((((w3.alloc (.cells #[.int .i64 fx, .int .i64 fy, .int .i64 tx, .int .i64 ty, .int .i64 (N : Int)] 167)).alloc (.cells #[.slice none 0 0] 31)).alloc (.cells #[.int .i64 fx, .int .i64 fy, .int .i64 tx, .int .i64 ty, .int .i64 (N : Int)] 167)).alloc (.cells #[.int .i64 s] 168)).heap[w3.heap.size + 1 + 1]? = some (.cells #[.int .i64 fx, .int .i64 fy, .int .i64 tx, .int .i64 ty, .int .i64 (N : Int)] 167 (0, 0)) := by
    rw [Below.heap_alloc _ _ _ (by simp)]
    have h := World.alloc_heap_new ((w3.alloc (.cells #[.int .i64 fx, .int .i64 fy, .int .i64 tx, .int .i64 ty, .int .i64 (N : Int)] 167)).alloc (.cells #[.slice none 0 0] 31)) (.cells #[.int .i64 fx, .int .i64 fy, .int .i64 tx, .int .i64 ty, .int .i64 (N : Int)] 167)
    rwa [World.size_alloc, World.size_alloc] at h
  have bS2 : ((((w3.alloc (.cells #[.int .i64 fx, .int .i64 fy, .int .i64 tx, .int .i64 ty, .int .i64 (N : Int)] 167)).alloc (.cells #[.slice none 0 0] 31)).alloc (.cells #[.int .i64 fx, .int .i64 fy, .int .i64 tx, .int .i64 ty, .int .i64 (N : Int)] 167)).alloc (.cells #[.int .i64 s] 168)).heap[w3.heap.size + 1 + 1 + 1]? = some (.cells #[.int .i64 s] 168 (0, 0)) := by
    have h := World.alloc_heap_new (((w3.alloc (.cells #[.int .i64 fx, .int .i64 fy, .int .i64 tx, .int .i64 ty, .int .i64 (N : Int)] 167)).alloc (.cells #[.slice none 0 0] 31)).alloc (.cells #[.int .i64 fx, .int .i64 fy, .int .i64 tx, .int .i64 ty, .int .i64 (N : Int)] 167)) (.cells #[.int .i64 s] 168)
    rwa [World.size_alloc, World.size_alloc, World.size_alloc] at h
  have hB0 : Below w.heap.size w ((((w3.alloc (.cells #[.int .i64 fx, .int .i64 fy, .int .i64 tx, .int .i64 ty, .int .i64 (N : Int)] 167)).alloc (.cells #[.slice none 0 0] 31)).alloc (.cells #[.int .i64 fx, .int .i64 fy, .int .i64 tx, .int .i64 ty, .int .i64 (N : Int)] 167)).alloc (.cells #[.int .i64 s] 168)) := (((hB3.alloc (by omega) _).alloc (by simp; omega) _).alloc (by simp; omega) _).alloc (by simp; omega) _
  obtain ⟨W0, hW0⟩ : ∃ W0, ((((w3.alloc (.cells #[.int .i64 fx, .int .i64 fy, .int .i64 tx, .int .i64 ty, .int .i64 (N : Int)] 167)).alloc (.cells #[.slice none 0 0] 31)).alloc (.cells #[.int .i64 fx, .int .i64 fy, .int .i64 tx, .int .i64 ty, .int .i64 (N : Int)] 167)).alloc (.cells #[.int .i64 s] 168)) = W0 := ⟨_, rfl⟩
  rw [hW0] at hsz bO bL bS bL2 bS2 hB0 ⊢
  clear hW0
  refine wpIn_rangeFunc_ownH rfl (by omega) (gf := 129) (lb := #[.pointer (some ⟨w3.heap.size + 1 + 1 + 1, 0, none⟩), .pointer (some ⟨w3.heap.size + 1 + 1, 0, none⟩)]) rfl trivial (enters_of Tryz.func129 (by kernel_rfl) rfl)
    (HS (w3.heap.size + 1 + 1 + 1) (w3.heap.size + 1 + 1) W0 bS bL (by omega) (by omega)) kpB_t (kpB_b (by omega) (by omega)) (Below.refl _ _) (fun _ => rfl)
    (fun pre W => (∃ v, Boxed W (w3.heap.size + 1) 31 v ∧ W.ownsRow w3.heap.size 67 2 v pre.length (cellVals pre) ∧ True) ∧ Below w.heap.size w W ∧ w3.heap.size + 4 ≤ W.heap.size ∧ W.heap[w3.heap.size + 1 + 1]? = some (.cells #[.int .i64 fx, .int .i64 fy, .int .i64 tx, .int .i64 ty, .int .i64 (N : Int)] 167 (0, 0)) ∧ W.heap[w3.heap.size + 1 + 1 + 1]? = some (.cells #[.int .i64 s] 168 (0, 0)))
    (fun _ _ _ => False)
    (OwnFrom.and (Own.from (holdsRow_own w3.heap.size (w3.heap.size + 1) 31 67 2 (fun pre => pre.length) (fun pre => cellVals pre) (fun pre v => True)) _) (OwnFrom.and (ownFrom_below (Nat.le_refl _) (by omega)) (OwnFrom.and (fun _ _ _ _ hs hg _ => Nat.le_trans hs hg.size) (OwnFrom.and (Own.from (cells_own _ _ _) _) (Own.from (cells_own _ _ _) _)))))
    (fun _ _ _ _ _ hs _ _ => hs)
    ⟨⟨_, bO, World.ownsRow_nil _ _ _ _, trivial⟩, hB0, by omega, bL2, bS2⟩
    (fun c a' W => ∃ Bx, w3.heap.size + 3 < Bx ∧ Box2 W Bx c ∧ a' = { tmps := #[.agg #[.int .i64 x, .int .i64 y], .agg #[.int .i64 x', .int .i64 y'], .pointer (some ⟨w.heap.size, 0, none⟩), .pointer (some ⟨w.heap.size + 1, 0, none⟩), .slice none 0 0, .pointer (some ⟨w3.heap.size, 0, none⟩), .int .i64 s, .pointer (some ⟨w3.heap.size + 1, 0, none⟩), .pointer (some ⟨Bx, 0, none⟩), .agg #[.int .i64 x, .int .i64 y], .bool true, .bool false, .bool false, .agg #[.int .i64 x', .int .i64 y'], .bool true, .bool false, .bool false, .tuple #[.agg #[.int .i64 fx, .int .i64 fy, .int .i64 tx, .int .i64 ty, .int .i64 (N : Int)], .int .i64 s], .agg #[.int .i64 x, .int .i64 y], .agg #[.int .i64 x', .int .i64 y'], .tuple #[.agg #[.int .i64 fx, .int .i64 fy, .int .i64 tx, .int .i64 ty, .int .i64 (N : Int)], .int .i64 s], .agg #[.int .i64 fx, .int .i64 fy, .int .i64 tx, .int .i64 ty, .int .i64 (N : Int)], .int .i64 s, .agg #[.int .i64 fx, .int .i64 fy, .int .i64 tx, .int .i64 ty, .int .i64 (N : Int)], .int .i64 s, .func (.func 129) #[] #[.pointer (some ⟨w3.heap.size + 1 + 1 + 1, 0, none⟩), .pointer (some ⟨w3.heap.size + 1 + 1, 0, none⟩)], .agg #[.int .i64 c.1, .int .i64 c.2], undef, undef, undef, undef, undef], defers := [] })
    (fun c a' _ X Y row hs hg hr => by obtain ⟨Bx, h1, h2, h3⟩ := hs; exact ⟨Bx, h1, box2_own Bx c () X Y row h2 hg (fun r e => (hr r e).2), h3⟩)
    ?assign ?body ?done ?stop
  case assign =>
    rintro l pre c W K ⟨⟨v, bV, hrow, _⟩, hB1, hs1, hL1, hS1⟩ hK
    obtain ⟨cx, cy⟩ := c
    simp only [vCe]
    gi_wp2
    exact hK _ _ ((KeepsOthers.alloc _ _).from _) (kpB_grown (World.grownBy_alloc W _ none) (by omega) (by omega) (by simp) (by simp)) ⟨⟨v, bV.alloc _, hrow.alloc _, trivial⟩, hB1.alloc hB1.size _, by simp; omega, (Below.heap_alloc W _ _ (by omega)).trans hL1, (Below.heap_alloc W _ _ (by omega)).trans hS1⟩ ⟨W.heap.size, by omega, World.alloc_heap_new W _, rfl⟩
  case body =>
    rintro l pre c a' W hl ⟨r, hr⟩ ⟨⟨v, bV, hrow, _⟩, hB1, hs1, hL1, hS1⟩ ⟨Bx, hBx, bX, rfl⟩ hlt
    obtain ⟨cx, cy⟩ := c
    have hc := bV.cell
    have hx0 : W.cell? ⟨Bx, 0, none⟩ = some (.int .i64 cx) := by simp [World.cell?, show W.heap[Bx]? = _ from bX]
    have hx1 : W.cell? ⟨Bx, 1, none⟩ = some (.int .i64 cy) := by simp [World.cell?, show W.heap[Bx]? = _ from bX]
    have hpl : pre.length ≤ 15 := by omega
    clear HS
    gi_wp2_with (gi_at_builtin; refine wpListIn_append_own _ rfl _ _ 31 rfl w3.heap.size 67 i0 (.agg #[.int .i64 0, .int .i64 0]) 2 16 Tryz.underlying31 hi hz0 hz1 hz2 rfl (by decide) _ _ _ rfl (hrow.alloc _) ⟨W.heap.size, 0, none⟩ 1 1 [.int .i64 cx, .int .i64 cy] rfl rfl ?c1 ?c2 ?c3 ?c4 ?c5 ?_)
    case c1 =>
      intro j u hj
      match j, hj with
      | 0, hj => simp at hj; subst hj; simp [Addr.add]
      | 1, hj => simp at hj; subst hj; simp [Addr.add]
    case c2 =>
      intro u hu
      simp at hu
      rcases hu with rfl | rfl <;> rfl
    case c3 => unfold maxLen; omega
    case c4 => omega
    case c5 => simp; omega
    intro v' w1 hown' hgrow _
    obtain ⟨g', cap', rfl⟩ := ownsRow_succ hown'
    obtain ⟨hv1, hv2, hr2, hk2, hb2⟩ := bV.appended (by decide) hrow (by omega) (by omega) hown' hgrow
    have k1 := kept_append (B := w3.heap.size + 1) (v' := .slice (some ⟨g', 0, none⟩) (pre.length + 1) cap') hL1 (by decide) hrow hgrow (by omega)
    have k2 := kept_append (B := w3.heap.size + 1) (v' := .slice (some ⟨g', 0, none⟩) (pre.length + 1) cap') hS1 (by decide) hrow hgrow (by omega)
    have hc1 := hv1.cell
    have hf1 := hv1.frozen
    have hsz2 := hb2.size
    gi_wp2
    exact ⟨hk2.from _, ⟨hsz2, k2, k1⟩, ⟨_, hv2, by rw [cellVals_snoc]; simpa using hr2, trivial⟩, hB1.trans (hb2.mono (by omega)), by omega, k1.trans hL1, k2.trans hS1⟩
  case done =>
    rintro D ys W hD rfl ⟨⟨v, bV, hrow, _⟩, hB1, hs1, hL1, hS1⟩ hK
    have hc := bV.cell
    gi_wp2
    refine ⟨by simp, .inl ⟨_, _, rfl, run_takeDeferred hK, ?_⟩⟩
    exact ⟨_, results_tmp rfl _ _ _, v, rfl, ownsRow_base (ownsRow_putObj hrow _ hK rfl) (by omega), hB1.trans (belowK_b (w := w) (Nat.le_refl _) W D _ _ (by omega) hK rfl rfl)⟩
  case stop =>
    rintro D c pre W _ _ h _
    exact h.elim

end Leg
end Go.Proofs.YtnjkkohhgbgpgaaGreatDoor

/- DERIVED. impl.SkyLeg at every two cells. -/
namespace Go.Proofs.YtnjkkohhgbgpgaaGreatDoor
namespace Leg
open Go.RowKit Go.Shelf
set_option linter.unusedSimpArgs false
set_option linter.unusedVariables false

theorem stops_forth (f t : DCell) (N : Nat) (hf : InLeg f) (ht : InLeg t) (hN : N ≤ 15) : StopsAt 5 1 f t N ((List.range (N + 1)).map fun (j : Nat) => cellOf (N : Int) f t (j : Int)) :=
  fun Bb Bl w hb hl h1 h2 l J Jx W hW hJ hJx hY h0 => cells1_forth 5 (by omega) l Bb Bl f t N _ rfl hf ht hN J Jx W hJ hY ((hW.cell (p := ⟨Bb, 0, none⟩) h1).trans hb) (hl.below hW h2) (Nat.lt_of_lt_of_le h1 hW.size) (Nat.lt_of_lt_of_le h2 hW.size) h0
theorem stops_back (f t : DCell) (N : Nat) (hf : InLeg f) (ht : InLeg t) (hN : N ≤ 15) : StopsAt 5 (-1) f t N ((List.range (N + 1)).map fun (j : Nat) => cellOf (N : Int) f t ((N : Int) - (j : Int))) :=
  fun Bb Bl w hb hl h1 h2 l J Jx W hW hJ hJx hY h0 => cells1_back 5 (by omega) l Bb Bl f t N _ rfl hf ht hN J Jx W hJ hY ((hW.cell (p := ⟨Bb, 0, none⟩) h1).trans hb) (hl.below hW h2) (Nat.lt_of_lt_of_le h1 hW.size) (Nat.lt_of_lt_of_le h2 hW.size) h0

theorem apart_comm (a b : Int) : apartOf a b = apartOf b a := by unfold apartOf; split <;> split <;> omega
theorem steps_comm (a b : DCell) : stepsOf a b = stepsOf b a := by unfold stepsOf; rw [apart_comm a.1, apart_comm a.2]

theorem rev_range {α : Type} (N : Nat) (g : Int → α) : ((List.range (N + 1)).map fun (j : Nat) => g ((N : Int) - (j : Int))) = ((List.range (N + 1)).map fun (j : Nat) => g (j : Int)).reverse := by
  apply List.ext_getElem
  · simp
  · intro i h1 h2
    simp at h1
    simp only [List.getElem_map, List.getElem_range, List.getElem_reverse, List.length_map, List.length_range]
    congr 1
    omega

theorem leg_yes {a b : DCell} (ha : InLeg a) (hb : InLeg b) (h : Lesser a b) : legOf a b = legUp a b := by simp [legOf, ha, hb, h]
theorem leg_back {a b : DCell} (ha : InLeg a) (hb : InLeg b) (h : ¬ Lesser a b) : legOf a b = (legUp b a).reverse := by simp [legOf, ha, hb, h]
theorem legUp_len (a b : DCell) : (legUp a b).length = (stepsOf a b).toNat + 1 := by simp [legUp]

set_option maxHeartbeats 1000000 in
theorem iLeg (a b : DCell) (w : World) :
    Calls Tryz.prog 82 #[vCe a, vCe b] w fun e w' => ∃ v, e = .returned v ∧ w'.ownsRow w.heap.size 67 2 v (legOf a b).length (cellVals (legOf a b)) ∧ Below w.heap.size w w' := by
  by_cases ha : InLeg a
  · by_cases hb : InLeg b
    · have hs := steps_le ha hb
      obtain ⟨N, hN⟩ : ∃ N : Nat, stepsOf a b = (N : Int) := ⟨(stepsOf a b).toNat, by omega⟩
      have hL := fun W => callsIn_wide (n := 5) |>.2 (lineOf a b W ha hb)
      refine (callsIn_wide (n := 6)).1 ?_
      by_cases h : Lesser a b
      · have e : legOf a b = (List.range (N + 1)).map fun (j : Nat) => cellOf (N : Int) a b (j : Int) := by rw [leg_yes ha hb h, legUp, hN]; rfl
        rw [e]
        simp only [h, if_true, hN] at hL
        exact leg_core a b a b 1 N _ w ha hb (by omega) (by show _ = _; simp) hL (stops_forth a b N ha hb (by omega))
      · have e : legOf a b = (List.range (N + 1)).map fun (j : Nat) => cellOf (N : Int) b a ((N : Int) - (j : Int)) := by
          rw [leg_back ha hb h, legUp, steps_comm b a, hN, rev_range N (fun k => cellOf (N : Int) b a k)]
          rfl
        rw [e]
        simp only [h, if_false, hN] at hL
        exact leg_core a b b a (-1) N _ w ha hb (by omega) (by show _ = _; simp) hL (stops_back b a N hb ha (by omega))
    · have e : legOf a b = [] := by simp [legOf, hb]
      have HA := fun W => hasLegs a W
      have HB := fun W => hasLegs b W
      rw [decide_eq_true ha] at HA
      rw [decide_eq_false hb] at HB
      rw [e]
      clear e ha hb
      obtain ⟨x, y⟩ := a
      obtain ⟨x', y'⟩ := b
      simp only [vCe] at *
      go_enter Tryz.func82, Tryz.ntmps82
      go_wp2_with fail
      refine (HA _).mono ?_
      rintro e w1 ⟨rfl, hb1⟩
      clear HA
      obtain ⟨bc1, bf1⟩ := bcell hb1
      have z1 := hb1.size
      simp at z1 bc1 bf1
      have y10 : w.heap.size < w1.heap.size := by omega
      have y11 : w.heap.size + 1 < w1.heap.size := by omega
      go_wp2_with fail
      refine (HB _).mono ?_
      rintro e w2 ⟨rfl, hb2⟩
      go_wp2
      go_ret
      exact ⟨_, rfl, World.ownsRow_nil _ _ _ _, ((((Below.refl w.heap.size w).alloc (Nat.le_refl _) _).alloc (by simp) _).trans (hb1.mono (by simp; omega))).trans (hb2.mono (by omega))⟩
  · have e : legOf a b = [] := by simp [legOf, ha]
    have HA := fun W => hasLegs a W
    rw [decide_eq_false ha] at HA
    rw [e]
    clear e ha
    obtain ⟨x, y⟩ := a
    obtain ⟨x', y'⟩ := b
    simp only [vCe] at *
    go_enter Tryz.func82, Tryz.ntmps82
    go_wp2_with fail
    refine (HA _).mono ?_
    rintro e w1 ⟨rfl, hb1⟩
    clear HA
    go_wp2
    go_ret
    exact ⟨_, rfl, World.ownsRow_nil _ _ _ _, ((((Below.refl w.heap.size w).alloc (Nat.le_refl _) _).alloc (by simp) _).trans (hb1.mono (by simp; omega)))⟩

end Leg
end Go.Proofs.YtnjkkohhgbgpgaaGreatDoor

/- DERIVED. The specification's small functions over cells: l1In, l6Inside, l6Abs, l6Steps, l6Part: their walks. -/
namespace Go.Proofs.YtnjkkohhgbgpgaaGreatDoor
namespace Leg
open Go.RowKit
set_option linter.unusedSimpArgs false
set_option linter.unusedVariables false

theorem sIn_is (n lo hi : Int) (w : World) (v : Bool) (h : v = decide (lo ≤ n ∧ n ≤ hi)) :
    Calls Tryz.prog 63 #[.int .i64 n, .int .i64 lo, .int .i64 hi] w fun e w' => e = .returned (.bool v) ∧ w = w' := by
  subst h
  by_cases h1 : lo ≤ n
  · by_cases h2 : n ≤ hi
    · go_enter Tryz.func63, Tryz.ntmps63
      go_wp2
      go_ret
      exact ⟨by simp [h1, h2], rfl⟩
    · go_enter Tryz.func63, Tryz.ntmps63
      go_wp2
      go_ret
      exact ⟨by simp [h1, h2]; try omega, rfl⟩
  · go_enter Tryz.func63, Tryz.ntmps63
    go_wp2
    go_ret
    exact ⟨by simp [h1]; try omega, rfl⟩

set_option maxHeartbeats 1000000 in
theorem sInside (c : DCell) (w : World) :
    Calls Tryz.prog 69 #[vCe c] w fun e w' => e = .returned (.bool (decide (InLeg c))) ∧ Below w.heap.size w w' := by
  obtain ⟨x, y⟩ := c
  simp only [vCe]
  have HB : Below w.heap.size w (w.alloc (.cells #[.int .i64 x, .int .i64 y] 67)) := (Below.refl _ _).alloc (Nat.le_refl _) _
  by_cases hx : 0 ≤ x ∧ x ≤ 15
  · have HX := fun w => sIn_is x 0 15 w true (by simp [hx])
    obtain ⟨v, hv⟩ : ∃ v, v = decide (0 ≤ y ∧ y ≤ 15) := ⟨_, rfl⟩
    have HY := fun w => sIn_is y 0 15 w v hv
    have e : decide (InLeg (x, y)) = v := by rw [hv]; unfold InLeg; simp [hx]
    rw [e]
    clear e hx hv
    go_enter Tryz.func69, Tryz.ntmps69
    go_wp2_with fail
    refine (HX _).mono ?_
    rintro e w' ⟨rfl, rfl⟩
    clear HX
    go_wp2_with fail
    refine (HY _).mono ?_
    rintro e w' ⟨rfl, rfl⟩
    go_wp2
    go_ret
    exact ⟨rfl, HB⟩
  · have HX := fun w => sIn_is x 0 15 w false (by simp [hx])
    have e : decide (InLeg (x, y)) = false := decide_eq_false fun h => hx h.1
    rw [e]
    clear e hx
    go_enter Tryz.func69, Tryz.ntmps69
    go_wp2_with fail
    refine (HX _).mono ?_
    rintro e w' ⟨rfl, rfl⟩
    go_wp2
    go_ret
    exact ⟨rfl, HB⟩

theorem sAbs (n d : Int) (w : World) (h : -100 ≤ n ∧ n ≤ 100) (hd : d = if n < 0 then -n else n) :
    Calls Tryz.prog 100 #[.int .i64 n] w fun e w' => e = .returned (.int .i64 d) ∧ w = w' := by
  obtain ⟨h1, h2⟩ := h
  by_cases hn : n < 0
  · rw [if_pos hn] at hd
    subst hd
    go_enter Tryz.func100, Tryz.ntmps100
    go_wp2
    go_ret
    exact ⟨rfl, rfl⟩
  · rw [if_neg hn] at hd
    subst hd
    go_enter Tryz.func100, Tryz.ntmps100
    go_wp2
    go_ret
    exact ⟨rfl, rfl⟩

set_option maxHeartbeats 1000000 in
theorem sSteps (a b : DCell) (w : World) (ha : InLeg a) (hb : InLeg b) :
    Calls Tryz.prog 70 #[vCe a, vCe b] w fun e w' => e = .returned (.int .i64 (stepsOf a b)) ∧ Below w.heap.size w w' := by
  obtain ⟨x, y⟩ := a
  obtain ⟨x', y'⟩ := b
  obtain ⟨⟨hx1, hx2⟩, hy1, hy2⟩ := ha
  obtain ⟨⟨hx1', hx2'⟩, hy1', hy2'⟩ := hb
  simp only [vCe, stepsOf] at *
  have ex : apartOf x x' = if x - x' < 0 then -(x - x') else x - x' := by unfold apartOf; split <;> split <;> omega
  have ey : apartOf y y' = if y - y' < 0 then -(y - y') else y - y' := by unfold apartOf; split <;> split <;> omega
  have HX := fun w => sAbs (x - x') _ w ⟨by omega, by omega⟩ ex
  have HY := fun w => sAbs (y - y') _ w ⟨by omega, by omega⟩ ey
  clear ex ey
  generalize apartOf x x' = d at *
  generalize apartOf y y' = e at *
  obtain ⟨m, hm'⟩ : ∃ m, (if d < e then e else d) = m := ⟨_, rfl⟩
  have hm : Hid ((d > e → m = d) ∧ (d ≤ e → m = e)) := ⟨fun h => by rw [← hm']; split <;> omega, fun h => by rw [← hm']; split <;> omega⟩
  rw [hm']
  clear hm'
  have HB : Below w.heap.size w ((w.alloc (.cells #[.int .i64 x, .int .i64 y] 67)).alloc (.cells #[.int .i64 x', .int .i64 y'] 67)) := (((Below.refl _ _).alloc (Nat.le_refl _) _).alloc (by simp) _)
  go_enter Tryz.func70, Tryz.ntmps70
  go_wp2_with fail
  refine (HX _).mono ?_
  rintro e w' ⟨rfl, rfl⟩
  clear HX
  go_wp2_with fail
  refine (HY _).mono ?_
  rintro e w' ⟨rfl, rfl⟩
  clear HY
  by_cases hde : d > e
  · have hmm : Hid (m = d) := hm.out.1 (by omega)
    clear hm
    go_wp2
    go_ret
    exact ⟨by rw [hmm.out]; rfl, HB⟩
  · have hmm : Hid (m = e) := hm.out.2 (by omega)
    clear hm
    go_wp2
    go_ret
    exact ⟨by rw [hmm.out]; rfl, HB⟩

theorem floor_of (v m q : Int) (hm : 0 < m) (h1 : q * m ≤ v) (h2 : v < q * m + m) : v / m = q := by
  apply Int.le_antisymm
  · exact Int.lt_add_one_iff.1 (Int.ediv_lt_of_lt_mul hm (by rw [Int.add_mul]; omega))
  · exact Int.le_ediv_of_mul_le hm h1
theorem tdiv_neg' (v m : Int) (hm : 0 < m) (hv : v < 0) : v ≤ v.tdiv m * m ∧ v.tdiv m * m < v + m := by
  have e : v.tdiv m = -((-v) / m) := by
    have h := Int.neg_tdiv (-v) m
    rw [Int.neg_neg] at h
    rw [h, Int.tdiv_eq_ediv_of_nonneg (by omega)]
  have h1 := Int.ediv_mul_le (-v) (Int.ne_of_gt hm)
  have h2 := Int.lt_ediv_add_one_mul_self (-v) hm
  rw [Int.add_mul] at h2
  rw [e, Int.neg_mul]
  omega

/-- A part, rounded; halves upward. -/
def partOf (d k n : Int) : Int := (2 * k * d + n) / (2 * n)

set_option maxHeartbeats 1000000 in
theorem sPart (d k n : Int) (w : World) (hd : -15 ≤ d ∧ d ≤ 15) (hn : 1 ≤ n ∧ n ≤ 15) (hk : 0 ≤ k ∧ k ≤ n) :
    Calls Tryz.prog 71 #[.int .i64 d, .int .i64 k, .int .i64 n] w fun e w' => e = .returned (.int .i64 (partOf d k n)) ∧ w = w' := by
  obtain ⟨hd1, hd2⟩ := hd
  obtain ⟨hn1, hn2⟩ := hn
  obtain ⟨hk1, hk2⟩ := hk
  have p1 : 2 * k * d ≤ 450 := by
    have h := Int.mul_le_mul_of_nonneg_left hd2 (by omega : 0 ≤ 2 * k)
    omega
  have p2 : -450 ≤ 2 * k * d := by
    have h := Int.mul_le_mul_of_nonneg_left hd1 (by omega : 0 ≤ 2 * k)
    omega
  by_cases hv : 0 ≤ 2 * k * d + n
  · go_enter Tryz.func71, Tryz.ntmps71
    go_wp2
    go_ret
    exact ⟨rfl, rfl⟩
  · obtain ⟨q1, q2⟩ := tdiv_neg' (2 * k * d + n) (2 * n) (by omega) (by omega)
    have HF : Hid (∀ q, q * (2 * n) ≤ 2 * k * d + n → 2 * k * d + n < q * (2 * n) + 2 * n → partOf d k n = q) := fun q h1 h2 => floor_of _ _ q (by omega) h1 h2
    generalize partOf d k n = r at *
    obtain ⟨q, hq⟩ : ∃ q, (2 * k * d + n).tdiv (2 * n) = q := ⟨_, rfl⟩
    rw [hq] at q1 q2
    have e1 : q * 2 * n = q * (2 * n) := Int.mul_assoc q 2 n
    have hq1 : -466 ≤ q := by
      rcases Int.lt_or_le q (-466) with h | h
      · have h3 := Int.mul_le_mul_of_nonneg_right (Int.le_of_lt h) (by omega : 0 ≤ 2 * n)
        omega
      · exact h
    have hq2 : q ≤ 0 := by
      rcases Int.lt_or_le 0 q with h | h
      · have h3 := Int.mul_le_mul_of_nonneg_right (by omega : 1 ≤ q) (by omega : 0 ≤ 2 * n)
        omega
      · exact h
    by_cases hqv : q * 2 * n = 2 * k * d + n
    · have hr : Hid (r = q) := HF.out q (by omega) (by omega)
      have hqb : (q * 2 * n != 2 * k * d + n) = false := by simp [hqv]
      clear HF e1
      go_enter Tryz.func71, Tryz.ntmps71
      go_wp2
      go_ret
      exact ⟨by rw [hr.out]; rfl, rfl⟩
    · have hr : Hid (r = q - 1) := HF.out (q - 1) (by rw [Int.sub_mul]; omega) (by rw [Int.sub_mul]; omega)
      have hqb : (q * 2 * n != 2 * k * d + n) = true := by simp [hqv]
      have b1 : q * 2 * n ≤ 1000 := by omega
      have b2 : -1000 ≤ q * 2 * n := by omega
      clear HF e1
      go_enter Tryz.func71, Tryz.ntmps71
      go_wp2
      go_ret
      exact ⟨by rw [hr.out]; rfl, rfl⟩

end Leg
end Go.Proofs.YtnjkkohhgbgpgaaGreatDoor

/- DERIVED. An append at one operation (as 'wpList_append_own_at' does it in a row), for regions that draw. -/
namespace Go.Proofs.YtnjkkohhgbgpgaaGreatDoor
open Go.RowKit
set_option linter.unusedSimpArgs false
set_option linter.unusedVariables false

theorem wpOp_append {P : Program} (w : World) {o : Oper} {a : Act} {K : Act → World → Prop} {Q : Exit → Act → World → Prop} (s x : Operand) (t : TypeId)
    (ho : o.op = .call { callee := .builtin .append, args := #[s, x], argTypes := #[t, t] })
    (base : Nat) (e : TypeId) (i : TypeInfo) (z : Value) (size bytes : Nat) (ht : P.underlying t = some (.slice e)) (hi : P.info? e = some i) (hz : i.zero = some z)
    (hsize : i.size = size) (hby : i.bytes = bytes) (hzs : z.cells.size = size) (hsz : 0 < size)
    (v : Value) (n : Nat) (xs : List Value) (hs : a.eval s = v) (hown : w.ownsRow base e size v n xs)
    (ad : Addr) (m c : Nat) (news : List Value) (hx : a.eval x = .slice (some ad) m c) (hl : news.length = m * size) (hnews : ∀ j u, news[j]? = some u → w.cell? (ad.add j) = some u) (h1 : ∀ u ∈ news, u.oneCell' = true)
    (h63 : n + m ≤ maxLen) (hbytes : (n + m) * bytes ≤ 140737488355328) (hbase : base ≤ w.heap.size)
    (h : ∀ v' w', w'.ownsRow base e size v' (n + m) (xs ++ news) → w.grownBy w' v.ownBlock → (v'.ownBlock = v.ownBlock ∨ v'.ownBlock = some w.heap.size) → K (a.put o.dst v') w') :
    Oper.wp P o a w K Q := by
  obtain ⟨v', w', hr, h2, h3, h4, h5⟩ := run_append_own_at (P := P) w base t o.type e i z size bytes ht hi hz hsize hby hzs hsz v n xs hown ad m c news hl hnews h1 h63 hbytes hbase
  unfold Oper.wp execOp
  simp only [ho, resolve, invoke, builtin, Sem.run_bind, Sem.run_pure, Result.andThen_ok, List.map_toArray, List.map_cons, List.map_nil, hs, hx, hr]
  exact h v' w' h2 h3 h5

end Go.Proofs.YtnjkkohhgbgpgaaGreatDoor

/- DERIVED. spec.SkyLeg from the lesser cell: its walk (written by wip/tools/mk_ls1.py). -/
namespace Go.Proofs.YtnjkkohhgbgpgaaGreatDoor
namespace Leg
open Go.RowKit
set_option linter.unusedSimpArgs false
set_option linter.unusedVariables false

theorem near_zero (n f t : Int) (hn : 0 ≤ n) : nearOf n f t 0 = f := by
  unfold nearOf
  split
  · rfl
  · rename_i h
    have e : 2 * (f * n + (t - f) * 0) + n = n + f * (2 * n) := by
      rw [Int.mul_zero, Int.add_zero, Int.add_comm, Int.mul_left_comm]
    rw [e, Int.add_mul_ediv_right n f (by omega), Int.ediv_eq_zero_of_lt hn (by omega)]
    omega
theorem near_part (n f t k : Int) (hn : 1 ≤ n) : nearOf n f t k = f + partOf (t - f) k n := by
  unfold nearOf partOf
  rw [if_neg (by omega)]
  have e : 2 * (f * n + (t - f) * k) + n = (2 * k * (t - f) + n) + f * (2 * n) := by
    have e1 : 2 * (f * n + (t - f) * k) = 2 * (f * n) + 2 * ((t - f) * k) := Int.mul_add ..
    have e2 : 2 * k * (t - f) = 2 * ((t - f) * k) := by rw [Int.mul_assoc, Int.mul_comm k]
    have e3 : f * (2 * n) = 2 * (f * n) := Int.mul_left_comm ..
    omega
  rw [e, Int.add_mul_ediv_right _ f (by omega)]
  omega
theorem near_in (n f t k : Int) (hf : 0 ≤ f ∧ f ≤ 15) (ht : 0 ≤ t ∧ t ≤ 15) (hn : 1 ≤ n ∧ n ≤ 15) (hk : 0 ≤ k ∧ k ≤ n) : -20 ≤ partOf (t - f) k n ∧ partOf (t - f) k n ≤ 20 := by
  unfold partOf
  have p1 : 2 * k * (t - f) ≤ 2 * n * 15 := by
    rcases Int.lt_or_le (t - f) 0 with h | h
    · have h1 := Int.mul_le_mul_of_nonneg_left (Int.le_of_lt h) (by omega : 0 ≤ 2 * k)
      omega
    · have h1 := Int.mul_le_mul (by omega : 2 * k ≤ 2 * n) (by omega : t - f ≤ 15) h (by omega)
      omega
  have p2 : -(2 * n * 15) ≤ 2 * k * (t - f) := by
    rcases Int.lt_or_le (t - f) 0 with h | h
    · have h1 := Int.mul_le_mul (by omega : 2 * k ≤ 2 * n) (by omega : -(t - f) ≤ 15) (by omega) (by omega)
      rw [Int.mul_neg] at h1
      omega
    · have h1 := Int.mul_nonneg (by omega : 0 ≤ 2 * k) h
      omega
  constructor
  · exact Int.le_ediv_of_mul_le (by omega) (by omega)
  · exact Int.le_of_lt_add_one (Int.ediv_lt_of_lt_mul (by omega) (by omega))

/-- The two boxes of cells. -/
def BoxL (b : Nat) (p q : DCell) (W : World) : Prop :=
  W.cell? ⟨b, 0, none⟩ = some (.int .i64 p.1) ∧ W.cell? ⟨b, 1, none⟩ = some (.int .i64 p.2) ∧ W.cell? ⟨b + 1, 0, none⟩ = some (.int .i64 q.1) ∧ W.cell? ⟨b + 1, 1, none⟩ = some (.int .i64 q.2)
theorem BoxL.below {b n : Nat} {p q : DCell} {w w' : World} (h : BoxL b p q w) (hb : Below n w w') (hn : b + 2 ≤ n) : BoxL b p q w' := by
  obtain ⟨h0, h1, h2, h3⟩ := h
  exact ⟨(hb.cell (p := ⟨b, 0, none⟩) (by show b < n; omega)).trans h0, (hb.cell (p := ⟨b, 1, none⟩) (by show b < n; omega)).trans h1, (hb.cell (p := ⟨b + 1, 0, none⟩) (by show b + 1 < n; omega)).trans h2, (hb.cell (p := ⟨b + 1, 1, none⟩) (by show b + 1 < n; omega)).trans h3⟩

theorem empty_cells (w : World) (e : TypeId) (B : Nat) (hB : B ≤ w.heap.size) : (w.alloc (.cells #[] e)).ownsRow B e 2 (.slice (some ⟨w.heap.size, 0, none⟩) 0 0) 0 [] :=
  World.ownsRow_made w #[] 0 hB (Nat.zero_le _) rfl
theorem mixedS : Tryz.prog.follows .mixedOrders = true := by kernel_rfl

set_option maxHeartbeats 4000000 in
set_option maxRecDepth 100000 in
theorem sUp (a b : DCell) (w : World) (ha : InLeg a) (hb : InLeg b) (hl : Lesser a b) :
    Calls Tryz.prog 34 #[vCe a, vCe b] w fun e w' => ∃ v, e = .returned v ∧ w'.ownsRow w.heap.size 67 2 v (legUp a b).length (cellVals (legUp a b)) ∧ Below w.heap.size w w' := by
  have hs := steps_le ha hb
  obtain ⟨N, hN⟩ : ∃ N : Nat, stepsOf a b = (N : Int) := ⟨(stepsOf a b).toNat, by omega⟩
  have HA := fun W => sInside a W
  have HB := fun W => sInside b W
  have HS := fun W => sSteps a b W ha hb
  rw [decide_eq_true ha] at HA
  rw [decide_eq_true hb] at HB
  have e0 : legUp a b = (List.range (N + 1)).map fun (j : Nat) => cellOf (N : Int) a b (j : Int) := by unfold legUp; rw [hN]; rfl
  rw [hN] at HS
  rw [e0, List.length_map, List.length_range]
  have hN15 : N ≤ 15 := by omega
  obtain ⟨i0, hi, hz0, hz1, hz2⟩ := info_parts infoCell
  obtain ⟨x, y⟩ := a
  obtain ⟨x', y'⟩ := b
  have HZ : Hid (cellOf (N : Int) (x, y) (x', y') ((0 : Nat) : Int) = (x, y)) := by
    show _ = _
    unfold cellOf
    rw [show (((0 : Nat) : Int)) = 0 from rfl, near_zero _ _ _ (by omega), near_zero _ _ _ (by omega)]
  have HPX : Hid (∀ k : Int, 0 ≤ k ∧ k ≤ (N : Int) → 1 ≤ N → ∀ W, Calls Tryz.prog 71 #[.int .i64 (x' - x), .int .i64 k, .int .i64 (N : Int)] W fun e w' => e = .returned (.int .i64 (partOf (x' - x) k (N : Int))) ∧ W = w') := fun k hk h1 W => sPart _ _ _ W ⟨by have := ha.1; have := hb.1; omega, by have := ha.1; have := hb.1; omega⟩ ⟨by omega, by omega⟩ hk
  have HPY : Hid (∀ k : Int, 0 ≤ k ∧ k ≤ (N : Int) → 1 ≤ N → ∀ W, Calls Tryz.prog 71 #[.int .i64 (y' - y), .int .i64 k, .int .i64 (N : Int)] W fun e w' => e = .returned (.int .i64 (partOf (y' - y) k (N : Int))) ∧ W = w') := fun k hk h1 W => sPart _ _ _ W ⟨by have := ha.2; have := hb.2; omega, by have := ha.2; have := hb.2; omega⟩ ⟨by omega, by omega⟩ hk
  have HC : Hid (∀ k : Int, 0 ≤ k ∧ k ≤ (N : Int) → 1 ≤ N → cellOf (N : Int) (x, y) (x', y') k = (x + partOf (x' - x) k (N : Int), y + partOf (y' - y) k (N : Int)) ∧ (-20 ≤ partOf (x' - x) k (N : Int) ∧ partOf (x' - x) k (N : Int) ≤ 20) ∧ (-20 ≤ partOf (y' - y) k (N : Int) ∧ partOf (y' - y) k (N : Int) ≤ 20)) := fun k hk h1 => ⟨by unfold cellOf; rw [near_part _ _ _ _ (by omega), near_part _ _ _ _ (by omega)], near_in _ _ _ _ ha.1 hb.1 ⟨by omega, by omega⟩ hk, near_in _ _ _ _ ha.2 hb.2 ⟨by omega, by omega⟩ hk⟩
  have hl1 : ¬ x' < x := by rcases hl with h | h <;> simp at h <;> omega
  have hl2 : x' = x → y ≤ y' := fun e => by rcases hl with h | h <;> simp at h <;> omega
  obtain ⟨⟨hx1, hx2⟩, hy1, hy2⟩ := ha
  obtain ⟨⟨hx3, hx4⟩, hy3, hy4⟩ := hb
  simp only at hx1 hx2 hx3 hx4 hy1 hy2 hy3 hy4
  simp only [vCe] at HA HB HS ⊢
  clear hs hN e0 hl
  generalize hgl : (fun (j : Nat) => cellOf (N : Int) (x, y) (x', y') (j : Int)) = gl
  have HG : Hid (∀ j : Nat, gl j = cellOf (N : Int) (x, y) (x', y') (j : Int)) := fun j => by rw [← hgl]
  clear hgl
  have HL0 : BoxL w.heap.size (x, y) (x', y') (((w.alloc (.cells #[.int .i64 x, .int .i64 y] 67)).alloc (.cells #[.int .i64 x', .int .i64 y'] 67)).alloc (.cells #[] 67)) := ⟨by go_simp, by go_simp, by go_simp, by go_simp⟩
  go_enter Tryz.func34, Tryz.ntmps34
  go_wp2_with fail
  refine (HA _).mono ?_
  rintro e w1 ⟨rfl, hb1⟩
  clear HA
  obtain ⟨bc1, bf1⟩ := bcell hb1
  have z1 := hb1.size
  simp at z1 bc1 bf1
  have y10 : w.heap.size < w1.heap.size := by omega
  have y11 : w.heap.size + 1 < w1.heap.size := by omega
  go_wp2_with fail
  refine (HB _).mono ?_
  rintro e w2 ⟨rfl, hb2⟩
  clear HB
  have hB2 : Below w.heap.size w w2 := (((((Below.refl w.heap.size w).alloc (Nat.le_refl _) _).alloc (by simp) _).alloc (by simp; omega) _).trans (hb1.mono (by simp; omega))).trans (hb2.mono (by omega))
  have hO2 : w2.ownsRow (w.heap.size + 2) 67 2 (.slice (some ⟨w.heap.size + 1 + 1, 0, none⟩) 0 0) 0 [] := by
    have h := empty_cells ((w.alloc (.cells #[.int .i64 x, .int .i64 y] 67)).alloc (.cells #[.int .i64 x', .int .i64 y'] 67)) 67 (w.heap.size + 2) (by simp)
    simp only [World.size_alloc] at h
    exact (h.kept (grown_of_below hb1) (.inr (by simp [Value.ownBlock]))).kept (grown_of_below hb2) (.inr (by simp [Value.ownBlock]))
  have HL2 := (HL0.below hb1 (by simp)).below hb2 (by omega)
  clear HL0
  obtain ⟨bc2, bf2⟩ := bcell hb2
  have z2 := hb2.size
  have y20 : w.heap.size < w2.heap.size := by omega
  have y21 : w.heap.size + 1 < w2.heap.size := by omega
  have hor : ((x' == x) = false) ∨ ((x' == x) = true ∧ y ≤ y') := by
    by_cases e : x' = x
    · exact .inr ⟨by simp [e], hl2 e⟩
    · exact .inl (by simp [e])
  clear hl2
  rcases hor with hxb | ⟨hxb, hyl⟩
  · go_wp2_with fail
    refine (HS _).mono ?_
    rintro e w3 ⟨rfl, hb3⟩
    have hB3 := hB2.trans (hb3.mono (by omega))
    have hO3 := hO2.kept (grown_of_below hb3) (.inr (by simp [Value.ownBlock]))
    have z3 := hb3.size
    have HL3 := HL2.below hb3 (by omega)
    have a0 := HL3.1
    have a1 := HL3.2.1
    clear HS bc1 bf1 bc2 bf2 hb1 hb2 hb3 z1 y10 y11 hB2 hO2 HL2
    go_wp2_with (at_builtin; refine wpList_append_own _ rfl _ _ 31 rfl (w.heap.size + 2) 67 i0 (.agg #[.int .i64 0, .int .i64 0]) 2 16 Tryz.underlying31 hi hz0 hz1 hz2 rfl (by decide) _ _ _ rfl (hO3.alloc _) ⟨w3.heap.size, 0, none⟩ 1 1 [.int .i64 x, .int .i64 y] rfl rfl ?c1 ?c2 ?c3 ?c4 ?c5 ?_)
    case c1 =>
      intro j u hj
      match j, hj with
      | 0, hj => simp at hj; subst hj; simp [Addr.add]
      | 1, hj => simp at hj; subst hj; simp [Addr.add]
    case c2 =>
      intro u hu
      simp at hu
      rcases hu with rfl | rfl <;> rfl
    case c3 => unfold maxLen; omega
    case c4 => omega
    case c5 => simp; omega
    intro v' w4 hown' hgrow _
    obtain ⟨g', cap', rfl⟩ := ownsRow_succ hown'
    have hB4a : Below (w.heap.size + 2) w3 w4 := ((Below.refl _ w3).alloc (by omega) _).grown hgrow (by simp; omega) (by intro k hk; simp [Value.ownBlock] at hk; omega)
    have hB4 := hB3.trans (hB4a.mono (by omega))
    have HL4 := HL3.below hB4a (Nat.le_refl _)
    have z4 := hB4a.size
    clear hB4a hB3 HL3 hgrow a0 a1 hO3
    go_wp2_with fail
    go_loopw [5, 9] (fun v i wr => ∃ j g cap : Nat, 1 ≤ j ∧ j ≤ N + 1 ∧ i = .int .i64 j ∧ v = .slice (some ⟨g, 0, none⟩) j cap ∧ wr.ownsRow (w.heap.size + 2) 67 2 (.slice (some ⟨g, 0, none⟩) j cap) j (cellVals ((List.range j).map gl)) ∧ BoxL w.heap.size (x, y) (x', y') wr ∧ Below w.heap.size w wr ∧ w.heap.size + 2 ≤ wr.heap.size) (fun _ i _ => N + 1 - (intOf i).toNat)
    case atStart => exact ⟨1, g', cap', by omega, by omega, rfl, rfl, by
      have e : cellVals ((List.range 1).map gl) = [.int .i64 x, .int .i64 y] := by
        rw [show List.range 1 = [0] from rfl, List.map_cons, List.map_nil, HG.out, HZ.out]
        rfl
      rw [e]
      simpa using hown', HL4, hB4, by omega⟩
    case round =>
      obtain ⟨j, g, cap, hj1, hj2, rfl, rfl, hown, HC0, hB, hsz⟩ := hrel
      by_cases hlt : j ≤ N
      · have hltI : (j : Int) ≤ (N : Int) := by omega
        have PX := HPX.out (j : Int) ⟨by omega, by omega⟩ (by omega)
        have PY := HPY.out (j : Int) ⟨by omega, by omega⟩ (by omega)
        obtain ⟨HCe, ⟨hp1, hp2⟩, hq1, hq2⟩ := HC.out (j : Int) ⟨by omega, by omega⟩ (by omega)
        have HCe' : Hid (gl j = (x + partOf (x' - x) (j : Int) (N : Int), y + partOf (y' - y) (j : Int) (N : Int))) := by
          show _ = _
          rw [HG.out]
          exact HCe
        clear HCe
        generalize partOf (x' - x) (j : Int) (N : Int) = px at *
        generalize partOf (y' - y) (j : Int) (N : Int) = py at *
        have hw1 : IntKind.i64.wrap (x' - x) = x' - x := by rw [IntKind.wrap_i64]; all_goals omega
        have hw2 : IntKind.i64.wrap (y' - y) = y' - y := by rw [IntKind.wrap_i64]; all_goals omega
        have hw3 : IntKind.i64.wrap (x + px) = x + px := by rw [IntKind.wrap_i64]; all_goals omega
        have hw4 : IntKind.i64.wrap (y + py) = y + py := by rw [IntKind.wrap_i64]; all_goals omega
        go_wp2_with fail
        refine wp_region_RC (BoxL w.heap.size (x, y) (x', y')) mixedS ?_
        have HC1 : BoxL w.heap.size (x, y) (x', y') wr.drew := HC0.below ((Below.refl (w.heap.size + 2) wr).drew) (Nat.le_refl _)
        refine RC.take (i := 0) (v := ?va0) rfl (by kernel_rfl) (by kernel_rfl) (by kernel_rfl) (fun _ _ _ h => h) HC1 (by rfl) ?ya0 ?ra0
        case ya0 => (intro W hW; obtain ⟨c0, c1, c2, c3⟩ := hW; go_simp; try with_reducible rfl)
        refine RC.take (i := 1) (v := ?va1) rfl (by kernel_rfl) (by kernel_rfl) (by kernel_rfl) (fun _ _ _ h => h) HC1 (by rfl) ?ya1 ?ra1
        case ya1 => (intro W hW; obtain ⟨c0, c1, c2, c3⟩ := hW; go_simp; try with_reducible rfl)
        refine RC.take (i := 2) (v := ?va2) rfl (by kernel_rfl) (by kernel_rfl) (by kernel_rfl) (fun _ _ _ h => h) HC1 (by rfl) ?ya2 ?ra2
        case ya2 => (intro W hW; obtain ⟨c0, c1, c2, c3⟩ := hW; go_simp; try with_reducible rfl)
        refine RC.take (i := 3) (v := ?va3) rfl (by kernel_rfl) (by kernel_rfl) (by kernel_rfl) (fun _ _ _ h => h) HC1 (by rfl) ?ya3 ?ra3
        case ya3 => (intro W hW; obtain ⟨c0, c1, c2, c3⟩ := hW; go_simp; try with_reducible rfl)
        refine RC.take (i := 4) (v := ?va4) rfl (by kernel_rfl) (by kernel_rfl) (by kernel_rfl) (fun _ _ _ h => h) HC1 (by rfl) ?ya4 ?ra4
        case ya4 => (intro W hW; obtain ⟨c0, c1, c2, c3⟩ := hW; go_simp; try with_reducible rfl)
        refine RC.take (i := 5) (v := ?va5) rfl (by kernel_rfl) (by kernel_rfl) (by kernel_rfl) (fun _ _ _ h => h) HC1 (by rfl) ?ya5 ?ra5
        case ya5 => (intro W hW; obtain ⟨c0, c1, c2, c3⟩ := hW; go_simp; try with_reducible rfl)
        refine RC.take (i := 6) (v := ?va6) rfl (by kernel_rfl) (by kernel_rfl) (by kernel_rfl) (fun _ _ _ h => h) HC1 (by rfl) ?ya6 ?ra6
        case ya6 => (intro W hW; obtain ⟨c0, c1, c2, c3⟩ := hW; go_simp; try with_reducible rfl)
        refine RC.take (i := 7) (v := ?va7) rfl (by kernel_rfl) (by kernel_rfl) (by kernel_rfl) (fun _ _ _ h => h) HC1 (by rfl) ?ya7 ?ra7
        case ya7 => (intro W hW; obtain ⟨c0, c1, c2, c3⟩ := hW; go_simp; try with_reducible rfl)
        refine RC.take (i := 8) (v := ?va8) rfl (by kernel_rfl) (by kernel_rfl) (by kernel_rfl) (fun _ _ _ h => h) HC1 (by rfl) ?ya8 ?ra8
        case ya8 => (intro W hW; obtain ⟨c0, c1, c2, c3⟩ := hW; go_simp; try with_reducible rfl)
        refine RC.take (i := 9) (v := ?va9) rfl (by kernel_rfl) (by kernel_rfl) (by kernel_rfl) (fun _ _ _ h => h) HC1 (by rfl) ?ya9 ?ra9
        case ya9 => (intro W hW; obtain ⟨c0, c1, c2, c3⟩ := hW; go_simp; try with_reducible rfl)
        refine RC.take (i := 12) (v := ?va12) rfl (by kernel_rfl) (by kernel_rfl) (by kernel_rfl) (fun _ _ _ h => h) HC1 (by rfl) ?ya12 ?ra12
        case ya12 => (intro W hW; obtain ⟨c0, c1, c2, c3⟩ := hW; go_simp; try with_reducible rfl)
        refine RC.take (i := 13) (v := ?va13) rfl (by kernel_rfl) (by kernel_rfl) (by kernel_rfl) (fun _ _ _ h => h) HC1 (by rfl) ?ya13 ?ra13
        case ya13 => (intro W hW; obtain ⟨c0, c1, c2, c3⟩ := hW; go_simp; try with_reducible rfl)
        refine RC.take (i := 14) (v := ?va14) rfl (by kernel_rfl) (by kernel_rfl) (by kernel_rfl) (fun _ _ _ h => h) HC1 (by rfl) ?ya14 ?ra14
        case ya14 => (intro W hW; obtain ⟨c0, c1, c2, c3⟩ := hW; go_simp; try with_reducible rfl)
        refine RC.take (i := 15) (v := ?va15) rfl (by kernel_rfl) (by kernel_rfl) (by kernel_rfl) (fun _ _ _ h => h) HC1 (by rfl) ?ya15 ?ra15
        case ya15 => (intro W hW; obtain ⟨c0, c1, c2, c3⟩ := hW; go_simp; try with_reducible rfl)
        refine RC.take (i := 16) (v := ?va16) rfl (by kernel_rfl) (by kernel_rfl) (by kernel_rfl) (fun _ _ _ h => h) HC1 (by rfl) ?ya16 ?ra16
        case ya16 => (intro W hW; obtain ⟨c0, c1, c2, c3⟩ := hW; go_simp; try with_reducible rfl)
        refine RC.take (i := 17) (v := ?va17) rfl (by kernel_rfl) (by kernel_rfl) (by kernel_rfl) (fun _ _ _ h => h) HC1 (by rfl) ?ya17 ?ra17
        case ya17 => (intro W hW; obtain ⟨c0, c1, c2, c3⟩ := hW; go_simp; try with_reducible rfl)
        refine RC.take (i := 18) (v := ?va18) rfl (by kernel_rfl) (by kernel_rfl) (by kernel_rfl) (fun _ _ _ h => h) HC1 (by rfl) ?ya18 ?ra18
        case ya18 => (intro W hW; obtain ⟨c0, c1, c2, c3⟩ := hW; go_simp; try with_reducible rfl)
        refine RC.take (i := 19) (v := ?va19) rfl (by kernel_rfl) (by kernel_rfl) (by kernel_rfl) (fun _ _ _ h => h) HC1 (by rfl) ?ya19 ?ra19
        case ya19 => (intro W hW; obtain ⟨c0, c1, c2, c3⟩ := hW; go_simp; try with_reducible rfl)
        refine RC.take (i := 20) (v := ?va20) rfl (by kernel_rfl) (by kernel_rfl) (by kernel_rfl) (fun _ _ _ h => h) HC1 (by rfl) ?ya20 ?ra20
        case ya20 => (intro W hW; obtain ⟨c0, c1, c2, c3⟩ := hW; go_simp; try with_reducible rfl)
        refine RC.want (i := 10) (by kernel_rfl) rfl (by rfl) (fun K hK => ?_)
        go_simp
        refine (PX _).mono ?_
        rintro e w5 ⟨rfl, rfl⟩
        simp only
        refine hK _ _ HC1 ?_
        clear hK K
        refine RC.take (i := 11) (v := ?va11) rfl (by kernel_rfl) (by kernel_rfl) (by kernel_rfl) (fun _ _ _ h => h) HC1 (by rfl) ?ya11 ?ra11
        case ya11 => (intro W hW; obtain ⟨c0, c1, c2, c3⟩ := hW; go_simp; try with_reducible rfl)
        refine RC.want (i := 21) (by kernel_rfl) rfl (by rfl) (fun K hK => ?_)
        go_simp
        refine (PY _).mono ?_
        rintro e w5 ⟨rfl, rfl⟩
        simp only
        refine hK _ _ HC1 ?_
        clear hK K
        refine RC.take (i := 22) (v := ?va22) rfl (by kernel_rfl) (by kernel_rfl) (by kernel_rfl) (fun _ _ _ h => h) HC1 (by rfl) ?ya22 ?ra22
        case ya22 => (intro W hW; obtain ⟨c0, c1, c2, c3⟩ := hW; go_simp; try with_reducible rfl)
        refine RC.take (i := 23) (v := ?va23) rfl (by kernel_rfl) (by kernel_rfl) (by kernel_rfl) (fun _ _ _ h => h) HC1 (by rfl) ?ya23 ?ra23
        case ya23 => (intro W hW; obtain ⟨c0, c1, c2, c3⟩ := hW; go_simp; try with_reducible rfl)
        refine RC.want (i := 24) (by kernel_rfl) rfl (by rfl) (fun K hK => ?_)
        go_simp
        have HC2 : BoxL w.heap.size (x, y) (x', y') (wr.alloc (.cells #[.int .i64 (x + px), .int .i64 (y + py)] 67)).drew := HC0.below (n := w.heap.size + 2) ((Below.refl _ _).alloc hsz _).drew (Nat.le_refl _)
        refine hK _ _ HC2 ?_
        clear hK K
        refine RC.want (i := 25) (by kernel_rfl) rfl (by rfl) (fun K hK => ?_)
        refine wpOp_append _ _ _ 31 rfl (w.heap.size + 2) 67 i0 (.agg #[.int .i64 0, .int .i64 0]) 2 16 Tryz.underlying31 hi hz0 hz1 hz2 rfl (by decide) (.slice (some ⟨g, 0, none⟩) j cap) j _ rfl (hown.alloc _).drew ⟨wr.heap.size, 0, none⟩ 1 1 [.int .i64 (x + px), .int .i64 (y + py)] rfl rfl (fun j u hj => by
            match j, hj with
            | 0, hj => simp at hj; subst hj; simp [Addr.add]
            | 1, hj => simp at hj; subst hj; simp [Addr.add]) (fun u hu => by
            simp at hu
            rcases hu with rfl | rfl <;> rfl) (by unfold maxLen; omega) (by omega) (by simp; omega) ?_
        intro v' w6 hown' hgrow _
        obtain ⟨g', cap', rfl⟩ := ownsRow_succ hown'
        have hB6 : Below (w.heap.size + 2) wr w6 := (((Below.refl _ wr).alloc hsz _).drew).grown hgrow (by simp; omega) (by
          intro k hk
          simp [Value.ownBlock] at hk
          rcases hown.2 with ⟨h, _⟩ | ⟨g0, _, _, h, hg0, _⟩
          · cases h
          · cases h; omega)
        refine hK _ _ (HC0.below hB6 (Nat.le_refl _)) ?_
        clear hK K
        refine RC.take (i := 26) (v := ?va26) rfl (by kernel_rfl) (by kernel_rfl) (by kernel_rfl) (fun _ _ _ h => h) (HC0.below hB6 (Nat.le_refl _)) (by rfl) ?ya26 ?ra26
        case ya26 => (intro W hW; obtain ⟨c0, c1, c2, c3⟩ := hW; go_simp; try with_reducible rfl)
        refine RC.done (by kernel_rfl) ?_
        have z6 := hB6.size
        have HO6 : w6.ownsRow (w.heap.size + 2) 67 2 (.slice (some ⟨g', 0, none⟩) (j + 1) cap') (j + 1) (cellVals ((List.range (j + 1)).map gl)) := by
          rw [List.range_succ, List.map_append, List.map_cons, List.map_nil, cellVals_snoc, HCe'.out]
          exact hown'
        have HB6 := HC0.below hB6 (Nat.le_refl _)
        have hB7 := hB.trans (hB6.mono (by omega))
        clear hown' hgrow hB6 hown HC0 HC1 HC2 hw1 hw2 hw3 hw4
        go_wp2
        refine ⟨?_, ?measure⟩
        (repeat apply Exists.intro)
        refine ⟨?rel, rfl⟩
        case rel => exact ⟨j + 1, g', cap', by omega, by omega, by go_num, rfl, HO6, HB6, hB7, by omega⟩
        case measure => simp [intOf]; omega
      · have hje : j = N + 1 := by omega
        subst hje
        have hltI : ¬ ((N + 1 : Nat) : Int) ≤ (N : Int) := by omega
        have HFin := ownsRow_base hown (show w.heap.size ≤ w.heap.size + 2 by omega)
        rw [List.range_succ, List.map_append, List.map_cons, List.map_nil] at HFin
        have HF2 : Hid _ := HFin
        clear hown HFin
        go_wp2
        go_ret
        exact ⟨.slice (some ⟨g, 0, none⟩) (N + 1) cap, rfl, HF2.out, hB⟩
  · go_wp2_with fail
    refine (HS _).mono ?_
    rintro e w3 ⟨rfl, hb3⟩
    have hB3 := hB2.trans (hb3.mono (by omega))
    have hO3 := hO2.kept (grown_of_below hb3) (.inr (by simp [Value.ownBlock]))
    have z3 := hb3.size
    have HL3 := HL2.below hb3 (by omega)
    have a0 := HL3.1
    have a1 := HL3.2.1
    clear HS bc1 bf1 bc2 bf2 hb1 hb2 hb3 z1 y10 y11 hB2 hO2 HL2
    go_wp2_with (at_builtin; refine wpList_append_own _ rfl _ _ 31 rfl (w.heap.size + 2) 67 i0 (.agg #[.int .i64 0, .int .i64 0]) 2 16 Tryz.underlying31 hi hz0 hz1 hz2 rfl (by decide) _ _ _ rfl (hO3.alloc _) ⟨w3.heap.size, 0, none⟩ 1 1 [.int .i64 x, .int .i64 y] rfl rfl ?c1 ?c2 ?c3 ?c4 ?c5 ?_)
    case c1 =>
      intro j u hj
      match j, hj with
      | 0, hj => simp at hj; subst hj; simp [Addr.add]
      | 1, hj => simp at hj; subst hj; simp [Addr.add]
    case c2 =>
      intro u hu
      simp at hu
      rcases hu with rfl | rfl <;> rfl
    case c3 => unfold maxLen; omega
    case c4 => omega
    case c5 => simp; omega
    intro v' w4 hown' hgrow _
    obtain ⟨g', cap', rfl⟩ := ownsRow_succ hown'
    have hB4a : Below (w.heap.size + 2) w3 w4 := ((Below.refl _ w3).alloc (by omega) _).grown hgrow (by simp; omega) (by intro k hk; simp [Value.ownBlock] at hk; omega)
    have hB4 := hB3.trans (hB4a.mono (by omega))
    have HL4 := HL3.below hB4a (Nat.le_refl _)
    have z4 := hB4a.size
    clear hB4a hB3 HL3 hgrow a0 a1 hO3
    go_wp2_with fail
    go_loopw [5, 9] (fun v i wr => ∃ j g cap : Nat, 1 ≤ j ∧ j ≤ N + 1 ∧ i = .int .i64 j ∧ v = .slice (some ⟨g, 0, none⟩) j cap ∧ wr.ownsRow (w.heap.size + 2) 67 2 (.slice (some ⟨g, 0, none⟩) j cap) j (cellVals ((List.range j).map gl)) ∧ BoxL w.heap.size (x, y) (x', y') wr ∧ Below w.heap.size w wr ∧ w.heap.size + 2 ≤ wr.heap.size) (fun _ i _ => N + 1 - (intOf i).toNat)
    case atStart => exact ⟨1, g', cap', by omega, by omega, rfl, rfl, by
      have e : cellVals ((List.range 1).map gl) = [.int .i64 x, .int .i64 y] := by
        rw [show List.range 1 = [0] from rfl, List.map_cons, List.map_nil, HG.out, HZ.out]
        rfl
      rw [e]
      simpa using hown', HL4, hB4, by omega⟩
    case round =>
      obtain ⟨j, g, cap, hj1, hj2, rfl, rfl, hown, HC0, hB, hsz⟩ := hrel
      by_cases hlt : j ≤ N
      · have hltI : (j : Int) ≤ (N : Int) := by omega
        have PX := HPX.out (j : Int) ⟨by omega, by omega⟩ (by omega)
        have PY := HPY.out (j : Int) ⟨by omega, by omega⟩ (by omega)
        obtain ⟨HCe, ⟨hp1, hp2⟩, hq1, hq2⟩ := HC.out (j : Int) ⟨by omega, by omega⟩ (by omega)
        have HCe' : Hid (gl j = (x + partOf (x' - x) (j : Int) (N : Int), y + partOf (y' - y) (j : Int) (N : Int))) := by
          show _ = _
          rw [HG.out]
          exact HCe
        clear HCe
        generalize partOf (x' - x) (j : Int) (N : Int) = px at *
        generalize partOf (y' - y) (j : Int) (N : Int) = py at *
        have hw1 : IntKind.i64.wrap (x' - x) = x' - x := by rw [IntKind.wrap_i64]; all_goals omega
        have hw2 : IntKind.i64.wrap (y' - y) = y' - y := by rw [IntKind.wrap_i64]; all_goals omega
        have hw3 : IntKind.i64.wrap (x + px) = x + px := by rw [IntKind.wrap_i64]; all_goals omega
        have hw4 : IntKind.i64.wrap (y + py) = y + py := by rw [IntKind.wrap_i64]; all_goals omega
        go_wp2_with fail
        refine wp_region_RC (BoxL w.heap.size (x, y) (x', y')) mixedS ?_
        have HC1 : BoxL w.heap.size (x, y) (x', y') wr.drew := HC0.below ((Below.refl (w.heap.size + 2) wr).drew) (Nat.le_refl _)
        refine RC.take (i := 0) (v := ?vb0) rfl (by kernel_rfl) (by kernel_rfl) (by kernel_rfl) (fun _ _ _ h => h) HC1 (by rfl) ?yb0 ?rb0
        case yb0 => (intro W hW; obtain ⟨c0, c1, c2, c3⟩ := hW; go_simp; try with_reducible rfl)
        refine RC.take (i := 1) (v := ?vb1) rfl (by kernel_rfl) (by kernel_rfl) (by kernel_rfl) (fun _ _ _ h => h) HC1 (by rfl) ?yb1 ?rb1
        case yb1 => (intro W hW; obtain ⟨c0, c1, c2, c3⟩ := hW; go_simp; try with_reducible rfl)
        refine RC.take (i := 2) (v := ?vb2) rfl (by kernel_rfl) (by kernel_rfl) (by kernel_rfl) (fun _ _ _ h => h) HC1 (by rfl) ?yb2 ?rb2
        case yb2 => (intro W hW; obtain ⟨c0, c1, c2, c3⟩ := hW; go_simp; try with_reducible rfl)
        refine RC.take (i := 3) (v := ?vb3) rfl (by kernel_rfl) (by kernel_rfl) (by kernel_rfl) (fun _ _ _ h => h) HC1 (by rfl) ?yb3 ?rb3
        case yb3 => (intro W hW; obtain ⟨c0, c1, c2, c3⟩ := hW; go_simp; try with_reducible rfl)
        refine RC.take (i := 4) (v := ?vb4) rfl (by kernel_rfl) (by kernel_rfl) (by kernel_rfl) (fun _ _ _ h => h) HC1 (by rfl) ?yb4 ?rb4
        case yb4 => (intro W hW; obtain ⟨c0, c1, c2, c3⟩ := hW; go_simp; try with_reducible rfl)
        refine RC.take (i := 5) (v := ?vb5) rfl (by kernel_rfl) (by kernel_rfl) (by kernel_rfl) (fun _ _ _ h => h) HC1 (by rfl) ?yb5 ?rb5
        case yb5 => (intro W hW; obtain ⟨c0, c1, c2, c3⟩ := hW; go_simp; try with_reducible rfl)
        refine RC.take (i := 6) (v := ?vb6) rfl (by kernel_rfl) (by kernel_rfl) (by kernel_rfl) (fun _ _ _ h => h) HC1 (by rfl) ?yb6 ?rb6
        case yb6 => (intro W hW; obtain ⟨c0, c1, c2, c3⟩ := hW; go_simp; try with_reducible rfl)
        refine RC.take (i := 7) (v := ?vb7) rfl (by kernel_rfl) (by kernel_rfl) (by kernel_rfl) (fun _ _ _ h => h) HC1 (by rfl) ?yb7 ?rb7
        case yb7 => (intro W hW; obtain ⟨c0, c1, c2, c3⟩ := hW; go_simp; try with_reducible rfl)
        refine RC.take (i := 8) (v := ?vb8) rfl (by kernel_rfl) (by kernel_rfl) (by kernel_rfl) (fun _ _ _ h => h) HC1 (by rfl) ?yb8 ?rb8
        case yb8 => (intro W hW; obtain ⟨c0, c1, c2, c3⟩ := hW; go_simp; try with_reducible rfl)
        refine RC.take (i := 9) (v := ?vb9) rfl (by kernel_rfl) (by kernel_rfl) (by kernel_rfl) (fun _ _ _ h => h) HC1 (by rfl) ?yb9 ?rb9
        case yb9 => (intro W hW; obtain ⟨c0, c1, c2, c3⟩ := hW; go_simp; try with_reducible rfl)
        refine RC.take (i := 12) (v := ?vb12) rfl (by kernel_rfl) (by kernel_rfl) (by kernel_rfl) (fun _ _ _ h => h) HC1 (by rfl) ?yb12 ?rb12
        case yb12 => (intro W hW; obtain ⟨c0, c1, c2, c3⟩ := hW; go_simp; try with_reducible rfl)
        refine RC.take (i := 13) (v := ?vb13) rfl (by kernel_rfl) (by kernel_rfl) (by kernel_rfl) (fun _ _ _ h => h) HC1 (by rfl) ?yb13 ?rb13
        case yb13 => (intro W hW; obtain ⟨c0, c1, c2, c3⟩ := hW; go_simp; try with_reducible rfl)
        refine RC.take (i := 14) (v := ?vb14) rfl (by kernel_rfl) (by kernel_rfl) (by kernel_rfl) (fun _ _ _ h => h) HC1 (by rfl) ?yb14 ?rb14
        case yb14 => (intro W hW; obtain ⟨c0, c1, c2, c3⟩ := hW; go_simp; try with_reducible rfl)
        refine RC.take (i := 15) (v := ?vb15) rfl (by kernel_rfl) (by kernel_rfl) (by kernel_rfl) (fun _ _ _ h => h) HC1 (by rfl) ?yb15 ?rb15
        case yb15 => (intro W hW; obtain ⟨c0, c1, c2, c3⟩ := hW; go_simp; try with_reducible rfl)
        refine RC.take (i := 16) (v := ?vb16) rfl (by kernel_rfl) (by kernel_rfl) (by kernel_rfl) (fun _ _ _ h => h) HC1 (by rfl) ?yb16 ?rb16
        case yb16 => (intro W hW; obtain ⟨c0, c1, c2, c3⟩ := hW; go_simp; try with_reducible rfl)
        refine RC.take (i := 17) (v := ?vb17) rfl (by kernel_rfl) (by kernel_rfl) (by kernel_rfl) (fun _ _ _ h => h) HC1 (by rfl) ?yb17 ?rb17
        case yb17 => (intro W hW; obtain ⟨c0, c1, c2, c3⟩ := hW; go_simp; try with_reducible rfl)
        refine RC.take (i := 18) (v := ?vb18) rfl (by kernel_rfl) (by kernel_rfl) (by kernel_rfl) (fun _ _ _ h => h) HC1 (by rfl) ?yb18 ?rb18
        case yb18 => (intro W hW; obtain ⟨c0, c1, c2, c3⟩ := hW; go_simp; try with_reducible rfl)
        refine RC.take (i := 19) (v := ?vb19) rfl (by kernel_rfl) (by kernel_rfl) (by kernel_rfl) (fun _ _ _ h => h) HC1 (by rfl) ?yb19 ?rb19
        case yb19 => (intro W hW; obtain ⟨c0, c1, c2, c3⟩ := hW; go_simp; try with_reducible rfl)
        refine RC.take (i := 20) (v := ?vb20) rfl (by kernel_rfl) (by kernel_rfl) (by kernel_rfl) (fun _ _ _ h => h) HC1 (by rfl) ?yb20 ?rb20
        case yb20 => (intro W hW; obtain ⟨c0, c1, c2, c3⟩ := hW; go_simp; try with_reducible rfl)
        refine RC.want (i := 10) (by kernel_rfl) rfl (by rfl) (fun K hK => ?_)
        go_simp
        refine (PX _).mono ?_
        rintro e w5 ⟨rfl, rfl⟩
        simp only
        refine hK _ _ HC1 ?_
        clear hK K
        refine RC.take (i := 11) (v := ?vb11) rfl (by kernel_rfl) (by kernel_rfl) (by kernel_rfl) (fun _ _ _ h => h) HC1 (by rfl) ?yb11 ?rb11
        case yb11 => (intro W hW; obtain ⟨c0, c1, c2, c3⟩ := hW; go_simp; try with_reducible rfl)
        refine RC.want (i := 21) (by kernel_rfl) rfl (by rfl) (fun K hK => ?_)
        go_simp
        refine (PY _).mono ?_
        rintro e w5 ⟨rfl, rfl⟩
        simp only
        refine hK _ _ HC1 ?_
        clear hK K
        refine RC.take (i := 22) (v := ?vb22) rfl (by kernel_rfl) (by kernel_rfl) (by kernel_rfl) (fun _ _ _ h => h) HC1 (by rfl) ?yb22 ?rb22
        case yb22 => (intro W hW; obtain ⟨c0, c1, c2, c3⟩ := hW; go_simp; try with_reducible rfl)
        refine RC.take (i := 23) (v := ?vb23) rfl (by kernel_rfl) (by kernel_rfl) (by kernel_rfl) (fun _ _ _ h => h) HC1 (by rfl) ?yb23 ?rb23
        case yb23 => (intro W hW; obtain ⟨c0, c1, c2, c3⟩ := hW; go_simp; try with_reducible rfl)
        refine RC.want (i := 24) (by kernel_rfl) rfl (by rfl) (fun K hK => ?_)
        go_simp
        have HC2 : BoxL w.heap.size (x, y) (x', y') (wr.alloc (.cells #[.int .i64 (x + px), .int .i64 (y + py)] 67)).drew := HC0.below (n := w.heap.size + 2) ((Below.refl _ _).alloc hsz _).drew (Nat.le_refl _)
        refine hK _ _ HC2 ?_
        clear hK K
        refine RC.want (i := 25) (by kernel_rfl) rfl (by rfl) (fun K hK => ?_)
        refine wpOp_append _ _ _ 31 rfl (w.heap.size + 2) 67 i0 (.agg #[.int .i64 0, .int .i64 0]) 2 16 Tryz.underlying31 hi hz0 hz1 hz2 rfl (by decide) (.slice (some ⟨g, 0, none⟩) j cap) j _ rfl (hown.alloc _).drew ⟨wr.heap.size, 0, none⟩ 1 1 [.int .i64 (x + px), .int .i64 (y + py)] rfl rfl (fun j u hj => by
            match j, hj with
            | 0, hj => simp at hj; subst hj; simp [Addr.add]
            | 1, hj => simp at hj; subst hj; simp [Addr.add]) (fun u hu => by
            simp at hu
            rcases hu with rfl | rfl <;> rfl) (by unfold maxLen; omega) (by omega) (by simp; omega) ?_
        intro v' w6 hown' hgrow _
        obtain ⟨g', cap', rfl⟩ := ownsRow_succ hown'
        have hB6 : Below (w.heap.size + 2) wr w6 := (((Below.refl _ wr).alloc hsz _).drew).grown hgrow (by simp; omega) (by
          intro k hk
          simp [Value.ownBlock] at hk
          rcases hown.2 with ⟨h, _⟩ | ⟨g0, _, _, h, hg0, _⟩
          · cases h
          · cases h; omega)
        refine hK _ _ (HC0.below hB6 (Nat.le_refl _)) ?_
        clear hK K
        refine RC.take (i := 26) (v := ?vb26) rfl (by kernel_rfl) (by kernel_rfl) (by kernel_rfl) (fun _ _ _ h => h) (HC0.below hB6 (Nat.le_refl _)) (by rfl) ?yb26 ?rb26
        case yb26 => (intro W hW; obtain ⟨c0, c1, c2, c3⟩ := hW; go_simp; try with_reducible rfl)
        refine RC.done (by kernel_rfl) ?_
        have z6 := hB6.size
        have HO6 : w6.ownsRow (w.heap.size + 2) 67 2 (.slice (some ⟨g', 0, none⟩) (j + 1) cap') (j + 1) (cellVals ((List.range (j + 1)).map gl)) := by
          rw [List.range_succ, List.map_append, List.map_cons, List.map_nil, cellVals_snoc, HCe'.out]
          exact hown'
        have HB6 := HC0.below hB6 (Nat.le_refl _)
        have hB7 := hB.trans (hB6.mono (by omega))
        clear hown' hgrow hB6 hown HC0 HC1 HC2 hw1 hw2 hw3 hw4
        go_wp2
        refine ⟨?_, ?measure⟩
        (repeat apply Exists.intro)
        refine ⟨?rel, rfl⟩
        case rel => exact ⟨j + 1, g', cap', by omega, by omega, by go_num, rfl, HO6, HB6, hB7, by omega⟩
        case measure => simp [intOf]; omega
      · have hje : j = N + 1 := by omega
        subst hje
        have hltI : ¬ ((N + 1 : Nat) : Int) ≤ (N : Int) := by omega
        have HFin := ownsRow_base hown (show w.heap.size ≤ w.heap.size + 2 by omega)
        rw [List.range_succ, List.map_append, List.map_cons, List.map_nil] at HFin
        have HF2 : Hid _ := HFin
        clear hown HFin
        go_wp2
        go_ret
        exact ⟨.slice (some ⟨g, 0, none⟩) (N + 1) cap, rfl, HF2.out, hB⟩

end Leg
end Go.Proofs.YtnjkkohhgbgpgaaGreatDoor

/- DERIVED. spec.SkyLeg at every two cells (written by wip/tools/mk_ls2.py). -/
namespace Go.Proofs.YtnjkkohhgbgpgaaGreatDoor
namespace Leg
open Go.RowKit
set_option linter.unusedSimpArgs false
set_option linter.unusedVariables false

theorem cellVals_len (l : List DCell) : (cellVals l).length = l.length * 2 := by
  induction l with
  | nil => rfl
  | cons c l ih => simp only [cellVals, List.flatMap_cons, List.length_append, List.length_cons, List.length_nil] at ih ⊢; omega
theorem cellVals_at (l : List DCell) (i : Nat) (h : i < l.length) : (cellVals l)[i * 2]? = some (.int .i64 (l[i]'h).1) ∧ (cellVals l)[i * 2 + 1]? = some (.int .i64 (l[i]'h).2) := by
  induction l generalizing i with
  | nil => simp at h
  | cons c l ih =>
    cases i with
    | zero => simp [cellVals]
    | succ i =>
      have := ih i (by simpa using h)
      rw [show (i + 1) * 2 = i * 2 + 1 + 1 by omega]
      simpa [cellVals] using this
/-- The cells of a row that a slice owns. -/
theorem owned_cell {W : World} {base e : Nat} {g n cap : Nat} {l : List DCell} (h : W.ownsRow base e 2 (.slice (some ⟨g, 0, none⟩) n cap) n (cellVals l)) (i : Nat) (hi : i < l.length) :
    W.cell? ⟨g, i * 2, none⟩ = some (.int .i64 (l[i]'hi).1) ∧ W.cell? ⟨g, i * 2 + 1, none⟩ = some (.int .i64 (l[i]'hi).2) := by
  have hc := h.cells (g := g) rfl
  obtain ⟨h1, h2⟩ := cellVals_at l i hi
  have e1 := hc _ _ h1
  have e2 := hc _ _ h2
  have ad : ∀ k, (⟨g, 0, none⟩ : Addr).add k = ⟨g, k, none⟩ := by
    intro k
    cases k <;> simp [Addr.add]
  rw [ad] at e1 e2
  exact ⟨e1, e2⟩
theorem owned_block {W : World} {base e : Nat} {g n cap : Nat} {l : List Value} {size : Nat} (h : W.ownsRow base e size (.slice (some ⟨g, 0, none⟩) n cap) n l) : base ≤ g ∧ g < W.heap.size ∧ n ≤ cap ∧ cap ≤ maxLen := by
  rcases h.2 with ⟨h1, _⟩ | ⟨g0, c0, cur, h1, h2, h3, h4, h5, _⟩
  · cases h1
  · cases h1
    exact ⟨h2, (Array.getElem?_eq_some_iff.1 h3).1, h4, h5⟩

set_option maxHeartbeats 2000000 in
set_option maxRecDepth 100000 in
theorem sBack (a b : DCell) (w : World) (ha : InLeg a) (hb : InLeg b) (hl : ¬ Lesser a b) :
    Calls Tryz.prog 34 #[vCe a, vCe b] w fun e w' => ∃ v, e = .returned v ∧ w'.ownsRow w.heap.size 67 2 v (legUp b a).length (cellVals (legUp b a).reverse) ∧ Below w.heap.size w w' := by
  have hl' : Lesser b a := by unfold Lesser at hl ⊢; omega
  have hs := steps_le hb ha
  have hlen := legUp_len b a
  have HA := fun W => sInside a W
  have HB := fun W => sInside b W
  have HU := fun W => sUp b a W hb ha hl'
  rw [decide_eq_true ha] at HA
  rw [decide_eq_true hb] at HB
  obtain ⟨i0, hi, hz0, hz1, hz2⟩ := info_parts infoCell
  have hlen15 : (legUp b a).length ≤ 16 := by omega
  have hlen1 : 1 ≤ (legUp b a).length := by omega
  clear hlen hs
  generalize legUp b a = L at *
  obtain ⟨x, y⟩ := a
  obtain ⟨x', y'⟩ := b
  have hll : x' < x ∨ (x' = x ∧ y' < y) := by
    unfold Lesser at hl
    simp at hl
    omega
  simp only [vCe] at HA HB HU ⊢
  clear hl hl' ha hb
  have HL0 : BoxL w.heap.size (x, y) (x', y') (((w.alloc (.cells #[.int .i64 x, .int .i64 y] 67)).alloc (.cells #[.int .i64 x', .int .i64 y'] 67)).alloc (.cells #[] 67)) := ⟨by go_simp, by go_simp, by go_simp, by go_simp⟩
  go_enter Tryz.func34, Tryz.ntmps34
  go_wp2_with fail
  refine (HA _).mono ?_
  rintro e w1 ⟨rfl, hb1⟩
  clear HA
  obtain ⟨bc1, bf1⟩ := bcell hb1
  have z1 := hb1.size
  simp at z1 bc1 bf1
  have y10 : w.heap.size < w1.heap.size := by omega
  have y11 : w.heap.size + 1 < w1.heap.size := by omega
  go_wp2_with fail
  refine (HB _).mono ?_
  rintro e w2 ⟨rfl, hb2⟩
  clear HB
  have hB2 : Below w.heap.size w w2 := (((((Below.refl w.heap.size w).alloc (Nat.le_refl _) _).alloc (by simp) _).alloc (by simp; omega) _).trans (hb1.mono (by simp; omega))).trans (hb2.mono (by omega))
  have hO2 : w2.ownsRow (w.heap.size + 2) 67 2 (.slice (some ⟨w.heap.size + 1 + 1, 0, none⟩) 0 0) 0 [] := by
    have h := empty_cells ((w.alloc (.cells #[.int .i64 x, .int .i64 y] 67)).alloc (.cells #[.int .i64 x', .int .i64 y'] 67)) 67 (w.heap.size + 2) (by simp)
    simp only [World.size_alloc] at h
    exact (h.kept (grown_of_below hb1) (.inr (by simp [Value.ownBlock]))).kept (grown_of_below hb2) (.inr (by simp [Value.ownBlock]))
  have HL2 := (HL0.below hb1 (by simp)).below hb2 (by omega)
  clear HL0
  obtain ⟨a0, a1, a2, a3⟩ := HL2
  have z2 := hb2.size
  clear bc1 bf1 hb1 hb2 y10 y11
  have hor : x' < x ∨ ((x' == x) = true ∧ y' < y ∧ ¬ x' < x) := by
    rcases hll with h | h
    · exact .inl h
    · exact .inr ⟨by simp [h.1], h.2, by omega⟩
  clear hll
  rcases hor with hxl | ⟨hxb, hyl, hxl⟩
  · go_wp2_with fail
    refine (HU _).mono ?_
    rintro e w3 ⟨v3, rfl, hOL, hb3⟩
    obtain ⟨gl, cl, rfl⟩ : ∃ gl cl, v3 = .slice (some ⟨gl, 0, none⟩) L.length cl := by
      rcases hOL.2 with ⟨_, h0⟩ | ⟨g, c, _, h1, _⟩
      · omega
      · exact ⟨g, c, h1⟩
    have hB3 := hB2.trans (hb3.mono (by omega))
    have hO3 := hO2.kept (grown_of_below hb3) (.inr (by simp [Value.ownBlock]))
    obtain ⟨hgl, hgl2, hcl, hcm⟩ := owned_block hOL
    have z3 := hb3.size
    have hcI : (L.length : Int) ≤ 16 := by omega
    clear HU hb3 hB2 hO2 a0 a1 a2 a3
    go_wp2_with fail
    go_loopw [5, 7] (fun v i wr => ∃ j g cap : Nat, j ≤ L.length ∧ i = .int .i64 ((L.length : Int) - 1 - (j : Int)) ∧ v = .slice (some ⟨g, 0, none⟩) j cap ∧ g ≠ gl ∧ wr.ownsRow (w.heap.size + 2) 67 2 (.slice (some ⟨g, 0, none⟩) j cap) j (cellVals (L.reverse.take j)) ∧ wr.ownsRow w2.heap.size 67 2 (.slice (some ⟨gl, 0, none⟩) L.length cl) L.length (cellVals L) ∧ Below w.heap.size w wr ∧ w2.heap.size ≤ wr.heap.size) (fun _ i _ => (intOf i + 1).toNat)
    case atStart => exact ⟨0, w.heap.size + 1 + 1, 0, by omega, by go_num, rfl, by omega, by simpa [cellVals] using hO3, hOL, hB3, by omega⟩
    case round =>
      obtain ⟨j, g, cap, hj, rfl, rfl, hgne, hown, hOLr, hB, hsz⟩ := hrel
      by_cases hlt : j < L.length
      · obtain ⟨hga, hgb, hgc, hgd⟩ := owned_block hown
        have hgl3 := (owned_block hOLr).2.1
        have hk : L.length - 1 - j < L.length := by omega
        obtain ⟨d0, d1⟩ := owned_cell hOLr (L.length - 1 - j) hk
        have HR : Hid (L.reverse.take (j + 1) = L.reverse.take j ++ [L[L.length - 1 - j]'hk]) := by
          show _ = _
          rw [List.take_succ_eq_append_getElem (by simpa using hlt), List.getElem_reverse]
        obtain ⟨ix, hix⟩ : ∃ ix : Nat, ix = L.length - 1 - j := ⟨_, rfl⟩
        have hixI : (L.length : Int) - 1 - (j : Int) = (ix : Int) := by omega
        have hixl : ix < L.length := by omega
        obtain ⟨c, hc⟩ : ∃ c, c = L[L.length - 1 - j]'hk := ⟨_, rfl⟩
        rw [← hc] at d0 d1 HR
        rw [← hix] at d0 d1
        clear hc hk
        obtain ⟨cx, cy⟩ := c
        simp only at d0 d1
        have hixI2 : (ix : Int) < (L.length : Int) := by omega
        have hje : Hid (ix = L.length - 1 - j) := hix
        rw [hixI]
        clear hixI hix
        go_wp2_with (at_builtin; refine wpList_append_own_at _ rfl _ _ 31 rfl (w.heap.size + 2) 67 i0 (.agg #[.int .i64 0, .int .i64 0]) 2 16 Tryz.underlying31 hi hz0 hz1 hz2 rfl (by decide) _ _ _ rfl (hown.alloc _) ⟨wr.heap.size, 0, none⟩ 1 1 [.int .i64 cx, .int .i64 cy] rfl rfl ?c1 ?c2 ?c3 ?c4 ?c5 ?_)
        case c1 =>
          intro j u hj
          match j, hj with
          | 0, hj => simp at hj; subst hj; simp [Addr.add]
          | 1, hj => simp at hj; subst hj; simp [Addr.add]
        case c2 =>
          intro u hu
          simp at hu
          rcases hu with rfl | rfl <;> rfl
        case c3 => unfold maxLen; omega
        case c4 => omega
        case c5 => simp; omega
        intro v' w6 hown' hgrow _ hat
        obtain ⟨g', cap', rfl⟩ := ownsRow_succ hown'
        have hg' : g' ≠ gl := by
          simp [Value.ownBlock] at hat
          omega
        have hOL6 := (hOLr.alloc (.cells #[.int .i64 cx, .int .i64 cy] 67)).kept hgrow (.inr (by simp [Value.ownBlock]; omega))
        have hB6 : Below w.heap.size wr w6 := ((Below.refl _ wr).alloc (by omega) _).grown hgrow (by simp; omega) (by intro k hk; simp [Value.ownBlock] at hk; omega)
        have hO6 : w6.ownsRow (w.heap.size + 2) 67 2 (.slice (some ⟨g', 0, none⟩) (j + 1) cap') (j + 1) (cellVals (L.reverse.take (j + 1))) := by
          rw [HR.out, cellVals_snoc]
          exact hown'
        have z6 := hB6.size
        have hB7 := hB.trans hB6
        clear hown hown' hgrow hat hOLr hB6 hB d0 d1 HR
        go_wp2
        go_roundw
        case rel => exact ⟨j + 1, g', cap', by omega, by have := hje.out; go_num, rfl, hg', hO6, hOL6, hB7, by omega⟩
        case measure => simp [intOf]
      · have hje : j = L.length := by omega
        subst hje
        have HFin : Hid (wr.ownsRow w.heap.size 67 2 (.slice (some ⟨g, 0, none⟩) L.length cap) L.length (cellVals L.reverse)) := by
          have h := ownsRow_base hown (show w.heap.size ≤ w.heap.size + 2 by omega)
          rwa [List.take_of_length_le (by simp)] at h
        clear hown hOLr
        go_wp2
        go_ret
        exact ⟨.slice (some ⟨g, 0, none⟩) L.length cap, rfl, HFin.out, hB⟩
  · go_wp2_with fail
    refine (HU _).mono ?_
    rintro e w3 ⟨v3, rfl, hOL, hb3⟩
    obtain ⟨gl, cl, rfl⟩ : ∃ gl cl, v3 = .slice (some ⟨gl, 0, none⟩) L.length cl := by
      rcases hOL.2 with ⟨_, h0⟩ | ⟨g, c, _, h1, _⟩
      · omega
      · exact ⟨g, c, h1⟩
    have hB3 := hB2.trans (hb3.mono (by omega))
    have hO3 := hO2.kept (grown_of_below hb3) (.inr (by simp [Value.ownBlock]))
    obtain ⟨hgl, hgl2, hcl, hcm⟩ := owned_block hOL
    have z3 := hb3.size
    have hcI : (L.length : Int) ≤ 16 := by omega
    clear HU hb3 hB2 hO2 a0 a1 a2 a3
    go_wp2_with fail
    go_loopw [5, 7] (fun v i wr => ∃ j g cap : Nat, j ≤ L.length ∧ i = .int .i64 ((L.length : Int) - 1 - (j : Int)) ∧ v = .slice (some ⟨g, 0, none⟩) j cap ∧ g ≠ gl ∧ wr.ownsRow (w.heap.size + 2) 67 2 (.slice (some ⟨g, 0, none⟩) j cap) j (cellVals (L.reverse.take j)) ∧ wr.ownsRow w2.heap.size 67 2 (.slice (some ⟨gl, 0, none⟩) L.length cl) L.length (cellVals L) ∧ Below w.heap.size w wr ∧ w2.heap.size ≤ wr.heap.size) (fun _ i _ => (intOf i + 1).toNat)
    case atStart => exact ⟨0, w.heap.size + 1 + 1, 0, by omega, by go_num, rfl, by omega, by simpa [cellVals] using hO3, hOL, hB3, by omega⟩
    case round =>
      obtain ⟨j, g, cap, hj, rfl, rfl, hgne, hown, hOLr, hB, hsz⟩ := hrel
      by_cases hlt : j < L.length
      · obtain ⟨hga, hgb, hgc, hgd⟩ := owned_block hown
        have hgl3 := (owned_block hOLr).2.1
        have hk : L.length - 1 - j < L.length := by omega
        obtain ⟨d0, d1⟩ := owned_cell hOLr (L.length - 1 - j) hk
        have HR : Hid (L.reverse.take (j + 1) = L.reverse.take j ++ [L[L.length - 1 - j]'hk]) := by
          show _ = _
          rw [List.take_succ_eq_append_getElem (by simpa using hlt), List.getElem_reverse]
        obtain ⟨ix, hix⟩ : ∃ ix : Nat, ix = L.length - 1 - j := ⟨_, rfl⟩
        have hixI : (L.length : Int) - 1 - (j : Int) = (ix : Int) := by omega
        have hixl : ix < L.length := by omega
        obtain ⟨c, hc⟩ : ∃ c, c = L[L.length - 1 - j]'hk := ⟨_, rfl⟩
        rw [← hc] at d0 d1 HR
        rw [← hix] at d0 d1
        clear hc hk
        obtain ⟨cx, cy⟩ := c
        simp only at d0 d1
        have hixI2 : (ix : Int) < (L.length : Int) := by omega
        have hje : Hid (ix = L.length - 1 - j) := hix
        rw [hixI]
        clear hixI hix
        go_wp2_with (at_builtin; refine wpList_append_own_at _ rfl _ _ 31 rfl (w.heap.size + 2) 67 i0 (.agg #[.int .i64 0, .int .i64 0]) 2 16 Tryz.underlying31 hi hz0 hz1 hz2 rfl (by decide) _ _ _ rfl (hown.alloc _) ⟨wr.heap.size, 0, none⟩ 1 1 [.int .i64 cx, .int .i64 cy] rfl rfl ?c1 ?c2 ?c3 ?c4 ?c5 ?_)
        case c1 =>
          intro j u hj
          match j, hj with
          | 0, hj => simp at hj; subst hj; simp [Addr.add]
          | 1, hj => simp at hj; subst hj; simp [Addr.add]
        case c2 =>
          intro u hu
          simp at hu
          rcases hu with rfl | rfl <;> rfl
        case c3 => unfold maxLen; omega
        case c4 => omega
        case c5 => simp; omega
        intro v' w6 hown' hgrow _ hat
        obtain ⟨g', cap', rfl⟩ := ownsRow_succ hown'
        have hg' : g' ≠ gl := by
          simp [Value.ownBlock] at hat
          omega
        have hOL6 := (hOLr.alloc (.cells #[.int .i64 cx, .int .i64 cy] 67)).kept hgrow (.inr (by simp [Value.ownBlock]; omega))
        have hB6 : Below w.heap.size wr w6 := ((Below.refl _ wr).alloc (by omega) _).grown hgrow (by simp; omega) (by intro k hk; simp [Value.ownBlock] at hk; omega)
        have hO6 : w6.ownsRow (w.heap.size + 2) 67 2 (.slice (some ⟨g', 0, none⟩) (j + 1) cap') (j + 1) (cellVals (L.reverse.take (j + 1))) := by
          rw [HR.out, cellVals_snoc]
          exact hown'
        have z6 := hB6.size
        have hB7 := hB.trans hB6
        clear hown hown' hgrow hat hOLr hB6 hB d0 d1 HR
        go_wp2
        go_roundw
        case rel => exact ⟨j + 1, g', cap', by omega, by have := hje.out; go_num, rfl, hg', hO6, hOL6, hB7, by omega⟩
        case measure => simp [intOf]
      · have hje : j = L.length := by omega
        subst hje
        have HFin : Hid (wr.ownsRow w.heap.size 67 2 (.slice (some ⟨g, 0, none⟩) L.length cap) L.length (cellVals L.reverse)) := by
          have h := ownsRow_base hown (show w.heap.size ≤ w.heap.size + 2 by omega)
          rwa [List.take_of_length_le (by simp)] at h
        clear hown hOLr
        go_wp2
        go_ret
        exact ⟨.slice (some ⟨g, 0, none⟩) L.length cap, rfl, HFin.out, hB⟩

end Leg
end Go.Proofs.YtnjkkohhgbgpgaaGreatDoor

/- DERIVED. spec.SkyLeg at every two cells; the law's helpers over lists of cells (without toSkyCell): eqSkyCellS, markSkyCellS, heldSkyCellS: their walks. -/
namespace Go.Proofs.YtnjkkohhgbgpgaaGreatDoor
namespace Leg
open Go.RowKit
set_option linter.unusedSimpArgs false
set_option linter.unusedVariables false

set_option maxHeartbeats 1000000 in
theorem sLeg (a b : DCell) (w : World) :
    Calls Tryz.prog 34 #[vCe a, vCe b] w fun e w' => ∃ v, e = .returned v ∧ w'.ownsRow w.heap.size 67 2 v (legOf a b).length (cellVals (legOf a b)) ∧ Below w.heap.size w w' := by
  by_cases ha : InLeg a
  · by_cases hb : InLeg b
    · by_cases h : Lesser a b
      · rw [leg_yes ha hb h]
        exact sUp a b w ha hb h
      · rw [leg_back ha hb h, List.length_reverse]
        exact sBack a b w ha hb h
    · have e : legOf a b = [] := by simp [legOf, hb]
      have HA := fun W => sInside a W
      have HB := fun W => sInside b W
      rw [decide_eq_true ha] at HA
      rw [decide_eq_false hb] at HB
      rw [e]
      clear e ha hb
      obtain ⟨x, y⟩ := a
      obtain ⟨x', y'⟩ := b
      simp only [vCe] at *
      have hO := empty_cells ((w.alloc (.cells #[.int .i64 x, .int .i64 y] 67)).alloc (.cells #[.int .i64 x', .int .i64 y'] 67)) 67 w.heap.size (by simp; omega)
      simp only [World.size_alloc] at hO
      go_enter Tryz.func34, Tryz.ntmps34
      go_wp2_with fail
      refine (HA _).mono ?_
      rintro e w1 ⟨rfl, hb1⟩
      clear HA
      obtain ⟨bc1, bf1⟩ := bcell hb1
      have hO1 := hO.kept (grown_of_below hb1) (.inr (by simp [Value.ownBlock]))
      have z1 := hb1.size
      simp at z1 bc1 bf1
      have y10 : w.heap.size < w1.heap.size := by omega
      have y11 : w.heap.size + 1 < w1.heap.size := by omega
      clear hO
      go_wp2_with fail
      refine (HB _).mono ?_
      rintro e w2 ⟨rfl, hb2⟩
      have hO2 := hO1.kept (grown_of_below hb2) (.inr (by simp [Value.ownBlock]))
      clear hO1
      go_wp2
      go_ret
      exact ⟨_, rfl, hO2, (((((Below.refl w.heap.size w).alloc (Nat.le_refl _) _).alloc (by simp) _).alloc (by simp; omega) _).trans (hb1.mono (by simp; omega))).trans (hb2.mono (by omega))⟩
  · have e : legOf a b = [] := by simp [legOf, ha]
    have HA := fun W => sInside a W
    rw [decide_eq_false ha] at HA
    rw [e]
    clear e ha
    obtain ⟨x, y⟩ := a
    obtain ⟨x', y'⟩ := b
    simp only [vCe] at *
    have hO := empty_cells ((w.alloc (.cells #[.int .i64 x, .int .i64 y] 67)).alloc (.cells #[.int .i64 x', .int .i64 y'] 67)) 67 w.heap.size (by simp; omega)
    simp only [World.size_alloc] at hO
    go_enter Tryz.func34, Tryz.ntmps34
    go_wp2_with fail
    refine (HA _).mono ?_
    rintro e w1 ⟨rfl, hb1⟩
    clear HA
    have hO1 := hO.kept (grown_of_below hb1) (.inr (by simp [Value.ownBlock]))
    clear hO
    go_wp2
    go_ret
    exact ⟨_, rfl, hO1, ((((Below.refl w.heap.size w).alloc (Nat.le_refl _) _).alloc (by simp) _).alloc (by simp; omega) _).trans (hb1.mono (by simp; omega))⟩

/-- A slice holds these cells. -/
def CellsAt (w : World) (ao : Option Addr) (l : List DCell) : Prop :=
  l = [] ∨ ∃ g, ao = some ⟨g, 0, none⟩ ∧ g < w.heap.size ∧ ∀ i (h : i < l.length), w.cell? ⟨g, i * 2, none⟩ = some (.int .i64 (l[i]'h).1) ∧ w.cell? ⟨g, i * 2 + 1, none⟩ = some (.int .i64 (l[i]'h).2)

theorem CellsAt.kept {w w' : World} {ao : Option Addr} {l : List DCell} (h : CellsAt w ao l) (hb : ∀ g, ao = some ⟨g, 0, none⟩ → g < w.heap.size → w'.heap[g]? = w.heap[g]?) (hs : w.heap.size ≤ w'.heap.size) : CellsAt w' ao l := by
  rcases h with h | ⟨g, h1, h2, h3⟩
  · exact .inl h
  · exact .inr ⟨g, h1, Nat.lt_of_lt_of_le h2 hs, fun i hi => ⟨(World.cell?_of_block (w := w) (hb g h1 h2)).trans (h3 i hi).1, (World.cell?_of_block (w := w) (hb g h1 h2)).trans (h3 i hi).2⟩⟩
theorem CellsAt.later {w w' : World} {ao : Option Addr} {l : List DCell} (h : CellsAt w ao l) (hb : Below w.heap.size w w') : CellsAt w' ao l := h.kept (fun g _ hg => hb.block g hg) hb.size

theorem CellsAt.at {w : World} {ao : Option Addr} {l : List DCell} {k : Nat} (h : CellsAt w ao l) (hk : k < l.length) : ∃ g, ao = some ⟨g, 0, none⟩ ∧ g < w.heap.size ∧ w.cell? ⟨g, k * 2, none⟩ = some (.int .i64 (l[k]'hk).1) ∧ w.cell? ⟨g, k * 2 + 1, none⟩ = some (.int .i64 (l[k]'hk).2) := by
  rcases h with h | ⟨g, h1, h2, h3⟩
  · rw [h] at hk; simp at hk
  · exact ⟨g, h1, h2, h3 k hk⟩

/-- What a slice that owns its cells is. -/
theorem cells_of_owned {w : World} {base : Nat} {v : Value} {l : List DCell} {e : TypeId} (h : w.ownsRow base e 2 v l.length (cellVals l)) :
    ∃ ao cap, v = .slice ao l.length cap ∧ CellsAt w ao l ∧ l.length ≤ maxLen ∧ (∀ g, ao = some ⟨g, 0, none⟩ → base ≤ g ∧ g < w.heap.size) ∧ (ao = none → l = []) := by
  rcases h.2 with ⟨rfl, h0⟩ | ⟨g, cap, cur, rfl, h1, h2, h3, h4, _⟩
  · exact ⟨none, 0, by rw [h0], .inl (List.eq_nil_of_length_eq_zero h0), by rw [h0]; exact Nat.zero_le _, fun g hg => (by cases hg), fun _ => List.eq_nil_of_length_eq_zero h0⟩
  · have hlt := (Array.getElem?_eq_some_iff.1 h2).1
    exact ⟨some ⟨g, 0, none⟩, cap, rfl, .inr ⟨g, rfl, hlt, fun i hi => owned_cell h i hi⟩, Nat.le_trans h3 h4, fun g' hg => (by cases hg; exact ⟨h1, hlt⟩), fun hg => (by cases hg)⟩

set_option maxHeartbeats 400000 in
theorem eqCell (c : DCell) (w : World) :
    Calls Tryz.prog 43 #[.agg #[.int .i64 c.1, .int .i64 c.2], .agg #[.int .i64 c.1, .int .i64 c.2]] w fun e w' => e = .returned (.bool true) ∧ Below w.heap.size w w' := by
  go_enter Tryz.func43, Tryz.ntmps43
  go_wp2
  go_ret
  exact ⟨rfl, by repeat (first | exact Below.refl _ _ | refine Below.alloc ?_ (by simp; try omega) _)⟩

set_option maxHeartbeats 1000000 in
theorem eqCells (ao bo : Option Addr) (ca cb : Nat) (l : List DCell) (w : World) (hl : l.length ≤ maxLen) (ha : CellsAt w ao l) (hb : CellsAt w bo l) :
    Calls Tryz.prog 11 #[.slice ao l.length ca, .slice bo l.length cb] w fun e w' => e = .returned (.bool true) ∧ Below w.heap.size w w' := by
  unfold maxLen at hl
  go_enter Tryz.func11, Tryz.ntmps11
  go_wp2
  go_loopw [5] (fun i wr => ∃ k : Nat, k ≤ l.length ∧ i = .int .i64 k ∧ Below w.heap.size w wr) (fun i _ => l.length - (intOf i).toNat)
  case atStart => exact ⟨0, Nat.zero_le _, rfl, Below.refl _ _⟩
  case round =>
    obtain ⟨k, hk, rfl, hbel⟩ := hrel
    by_cases hlt : k < l.length
    · obtain ⟨g, rfl, hok, c0, c1⟩ := ha.at hlt
      obtain ⟨g', rfl, hok', c0', c1'⟩ := hb.at hlt
      have d0 := (hbel.cell (p := ⟨g, k * 2, none⟩) hok).trans c0
      have d1 := (hbel.cell (p := ⟨g, k * 2 + 1, none⟩) hok).trans c1
      have d0' := (hbel.cell (p := ⟨g', k * 2, none⟩) hok').trans c0'
      have d1' := (hbel.cell (p := ⟨g', k * 2 + 1, none⟩) hok').trans c1'
      generalize l[k] = x at *
      have hsz := hbel.size
      clear c0 c1 c0' c1' ha hb
      go_wp2
      go_region_with (go_at_call 43; refine (eqCell _ _).mono ?_; rintro e w1 ⟨rfl, hb1⟩)
      all_goals
        go_wp2
        go_roundw
        case rel => exact ⟨k + 1, by omega, by go_num, hbel.trans (Below.trans (below_drewN (Below.refl _ _) 1) (hb1.mono hsz))⟩
        case measure => simp [intOf]; omega
    · go_wp2
      go_ret
      exact ⟨rfl, hbel⟩

/-- The marks. -/
def marksC (k n : Nat) : List DCell := (List.range n).map fun i => (((k + 2 * i : Nat) : Int), ((k + 2 * i + 1 : Nat) : Int))
theorem marksC_len (k n : Nat) : (marksC k n).length = n := by simp [marksC]
theorem marksC_succ (k n : Nat) : marksC k (n + 1) = marksC k n ++ [(((k + 2 * n : Nat) : Int), ((k + 2 * n + 1 : Nat) : Int))] := by simp [marksC, List.range_succ]
theorem cellVals_app (a b : List DCell) : cellVals (a ++ b) = cellVals a ++ cellVals b := by simp [cellVals]
theorem cellVals_cons (c : DCell) (l : List DCell) : cellVals (c :: l) = .int .i64 c.1 :: .int .i64 c.2 :: cellVals l := rfl

theorem mark_set (k j : Nat) (l : List DCell) (hj : j < l.length) : ((cellVals (marksC k j ++ l.drop j)).set (j * 2) (.int .i64 ((k + 2 * j : Nat) : Int))).set (j * 2 + 1) (.int .i64 ((k + 2 * j + 1 : Nat) : Int)) = cellVals (marksC k (j + 1) ++ l.drop (j + 1)) := by
  have e1 : l.drop j = l[j] :: l.drop (j + 1) := List.drop_eq_getElem_cons hj
  have hl : (cellVals (marksC k j)).length = j * 2 := by rw [cellVals_len, marksC_len]
  rw [e1, cellVals_app, marksC_succ, cellVals_app, cellVals_app, List.set_append_right _ _ (by omega), hl, Nat.sub_self, cellVals_cons, List.set_cons_zero, List.set_append_right _ _ (by omega), hl, show j * 2 + 1 - j * 2 = 1 by omega, List.set_cons_succ, List.set_cons_zero, cellVals_cons]
  simp [cellVals]

set_option maxHeartbeats 1000000 in
theorem markCells_none (ao : Option Addr) (ca : Nat) (k : Int) (w : World) :
    Calls Tryz.prog 16 #[.slice ao 0 ca, .int .i64 k] w fun e w' => e = .returned (.int .i64 k) ∧ w = w' := by
  go_enter Tryz.func16, Tryz.ntmps16
  go_wp2
  go_loop [1, 5] (fun a i => a = .int .i64 k ∧ i = .int .i64 0) (fun _ _ => 0)
  case atStart => exact ⟨rfl, rfl⟩
  case round =>
    obtain ⟨rfl, rfl⟩ := hrel
    go_wp2
    go_ret
    exact ⟨rfl, rfl⟩

set_option maxHeartbeats 1000000 in
theorem markCells (g cap B k : Nat) (l : List DCell) (w : World) (hn : l.length ≤ 1000000000000) (hk : k ≤ 1000) (hB : B ≤ w.heap.size)
    (hown : w.ownsRow B 67 2 (.slice (some ⟨g, 0, none⟩) l.length cap) l.length (cellVals l)) :
    Calls Tryz.prog 16 #[.slice (some ⟨g, 0, none⟩) l.length cap, .int .i64 k] w fun e w' => e = .returned (.int .i64 ((k + 2 * l.length : Nat) : Int)) ∧ Below B w w' ∧
      w'.ownsRow B 67 2 (.slice (some ⟨g, 0, none⟩) l.length cap) l.length (cellVals (marksC k l.length)) := by
  go_enter Tryz.func16, Tryz.ntmps16
  go_wp2
  go_loopw [1, 5] (fun a i wr => ∃ j : Nat, j ≤ l.length ∧ i = .int .i64 j ∧ a = .int .i64 ((k + 2 * j : Nat) : Int) ∧ Below B w wr ∧
     wr.ownsRow B 67 2 (.slice (some ⟨g, 0, none⟩) l.length cap) l.length (cellVals (marksC k j ++ l.drop j))) (fun _ i _ => l.length - (intOf i).toNat)
  case atStart => exact ⟨0, Nat.zero_le _, rfl, rfl, Below.refl _ _, by simpa [marksC] using hown⟩
  case round =>
    obtain ⟨j, hj, rfl, rfl, hbel, hO⟩ := hrel
    by_cases hlt : j < l.length
    · have hsz := hbel.size
      have hgB := (owned_block hO).1
      have hll : j < (marksC k j ++ l.drop j).length := by simp [marksC_len]; omega
      obtain ⟨d0, d1⟩ := owned_cell hO j hll
      have f0 := hO.frozenAt (j * 2)
      have f1 := hO.frozenAt (j * 2 + 1)
      have hst := ((hO.stored (j * 2) (.int .i64 ((k + 2 * j : Nat) : Int))).1.stored (j * 2 + 1) (.int .i64 ((k + 2 * j + 1 : Nat) : Int))).1
      rw [mark_set k j l hlt] at hst
      have hB2 : Below B w ((wr.setCell ⟨g, j * 2, none⟩ (.int .i64 ((k + 2 * j : Nat) : Int))).setCell ⟨g, j * 2 + 1, none⟩ (.int .i64 ((k + 2 * j + 1 : Nat) : Int))) := (hbel.setCell (p := ⟨g, j * 2, none⟩) hgB _).setCell (p := ⟨g, j * 2 + 1, none⟩) hgB _
      have e1 : ((k + 2 * j : Nat) : Int) = (k : Int) + 2 * (j : Int) := by omega
      have e2 : ((k + 2 * j + 1 : Nat) : Int) = (k : Int) + 2 * (j : Int) + 1 := by omega
      rw [e1, e2] at hst hB2
      have HST : Hid _ := hst
      have HB2 : Hid _ := hB2
      generalize (marksC k j ++ l.drop j)[j]'hll = c at d0 d1
      clear hO hbel hown hst hB2 hll e1 e2
      go_wp2
      go_roundw
      case rel => exact ⟨j + 1, by omega, by go_num, by go_num, HB2.out, HST.out⟩
      case measure => simp [intOf]; omega
    · have hj2 : j = l.length := by omega
      subst hj2
      have hO2 : wr.ownsRow B 67 2 (.slice (some ⟨g, 0, none⟩) l.length cap) l.length (cellVals (marksC k l.length)) := by simpa using hO
      have HO2 : Hid _ := hO2
      clear hO hO2
      go_wp2
      go_ret
      exact ⟨rfl, hbel, HO2.out⟩

set_option maxHeartbeats 1000000 in
theorem heldCells_none (ao : Option Addr) (ca : Nat) (k : Int) (w : World) :
    Calls Tryz.prog 17 #[.slice ao 0 ca, .int .i64 k] w fun e w' => e = .returned (.int .i64 k) ∧ w = w' := by
  go_enter Tryz.func17, Tryz.ntmps17
  go_wp2
  go_loop [1, 5] (fun a i => a = .int .i64 k ∧ i = .int .i64 0) (fun _ _ => 0)
  case atStart => exact ⟨rfl, rfl⟩
  case round =>
    obtain ⟨rfl, rfl⟩ := hrel
    go_wp2
    go_ret
    exact ⟨rfl, rfl⟩

set_option maxHeartbeats 1000000 in
theorem heldCells (g cap k n : Nat) (w : World) (hn : n ≤ 1000000000000) (hk : k ≤ 1000)
    (hc : ∀ i, i < n → w.cell? ⟨g, i * 2, none⟩ = some (.int .i64 ((k + 2 * i : Nat) : Int)) ∧ w.cell? ⟨g, i * 2 + 1, none⟩ = some (.int .i64 ((k + 2 * i + 1 : Nat) : Int))) :
    Calls Tryz.prog 17 #[.slice (some ⟨g, 0, none⟩) n cap, .int .i64 k] w fun e w' => e = .returned (.int .i64 ((k + 2 * n : Nat) : Int)) ∧ w = w' := by
  go_enter Tryz.func17, Tryz.ntmps17
  go_wp2
  go_loop [1, 5] (fun a i => ∃ j : Nat, j ≤ n ∧ i = .int .i64 j ∧ a = .int .i64 ((k + 2 * j : Nat) : Int)) (fun _ i => n - (intOf i).toNat)
  case atStart => exact ⟨0, Nat.zero_le _, rfl, rfl⟩
  case round =>
    obtain ⟨j, hj, rfl, rfl⟩ := hrel
    by_cases hlt : j < n
    · obtain ⟨d0, d1⟩ := hc j hlt
      clear hc
      go_wp2
      go_round
      case rel => exact ⟨j + 1, by omega, by go_num, by go_num⟩
      case measure => simp [intOf]; omega
    · have hj2 : j = n := by omega
      subst hj2
      clear hc
      go_wp2
      go_ret
      exact ⟨rfl, rfl⟩

end Leg
end Go.Proofs.YtnjkkohhgbgpgaaGreatDoor
