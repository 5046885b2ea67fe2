import Derived.Test.YthkpjljhjdjbfaaDoorVw1
import Derived.RegionTactic
import Derived.Test.YthkpjljhjdjbfaaDoorSkySA
import Derived.Test.YthkpjljhjdjbfaaDoorIV0
import Derived.Lib.LaidTab
import Derived.ChangeBears2
import Derived.Deep.RegionWith

/- DERIVED. A region that draws its order and lays blocks: what reads the same in every world of a class is taken first. -/
namespace Go.Proofs.YthkpjljhjdjbfaaDoor
open Go.RowKit
set_option linter.unusedSimpArgs false
set_option linter.unusedVariables false

section
variable {P : Program} {ops : Array Oper} {md : Region.Mode} {Q : Exit → Act → World → Prop} {C : World → Prop}

/-- Every order of the region goes well, and every world on the way is of the class. -/
def wpAnyC (P : Program) (md : Region.Mode) (ops : Array Oper) (C : World → Prop) (Q : Exit → Act → World → Prop) : Nat → Array Bool → Act → World → Prop
  | 0, listed, a, w => Region.ready md ops listed = [] ∧ Q .normal a w
  | n + 1, listed, a, w => (Region.ready md ops listed = [] → Q .normal a w) ∧ ∀ i ∈ Region.ready md ops listed, wpOp P ops Q i (fun a' w' => C w' ∧ wpAnyC P md ops C Q n (listed.setIfInBounds i true) a' w') a w

theorem wpAny_of_C : ∀ (n : Nat) (listed : Array Bool) (a : Act) (w : World), wpAnyC P md ops C Q n listed a w → wpAny P md ops Q n listed a w
  | 0, _, _, _, h => h
  | n + 1, listed, a, w, h => ⟨h.1, fun i hi => wpOp_mono (fun a' w' h' => wpAny_of_C n _ a' w' h'.2) (h.2 i hi)⟩

/-- An operation that yields v in every world of the class. -/
def YC (P : Program) (ops : Array Oper) (C : World → Prop) (o : Oper) (v : Value) (a : Act) : Prop :=
  (Region.wanted o (yielded ops a.tmps) = true ∧ ∀ w, C w → (execOp a.eval o).run P w = .ok (.value v) w) ∨ (Region.wanted o (yielded ops a.tmps) = false ∧ v = undef)

theorem YC.step {i : Nat} {o : Oper} {v : Value} {a : Act} (hi : ops[i]? = some o) (hy : YC P ops C o v a) {K : Act → World → Prop} {w : World} (hC : C w) (h : K (a.put o.dst v) w) : wpOp P ops Q i K a w := by
  unfold wpOp
  simp only [hi]
  rcases hy with ⟨h1, h2⟩ | ⟨h1, rfl⟩
  · simp only [h1, if_true, Oper.wp, h2 w hC, Oper.upon]
    exact .inl h
  · simp only [h1, Bool.false_eq_true, if_false]
    exact h

theorem YC.same {o : Oper} {v : Value} {a a' : Act} (hy : YC P ops C o v a) (he : execOp a'.eval o = execOp a.eval o) (hw : Region.wanted o (yielded ops a'.tmps) = Region.wanted o (yielded ops a.tmps)) : YC P ops C o v a' := by
  unfold YC at *
  rw [he, hw]
  exact hy

theorem wpOp_putC {j : Nat} {oi oj : Oper} {v : Value} (hj : ops[j]? = some oj) (hap : oi.apart ops oj = true) (hsi : ∀ cs b, oi.op ≠ .select cs b) (hsj : ∀ cs b, oj.op ≠ .select cs b)
    (hQ : ∀ c a w, Q (.panic c) (a.put oi.dst v) w → Q (.panic c) a w) {K : Act → World → Prop} {a : Act} {w : World} (hy : YC P ops C oi v a) (h : wpOp P ops Q j K (a.put oi.dst v) w) :
    wpOp P ops Q j (fun a' w' => YC P ops C oi v a' ∧ K (a'.put oi.dst v) w') a w := by
  obtain ⟨p1, p2, p3⟩ := Oper.apart_spec hap
  have kp : ∀ (a : Act), YC P ops C oi v a → ∀ u, YC P ops C oi v (a.put oj.dst u) := fun a hy u => hy.same (execOp_put oi hsi a oj.dst u p3) (wanted_put oi a oj.dst u p3)
  have kd : ∀ d, YC P ops C oi v { a with defers := d :: a.defers } := fun d => hy.same rfl rfl
  unfold wpOp at *
  simp only [hj] at *
  rw [wanted_put oj a oi.dst v p1] at h
  split
  · rename_i hw
    simp only [hw, if_true] at h
    rcases h with h | ⟨h4, h5⟩
    case inr => exact .inr ⟨by unfold Oper.asks at *; rw [execOp_put oj hsj a oi.dst v p1] at h4; exact h4, h5⟩
    refine .inl ?_
    unfold Oper.wp at *
    rw [execOp_put oj hsj a oi.dst v p1] at h
    generalize (execOp a.eval oj).run P w = r at *
    cases r with
    | ok n w' =>
      cases n <;> simp only [Oper.upon] at h ⊢
      case value u => exact ⟨kp a hy u, by rw [← Act.put_comm a v u p2]; exact h⟩
      case skip => exact ⟨kp a hy _, by rw [← Act.put_comm a v undef p2]; exact h⟩
      case defer d =>
        refine ⟨kp _ (kd d) _, ?_⟩
        rw [← Act.put_comm _ v undef p2, ← Act.put_defers]
        exact h
      case enter f args =>
        refine Calls.mono h fun e w'' he => ?_
        cases e with
        | returned u => exact ⟨kp a hy u, by rw [← Act.put_comm a v u p2]; exact he⟩
        | panicked c => exact hQ _ _ _ he
        | outgrown => exact he
      case row row args => exact Rows.mono h fun u w'' he => ⟨kp a hy u, by rw [← Act.put_comm a v u p2]; exact he⟩
    | halt x w' =>
      cases x <;> simp only [Oper.upon] at h ⊢
      case panic u => exact hQ _ _ _ h
  · rename_i hw
    simp only [hw] at h
    exact ⟨kp a hy _, by rw [← Act.put_comm a v undef p2]; exact h⟩

theorem wpAnyC_first {i : Nat} {oi : Oper} {v : Value} (hi : ops[i]? = some oi) (hsel : ∀ (j : Nat) (o : Oper) cs b, ops[j]? = some o → o.op ≠ .select cs b)
    (hQ : ∀ c a w, Q (.panic c) (a.put oi.dst v) w → Q (.panic c) a w) :
    ∀ (n : Nat) (listed : Array Bool) (a : Act) (w : World),
      (∀ j oj, ops[j]? = some oj → j ≠ i → listed.getD j true = false → (∀ e ∈ oj.after, Region.binds md e = true → e.on ≠ i) → oi.apart ops oj = true) →
      i ∈ Region.ready md ops listed → YC P ops C oi v a → C w →
      wpAnyC P md ops C Q n (listed.setIfInBounds i true) (a.put oi.dst v) w → wpAnyC P md ops C Q (n + 1) listed a w := by
  intro n
  induction n with
  | zero =>
    intro listed a w _ hr hy hC H
    refine ⟨fun h => (by rw [h] at hr; cases hr), fun j hj => ?_⟩
    by_cases hji : j = i
    · subst hji; exact hy.step hi hC ⟨hC, H⟩
    · have := ready_mono hj hji
      rw [H.1] at this
      cases this
  | succ n ih =>
    intro listed a w hfree hr hy hC H
    refine ⟨fun h => (by rw [h] at hr; cases hr), fun j hj => ?_⟩
    by_cases hji : j = i
    · subst hji; exact hy.step hi hC ⟨hC, H⟩
    · have h1 := H.2 j (ready_mono hj hji)
      obtain ⟨hjun, oj, hoj, hall⟩ := mem_ready.1 hj
      have hnot : ∀ e ∈ oj.after, Region.binds md e = true → e.on ≠ i := fun e he hb heq => by
        have h1 := hall e he hb
        have h0 := (mem_ready.1 hr).1
        rw [heq] at h1
        rcases Nat.lt_or_ge i listed.size with h' | h'
        · simp [h'] at h0 h1; rw [h0] at h1; cases h1
        · simp [Array.getElem?_eq_none h'] at h1
      have h2 := wpOp_putC hoj (hfree j oj hoj hji hjun hnot) (fun cs b => hsel i oi cs b hi) (fun cs b => hsel j oj cs b hoj) hQ hy h1
      have hfree' : ∀ k ok, ops[k]? = some ok → k ≠ i → (listed.setIfInBounds j true).getD k true = false → (∀ e ∈ ok.after, Region.binds md e = true → e.on ≠ i) → oi.apart ops ok = true := fun k ok hk hki hun hno => by
        refine hfree k ok hk hki ?_ hno
        by_cases hjk : j = k
        · subst hjk; exact hjun
        · rw [getD_set_ne true hjk] at hun; exact hun
      refine wpOp_mono (fun a' w' h3 => ⟨h3.2.1, ih (listed.setIfInBounds j true) a' w' hfree' (ready_mono hr (Ne.symm hji)) h3.1 h3.2.1 ?_⟩) h2
      rw [Array.setIfInBounds_comm _ _ hji]
      exact h3.2.2

/-- A region's state, behind a structure (so that nothing runs down it). -/
structure RC (P : Program) (md : Region.Mode) (ops : Array Oper) (C : World → Prop) (Q : Exit → Act → World → Prop) (n : Nat) (listed : Array Bool) (a : Act) (w : World) : Prop where
  out : wpAnyC P md ops C Q n listed a w

theorem RC.take {i : Nat} {oi : Oper} {v : Value} {n : Nat} {listed : Array Bool} {a : Act} {w : World} (hi : ops[i]? = some oi) (hs : Region.noSelect ops = true) (hf : Region.free md ops listed i = true) (hr : (Region.ready md ops listed).contains i = true)
    (hQ : ∀ c a w, Q (.panic c) (a.put oi.dst v) w → Q (.panic c) a w) (hC : C w) (hw : Region.wanted oi (yielded ops a.tmps) = true) (hy : ∀ w, C w → (execOp a.eval oi).run P w = .ok (.value v) w)
    (h : RC P md ops C Q n (listed.setIfInBounds i true) (a.put oi.dst v) w) : RC P md ops C Q (n + 1) listed a w :=
  ⟨wpAnyC_first hi (Region.noSelect_spec hs) hQ n listed a w (Region.free_spec hi hf) (by simpa using hr) (.inl ⟨hw, hy⟩) hC h.out⟩

theorem RC.one {i : Nat} {o : Oper} {n : Nat} {listed : Array Bool} {a : Act} {w : World} (hr : Region.ready md ops listed = [i]) (ho : ops[i]? = some o)
    (h : ∀ K' : Act → World → Prop, (∀ a w, C w → RC P md ops C Q n (listed.setIfInBounds i true) a w → K' a w) → if Region.wanted o (yielded ops a.tmps) = true then Oper.wp P o a w K' Q else K' (a.put o.dst undef) w) : RC P md ops C Q (n + 1) listed a w := by
  refine ⟨⟨fun h0 => absurd (hr.symm.trans h0) (by simp), fun j hj => ?_⟩⟩
  rw [hr] at hj
  obtain rfl : j = i := by simpa using hj
  exact wpOp_step ho fun K' hK => h K' fun a w h1 h2 => hK a w ⟨h1, h2.out⟩

theorem RC.two {i k : Nat} {o p : Oper} {n : Nat} {listed : Array Bool} {a : Act} {w : World} (hr : Region.ready md ops listed = [i, k]) (ho : ops[i]? = some o) (hp : ops[k]? = some p)
    (h : ∀ K' : Act → World → Prop, (∀ a w, C w → RC P md ops C Q n (listed.setIfInBounds i true) a w → K' a w) → if Region.wanted o (yielded ops a.tmps) = true then Oper.wp P o a w K' Q else K' (a.put o.dst undef) w)
    (h' : ∀ K' : Act → World → Prop, (∀ a w, C w → RC P md ops C Q n (listed.setIfInBounds k true) a w → K' a w) → if Region.wanted p (yielded ops a.tmps) = true then Oper.wp P p a w K' Q else K' (a.put p.dst undef) w) : RC P md ops C Q (n + 1) listed a w := by
  refine ⟨⟨fun h0 => absurd (hr.symm.trans h0) (by simp), fun j hj => ?_⟩⟩
  rw [hr] at hj
  have hj' : j = i ∨ j = k := by simpa using hj
  rcases hj' with rfl | rfl
  · exact wpOp_step ho fun K' hK => h K' fun a w h1 h2 => hK a w ⟨h1, h2.out⟩
  · exact wpOp_step hp fun K' hK => h' K' fun a w h1 h2 => hK a w ⟨h1, h2.out⟩

theorem RC.want {i : Nat} {o : Oper} {n : Nat} {listed : Array Bool} {a : Act} {w : World} (hr : Region.ready md ops listed = [i]) (ho : ops[i]? = some o) (hw : Region.wanted o (yielded ops a.tmps) = true)
    (h : ∀ K' : Act → World → Prop, (∀ a w, C w → RC P md ops C Q n (listed.setIfInBounds i true) a w → K' a w) → Oper.wp P o a w K' Q) : RC P md ops C Q (n + 1) listed a w :=
  RC.one hr ho fun K' hK => by rw [if_pos hw]; exact h K' hK

theorem RC.done {listed : Array Bool} {a : Act} {w : World} (hr : Region.ready md ops listed = []) (h : Q .normal a w) : RC P md ops C Q 0 listed a w := ⟨⟨hr, h⟩⟩

theorem wp_region_RC (C : World → Prop) {id : Nat} {a : Act} {w : World} (hm : P.follows .mixedOrders = true) (h : RC P .any ops C Q ops.size (Array.replicate ops.size false) a w.drew) : (Code.region id ops true).wp P Q a w :=
  wp_region_any hm (wpAny_of_C _ _ _ _ h.out)

end
end Go.Proofs.YthkpjljhjdjbfaaDoor

/- DERIVED. A place within a block (impl.skyInBlock, spec.l5In); the sector of a place on plain data. -/
namespace Go.Proofs.YthkpjljhjdjbfaaDoor
open Go.RowKit
set_option linter.unusedSimpArgs false
set_option linter.unusedVariables false

/-- A place: X, Y, level. -/
abbrev DPlace := Int × Int × Int
def vPl (p : DPlace) : Value := .agg #[.int .i64 p.1, .int .i64 p.2.1, .int .i64 p.2.2]
def vBlk (b : DSkyBlock) : Value := .agg #[.int .i64 b.1, .int .i64 b.2.1, .int .i64 b.2.2.1, .int .i64 b.2.2.2.1, .int .i64 b.2.2.2.2.1, .int .i64 b.2.2.2.2.2]
instance (n lo hi : Int) : Decidable (InR n lo hi) := by unfold InR; infer_instance
def inB (b : DSkyBlock) (p : DPlace) : Bool := decide (InR p.1 b.1 b.2.2.1) && (decide (InR p.2.1 b.2.1 b.2.2.2.1) && decide (InR p.2.2 b.2.2.2.2.1 b.2.2.2.2.2))

theorem ifrom_b (n lo hi : Int) (w : World) (v : Bool) (h : decide (InR n lo hi) = v) :
    Calls Tryd.prog 65 #[.int .i64 n, .int .i64 lo, .int .i64 hi] w fun e w' => e = .returned (.bool v) ∧ w = w' := by
  subst h
  by_cases h : InR n lo hi
  · rw [decide_eq_true h]; exact from_yes n lo hi w h
  · rw [decide_eq_false h]; exact from_no n lo hi w h
theorem sin_b (n lo hi : Int) (w : World) (v : Bool) (h : decide (InR n lo hi) = v) :
    Calls Tryd.prog 30 #[.int .i64 n, .int .i64 lo, .int .i64 hi] w fun e w' => e = .returned (.bool v) ∧ w = w' := by
  subst h
  by_cases h : InR n lo hi
  · rw [decide_eq_true h]; exact (in_yes n lo hi w h).mono fun e w' ⟨a, b⟩ => ⟨a, b.symm⟩
  · rw [decide_eq_false h]; exact (in_no n lo hi w h).mono fun e w' ⟨a, b⟩ => ⟨a, b.symm⟩

set_option maxHeartbeats 1000000 in
theorem iInB (b : DSkyBlock) (p : DPlace) (w : World) :
    Calls Tryd.prog 48 #[vBlk b, vPl p] w fun e w' => e = .returned (.bool (inB b p)) ∧ Below w.heap.size w w' := by
  obtain ⟨x0, y0, x1, y1, lo, hi⟩ := b
  obtain ⟨x, y, l⟩ := p
  simp only [vBlk, vPl, inB]
  have HB : Below w.heap.size w ((w.alloc (.cells #[.int .i64 x0, .int .i64 y0, .int .i64 x1, .int .i64 y1, .int .i64 lo, .int .i64 hi] 77)).alloc (.cells #[.int .i64 x, .int .i64 y, .int .i64 l] 40)) := ((Below.refl _ _).alloc (Nat.le_refl _) _).alloc (by simp) _
  have H1 := fun w => ifrom_b x x0 x1 w _ rfl
  have H2 := fun w => ifrom_b y y0 y1 w _ rfl
  have H3 := fun w => ifrom_b l lo hi w _ rfl
  generalize decide (InR x x0 x1) = v1 at *
  generalize decide (InR y y0 y1) = v2 at *
  generalize decide (InR l lo hi) = v3 at *
  cases v1
  · go_enter Tryd.func48, Tryd.ntmps48
    go_wp2_with fail
    refine (H1 _).mono ?_
    rintro e w' ⟨rfl, rfl⟩
    go_wp2
    go_ret
    exact ⟨rfl, HB⟩
  · cases v2
    · go_enter Tryd.func48, Tryd.ntmps48
      go_wp2_with fail
      refine (H1 _).mono ?_
      rintro e w' ⟨rfl, rfl⟩
      clear H1
      go_wp2_with fail
      refine (H2 _).mono ?_
      rintro e w' ⟨rfl, rfl⟩
      go_wp2
      go_ret
      exact ⟨rfl, HB⟩
    · go_enter Tryd.func48, Tryd.ntmps48
      go_wp2_with fail
      refine (H1 _).mono ?_
      rintro e w' ⟨rfl, rfl⟩
      clear H1
      go_wp2_with fail
      refine (H2 _).mono ?_
      rintro e w' ⟨rfl, rfl⟩
      clear H2
      go_wp2_with fail
      refine (H3 _).mono ?_
      rintro e w' ⟨rfl, rfl⟩
      go_wp2
      go_ret
      exact ⟨rfl, HB⟩

set_option maxHeartbeats 1000000 in
theorem sInB (b : DSkyBlock) (p : DPlace) (w : World) :
    Calls Tryd.prog 36 #[vBlk b, vPl p] w fun e w' => e = .returned (.bool (inB b p)) ∧ Below w.heap.size w w' := by
  obtain ⟨x0, y0, x1, y1, lo, hi⟩ := b
  obtain ⟨x, y, l⟩ := p
  simp only [vBlk, vPl, inB]
  have HB : Below w.heap.size w ((w.alloc (.cells #[.int .i64 x0, .int .i64 y0, .int .i64 x1, .int .i64 y1, .int .i64 lo, .int .i64 hi] 77)).alloc (.cells #[.int .i64 x, .int .i64 y, .int .i64 l] 40)) := ((Below.refl _ _).alloc (Nat.le_refl _) _).alloc (by simp) _
  have H1 := fun w => sin_b x x0 x1 w _ rfl
  have H2 := fun w => sin_b y y0 y1 w _ rfl
  have H3 := fun w => sin_b l lo hi w _ rfl
  generalize decide (InR x x0 x1) = v1 at *
  generalize decide (InR y y0 y1) = v2 at *
  generalize decide (InR l lo hi) = v3 at *
  cases v1
  · go_enter Tryd.func36, Tryd.ntmps36
    go_wp2_with fail
    refine (H1 _).mono ?_
    rintro e w' ⟨rfl, rfl⟩
    go_wp2
    go_ret
    exact ⟨rfl, HB⟩
  · cases v2
    · go_enter Tryd.func36, Tryd.ntmps36
      go_wp2_with fail
      refine (H1 _).mono ?_
      rintro e w' ⟨rfl, rfl⟩
      clear H1
      go_wp2_with fail
      refine (H2 _).mono ?_
      rintro e w' ⟨rfl, rfl⟩
      go_wp2
      go_ret
      exact ⟨rfl, HB⟩
    · go_enter Tryd.func36, Tryd.ntmps36
      go_wp2_with fail
      refine (H1 _).mono ?_
      rintro e w' ⟨rfl, rfl⟩
      clear H1
      go_wp2_with fail
      refine (H2 _).mono ?_
      rintro e w' ⟨rfl, rfl⟩
      clear H2
      go_wp2_with fail
      refine (H3 _).mono ?_
      rintro e w' ⟨rfl, rfl⟩
      go_wp2
      go_ret
      exact ⟨rfl, HB⟩

/-- The first sector in which a place lies. -/
def whereOf (ss : List DSkySector) (p : DPlace) : Option ByteArray := (ss.find? fun s => s.2.any fun b => inB b p).map fun s => s.1
def whereV : Option ByteArray → Value
  | none => .tuple #[.string ⟨#[]⟩, .bool false]
  | some n => .tuple #[.string n, .bool true]
/-- The first k sectors have no such place. -/
def NoSec (ss : List DSkySector) (p : DPlace) (k : Nat) : Prop := ∀ j (h : j < ss.length), j < k → ((ss[j]'h).2.any fun b => inB b p) = false
def NoBlk (bs : List DSkyBlock) (p : DPlace) (k : Nat) : Prop := ∀ j (h : j < bs.length), j < k → inB (bs[j]'h) p = false
theorem noBlk_all {bs : List DSkyBlock} {p : DPlace} (h : NoBlk bs p bs.length) : (bs.any fun b => inB b p) = false := by
  rw [List.any_eq_false]
  intro b hb
  obtain ⟨i, hi, rfl⟩ := List.getElem_of_mem hb
  rw [h i hi hi]
  simp
theorem where_none {ss : List DSkySector} {p : DPlace} (h : NoSec ss p ss.length) : whereOf ss p = none := by
  unfold whereOf
  rw [List.find?_eq_none.2 ?_]
  · rfl
  · intro s hs
    obtain ⟨i, hi, rfl⟩ := List.getElem_of_mem hs
    rw [h i hi hi]
    simp
theorem where_some {ss : List DSkySector} {p : DPlace} {k m : Nat} (hk : k < ss.length) (h : NoSec ss p k) (hm : m < (ss[k]'hk).2.length) (hb : inB ((ss[k]'hk).2[m]'hm) p = true) : whereOf ss p = some (ss[k]'hk).1 := by
  unfold whereOf
  rw [(List.find?_eq_some_iff_getElem (b := ss[k]'hk)).2 ?_]
  · rfl
  · refine ⟨List.any_eq_true.2 ⟨_, List.getElem_mem hm, hb⟩, k, hk, rfl, fun j hj => ?_⟩
    rw [h j (by omega) hj]
    rfl

end Go.Proofs.YthkpjljhjdjbfaaDoor

/- DERIVED. impl.skySectorOf: its walk. -/
namespace Go.Proofs.YthkpjljhjdjbfaaDoor
open Go.RowKit
set_option linter.unusedSimpArgs false
set_option linter.unusedVariables false

/-- The box of a place. -/
def PlC (b : Nat) (p : DPlace) (W : World) : Prop := W.cell? ⟨b, 0, none⟩ = some (.int .i64 p.1) ∧ W.cell? ⟨b, 1, none⟩ = some (.int .i64 p.2.1) ∧ W.cell? ⟨b, 2, none⟩ = some (.int .i64 p.2.2)
theorem PlC.below {b m : Nat} {p : DPlace} {w w' : World} (h : PlC b p w) (hb : Below m w w') (hn : b < m) : PlC b p w' := by
  obtain ⟨h0, h1, h2⟩ := h
  exact ⟨(hb.cell (p := ⟨b, 0, none⟩) hn).trans h0, (hb.cell (p := ⟨b, 1, none⟩) hn).trans h1, (hb.cell (p := ⟨b, 2, none⟩) hn).trans h2⟩

set_option maxHeartbeats 1000000 in
theorem whereFn (nm : ByteArray) (b : DSkyBlock) (p : DPlace) (bp : Nat) (w : World) (hp : PlC bp p w) (hbp : bp < w.heap.size) :
    Calls Tryd.prog 47 #[.string nm, vBlk b, .pointer (some ⟨bp, 0, none⟩)] w fun e w' => e = .returned (.tuple #[.string nm, .bool (inB b p)]) ∧ Below w.heap.size w w' := by
  have HI := fun W => iInB b p W
  generalize inB b p = v at *
  obtain ⟨x0, y0, x1, y1, lo, hi⟩ := b
  obtain ⟨x, y, l⟩ := p
  have hp1 := hp.below ((Below.refl w.heap.size w).alloc (Nat.le_refl _) (.cells #[.int .i64 x0, .int .i64 y0, .int .i64 x1, .int .i64 y1, .int .i64 lo, .int .i64 hi] 77)) hbp
  obtain ⟨c0, c1, c2⟩ := hp1
  simp only [vBlk, vPl] at *
  go_enter Tryd.func47, Tryd.ntmps47
  go_wp2_with fail
  refine (HI _).mono ?_
  rintro e w1 ⟨rfl, hb1⟩
  go_wp2
  exact bodyPost_ret (v := .tuple #[.string nm, .bool v]) (by simp [results, Tryd.results47, go_sem]) rfl ⟨rfl, ((Below.refl w.heap.size w).alloc (Nat.le_refl _) _).trans (hb1.mono (by simp))⟩

set_option maxRecDepth 100000 in
set_option maxHeartbeats 2000000 in
theorem firstWhere (ao : Option Addr) (cap : Nat) (ss : List DSkySector) (p : DPlace) (bp : Nat) (w : World) (h : SliceAt vSkySector (old w) w ao cap ss) (hp : PlC bp p w) (hbp : bp < w.heap.size) :
    Calls Tryd.prog 46 #[.slice ao ss.length cap, .func (.func 47) #[] #[.pointer (some ⟨bp, 0, none⟩)]] w fun e w' => e = .returned (whereV (whereOf ss p)) ∧ Below w.heap.size w w' := by
  have hlen : ss.length ≤ maxLen := Nat.le_trans h.1 h.2.1
  unfold maxLen at hlen
  go_enter Tryd.func46, Tryd.ntmps46
  go_wp2
  go_loopw [15] (fun i wr => ∃ k : Nat, k ≤ ss.length ∧ i = .int .i64 k ∧ Hid (NoSec ss p k) ∧ Below w.heap.size w wr) (fun i _ => ss.length - (intOf i).toNat)
  case atStart => exact ⟨0, Nat.zero_le _, rfl, fun j _ hj => by omega, Below.refl _ _⟩
  case round =>
    obtain ⟨k, hk, rfl, hno, hB⟩ := hrel
    have hwz := hB.size
    by_cases hlt : k < ss.length
    · obtain ⟨b1, off, ao1, cap1, rfl, hok, c0, c1, q0, p1⟩ := elem_SkySector h hlt
      have f0 := (hB.cell (p := ⟨b1, off + k * 2, none⟩) hok).trans c0
      have f1 := (hB.cell (p := ⟨b1, off + k * 2 + 1, none⟩) hok).trans c1
      have hkI : (k : Int) < (ss.length : Int) := by omega
      have HSOME : Hid (∀ m (hm : m < (ss[k]'hlt).2.length), inB ((ss[k]'hlt).2[m]'hm) p = true → whereOf ss p = some (ss[k]'hlt).1) := fun m hm hb => where_some hlt hno.out hm hb
      have HNEXT : Hid (NoBlk (ss[k]'hlt).2 p (ss[k]'hlt).2.length → NoSec ss p (k + 1)) := fun h1 j hj h2 => by
        by_cases e : j = k
        · subst e; exact noBlk_all h1
        · exact hno.out j hj (by omega)
      have hlen1 : (ss[k]'hlt).2.length ≤ 9223372036854775807 := Nat.le_trans p1.1 p1.2.1
      generalize ss[k]'hlt = sk at *
      obtain ⟨nm, bs⟩ := sk
      simp only at f0 f1 p1 HSOME HNEXT q0 hlen1
      clear c0 c1 hno
      obtain ⟨wo, hwo⟩ : ∃ x, x = wr := ⟨_, rfl⟩
      subst hwo
      go_wp2
      go_loopw [22] (fun i wr => ∃ m : Nat, m ≤ bs.length ∧ i = .int .i64 m ∧ Hid (NoBlk bs p m) ∧ Below w.heap.size w wr ∧ wr.cell? ⟨wo.heap.size, 0, none⟩ = some (.string nm) ∧ wo.heap.size < wr.heap.size) (fun i _ => bs.length - (intOf i).toNat)
      case atStart => exact ⟨0, Nat.zero_le _, rfl, fun j _ hj => by omega, hB.alloc (by omega) _, by go_simp, by simp⟩
      case round =>
        obtain ⟨m, hm, rfl, hnb, hB2, hnm, hxs⟩ := hrel
        have hwz2 := hB2.size
        by_cases hltm : m < bs.length
        · obtain ⟨b2, off2, rfl, hok2, d0, d1, d2, d3, d4, d5, _, _, _, _, _, _⟩ := elem_SkyBlock p1 hltm
          have g0 := (hB2.cell (p := ⟨b2, off2 + m * 6, none⟩) hok2).trans d0
          have g1 := (hB2.cell (p := ⟨b2, off2 + m * 6 + 1, none⟩) hok2).trans d1
          have g2 := (hB2.cell (p := ⟨b2, off2 + m * 6 + 2, none⟩) hok2).trans d2
          have g3 := (hB2.cell (p := ⟨b2, off2 + m * 6 + 3, none⟩) hok2).trans d3
          have g4 := (hB2.cell (p := ⟨b2, off2 + m * 6 + 4, none⟩) hok2).trans d4
          have g5 := (hB2.cell (p := ⟨b2, off2 + m * 6 + 5, none⟩) hok2).trans d5
          have hmI : (m : Int) < (bs.length : Int) := by omega
          have HH : Hid (inB (bs[m]'hltm) p = true → whereOf ss p = some nm) := HSOME.out m hltm
          have HN : Hid (inB (bs[m]'hltm) p = false → NoBlk bs p (m + 1)) := fun hf j hj h2 => by
            by_cases e : j = m
            · subst e; exact hf
            · exact hnb.out j hj (by omega)
          generalize bs[m]'hltm = bk at *
          obtain ⟨x0, y0, x1, y1, lo, hi⟩ := bk
          simp only at g0 g1 g2 g3 g4 g5
          have hbx : Below w.heap.size w (wr.alloc (.cells #[.int .i64 x0, .int .i64 y0, .int .i64 x1, .int .i64 y1, .int .i64 lo, .int .i64 hi] 77)) := hB2.alloc (by omega) _
          have HF := whereFn nm (x0, y0, x1, y1, lo, hi) p bp _ (hp.below hbx hbp) (by have := hbx.size; omega)
          generalize inB (x0, y0, x1, y1, lo, hi) p = v at *
          simp only [vBlk] at HF
          clear d0 d1 d2 d3 d4 d5 hnb
          go_wp2_with fail
          refine HF.mono ?_
          rintro e w3 ⟨rfl, hb3⟩
          have hB3 := hbx.trans (hb3.mono (by simp; omega))
          have hnm3 : w3.cell? ⟨wo.heap.size, 0, none⟩ = some (.string nm) := (hb3.cell (p := ⟨wo.heap.size, 0, none⟩) (by simp; omega)).trans (by go_simp)
          have hs3 : wo.heap.size < w3.heap.size := by have := hb3.size; simp at this; omega
          clear HF hb3 hbx g0 g1 g2 g3 g4 g5
          cases v
          · have HN2 : Hid (NoBlk bs p (m + 1)) := HN.out rfl
            clear HN HH
            go_wp2
            go_roundw
            case rel => exact ⟨m + 1, by omega, by go_num, HN2, hB3, hnm3, hs3⟩
            case measure => simp [intOf]; omega
          · have HH2 : Hid (whereOf ss p = some nm) := HH.out rfl
            clear HN HH
            go_wp2
            exact bodyPost_ret (v := .tuple #[.string nm, .bool true]) (by simp [results, Tryd.results46, go_sem]) rfl ⟨by rw [HH2.out]; rfl, hB3⟩
        · have hme : m = bs.length := by omega
          subst hme
          have HN2 : Hid (NoSec ss p (k + 1)) := HNEXT.out hnb.out
          clear hnb HNEXT HSOME
          go_wp2
          go_roundw
          case rel => exact ⟨k + 1, by omega, by go_num, HN2, hB2⟩
          case measure => simp [intOf]; omega
    · have hke : k = ss.length := by omega
      subst hke
      have HE : Hid (whereOf ss p = none) := where_none hno.out
      clear hno
      go_wp2
      exact bodyPost_ret (v := .tuple #[.string ⟨#[]⟩, .bool false]) (by simp [results, Tryd.results46, go_sem]) rfl ⟨by rw [HE.out]; rfl, hB⟩

noncomputable def validB (x : DSky) : Bool := @decide (ValidSky x) (Classical.propDecidable _)
theorem validB_iff {x : DSky} : validB x = true ↔ ValidSky x := by unfold validB; simp
theorem validB_of {x : DSky} {e : Ending} (h : (ValidSky x ∧ e = .returned (.bool true)) ∨ (¬ ValidSky x ∧ e = .returned (.bool false))) : e = .returned (.bool (validB x)) := by
  rcases h with ⟨h1, h2⟩ | ⟨h1, h2⟩
  · rw [h2, validB_iff.2 h1]
  · have : validB x = false := by
      cases hb : validB x
      · rfl
      · exact absurd (validB_iff.1 hb) h1
    rw [h2, this]

set_option maxRecDepth 100000 in
set_option maxHeartbeats 2000000 in
theorem iSectorOf (W H L : Int) (ss : List DSkySector) (v3 v4 v6 : Value) (ao5 : Option Addr) (cap5 : Nat) (p : DPlace) (w : World) (h : SliceAt vSkySector (old w) w ao5 cap5 ss) :
    Calls Tryd.prog 21 #[.agg #[.int .i64 W, .int .i64 H, .int .i64 L, v3, v4, .slice ao5 ss.length cap5, v6], vPl p] w fun e w' => e = .returned (whereV (whereOf ss p)) ∧ Below w.heap.size w w' := by
  obtain ⟨px, py, pl⟩ := p
  obtain ⟨w0, hw0⟩ : ∃ w0, w0 = (w.alloc (.cells #[.int .i64 W, .int .i64 H, .int .i64 L, v3, v4, .slice ao5 ss.length cap5, v6] 38)).alloc (.cells #[.int .i64 px, .int .i64 py, .int .i64 pl] 40) := ⟨_, rfl⟩
  have hb0 : Below w.heap.size w w0 := by rw [hw0]; exact ((Below.refl _ _).alloc (Nat.le_refl _) _).alloc (by simp) _
  have hp0 : PlC (w.heap.size + 1) (px, py, pl) w0 := by rw [hw0]; exact ⟨by go_simp, by go_simp, by go_simp⟩
  have hsz : w0.heap.size = w.heap.size + 2 := by rw [hw0]; simp
  have HF := firstWhere ao5 cap5 ss (px, py, pl) (w.heap.size + 1) w0 (h.later hb0) hp0 (by omega)
  rw [hw0] at HF
  generalize whereOf ss (px, py, pl) = r at *
  simp only [vPl]
  go_enter Tryd.func21, Tryd.ntmps21
  go_wp2_with fail
  refine HF.mono ?_
  rw [← hw0]
  rintro e w2 ⟨rfl, hb2⟩
  have hB2 := hb0.trans (hb2.mono (by omega))
  clear HF hb2 hw0
  cases r with
  | none =>
    simp only [whereV]
    go_wp2
    exact bodyPost_ret (v := .tuple #[.string ⟨#[]⟩, .bool false]) (by simp [results, Tryd.results21, go_sem]) rfl ⟨rfl, hB2⟩
  | some n =>
    simp only [whereV]
    go_wp2
    exact bodyPost_ret (v := .tuple #[.string n, .bool true]) (by simp [results, Tryd.results21, go_sem]) rfl ⟨rfl, hB2⟩

end Go.Proofs.YthkpjljhjdjbfaaDoor

/- DERIVED. impl.SkyWhere (by impl.skySectorOf): its walk. -/
namespace Go.Proofs.YthkpjljhjdjbfaaDoor
open Go.RowKit
set_option linter.unusedSimpArgs false
set_option linter.unusedVariables false

noncomputable def whereSky (x : DSky) (p : DPlace) : Option ByteArray := if validB x then whereOf x.2.2.2.2.2.1 p else none

set_option maxRecDepth 100000 in
set_option maxHeartbeats 2000000 in
theorem iWhere (x : DSky) (ao3 : Option Addr) (cap3 : Nat) (ao4 : Option Addr) (cap4 : Nat) (ao5 : Option Addr) (cap5 : Nat) (ao6 : Option Addr) (cap6 : Nat) (p : DPlace) (w : World) (h : SkyAt w x ao3 cap3 ao4 cap4 ao5 cap5 ao6 cap6) (hT : TurnsLaid w) :
    Calls Tryd.prog 8 #[.agg #[.int .i64 x.1, .int .i64 x.2.1, .int .i64 x.2.2.1, .slice ao3 x.2.2.2.1.length cap3, .slice ao4 x.2.2.2.2.1.length cap4, .slice ao5 x.2.2.2.2.2.1.length cap5, .slice ao6 x.2.2.2.2.2.2.length cap6], vPl p] w fun e w' => e = .returned (whereV (whereSky x p)) ∧ Below w.heap.size w w' := by
  obtain ⟨W, H, L, ps, aw, ss, rs⟩ := x
  obtain ⟨px, py, pl⟩ := p
  obtain ⟨w0, hw0⟩ : ∃ w0, w0 = (w.alloc (.cells #[.int .i64 W, .int .i64 H, .int .i64 L, .slice ao3 ps.length cap3, .slice ao4 aw.length cap4, .slice ao5 ss.length cap5, .slice ao6 rs.length cap6] 38)).alloc (.cells #[.int .i64 px, .int .i64 py, .int .i64 pl] 40) := ⟨_, rfl⟩
  have hb0 : Below w.heap.size w w0 := by rw [hw0]; exact ((Below.refl _ _).alloc (Nat.le_refl _) _).alloc (by simp) _
  have HV := iSkyValid (W, H, L, ps, aw, ss, rs) ao3 cap3 ao4 cap4 ao5 cap5 ao6 cap6 w0 (h.later hb0) (hT.later hb0)
  have hp0 : PlC (w.heap.size + 1) (px, py, pl) w0 := by rw [hw0]; exact ⟨by go_simp, by go_simp, by go_simp⟩
  have HB0 : ∀ i, w0.cell? ⟨w.heap.size, i, none⟩ = #[Value.int .i64 W, .int .i64 H, .int .i64 L, .slice ao3 ps.length cap3, .slice ao4 aw.length cap4, .slice ao5 ss.length cap5, .slice ao6 rs.length cap6][i]? := by
    intro i
    have hx : w0.heap[w.heap.size]? = some (.cells #[.int .i64 W, .int .i64 H, .int .i64 L, .slice ao3 ps.length cap3, .slice ao4 aw.length cap4, .slice ao5 ss.length cap5, .slice ao6 rs.length cap6] 38 (0, 0)) := by
      rw [hw0]
      refine Eq.trans (heap_alloc_old _ _ (by simp)) (heap_alloc_new w _)
    simp [World.cell?, hx]
  have hsz : w0.heap.size = w.heap.size + 2 := by rw [hw0]; simp
  have h5 := (h.later hb0).p5
  have HWS : Hid (whereSky (W, H, L, ps, aw, ss, rs) (px, py, pl) = if validB (W, H, L, ps, aw, ss, rs) then whereOf ss (px, py, pl) else none) := rfl
  generalize whereSky (W, H, L, ps, aw, ss, rs) (px, py, pl) = r at *
  simp only [vPl] at HV h5 ⊢
  clear h hT
  rw [hw0] at HV
  go_enter Tryd.func8, Tryd.ntmps8
  go_wp2_with fail
  refine HV.mono ?_
  rw [← hw0]
  rintro e w1 ⟨he, hb1⟩
  have he := validB_of he
  subst he
  clear HV hw0
  have hB1 := hb0.trans (hb1.mono (by omega))
  have c0 := (hb1.cell (p := ⟨w.heap.size, 0, none⟩) (by show w.heap.size < _; omega)).trans (HB0 0)
  have c1 := (hb1.cell (p := ⟨w.heap.size, 1, none⟩) (by show w.heap.size < _; omega)).trans (HB0 1)
  have c2 := (hb1.cell (p := ⟨w.heap.size, 2, none⟩) (by show w.heap.size < _; omega)).trans (HB0 2)
  have c3 := (hb1.cell (p := ⟨w.heap.size, 3, none⟩) (by show w.heap.size < _; omega)).trans (HB0 3)
  have c4 := (hb1.cell (p := ⟨w.heap.size, 4, none⟩) (by show w.heap.size < _; omega)).trans (HB0 4)
  have c5 := (hb1.cell (p := ⟨w.heap.size, 5, none⟩) (by show w.heap.size < _; omega)).trans (HB0 5)
  have c6 := (hb1.cell (p := ⟨w.heap.size, 6, none⟩) (by show w.heap.size < _; omega)).trans (HB0 6)
  simp at c0 c1 c2 c3 c4 c5 c6
  have hp1 := hp0.below hb1 (by omega)
  have h51 := h5.later hb1
  have hs1 := hb1.size
  obtain ⟨u0, u1, u2⟩ := hp1
  clear HB0 hp0 h5 hb1
  generalize validB (W, H, L, ps, aw, ss, rs) = v at *
  cases v
  · have hr : Hid (r = none) := HWS.out
    clear HWS
    go_wp2
    exact bodyPost_ret (v := .tuple #[.string ⟨#[]⟩, .bool false]) (by simp [results, Tryd.results8, go_sem]) rfl ⟨by rw [hr.out]; rfl, hB1⟩
  · have hr : Hid (r = whereOf ss (px, py, pl)) := HWS.out
    clear HWS
    have HF := iSectorOf W H L ss (.slice ao3 ps.length cap3) (.slice ao4 aw.length cap4) (.slice ao6 rs.length cap6) ao5 cap5 (px, py, pl) w1 h51
    simp only [vPl] at HF
    go_wp2_with fail
    refine HF.mono ?_
    rintro e w2 ⟨rfl, hb2⟩
    have hB2 := hB1.trans (hb2.mono (by omega))
    rw [← hr.out]
    clear HF hb2
    cases r with
    | none =>
      simp only [whereV]
      go_wp2
      exact bodyPost_ret (v := .tuple #[.string ⟨#[]⟩, .bool false]) (by simp [results, Tryd.results8, go_sem]) rfl ⟨rfl, hB2⟩
    | some n =>
      simp only [whereV]
      go_wp2
      exact bodyPost_ret (v := .tuple #[.string n, .bool true]) (by simp [results, Tryd.results8, go_sem]) rfl ⟨rfl, hB2⟩

end Go.Proofs.YthkpjljhjdjbfaaDoor

/- DERIVED. spec.l5Where: its walk (Wh3's first half). -/
namespace Go.Proofs.YthkpjljhjdjbfaaDoor
open Go.RowKit
set_option linter.unusedSimpArgs false
set_option linter.unusedVariables false

/-- The cells that the region reads. -/
def WhC (b b1 o1 b2 o2 : Nat) (v5 v1 : Value) (x0 y0 x1 y1 lo hi px py pl : Int) (W : World) : Prop :=
  W.cell? ⟨b, 5, none⟩ = some v5 ∧ W.cell? ⟨b1, o1, none⟩ = some v1 ∧ W.cell? ⟨b2, o2, none⟩ = some (.int .i64 x0) ∧ W.cell? ⟨b2, o2 + 1, none⟩ = some (.int .i64 y0) ∧ W.cell? ⟨b2, o2 + 2, none⟩ = some (.int .i64 x1) ∧ W.cell? ⟨b2, o2 + 3, none⟩ = some (.int .i64 y1) ∧ W.cell? ⟨b2, o2 + 4, none⟩ = some (.int .i64 lo) ∧ W.cell? ⟨b2, o2 + 5, none⟩ = some (.int .i64 hi) ∧ W.cell? ⟨b + 1, 0, none⟩ = some (.int .i64 px) ∧ W.cell? ⟨b + 1, 1, none⟩ = some (.int .i64 py) ∧ W.cell? ⟨b + 1, 2, none⟩ = some (.int .i64 pl)
theorem WhC.below {b b1 o1 b2 o2 n : Nat} {v5 v1 : Value} {x0 y0 x1 y1 lo hi px py pl : Int} {w w' : World} (h : WhC b b1 o1 b2 o2 v5 v1 x0 y0 x1 y1 lo hi px py pl w) (hb : Below n w w') (h0 : b + 1 < n) (h1 : b1 < n) (h2 : b2 < n) : WhC b b1 o1 b2 o2 v5 v1 x0 y0 x1 y1 lo hi px py pl w' := by
  obtain ⟨c0, c1, c2, c3, c4, c5, c6, c7, c8, c9, c10⟩ := h
  have hb' : b < n := by omega
  exact ⟨(hb.cell (p := ⟨b, 5, none⟩) hb').trans c0, (hb.cell (p := ⟨b1, o1, none⟩) h1).trans c1, (hb.cell (p := ⟨b2, o2, none⟩) h2).trans c2, (hb.cell (p := ⟨b2, o2 + 1, none⟩) h2).trans c3, (hb.cell (p := ⟨b2, o2 + 2, none⟩) h2).trans c4, (hb.cell (p := ⟨b2, o2 + 3, none⟩) h2).trans c5, (hb.cell (p := ⟨b2, o2 + 4, none⟩) h2).trans c6, (hb.cell (p := ⟨b2, o2 + 5, none⟩) h2).trans c7, (hb.cell (p := ⟨b + 1, 0, none⟩) h0).trans c8, (hb.cell (p := ⟨b + 1, 1, none⟩) h0).trans c9, (hb.cell (p := ⟨b + 1, 2, none⟩) h0).trans c10⟩

set_option maxRecDepth 100000 in
set_option maxHeartbeats 4000000 in
theorem sWhereIn (W H L : Int) (ps : List DSkyPoint) (aw : List DSkyAirway) (ss : List DSkySector) (rs : List DSkyRunway) (ao3 : Option Addr) (cap3 : Nat) (ao4 : Option Addr) (cap4 : Nat) (ao5 : Option Addr) (cap5 : Nat) (ao6 : Option Addr) (cap6 : Nat) (px py pl : Int) (w : World) (h : SliceAt vSkySector (old w) w ao5 cap5 ss) :
    Calls Tryd.prog 15 #[.agg #[.int .i64 W, .int .i64 H, .int .i64 L, .slice ao3 ps.length cap3, .slice ao4 aw.length cap4, .slice ao5 ss.length cap5, .slice ao6 rs.length cap6], .agg #[.int .i64 px, .int .i64 py, .int .i64 pl]] w fun e w' => e = .returned (whereV (whereOf ss (px, py, pl))) ∧ Below w.heap.size w w' := by
  have hlen : ss.length ≤ maxLen := Nat.le_trans h.1 h.2.1
  unfold maxLen at hlen
  obtain ⟨w0, hw0⟩ : ∃ w0, w0 = (w.alloc (.cells #[.int .i64 W, .int .i64 H, .int .i64 L, .slice ao3 ps.length cap3, .slice ao4 aw.length cap4, .slice ao5 ss.length cap5, .slice ao6 rs.length cap6] 38)).alloc (.cells #[.int .i64 px, .int .i64 py, .int .i64 pl] 40) := ⟨_, rfl⟩
  have hb0 : Below w.heap.size w w0 := by rw [hw0]; exact ((Below.refl _ _).alloc (Nat.le_refl _) _).alloc (by simp) _
  have q5 : w0.cell? ⟨w.heap.size, 5, none⟩ = some (.slice ao5 ss.length cap5) := by rw [hw0]; go_simp
  have qp : PlC (w.heap.size + 1) (px, py, pl) w0 := by rw [hw0]; exact ⟨by go_simp, by go_simp, by go_simp⟩
  have hsz : w0.heap.size = w.heap.size + 2 := by rw [hw0]; simp
  go_enter Tryd.func15, Tryd.ntmps15
  go_wp2_with fail
  rw [← hw0]
  clear hw0
  go_loopw [6] (fun i wr => ∃ k : Nat, k ≤ ss.length ∧ i = .int .i64 k ∧ Hid (NoSec ss (px, py, pl) k) ∧ Below w.heap.size w wr ∧ Below (w.heap.size + 2) w0 wr) (fun i _ => ss.length - (intOf i).toNat)
  case atStart => exact ⟨0, Nat.zero_le _, rfl, fun j _ hj => by omega, hb0, Below.refl _ _⟩
  case round =>
    obtain ⟨k, hk, rfl, hno, hB, hB0⟩ := hrel
    have hwz := hB0.size
    have z5 := (hB0.cell (p := ⟨w.heap.size, 5, none⟩) (by show w.heap.size < _; omega)).trans q5
    by_cases hlt : k < ss.length
    · obtain ⟨b1, off, ao1, cap1, rfl, hok, c0, c1, q0, p1⟩ := elem_SkySector h hlt
      have f0 := (hB.cell (p := ⟨b1, off + k * 2, none⟩) hok).trans c0
      have f1 := (hB.cell (p := ⟨b1, off + k * 2 + 1, none⟩) hok).trans c1
      have hkI : (k : Int) < (ss.length : Int) := by omega
      have HSOME : Hid (∀ m (hm : m < (ss[k]'hlt).2.length), inB ((ss[k]'hlt).2[m]'hm) (px, py, pl) = true → whereOf ss (px, py, pl) = some (ss[k]'hlt).1) := fun m hm hb => where_some hlt hno.out hm hb
      have HNEXT : Hid (NoBlk (ss[k]'hlt).2 (px, py, pl) (ss[k]'hlt).2.length → NoSec ss (px, py, pl) (k + 1)) := fun h1 j hj h2 => by
        by_cases e : j = k
        · subst e; exact noBlk_all h1
        · exact hno.out j hj (by omega)
      have hlen1 : (ss[k]'hlt).2.length ≤ 9223372036854775807 := Nat.le_trans p1.1 p1.2.1
      generalize ss[k]'hlt = sk at *
      obtain ⟨nm, bs⟩ := sk
      simp only at f0 f1 p1 HSOME HNEXT q0 hlen1 c0 c1
      clear hno
      obtain ⟨wo, hwo⟩ : ∃ x, x = wr := ⟨_, rfl⟩
      subst hwo
      go_wp2
      go_loopw [7] (fun i wr => ∃ m : Nat, m ≤ bs.length ∧ i = .int .i64 m ∧ Hid (NoBlk bs (px, py, pl) m) ∧ Below w.heap.size w wr ∧ Below (w.heap.size + 2) w0 wr) (fun i _ => bs.length - (intOf i).toNat)
      case atStart => exact ⟨0, Nat.zero_le _, rfl, fun j _ hj => by omega, hB, hB0⟩
      case round =>
        clear f0 f1 z5 hwz
        obtain ⟨m, hm, rfl, hnb, hB2, hB02⟩ := hrel
        have hwz2 := hB02.size
        have z5 := (hB02.cell (p := ⟨w.heap.size, 5, none⟩) (by show w.heap.size < _; omega)).trans q5
        have f0 := (hB2.cell (p := ⟨b1, off + k * 2, none⟩) hok).trans c0
        have f1 := (hB2.cell (p := ⟨b1, off + k * 2 + 1, none⟩) hok).trans c1
        by_cases hltm : m < bs.length
        · obtain ⟨b2, off2, rfl, hok2, d0, d1, d2, d3, d4, d5, _, _, _, _, _, _⟩ := elem_SkyBlock p1 hltm
          have g0 := (hB2.cell (p := ⟨b2, off2 + m * 6, none⟩) hok2).trans d0
          have g1 := (hB2.cell (p := ⟨b2, off2 + m * 6 + 1, none⟩) hok2).trans d1
          have g2 := (hB2.cell (p := ⟨b2, off2 + m * 6 + 2, none⟩) hok2).trans d2
          have g3 := (hB2.cell (p := ⟨b2, off2 + m * 6 + 3, none⟩) hok2).trans d3
          have g4 := (hB2.cell (p := ⟨b2, off2 + m * 6 + 4, none⟩) hok2).trans d4
          have g5 := (hB2.cell (p := ⟨b2, off2 + m * 6 + 5, none⟩) hok2).trans d5
          have gp := qp.below hB02 (by omega)
          have hmI : (m : Int) < (bs.length : Int) := by omega
          have HH : Hid (inB (bs[m]'hltm) (px, py, pl) = true → whereOf ss (px, py, pl) = some nm) := HSOME.out m hltm
          have HN : Hid (inB (bs[m]'hltm) (px, py, pl) = false → NoBlk bs (px, py, pl) (m + 1)) := fun hf j hj h2 => by
            by_cases e : j = m
            · subst e; exact hf
            · exact hnb.out j hj (by omega)
          generalize bs[m]'hltm = bk at *
          obtain ⟨x0, y0, x1, y1, lo, hi⟩ := bk
          simp only at g0 g1 g2 g3 g4 g5
          have HF := fun W => sInB (x0, y0, x1, y1, lo, hi) (px, py, pl) W
          generalize inB (x0, y0, x1, y1, lo, hi) (px, py, pl) = v at *
          simp only [vBlk, vPl] at HF
          have HC0 : WhC w.heap.size b1 (off + k * 2 + 1) b2 (off2 + m * 6) (.slice (some ⟨b1, off, none⟩) ss.length cap5) (.slice (some ⟨b2, off2, none⟩) bs.length cap1) x0 y0 x1 y1 lo hi px py pl wr.drew := WhC.below (n := wr.heap.size) ⟨z5, f1, g0, g1, g2, g3, g4, g5, gp.1, gp.2.1, gp.2.2⟩ ((Below.refl _ _).drew) (by omega) (Nat.lt_of_lt_of_le hok hB2.size) (Nat.lt_of_lt_of_le hok2 hB2.size)
          clear d0 d1 d2 d3 d4 d5 hnb
          go_wp2_with fail
          refine wp_region_RC (WhC w.heap.size b1 (off + k * 2 + 1) b2 (off2 + m * 6) (.slice (some ⟨b1, off, none⟩) ss.length cap5) (.slice (some ⟨b2, off2, none⟩) bs.length cap1) x0 y0 x1 y1 lo hi px py pl) mixedF ?_
          refine RC.take (i := 0) (v := ?va0) rfl (by kernel_rfl) (by kernel_rfl) (by kernel_rfl) (fun _ _ _ h => h) HC0 (by rfl) ?ya0 ?ra0
          case ya0 => (intro W hW; obtain ⟨c0, c1, c2, c3, c4, c5, c6, c7, c8, c9, c10⟩ := hW; go_simp; try with_reducible rfl)
          refine RC.take (i := 1) (v := ?va1) rfl (by kernel_rfl) (by kernel_rfl) (by kernel_rfl) (fun _ _ _ h => h) HC0 (by rfl) ?ya1 ?ra1
          case ya1 => (intro W hW; obtain ⟨c0, c1, c2, c3, c4, c5, c6, c7, c8, c9, c10⟩ := hW; go_simp; try with_reducible rfl)
          refine RC.take (i := 2) (v := ?va2) rfl (by kernel_rfl) (by kernel_rfl) (by kernel_rfl) (fun _ _ _ h => h) HC0 (by rfl) ?ya2 ?ra2
          case ya2 => (intro W hW; obtain ⟨c0, c1, c2, c3, c4, c5, c6, c7, c8, c9, c10⟩ := hW; go_simp; try with_reducible rfl)
          refine RC.take (i := 3) (v := ?va3) rfl (by kernel_rfl) (by kernel_rfl) (by kernel_rfl) (fun _ _ _ h => h) HC0 (by rfl) ?ya3 ?ra3
          case ya3 => (intro W hW; obtain ⟨c0, c1, c2, c3, c4, c5, c6, c7, c8, c9, c10⟩ := hW; go_simp; try with_reducible rfl)
          refine RC.take (i := 4) (v := ?va4) rfl (by kernel_rfl) (by kernel_rfl) (by kernel_rfl) (fun _ _ _ h => h) HC0 (by rfl) ?ya4 ?ra4
          case ya4 => (intro W hW; obtain ⟨c0, c1, c2, c3, c4, c5, c6, c7, c8, c9, c10⟩ := hW; go_simp; try with_reducible rfl)
          refine RC.take (i := 5) (v := ?va5) rfl (by kernel_rfl) (by kernel_rfl) (by kernel_rfl) (fun _ _ _ h => h) HC0 (by rfl) ?ya5 ?ra5
          case ya5 => (intro W hW; obtain ⟨c0, c1, c2, c3, c4, c5, c6, c7, c8, c9, c10⟩ := hW; go_simp; try with_reducible rfl)
          refine RC.take (i := 6) (v := ?va6) rfl (by kernel_rfl) (by kernel_rfl) (by kernel_rfl) (fun _ _ _ h => h) HC0 (by rfl) ?ya6 ?ra6
          case ya6 => (intro W hW; obtain ⟨c0, c1, c2, c3, c4, c5, c6, c7, c8, c9, c10⟩ := hW; go_simp; try with_reducible rfl)
          refine RC.take (i := 7) (v := ?va7) rfl (by kernel_rfl) (by kernel_rfl) (by kernel_rfl) (fun _ _ _ h => h) HC0 (by rfl) ?ya7 ?ra7
          case ya7 => (intro W hW; obtain ⟨c0, c1, c2, c3, c4, c5, c6, c7, c8, c9, c10⟩ := hW; go_simp; try with_reducible rfl)
          refine RC.take (i := 8) (v := ?va8) rfl (by kernel_rfl) (by kernel_rfl) (by kernel_rfl) (fun _ _ _ h => h) HC0 (by rfl) ?ya8 ?ra8
          case ya8 => (intro W hW; obtain ⟨c0, c1, c2, c3, c4, c5, c6, c7, c8, c9, c10⟩ := hW; go_simp; try with_reducible rfl)
          refine RC.take (i := 9) (v := ?va9) rfl (by kernel_rfl) (by kernel_rfl) (by kernel_rfl) (fun _ _ _ h => h) HC0 (by rfl) ?ya9 ?ra9
          case ya9 => (intro W hW; obtain ⟨c0, c1, c2, c3, c4, c5, c6, c7, c8, c9, c10⟩ := hW; go_simp; try with_reducible rfl)
          refine RC.want (i := 10) (by kernel_rfl) rfl (by rfl) (fun K hK => ?_)
          go_simp
          refine (HF _).mono ?_
          rintro e w3 ⟨rfl, hb3⟩
          simp only
          refine hK _ _ (HC0.below hb3 (by show w.heap.size + 1 < wr.heap.size; omega) (Nat.lt_of_lt_of_le hok hB2.size) (Nat.lt_of_lt_of_le hok2 hB2.size)) ?_
          clear hK K
          refine RC.done (by kernel_rfl) ?_
          have hB3 : Below w.heap.size w w3 := hB2.drew.trans (hb3.mono (by show w.heap.size ≤ wr.heap.size; omega))
          have hB03 : Below (w.heap.size + 2) w0 w3 := hB02.drew.trans (hb3.mono (by show w.heap.size + 2 ≤ wr.heap.size; omega))
          have hs3 := hB03.size
          have z53 := (hB03.cell (p := ⟨w.heap.size, 5, none⟩) (by show w.heap.size < _; omega)).trans q5
          have f03 := (hB3.cell (p := ⟨b1, off + k * 2, none⟩) hok).trans c0
          clear HF hb3 g0 g1 g2 g3 g4 g5 gp z5 f0 f1 HC0
          cases v
          · have HN2 : Hid (NoBlk bs (px, py, pl) (m + 1)) := HN.out rfl
            clear HN HH
            go_wp2
            go_roundw
            case rel => exact ⟨m + 1, by omega, by go_num, HN2, hB3, hB03⟩
            case measure => simp [intOf]; omega
          · have HH2 : Hid (whereOf ss (px, py, pl) = some nm) := HH.out rfl
            clear HN HH
            go_wp2
            exact bodyPost_ret (v := .tuple #[.string nm, .bool true]) (by simp [results, Tryd.results15, go_sem]) rfl ⟨by rw [HH2.out]; rfl, hB3⟩
        · have hme : m = bs.length := by omega
          subst hme
          have HN2 : Hid (NoSec ss (px, py, pl) (k + 1)) := HNEXT.out hnb.out
          clear hnb HNEXT HSOME
          go_wp2
          go_roundw
          case rel => exact ⟨k + 1, by omega, by go_num, HN2, hB2, hB02⟩
          case measure => simp [intOf]; omega
    · have hke : k = ss.length := by omega
      subst hke
      have HE : Hid (whereOf ss (px, py, pl) = none) := where_none hno.out
      clear hno
      go_wp2
      exact bodyPost_ret (v := .tuple #[.string ⟨#[]⟩, .bool false]) (by simp [results, Tryd.results15, go_sem]) rfl ⟨by rw [HE.out]; rfl, hB⟩

end Go.Proofs.YthkpjljhjdjbfaaDoor

/- DERIVED. spec.SkyWhere: its walk (Wh3's second half). -/
namespace Go.Proofs.YthkpjljhjdjbfaaDoor
open Go.RowKit
set_option linter.unusedSimpArgs false
set_option linter.unusedVariables false

set_option maxRecDepth 100000 in
set_option maxHeartbeats 2000000 in
theorem sWhere (x : DSky) (ao3 : Option Addr) (cap3 : Nat) (ao4 : Option Addr) (cap4 : Nat) (ao5 : Option Addr) (cap5 : Nat) (ao6 : Option Addr) (cap6 : Nat) (p : DPlace) (w : World) (h : SkyAt w x ao3 cap3 ao4 cap4 ao5 cap5 ao6 cap6) :
    Calls Tryd.prog 5 #[.agg #[.int .i64 x.1, .int .i64 x.2.1, .int .i64 x.2.2.1, .slice ao3 x.2.2.2.1.length cap3, .slice ao4 x.2.2.2.2.1.length cap4, .slice ao5 x.2.2.2.2.2.1.length cap5, .slice ao6 x.2.2.2.2.2.2.length cap6], vPl p] w fun e w' => e = .returned (whereV (whereSky x p)) ∧ Below w.heap.size w w' := by
  obtain ⟨W, H, L, ps, aw, ss, rs⟩ := x
  obtain ⟨px, py, pl⟩ := p
  obtain ⟨w0, hw0⟩ : ∃ w0, w0 = (w.alloc (.cells #[.int .i64 W, .int .i64 H, .int .i64 L, .slice ao3 ps.length cap3, .slice ao4 aw.length cap4, .slice ao5 ss.length cap5, .slice ao6 rs.length cap6] 38)).alloc (.cells #[.int .i64 px, .int .i64 py, .int .i64 pl] 40) := ⟨_, rfl⟩
  have hb0 : Below w.heap.size w w0 := by rw [hw0]; exact ((Below.refl _ _).alloc (Nat.le_refl _) _).alloc (by simp) _
  have HV := sSkyValid (W, H, L, ps, aw, ss, rs) ao3 cap3 ao4 cap4 ao5 cap5 ao6 cap6 w0 (h.later hb0)
  have hp0 : PlC (w.heap.size + 1) (px, py, pl) w0 := by rw [hw0]; exact ⟨by go_simp, by go_simp, by go_simp⟩
  have k0 : w0.cell? ⟨w.heap.size, 0, none⟩ = some (.int .i64 W) := by rw [hw0]; go_simp
  have k1 : w0.cell? ⟨w.heap.size, 1, none⟩ = some (.int .i64 H) := by rw [hw0]; go_simp
  have k2 : w0.cell? ⟨w.heap.size, 2, none⟩ = some (.int .i64 L) := by rw [hw0]; go_simp
  have k3 : w0.cell? ⟨w.heap.size, 3, none⟩ = some (.slice ao3 ps.length cap3) := by rw [hw0]; go_simp
  have k4 : w0.cell? ⟨w.heap.size, 4, none⟩ = some (.slice ao4 aw.length cap4) := by rw [hw0]; go_simp
  have k5 : w0.cell? ⟨w.heap.size, 5, none⟩ = some (.slice ao5 ss.length cap5) := by rw [hw0]; go_simp
  have k6 : w0.cell? ⟨w.heap.size, 6, none⟩ = some (.slice ao6 rs.length cap6) := by rw [hw0]; go_simp
  have hsz : w0.heap.size = w.heap.size + 2 := by rw [hw0]; simp
  have h5 := (h.later hb0).p5
  have HWS : Hid (whereSky (W, H, L, ps, aw, ss, rs) (px, py, pl) = if validB (W, H, L, ps, aw, ss, rs) then whereOf ss (px, py, pl) else none) := rfl
  generalize whereSky (W, H, L, ps, aw, ss, rs) (px, py, pl) = r at *
  simp only [vPl] at HV h5 ⊢
  clear h
  rw [hw0] at HV
  go_enter Tryd.func5, Tryd.ntmps5
  go_wp2_with fail
  refine HV.mono ?_
  rw [← hw0]
  rintro e w1 ⟨he, hb1⟩
  have he := validB_of he
  subst he
  clear HV hw0
  have hB1 := hb0.trans (hb1.mono (by omega))
  have j0 := (hb1.cell (p := ⟨w.heap.size, 0, none⟩) (by show w.heap.size < _; omega)).trans k0
  have j1 := (hb1.cell (p := ⟨w.heap.size, 1, none⟩) (by show w.heap.size < _; omega)).trans k1
  have j2 := (hb1.cell (p := ⟨w.heap.size, 2, none⟩) (by show w.heap.size < _; omega)).trans k2
  have j3 := (hb1.cell (p := ⟨w.heap.size, 3, none⟩) (by show w.heap.size < _; omega)).trans k3
  have j4 := (hb1.cell (p := ⟨w.heap.size, 4, none⟩) (by show w.heap.size < _; omega)).trans k4
  have j5 := (hb1.cell (p := ⟨w.heap.size, 5, none⟩) (by show w.heap.size < _; omega)).trans k5
  have j6 := (hb1.cell (p := ⟨w.heap.size, 6, none⟩) (by show w.heap.size < _; omega)).trans k6
  have hp1 := hp0.below hb1 (by omega)
  obtain ⟨i0, i1, i2⟩ := hp1
  have h51 := h5.later hb1
  have hs1 := hb1.size
  clear k0 k1 k2 k3 k4 k5 k6 hp0 h5 hb1
  generalize validB (W, H, L, ps, aw, ss, rs) = v at *
  cases v
  · have hr : Hid (r = none) := HWS.out
    clear HWS
    go_wp2
    exact bodyPost_ret (v := .tuple #[.string ⟨#[]⟩, .bool false]) (by simp [results, Tryd.results5, go_sem]) rfl ⟨by rw [hr.out]; rfl, hB1⟩
  · have hr : Hid (r = whereOf ss (px, py, pl)) := HWS.out
    clear HWS
    have HF := sWhereIn W H L ps aw ss rs ao3 cap3 ao4 cap4 ao5 cap5 ao6 cap6 px py pl w1 h51
    go_wp2_with fail
    refine HF.mono ?_
    rintro e w2 ⟨rfl, hb2⟩
    have hB2 := hB1.trans (hb2.mono (by omega))
    rw [← hr.out]
    clear HF hb2
    cases r with
    | none =>
      simp only [whereV]
      go_wp2
      exact bodyPost_ret (v := .tuple #[.string ⟨#[]⟩, .bool false]) (by simp [results, Tryd.results5, go_sem]) rfl ⟨rfl, hB2⟩
    | some n =>
      simp only [whereV]
      go_wp2
      exact bodyPost_ret (v := .tuple #[.string n, .bool true]) (by simp [results, Tryd.results5, go_sem]) rfl ⟨rfl, hB2⟩

end Go.Proofs.YthkpjljhjdjbfaaDoor

/- DERIVED. What a sky that comes in reads as, as plain data; what the laid words give. -/
namespace Go.Proofs.YthkpjljhjdjbfaaDoor
open Go.RowKit Go.WideShapes
set_option linter.unusedSimpArgs false
set_option linter.unusedVariables false

theorem opPoint : Opens Tryd.prog 59 vSkyPoint :=
  opens_struct Tryd.underlying59 (by kernel_rfl) (opensFs_cons rfl (by kernel_rfl) (opens_str Tryd.underlying9) (opensFs_cons rfl (by kernel_rfl) (opens_int Tryd.underlying3) (opensFs_one rfl (by kernel_rfl) (opens_int Tryd.underlying3))))
theorem opBlock : Opens Tryd.prog 125 vSkyBlock :=
  opens_struct Tryd.underlying125 (by kernel_rfl) (opensFs_cons rfl (by kernel_rfl) (opens_int Tryd.underlying3) (opensFs_cons rfl (by kernel_rfl) (opens_int Tryd.underlying3) (opensFs_cons rfl (by kernel_rfl) (opens_int Tryd.underlying3) (opensFs_cons rfl (by kernel_rfl) (opens_int Tryd.underlying3) (opensFs_cons rfl (by kernel_rfl) (opens_int Tryd.underlying3) (opensFs_one rfl (by kernel_rfl) (opens_int Tryd.underlying3)))))))
theorem opRunway : Opens Tryd.prog 70 vSkyRunway :=
  opens_struct Tryd.underlying70 (by kernel_rfl) (opensFs_cons rfl (by kernel_rfl) (opens_str Tryd.underlying9) (opensFs_cons rfl (by kernel_rfl) (opens_int Tryd.underlying3) (opensFs_cons rfl (by kernel_rfl) (opens_int Tryd.underlying3) (opensFs_one rfl (by kernel_rfl) (opens_int Tryd.underlying3)))))
theorem opAirway : Opens Tryd.prog 63 vSkyAirway :=
  opens_struct Tryd.underlying63 (by kernel_rfl) (opensFs_cons rfl (by kernel_rfl) (opens_str Tryd.underlying9) (opensFs_one rfl (by kernel_rfl) (opens_slice Tryd.underlying61 (by kernel_rfl) (by decide) (opens_str Tryd.underlying9))))
theorem opSector : Opens Tryd.prog 67 vSkySector :=
  opens_struct Tryd.underlying67 (by kernel_rfl) (opensFs_cons rfl (by kernel_rfl) (opens_str Tryd.underlying9) (opensFs_one rfl (by kernel_rfl) (opens_slice Tryd.underlying65 (by kernel_rfl) (by decide) opBlock)))
theorem opSky : Opens Tryd.prog 27 vSky :=
  opens_struct Tryd.underlying27 (by kernel_rfl) (opensFs_cons rfl (by kernel_rfl) (opens_int Tryd.underlying3) (opensFs_cons rfl (by kernel_rfl) (opens_int Tryd.underlying3) (opensFs_cons rfl (by kernel_rfl) (opens_int Tryd.underlying3)
    (opensFs_cons rfl (by kernel_rfl) (opens_slice Tryd.underlying22 (by kernel_rfl) (by decide) opPoint) (opensFs_cons rfl (by kernel_rfl) (opens_slice Tryd.underlying23 (by kernel_rfl) (by decide) opAirway)
      (opensFs_cons rfl (by kernel_rfl) (opens_slice Tryd.underlying24 (by kernel_rfl) (by decide) opSector) (opensFs_one rfl (by kernel_rfl) (opens_slice Tryd.underlying25 (by kernel_rfl) (by decide) opRunway))))))))

/-- An array of texts that reads as such a list holds them, cell for cell. -/
theorem strs_of_tab {H : Type} {enc : TypeId × Value → H} {P : Program} {w : World} {base : Nat} {sp : Nat → Bool} {held : Bool} {fuel : Nat} {t e : TypeId} {n : Nat} {cs : List Value} {zs : List (List UInt8)} {p : List MemPlace}
    (ht : P.underlying t = some (.array n e)) (he : P.underlying e = some .string) (hce : P.cellsOf e = 1) (hct : P.cellsOf t = n)
    (h : DataW.trod enc P w base sp held fuel t cs = some (.agg (zs.map fun z => .lit (.string z)), p)) : cs = zs.map fun z => Value.string ⟨z.toArray⟩ := by
  cases fuel with
  | zero => simp [DataW.trod] at h
  | succ fuel =>
    simp only [DataW.trod, ht, hce, hct, Nat.mul_one] at h
    split at h
    · rename_i hl
      obtain ⟨xs, hm, hx⟩ := Option.map_eq_some_iff.1 h
      have hxs : xs.map (·.1) = zs.map fun z => (DataW.lit (.string z) : DataW H) := by
        have := congrArg Prod.fst hx
        simpa using this
      have hxl : xs.length = n := by simpa using Lib.mapM_length hm
      have hzl : zs.length = n := by
        have := congrArg List.length hxs
        simp at this
        omega
      apply List.ext_getElem?
      intro i
      by_cases hi : i < n
      · obtain ⟨b, hb, hf⟩ := Lib.mapM_at hm i i (by simp [hi])
        obtain ⟨z, hc, rfl, _⟩ := DataW.trod_string he hf
        have h1 : cs[i]? = some (.string z) := by
          have := congrArg (·[0]?) hc
          simpa [List.getElem?_take, List.getElem?_drop] using this
        have h2 : (xs.map (·.1))[i]? = some (DataW.lit (.string z.data.toList) : DataW H) := by simp [hb]
        rw [hxs] at h2
        simp only [List.getElem?_map, Option.map_eq_some_iff, DataW.lit.injEq, Lit.string.injEq] at h2
        obtain ⟨z', hz', rfl⟩ := h2
        simp [h1, hz']
      · rw [List.getElem?_eq_none (by omega), List.getElem?_eq_none (by simp; omega)]
    · cases h

theorem gWords : Tryd.prog.globalNamed "loop.example/lapwing/impl.skyTurnWords" = some 0 := by kernel_rfl
theorem gWordsT : (Tryd.prog.globals[0]?).map (·.type) = some 139 := by kernel_rfl
theorem cellsWords : Tryd.prog.cellsOf 139 = 8 := by kernel_rfl
theorem cellsStr : Tryd.prog.cellsOf 9 = 1 := by kernel_rfl

/-- What the row's list gives: the package's array holds the words of the turns. -/
theorem turns_of_laid {W : World} {rest : List (String × DataW Unit)} (h : laidMet Tryd.prog (("loop.example/lapwing/impl.skyTurnWords", .agg [.lit (.string [110]), .lit (.string [110, 101]), .lit (.string [101]), .lit (.string [115, 101]), .lit (.string [115]), .lit (.string [115, 119]), .lit (.string [119]), .lit (.string [110, 119])]) :: rest) W) : TurnsLaid W := by
  obtain ⟨ps, ⟨g', t', cs, fuel, p, q, hg', ht', hvar, hd, _, _⟩, _⟩ := h
  obtain rfl := Option.some.inj (gWords.symm.trans hg')
  obtain rfl := Option.some.inj (gWordsT.symm.trans ht')
  have hcs := strs_of_tab (zs := [[110], [110, 101], [101], [115, 101], [115], [115, 119], [119], [110, 119]]) Tryd.underlying139 Tryd.underlying9 cellsStr cellsWords hd
  have hcs2 : cs = turnCells := by
    apply Array.ext'
    rw [hcs]
    rfl
  intro j hj
  rw [World.var?_cell gWords hvar j, hcs2]

end Go.Proofs.YthkpjljhjdjbfaaDoor

/- DERIVED. laws.FnExactSkyWhere: its walk (written by wip/tools/mk_wl.py). -/
namespace Go.Proofs.YthkpjljhjdjbfaaDoor
open Go.RowKit
set_option linter.unusedSimpArgs false
set_option linter.unusedVariables false

theorem skyAt_of {w w' : World} {x : DSky} {ao3 : Option Addr} {cap3 : Nat} {ao4 : Option Addr} {cap4 : Nat} {ao5 : Option Addr} {cap5 : Nat} {ao6 : Option Addr} {cap6 : Nat} (p3 : SliceAt vSkyPoint (fresh w w') w' ao3 cap3 x.2.2.2.1) (p4 : SliceAt vSkyAirway (fresh w w') w' ao4 cap4 x.2.2.2.2.1) (p5 : SliceAt vSkySector (fresh w w') w' ao5 cap5 x.2.2.2.2.2.1) (p6 : SliceAt vSkyRunway (fresh w w') w' ao6 cap6 x.2.2.2.2.2.2) : SkyAt w' x ao3 cap3 ao4 cap4 ao5 cap5 ao6 cap6 :=
  ⟨p3.mono fresh_old, p4.mono fresh_old, p5.mono fresh_old, p6.mono fresh_old⟩

/-- A box holds these values. -/
def BxC (b : Nat) (cs : Array Value) (W : World) : Prop := ∀ i, W.cell? ⟨b, i, none⟩ = cs[i]?
theorem BxC.below {b n : Nat} {cs : Array Value} {w w' : World} (h : BxC b cs w) (hb : Below n w w') (hn : b < n) : BxC b cs w' := fun i => (hb.cell (p := ⟨b, i, none⟩) hn).trans (h i)
theorem BxC.new (w : World) (cs : Array Value) (t : TypeId) : BxC w.heap.size cs (w.alloc (.cells cs t)) := fun i => by
  unfold World.cell?
  rw [show (w.alloc (.cells cs t)).heap[w.heap.size]? = some (.cells cs t (0, 0)) from heap_alloc_new w _]
  rfl

theorem toPlace (p : DPlace) (w : World) :
    Calls Tryd.prog 7 #[vPl p] w fun e w' => e = .returned (vPl p) ∧ Below w.heap.size w w' := by
  obtain ⟨x, y, l⟩ := p
  simp only [vPl]
  go_enter Tryd.func7, Tryd.ntmps7
  go_wp2
  exact bodyPost_ret (v := .agg #[.int .i64 x, .int .i64 y, .int .i64 l]) (by simp [results, Tryd.results7, go_sem]) rfl ⟨rfl, by repeat (first | exact Below.refl _ _ | refine Below.alloc ?_ (by simp; try omega) _)⟩

def nmOf : Option ByteArray → ByteArray
  | none => ⟨#[]⟩
  | some n => n
theorem whereV_eq (r : Option ByteArray) : whereV r = .tuple #[.string (nmOf r), .bool r.isSome] := by cases r <;> rfl

set_option maxRecDepth 100000 in
set_option maxHeartbeats 4000000 in
theorem whereLaw_small (x : DSky) (ao3 : Option Addr) (cap3 : Nat) (ao4 : Option Addr) (cap4 : Nat) (ao5 : Option Addr) (cap5 : Nat) (ao6 : Option Addr) (cap6 : Nat) (p : DPlace) (w : World) (h : SkyAt w x ao3 cap3 ao4 cap4 ao5 cap5 ao6 cap6) (hT : TurnsLaid w) (hn : wSky x ≤ 1048576) :
    Calls Tryd.prog 3 #[.agg #[.int .i64 x.1, .int .i64 x.2.1, .int .i64 x.2.2.1, .slice ao3 x.2.2.2.1.length cap3, .slice ao4 x.2.2.2.2.1.length cap4, .slice ao5 x.2.2.2.2.2.1.length cap5, .slice ao6 x.2.2.2.2.2.2.length cap6], vPl p] w fun e w' => e = .returned (.bool true) ∧ Below w.heap.size w w' := by
  have hsz : szR 1048576 (wSky x) = 1048576 - (wSky x : Int) := szR_yes (by omega)
  have hnn : ¬ szR 1048576 (wSky x) < 0 := by rw [hsz]; omega
  have HP := fun W => toPlace p W
  have HTO := fun W (hh : SkyAt W x ao3 cap3 ao4 cap4 ao5 cap5 ao6 cap6) => toSky_any x ao3 cap3 ao4 cap4 ao5 cap5 ao6 cap6 W hh.p3 hh.p4 hh.p5 hh.p6 hn
  have HSW := fun ao3 cap3 ao4 cap4 ao5 cap5 ao6 cap6 W (hh : SkyAt W x ao3 cap3 ao4 cap4 ao5 cap5 ao6 cap6) => sWhere x ao3 cap3 ao4 cap4 ao5 cap5 ao6 cap6 p W hh
  have HIW := fun ao3 cap3 ao4 cap4 ao5 cap5 ao6 cap6 W (hh : SkyAt W x ao3 cap3 ao4 cap4 ao5 cap5 ao6 cap6) (ht : TurnsLaid W) => iWhere x ao3 cap3 ao4 cap4 ao5 cap5 ao6 cap6 p W hh ht
  rw [whereV_eq] at HSW HIW
  generalize nmOf (whereSky x p) = rn at *
  generalize (whereSky x p).isSome = rv at *
  obtain ⟨px, py, pl⟩ := p
  simp only [vPl] at *
  obtain ⟨w0, hw0⟩ : ∃ w0, w0 = (w.alloc (.cells #[.int .i64 x.1, .int .i64 x.2.1, .int .i64 x.2.2.1, .slice ao3 x.2.2.2.1.length cap3, .slice ao4 x.2.2.2.2.1.length cap4, .slice ao5 x.2.2.2.2.2.1.length cap5, .slice ao6 x.2.2.2.2.2.2.length cap6] 27)).alloc (.cells #[.int .i64 px, .int .i64 py, .int .i64 pl] 29) := ⟨_, rfl⟩
  have hb0 : Below w.heap.size w w0 := by rw [hw0]; exact ((Below.refl _ _).alloc (Nat.le_refl _) _).alloc (by simp) _
  have HS0 : BxC w.heap.size #[.int .i64 x.1, .int .i64 x.2.1, .int .i64 x.2.2.1, .slice ao3 x.2.2.2.1.length cap3, .slice ao4 x.2.2.2.2.1.length cap4, .slice ao5 x.2.2.2.2.2.1.length cap5, .slice ao6 x.2.2.2.2.2.2.length cap6] w0 := by rw [hw0]; exact (BxC.new w _ _).below ((Below.refl (w.heap.size + 1) _).alloc (by simp) _) (by omega)
  have HP0 : BxC (w.heap.size + 1) #[.int .i64 px, .int .i64 py, .int .i64 pl] w0 := by
    rw [hw0]
    have h := BxC.new (w.alloc (.cells #[.int .i64 x.1, .int .i64 x.2.1, .int .i64 x.2.2.1, .slice ao3 x.2.2.2.1.length cap3, .slice ao4 x.2.2.2.2.1.length cap4, .slice ao5 x.2.2.2.2.2.1.length cap5, .slice ao6 x.2.2.2.2.2.2.length cap6] 27)) #[.int .i64 px, .int .i64 py, .int .i64 pl] 29
    rwa [World.size_alloc] at h
  have hz0 : w0.heap.size = w.heap.size + 2 := by rw [hw0]; simp
  have hA := h.later hb0
  have HSZ := szSky_any x ao3 cap3 ao4 cap4 ao5 cap5 ao6 cap6 1048576 w0 (by omega) (by omega) hA.p3 hA.p4 hA.p5 hA.p6
  rw [hw0] at HSZ
  clear hsz hA
  go_enter Tryd.func3, Tryd.ntmps3
  go_wp2_with fail
  refine HSZ.mono ?_
  rw [← hw0]
  rintro e w1 ⟨rfl, hb1⟩
  clear hw0 HSZ
  have hz1 : w.heap.size + 2 ≤ w1.heap.size := by have := hb1.size; omega
  have hB1 : Below w.heap.size w w1 := hb0.trans (hb1.mono (by omega))
  have HS1 := HS0.below hb1 (by omega)
  have HP1 := HP0.below hb1 (by omega)
  clear hb1 hb0 HS0 HP0
  go_wp2_with fail
  have HC0 : BxC w.heap.size #[.int .i64 x.1, .int .i64 x.2.1, .int .i64 x.2.2.1, .slice ao3 x.2.2.2.1.length cap3, .slice ao4 x.2.2.2.2.1.length cap4, .slice ao5 x.2.2.2.2.2.1.length cap5, .slice ao6 x.2.2.2.2.2.2.length cap6] w1.drew ∧ BxC (w.heap.size + 1) #[.int .i64 px, .int .i64 py, .int .i64 pl] w1.drew := ⟨HS1.below ((Below.refl (w.heap.size + 2) _).drew) (by omega), HP1.below ((Below.refl (w.heap.size + 2) _).drew) (by omega)⟩
  have hBd := hB1.drew
  have hle : w.heap.size + 2 ≤ w1.drew.heap.size := hz1
  clear HS1 HP1 hB1 hz1
  refine wp_region_RC (fun W => BxC w.heap.size #[.int .i64 x.1, .int .i64 x.2.1, .int .i64 x.2.2.1, .slice ao3 x.2.2.2.1.length cap3, .slice ao4 x.2.2.2.2.1.length cap4, .slice ao5 x.2.2.2.2.2.1.length cap5, .slice ao6 x.2.2.2.2.2.2.length cap6] W ∧ BxC (w.heap.size + 1) #[.int .i64 px, .int .i64 py, .int .i64 pl] W) mixedF ?_
  refine RC.take (i := 0) (v := ?va0) rfl (by kernel_rfl) (by kernel_rfl) (by kernel_rfl) (fun _ _ _ h => h) HC0 (by rfl) ?ya0 ?ra0
  case ya0 => (intro W hW; obtain ⟨h1, h2⟩ := hW; have a0 := h1 0; have a1 := h1 1; have a2 := h1 2; have a3 := h1 3; have a4 := h1 4; have a5 := h1 5; have a6 := h1 6; simp at a0 a1 a2 a3 a4 a5 a6; have b0 := h2 0; have b1 := h2 1; have b2 := h2 2; simp at b0 b1 b2; go_simp; try with_reducible rfl)
  refine RC.take (i := 2) (v := ?va2) rfl (by kernel_rfl) (by kernel_rfl) (by kernel_rfl) (fun _ _ _ h => h) HC0 (by rfl) ?ya2 ?ra2
  case ya2 => (intro W hW; obtain ⟨h1, h2⟩ := hW; have a0 := h1 0; have a1 := h1 1; have a2 := h1 2; have a3 := h1 3; have a4 := h1 4; have a5 := h1 5; have a6 := h1 6; simp at a0 a1 a2 a3 a4 a5 a6; have b0 := h2 0; have b1 := h2 1; have b2 := h2 2; simp at b0 b1 b2; go_simp; try with_reducible rfl)
  refine RC.want (i := 1) (by kernel_rfl) rfl (by rfl) (fun K hK => ?_)
  go_simp
  refine (HTO _ (h.later hBd)).mono ?_
  rintro e w2 ⟨ao3', cap3', ao4', cap4', ao5', cap5', ao6', cap6', rfl, p3, p4, p5, p6, hc⟩
  simp only
  have HC1 := (⟨HC0.1.below hc (by omega), HC0.2.below hc (by omega)⟩ : BxC w.heap.size #[.int .i64 x.1, .int .i64 x.2.1, .int .i64 x.2.2.1, .slice ao3 x.2.2.2.1.length cap3, .slice ao4 x.2.2.2.2.1.length cap4, .slice ao5 x.2.2.2.2.2.1.length cap5, .slice ao6 x.2.2.2.2.2.2.length cap6] w2 ∧ BxC (w.heap.size + 1) #[.int .i64 px, .int .i64 py, .int .i64 pl] w2)
  have hle1 : w.heap.size + 2 ≤ w2.heap.size := Nat.le_trans hle hc.size
  have hBe := hBd.trans (hc.mono (by omega))
  have hS2 := skyAt_of p3 p4 p5 p6
  clear p3 p4 p5 p6
  clear hc HC0 hle hBd
  refine hK _ _ HC1 ?_
  clear hK K
  have HC0 := HC1
  have hle := hle1
  have hBd := hBe
  clear HC1 hle1 hBe
  refine RC.want (i := 3) (by kernel_rfl) rfl (by rfl) (fun K hK => ?_)
  go_simp
  refine (HP _).mono ?_
  rintro e w3 ⟨rfl, hc⟩
  simp only
  have HC1 := (⟨HC0.1.below hc (by omega), HC0.2.below hc (by omega)⟩ : BxC w.heap.size #[.int .i64 x.1, .int .i64 x.2.1, .int .i64 x.2.2.1, .slice ao3 x.2.2.2.1.length cap3, .slice ao4 x.2.2.2.2.1.length cap4, .slice ao5 x.2.2.2.2.2.1.length cap5, .slice ao6 x.2.2.2.2.2.2.length cap6] w3 ∧ BxC (w.heap.size + 1) #[.int .i64 px, .int .i64 py, .int .i64 pl] w3)
  have hle1 : w.heap.size + 2 ≤ w3.heap.size := Nat.le_trans hle hc.size
  have hBe := hBd.trans (hc.mono (by omega))
  have hS3 := hS2.later hc
  clear hc HC0 hle hBd
  refine hK _ _ HC1 ?_
  clear hK K
  have HC0 := HC1
  have hle := hle1
  have hBd := hBe
  clear HC1 hle1 hBe
  refine RC.want (i := 4) (by kernel_rfl) rfl (by rfl) (fun K hK => ?_)
  go_simp
  refine (HSW _ _ _ _ _ _ _ _ _ hS3).mono ?_
  rintro e w4 ⟨rfl, hc⟩
  simp only
  have HC1 := (⟨HC0.1.below hc (by omega), HC0.2.below hc (by omega)⟩ : BxC w.heap.size #[.int .i64 x.1, .int .i64 x.2.1, .int .i64 x.2.2.1, .slice ao3 x.2.2.2.1.length cap3, .slice ao4 x.2.2.2.2.1.length cap4, .slice ao5 x.2.2.2.2.2.1.length cap5, .slice ao6 x.2.2.2.2.2.2.length cap6] w4 ∧ BxC (w.heap.size + 1) #[.int .i64 px, .int .i64 py, .int .i64 pl] w4)
  have hle1 : w.heap.size + 2 ≤ w4.heap.size := Nat.le_trans hle hc.size
  have hBe := hBd.trans (hc.mono (by omega))
  clear hc HC0 hle hBd
  refine hK _ _ HC1 ?_
  clear hK K
  have HC0 := HC1
  have hle := hle1
  have hBd := hBe
  clear HC1 hle1 hBe
  refine RC.take (i := 5) (v := ?va5) rfl (by kernel_rfl) (by kernel_rfl) (by kernel_rfl) (fun _ _ _ h => h) HC0 (by rfl) ?ya5 ?ra5
  case ya5 => (intro W hW; go_simp; try with_reducible rfl)
  refine RC.take (i := 6) (v := ?va6) rfl (by kernel_rfl) (by kernel_rfl) (by kernel_rfl) (fun _ _ _ h => h) HC0 (by rfl) ?ya6 ?ra6
  case ya6 => (intro W hW; go_simp; try with_reducible rfl)
  refine RC.take (i := 7) (v := ?va7) rfl (by kernel_rfl) (by kernel_rfl) (by kernel_rfl) (fun _ _ _ h => h) HC0 (by rfl) ?ya7 ?ra7
  case ya7 => (intro W hW; go_simp; try with_reducible rfl)
  refine RC.take (i := 8) (v := ?va8) rfl (by kernel_rfl) (by kernel_rfl) (by kernel_rfl) (fun _ _ _ h => h) HC0 (by rfl) ?ya8 ?ra8
  case ya8 => (intro W hW; go_simp; try with_reducible rfl)
  refine RC.take (i := 9) (v := ?va9) rfl (by kernel_rfl) (by kernel_rfl) (by kernel_rfl) (fun _ _ _ h => h) HC0 (by rfl) ?ya9 ?ra9
  case ya9 => (intro W hW; go_simp; try with_reducible rfl)
  refine RC.done (by kernel_rfl) ?_
  have a0 := HC0.1 0
  have a1 := HC0.1 1
  have a2 := HC0.1 2
  have a3 := HC0.1 3
  have a4 := HC0.1 4
  have a5 := HC0.1 5
  have a6 := HC0.1 6
  simp at a0 a1 a2 a3 a4 a5 a6
  have HTO4 := HTO w4 (h.later hBd)
  clear hS2 hS3 HSW
  go_wp2_with fail
  refine HTO4.mono ?_
  rintro e w5 ⟨ao3q, cap3q, ao4q, cap4q, ao5q, cap5q, ao6q, cap6q, rfl, p3, p4, p5, p6, hb5⟩
  have hS5 := skyAt_of p3 p4 p5 p6
  have HS5 := HC0.1.below hb5 (by omega)
  have HP5 := HC0.2.below hb5 (by omega)
  have hB5 := hBd.trans (hb5.mono (by omega))
  have hz5 : w.heap.size + 2 ≤ w5.heap.size := Nat.le_trans hle hb5.size
  clear a0 a1 a2 a3 a4 a5 a6 HTO4 hb5 p3 p4 p5 p6 HC0 hBd hle
  go_wp2_with fail
  obtain ⟨w6, hw6⟩ : ∃ w6, w6 = w5.alloc (.cells #[.int .i64 x.1, .int .i64 x.2.1, .int .i64 x.2.2.1, .slice ao3q x.2.2.2.1.length cap3q, .slice ao4q x.2.2.2.2.1.length cap4q, .slice ao5q x.2.2.2.2.2.1.length cap5q, .slice ao6q x.2.2.2.2.2.2.length cap6q] 38) := ⟨_, rfl⟩
  have hb6 : Below w5.heap.size w5 w6 := by rw [hw6]; exact (Below.refl _ _).alloc (Nat.le_refl _) _
  have HX6 : BxC w5.heap.size #[.int .i64 x.1, .int .i64 x.2.1, .int .i64 x.2.2.1, .slice ao3q x.2.2.2.1.length cap3q, .slice ao4q x.2.2.2.2.1.length cap4q, .slice ao5q x.2.2.2.2.2.1.length cap5q, .slice ao6q x.2.2.2.2.2.2.length cap6q] w6 := by rw [hw6]; exact BxC.new w5 _ _
  have hz6 : w6.heap.size = w5.heap.size + 1 := by rw [hw6]; simp
  rw [← hw6]
  clear hw6
  have hbd6 : Below w5.heap.size w5 w6.drew := hb6.drew
  have HC0 : BxC w.heap.size #[.int .i64 x.1, .int .i64 x.2.1, .int .i64 x.2.2.1, .slice ao3 x.2.2.2.1.length cap3, .slice ao4 x.2.2.2.2.1.length cap4, .slice ao5 x.2.2.2.2.2.1.length cap5, .slice ao6 x.2.2.2.2.2.2.length cap6] w6.drew ∧ BxC (w.heap.size + 1) #[.int .i64 px, .int .i64 py, .int .i64 pl] w6.drew ∧ BxC w5.heap.size #[.int .i64 x.1, .int .i64 x.2.1, .int .i64 x.2.2.1, .slice ao3q x.2.2.2.1.length cap3q, .slice ao4q x.2.2.2.2.1.length cap4q, .slice ao5q x.2.2.2.2.2.1.length cap5q, .slice ao6q x.2.2.2.2.2.2.length cap6q] w6.drew := ⟨HS5.below hbd6 (by omega), HP5.below hbd6 (by omega), HX6.below ((Below.refl (w5.heap.size + 1) _).drew) (by omega)⟩
  have hBd := hB5.trans (hbd6.mono (by omega))
  have hle : w5.heap.size + 1 ≤ w6.drew.heap.size := by show _ ≤ w6.heap.size; omega
  have hS6 := hS5.later hbd6
  clear HS5 HP5 HX6 hb6 hbd6 hB5 hS5 hz6
  refine wp_region_RC (fun W => BxC w.heap.size #[.int .i64 x.1, .int .i64 x.2.1, .int .i64 x.2.2.1, .slice ao3 x.2.2.2.1.length cap3, .slice ao4 x.2.2.2.2.1.length cap4, .slice ao5 x.2.2.2.2.2.1.length cap5, .slice ao6 x.2.2.2.2.2.2.length cap6] W ∧ BxC (w.heap.size + 1) #[.int .i64 px, .int .i64 py, .int .i64 pl] W ∧ BxC w5.heap.size #[.int .i64 x.1, .int .i64 x.2.1, .int .i64 x.2.2.1, .slice ao3q x.2.2.2.1.length cap3q, .slice ao4q x.2.2.2.2.1.length cap4q, .slice ao5q x.2.2.2.2.2.1.length cap5q, .slice ao6q x.2.2.2.2.2.2.length cap6q] W) mixedF ?_
  refine RC.take (i := 0) (v := ?vb0) rfl (by kernel_rfl) (by kernel_rfl) (by kernel_rfl) (fun _ _ _ h => h) HC0 (by rfl) ?yb0 ?rb0
  case yb0 => (intro W hW; obtain ⟨h1, h2, h3⟩ := hW; have a0 := h1 0; have a1 := h1 1; have a2 := h1 2; have a3 := h1 3; have a4 := h1 4; have a5 := h1 5; have a6 := h1 6; simp at a0 a1 a2 a3 a4 a5 a6; have b0 := h2 0; have b1 := h2 1; have b2 := h2 2; simp at b0 b1 b2; have d0 := h3 0; have d1 := h3 1; have d2 := h3 2; have d3 := h3 3; have d4 := h3 4; have d5 := h3 5; have d6 := h3 6; simp at d0 d1 d2 d3 d4 d5 d6; go_simp; try with_reducible rfl)
  refine RC.take (i := 1) (v := ?vb1) rfl (by kernel_rfl) (by kernel_rfl) (by kernel_rfl) (fun _ _ _ h => h) HC0 (by rfl) ?yb1 ?rb1
  case yb1 => (intro W hW; obtain ⟨h1, h2, h3⟩ := hW; have a0 := h1 0; have a1 := h1 1; have a2 := h1 2; have a3 := h1 3; have a4 := h1 4; have a5 := h1 5; have a6 := h1 6; simp at a0 a1 a2 a3 a4 a5 a6; have b0 := h2 0; have b1 := h2 1; have b2 := h2 2; simp at b0 b1 b2; have d0 := h3 0; have d1 := h3 1; have d2 := h3 2; have d3 := h3 3; have d4 := h3 4; have d5 := h3 5; have d6 := h3 6; simp at d0 d1 d2 d3 d4 d5 d6; go_simp; try with_reducible rfl)
  refine RC.want (i := 2) (by kernel_rfl) rfl (by rfl) (fun K hK => ?_)
  go_simp
  refine (HP _).mono ?_
  rintro e w7 ⟨rfl, hc⟩
  simp only
  have HC1 := (⟨HC0.1.below hc (by omega), HC0.2.1.below hc (by omega), HC0.2.2.below hc (by omega)⟩ : BxC w.heap.size #[.int .i64 x.1, .int .i64 x.2.1, .int .i64 x.2.2.1, .slice ao3 x.2.2.2.1.length cap3, .slice ao4 x.2.2.2.2.1.length cap4, .slice ao5 x.2.2.2.2.2.1.length cap5, .slice ao6 x.2.2.2.2.2.2.length cap6] w7 ∧ BxC (w.heap.size + 1) #[.int .i64 px, .int .i64 py, .int .i64 pl] w7 ∧ BxC w5.heap.size #[.int .i64 x.1, .int .i64 x.2.1, .int .i64 x.2.2.1, .slice ao3q x.2.2.2.1.length cap3q, .slice ao4q x.2.2.2.2.1.length cap4q, .slice ao5q x.2.2.2.2.2.1.length cap5q, .slice ao6q x.2.2.2.2.2.2.length cap6q] w7)
  have hle1 : w5.heap.size + 1 ≤ w7.heap.size := Nat.le_trans hle hc.size
  have hBe := hBd.trans (hc.mono (by omega))
  have hS7 := hS6.later hc
  clear hc HC0 hle hBd
  refine hK _ _ HC1 ?_
  clear hK K
  have HC0 := HC1
  have hle := hle1
  have hBd := hBe
  clear HC1 hle1 hBe
  refine RC.want (i := 3) (by kernel_rfl) rfl (by rfl) (fun K hK => ?_)
  go_simp
  refine (HIW _ _ _ _ _ _ _ _ _ hS7 (hT.later hBd)).mono ?_
  rintro e w8 ⟨rfl, hc⟩
  simp only
  have HC1 := (⟨HC0.1.below hc (by omega), HC0.2.1.below hc (by omega), HC0.2.2.below hc (by omega)⟩ : BxC w.heap.size #[.int .i64 x.1, .int .i64 x.2.1, .int .i64 x.2.2.1, .slice ao3 x.2.2.2.1.length cap3, .slice ao4 x.2.2.2.2.1.length cap4, .slice ao5 x.2.2.2.2.2.1.length cap5, .slice ao6 x.2.2.2.2.2.2.length cap6] w8 ∧ BxC (w.heap.size + 1) #[.int .i64 px, .int .i64 py, .int .i64 pl] w8 ∧ BxC w5.heap.size #[.int .i64 x.1, .int .i64 x.2.1, .int .i64 x.2.2.1, .slice ao3q x.2.2.2.1.length cap3q, .slice ao4q x.2.2.2.2.1.length cap4q, .slice ao5q x.2.2.2.2.2.1.length cap5q, .slice ao6q x.2.2.2.2.2.2.length cap6q] w8)
  have hle1 : w5.heap.size + 1 ≤ w8.heap.size := Nat.le_trans hle hc.size
  have hBe := hBd.trans (hc.mono (by omega))
  have hS8 := hS7.later hc
  clear hc HC0 hle hBd
  refine hK _ _ HC1 ?_
  clear hK K
  have HC0 := HC1
  have hle := hle1
  have hBd := hBe
  clear HC1 hle1 hBe
  refine RC.take (i := 4) (v := ?vb4) rfl (by kernel_rfl) (by kernel_rfl) (by kernel_rfl) (fun _ _ _ h => h) HC0 (by rfl) ?yb4 ?rb4
  case yb4 => (intro W hW; go_simp; try with_reducible rfl)
  refine RC.take (i := 5) (v := ?vb5) rfl (by kernel_rfl) (by kernel_rfl) (by kernel_rfl) (fun _ _ _ h => h) HC0 (by rfl) ?yb5 ?rb5
  case yb5 => (intro W hW; go_simp; try with_reducible rfl)
  refine RC.take (i := 6) (v := ?vb6) rfl (by kernel_rfl) (by kernel_rfl) (by kernel_rfl) (fun _ _ _ h => h) HC0 (by rfl) ?yb6 ?rb6
  case yb6 => (intro W hW; go_simp; try with_reducible rfl)
  refine RC.take (i := 7) (v := ?vb7) rfl (by kernel_rfl) (by kernel_rfl) (by kernel_rfl) (fun _ _ _ h => h) HC0 (by rfl) ?yb7 ?rb7
  case yb7 => (intro W hW; go_simp; try with_reducible rfl)
  refine RC.take (i := 8) (v := ?vb8) rfl (by kernel_rfl) (by kernel_rfl) (by kernel_rfl) (fun _ _ _ h => h) HC0 (by rfl) ?yb8 ?rb8
  case yb8 => (intro W hW; go_simp; try with_reducible rfl)
  refine RC.done (by kernel_rfl) ?_
  have hA8 := h.later hBd
  have a0 := HC0.1 0
  have a1 := HC0.1 1
  have a2 := HC0.1 2
  have a3 := HC0.1 3
  have a4 := HC0.1 4
  have a5 := HC0.1 5
  have a6 := HC0.1 6
  simp at a0 a1 a2 a3 a4 a5 a6
  have d0 := HC0.2.2 0
  have d1 := HC0.2.2 1
  have d2 := HC0.2.2 2
  have d3 := HC0.2.2 3
  have d4 := HC0.2.2 4
  have d5 := HC0.2.2 5
  have d6 := HC0.2.2 6
  simp at d0 d1 d2 d3 d4 d5 d6
  have hs2 : (rv != rv) = false := by simp
  have hw58 : w5.heap.size < w8.heap.size := by omega
  have hw8 : w.heap.size ≤ w8.heap.size := by omega
  clear HC0 HP HIW hS6 hS7 hle
  go_wp2_with fail
  have hbd : Below w8.heap.size w8 w8.drew := (Below.refl _ _).drew
  have hA8d := hA8.later hbd
  have hS8d := hS8.later hbd
  have HTO8 := HTO w8.drew hA8d
  clear HTO hA8 hS8 hA8d
  go_region_with (first | (go_at_call 6; refine HTO8.mono ?_; rintro e w9 ⟨ao3r, cap3r, ao4r, cap4r, ao5r, cap5r, ao6r, cap6r, rfl, p3, p4, p5, p6, hb9⟩; have k0 := (hb9.cell (p := ⟨w5.heap.size, 0, none⟩) hw58).trans d0; have k1 := (hb9.cell (p := ⟨w5.heap.size, 1, none⟩) hw58).trans d1; have k2 := (hb9.cell (p := ⟨w5.heap.size, 2, none⟩) hw58).trans d2; have k3 := (hb9.cell (p := ⟨w5.heap.size, 3, none⟩) hw58).trans d3; have k4 := (hb9.cell (p := ⟨w5.heap.size, 4, none⟩) hw58).trans d4; have k5 := (hb9.cell (p := ⟨w5.heap.size, 5, none⟩) hw58).trans d5; have k6 := (hb9.cell (p := ⟨w5.heap.size, 6, none⟩) hw58).trans d6) | (go_at_call 9; refine (eqSky_any x ao3q cap3q ao4q cap4q ao5q cap5q ao6q cap6q ao3r cap3r ao4r cap4r ao5r cap5r ao6r cap6r _ (hS8d.p3.later hb9) (p3.mono fresh_old) (hS8d.p4.later hb9) (p4.mono fresh_old) (hS8d.p5.later hb9) (p5.mono fresh_old) (hS8d.p6.later hb9) (p6.mono fresh_old) hn).mono ?_; rintro e w10 ⟨rfl, hb10⟩))
  all_goals
    go_wp2
    go_ret
    exact ⟨rfl, ((hBd.trans (hbd.mono hw8)).trans (hb9.mono (show w.heap.size ≤ w8.heap.size from hw8))).trans (hb10.mono (by have h1 : w8.heap.size ≤ w9.heap.size := hb9.size; omega))⟩

set_option maxRecDepth 100000 in
set_option maxHeartbeats 1000000 in
theorem whereLaw_big (x : DSky) (ao3 : Option Addr) (cap3 : Nat) (ao4 : Option Addr) (cap4 : Nat) (ao5 : Option Addr) (cap5 : Nat) (ao6 : Option Addr) (cap6 : Nat) (p : DPlace) (w : World) (h : SkyAt w x ao3 cap3 ao4 cap4 ao5 cap5 ao6 cap6) (hn : ¬ wSky x ≤ 1048576) :
    Calls Tryd.prog 3 #[.agg #[.int .i64 x.1, .int .i64 x.2.1, .int .i64 x.2.2.1, .slice ao3 x.2.2.2.1.length cap3, .slice ao4 x.2.2.2.2.1.length cap4, .slice ao5 x.2.2.2.2.2.1.length cap5, .slice ao6 x.2.2.2.2.2.2.length cap6], vPl p] w fun e w' => e = .returned (.bool true) ∧ Below w.heap.size w w' := by
  have hsz : szR 1048576 (wSky x) = -1 := szR_no (by omega)
  obtain ⟨px, py, pl⟩ := p
  simp only [vPl] at *
  have hb0 : Below w.heap.size w ((w.alloc (.cells #[.int .i64 x.1, .int .i64 x.2.1, .int .i64 x.2.2.1, .slice ao3 x.2.2.2.1.length cap3, .slice ao4 x.2.2.2.2.1.length cap4, .slice ao5 x.2.2.2.2.2.1.length cap5, .slice ao6 x.2.2.2.2.2.2.length cap6] 27)).alloc (.cells #[.int .i64 px, .int .i64 py, .int .i64 pl] 29)) := ((Below.refl _ _).alloc (Nat.le_refl _) _).alloc (by simp) _
  have hA := h.later hb0
  have hcall := szSky_any x ao3 cap3 ao4 cap4 ao5 cap5 ao6 cap6 1048576 _ (by omega) (by omega) hA.p3 hA.p4 hA.p5 hA.p6
  rw [hsz] at hcall
  clear hsz
  go_enter Tryd.func3, Tryd.ntmps3
  go_wp2_with fail
  refine hcall.mono ?_
  rintro e w1 ⟨rfl, hb1⟩
  have hb2 := hb0.trans (hb1.mono hb0.size)
  clear hb1 hcall
  go_wp2
  go_ret
  exact ⟨rfl, hb2⟩

theorem whereLaw (x : DSky) (ao3 : Option Addr) (cap3 : Nat) (ao4 : Option Addr) (cap4 : Nat) (ao5 : Option Addr) (cap5 : Nat) (ao6 : Option Addr) (cap6 : Nat) (p : DPlace) (w : World) (h : SkyAt w x ao3 cap3 ao4 cap4 ao5 cap5 ao6 cap6) (hT : TurnsLaid w) :
    Calls Tryd.prog 3 #[.agg #[.int .i64 x.1, .int .i64 x.2.1, .int .i64 x.2.2.1, .slice ao3 x.2.2.2.1.length cap3, .slice ao4 x.2.2.2.2.1.length cap4, .slice ao5 x.2.2.2.2.2.1.length cap5, .slice ao6 x.2.2.2.2.2.2.length cap6], vPl p] w fun e w' => e = .returned (.bool true) ∧ Below w.heap.size w w' := by
  by_cases hn : wSky x ≤ 1048576
  · exact whereLaw_small x ao3 cap3 ao4 cap4 ao5 cap5 ao6 cap6 p w h hT hn
  · exact whereLaw_big x ao3 cap3 ao4 cap4 ao5 cap5 ao6 cap6 p w h hn

end Go.Proofs.YthkpjljhjdjbfaaDoor
