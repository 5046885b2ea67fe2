/- DERIVED. A region that draws its order and stores: what reads the same in every world of a class is taken first, as long as nothing is stored; what reads no memory at any time. No program is named here. -/
import Derived.Test.YtpjacfnjjkoikaaKPQ0
namespace Go.Proofs.Ytpjacfnjjkoikaa
open Go.RowKit
set_option linter.unusedSimpArgs false
set_option linter.unusedVariables false

section
variable {P : Program} {ops : Array Oper} {md : Region.Mode} {Q : Exit → Act → World → Prop} {C : World → Prop} {st : List Nat}

/-- None of the operations that store is behind us. -/
def clean (st : List Nat) (listed : Array Bool) : Bool := st.all fun j => !(listed.getD j true)
theorem clean_set {i : Nat} (hi : st.contains i = false) (listed : Array Bool) : clean st (listed.setIfInBounds i true) = clean st listed := by
  unfold clean
  have h : ∀ j ∈ st, (listed.setIfInBounds i true).getD j true = listed.getD j true := fun j hj => getD_set_ne true fun e => by
    subst e
    have : st.contains i = true := by simpa using hj
    rw [this] at hi
    cases hi
  rw [Bool.eq_iff_iff, List.all_eq_true, List.all_eq_true]
  constructor
  · intro h1 j hj
    have h2 := h1 j hj
    rw [h j hj] at h2
    exact h2
  · intro h1 j hj
    rw [h j hj]
    exact h1 j hj

/-- Every order of the region goes well; as long as nothing is stored every world on the way is of the class. -/
def wpAnyD (P : Program) (md : Region.Mode) (ops : Array Oper) (C : World → Prop) (st : List Nat) (Q : Exit → Act → World → Prop) : Nat → Array Bool → Act → World → Prop
  | 0, listed, a, w => Region.ready md ops listed = [] ∧ Q .normal a w
  | n + 1, listed, a, w => (Region.ready md ops listed = [] → Q .normal a w) ∧ ∀ i ∈ Region.ready md ops listed, wpOp P ops Q i (fun a' w' => (clean st (listed.setIfInBounds i true) = true → C w') ∧ wpAnyD P md ops C st Q n (listed.setIfInBounds i true) a' w') a w

theorem wpAny_of_D : ∀ (n : Nat) (listed : Array Bool) (a : Act) (w : World), wpAnyD P md ops C st Q n listed a w → wpAny P md ops Q n listed a w
  | 0, _, _, _, h => h
  | n + 1, listed, a, w, h => ⟨h.1, fun i hi => wpOp_mono (fun a' w' h' => wpAny_of_D n _ a' w' h'.2) (h.2 i hi)⟩

/-- Whatever stores waits for this operation. -/
def waits (md : Region.Mode) (ops : Array Oper) (st : List Nat) (i : Nat) : Bool := st.all fun j => match ops[j]? with
  | some o => o.after.any fun e => Region.binds md e && e.on == i
  | none => true

theorem waits_spec {i : Nat} (h : waits md ops st i = true) {j : Nat} (hj : j ∈ st) {oj : Oper} (ho : ops[j]? = some oj) : ∃ e ∈ oj.after, Region.binds md e = true ∧ e.on = i := by
  have h1 := List.all_eq_true.1 h j hj
  simp only [ho] at h1
  obtain ⟨e, he, h2⟩ := Array.any_eq_true'.1 h1
  rw [Bool.and_eq_true] at h2
  exact ⟨e, he, h2.1, by simpa using h2.2⟩

theorem not_store {i j : Nat} {listed : Array Bool} (hw : waits md ops st i = true) (hr : i ∈ Region.ready md ops listed) (hj : j ∈ Region.ready md ops listed) : st.contains j = false := by
  rcases hc : st.contains j with _ | _
  · rfl
  · obtain ⟨_, oj, hoj, hall⟩ := mem_ready.1 hj
    obtain ⟨e, he, hb, heq⟩ := waits_spec hw (by simpa using hc) hoj
    have h1 := hall e he hb
    have h0 := (mem_ready.1 hr).1
    rw [heq] at h1
    rcases Nat.lt_or_ge i listed.size with h' | h'
    · simp [h'] at h0 h1; rw [h0] at h1; cases h1
    · simp [Array.getElem?_eq_none h'] at h1

theorem wpAnyD_first {i : Nat} {oi : Oper} {v : Value} (hi : ops[i]? = some oi) (hsel : ∀ (j : Nat) (o : Oper) cs b, ops[j]? = some o → o.op ≠ .select cs b)
    (hQ : ∀ c a w, Q (.panic c) (a.put oi.dst v) w → Q (.panic c) a w) (his : st.contains i = false) (hwt : waits md ops st i = true) :
    ∀ (n : Nat) (listed : Array Bool) (a : Act) (w : World),
      (∀ j oj, ops[j]? = some oj → j ≠ i → listed.getD j true = false → (∀ e ∈ oj.after, Region.binds md e = true → e.on ≠ i) → oi.apart ops oj = true) →
      i ∈ Region.ready md ops listed → YC P ops C oi v a → clean st listed = true → C w →
      wpAnyD P md ops C st Q n (listed.setIfInBounds i true) (a.put oi.dst v) w → wpAnyD P md ops C st Q (n + 1) listed a w := by
  intro n
  induction n with
  | zero =>
    intro listed a w _ hr hy hcl hC H
    refine ⟨fun h => (by rw [h] at hr; cases hr), fun j hj => ?_⟩
    by_cases hji : j = i
    · subst hji; exact hy.step hi hC ⟨fun _ => hC, H⟩
    · have := ready_mono hj hji
      rw [H.1] at this
      cases this
  | succ n ih =>
    intro listed a w hfree hr hy hcl hC H
    refine ⟨fun h => (by rw [h] at hr; cases hr), fun j hj => ?_⟩
    by_cases hji : j = i
    · subst hji; exact hy.step hi hC ⟨fun _ => hC, H⟩
    · have h1 := H.2 j (ready_mono hj hji)
      obtain ⟨hjun, oj, hoj, hall⟩ := mem_ready.1 hj
      have hnot : ∀ e ∈ oj.after, Region.binds md e = true → e.on ≠ i := fun e he hb heq => by
        have h1 := hall e he hb
        have h0 := (mem_ready.1 hr).1
        rw [heq] at h1
        rcases Nat.lt_or_ge i listed.size with h' | h'
        · simp [h'] at h0 h1; rw [h0] at h1; cases h1
        · simp [Array.getElem?_eq_none h'] at h1
      have h2 := wpOp_putC hoj (hfree j oj hoj hji hjun hnot) (fun cs b => hsel i oi cs b hi) (fun cs b => hsel j oj cs b hoj) hQ hy h1
      have hfree' : ∀ k ok, ops[k]? = some ok → k ≠ i → (listed.setIfInBounds j true).getD k true = false → (∀ e ∈ ok.after, Region.binds md e = true → e.on ≠ i) → oi.apart ops ok = true := fun k ok hk hki hun hno => by
        refine hfree k ok hk hki ?_ hno
        by_cases hjk : j = k
        · subst hjk; exact hjun
        · rw [getD_set_ne true hjk] at hun; exact hun
      have hjs := not_store hwt hr hj
      have hc1 : clean st (listed.setIfInBounds j true) = true := by rw [clean_set hjs]; exact hcl
      have hc2 : clean st ((listed.setIfInBounds i true).setIfInBounds j true) = true := by rw [clean_set hjs, clean_set his]; exact hcl
      refine wpOp_mono (fun a' w' h3 => ⟨fun _ => h3.2.1 hc2, ih (listed.setIfInBounds j true) a' w' hfree' (ready_mono hr (Ne.symm hji)) h3.1 hc1 (h3.2.1 hc2) ?_⟩) h2
      rw [Array.setIfInBounds_comm _ _ hji]
      exact h3.2.2

theorem wpAnyD_pure {i : Nat} {oi : Oper} {v : Value} (hi : ops[i]? = some oi) (hsel : ∀ (j : Nat) (o : Oper) cs b, ops[j]? = some o → o.op ≠ .select cs b)
    (hQ : ∀ c a w, Q (.panic c) (a.put oi.dst v) w → Q (.panic c) a w) (his : st.contains i = false) :
    ∀ (n : Nat) (listed : Array Bool) (a : Act) (w : World),
      (∀ j oj, ops[j]? = some oj → j ≠ i → listed.getD j true = false → (∀ e ∈ oj.after, Region.binds md e = true → e.on ≠ i) → oi.apart ops oj = true) →
      i ∈ Region.ready md ops listed → YC P ops (fun _ => True) oi v a → (clean st listed = true → C w) →
      wpAnyD P md ops C st Q n (listed.setIfInBounds i true) (a.put oi.dst v) w → wpAnyD P md ops C st Q (n + 1) listed a w := by
  intro n
  induction n with
  | zero =>
    intro listed a w _ hr hy hC H
    refine ⟨fun h => (by rw [h] at hr; cases hr), fun j hj => ?_⟩
    by_cases hji : j = i
    · subst hji; exact hy.step hi trivial ⟨fun h => hC (by rw [clean_set his] at h; exact h), H⟩
    · have := ready_mono hj hji
      rw [H.1] at this
      cases this
  | succ n ih =>
    intro listed a w hfree hr hy hC H
    refine ⟨fun h => (by rw [h] at hr; cases hr), fun j hj => ?_⟩
    by_cases hji : j = i
    · subst hji; exact hy.step hi trivial ⟨fun h => hC (by rw [clean_set his] at h; exact h), H⟩
    · have h1 := H.2 j (ready_mono hj hji)
      obtain ⟨hjun, oj, hoj, hall⟩ := mem_ready.1 hj
      have hnot : ∀ e ∈ oj.after, Region.binds md e = true → e.on ≠ i := fun e he hb heq => by
        have h1 := hall e he hb
        have h0 := (mem_ready.1 hr).1
        rw [heq] at h1
        rcases Nat.lt_or_ge i listed.size with h' | h'
        · simp [h'] at h0 h1; rw [h0] at h1; cases h1
        · simp [Array.getElem?_eq_none h'] at h1
      have h2 := wpOp_putC hoj (hfree j oj hoj hji hjun hnot) (fun cs b => hsel i oi cs b hi) (fun cs b => hsel j oj cs b hoj) hQ hy h1
      have hfree' : ∀ k ok, ops[k]? = some ok → k ≠ i → (listed.setIfInBounds j true).getD k true = false → (∀ e ∈ ok.after, Region.binds md e = true → e.on ≠ i) → oi.apart ops ok = true := fun k ok hk hki hun hno => by
        refine hfree k ok hk hki ?_ hno
        by_cases hjk : j = k
        · subst hjk; exact hjun
        · rw [getD_set_ne true hjk] at hun; exact hun
      have hc : clean st ((listed.setIfInBounds i true).setIfInBounds j true) = clean st (listed.setIfInBounds j true) := by
        rw [Array.setIfInBounds_comm _ _ (Ne.symm hji), clean_set his]
      refine wpOp_mono (fun a' w' h3 => ⟨fun h => h3.2.1 (by rw [hc]; exact h), ih (listed.setIfInBounds j true) a' w' hfree' (ready_mono hr (Ne.symm hji)) h3.1 (fun h => h3.2.1 (by rw [hc]; exact h)) ?_⟩) h2
      rw [Array.setIfInBounds_comm _ _ hji]
      exact h3.2.2

/-- A region's state, behind a structure (so that nothing runs down it). -/
structure RD (P : Program) (md : Region.Mode) (ops : Array Oper) (C : World → Prop) (st : List Nat) (Q : Exit → Act → World → Prop) (n : Nat) (listed : Array Bool) (a : Act) (w : World) : Prop where
  out : wpAnyD P md ops C st Q n listed a w

/-- An operation that reads memory, ahead of every store. -/
theorem RD.take {i : Nat} {oi : Oper} {v : Value} {n : Nat} {listed : Array Bool} {a : Act} {w : World} (hi : ops[i]? = some oi) (hs : Region.noSelect ops = true) (hf : Region.free md ops listed i = true) (hr : (Region.ready md ops listed).contains i = true)
    (hd : (!st.contains i && waits md ops st i && clean st listed) = true)
    (hQ : ∀ c a w, Q (.panic c) (a.put oi.dst v) w → Q (.panic c) a w) (hC : C w) (hw : Region.wanted oi (yielded ops a.tmps) = true) (hy : ∀ w, C w → (execOp a.eval oi).run P w = .ok (.value v) w)
    (h : RD P md ops C st Q n (listed.setIfInBounds i true) (a.put oi.dst v) w) : RD P md ops C st Q (n + 1) listed a w := by
  rw [Bool.and_eq_true, Bool.and_eq_true, Bool.not_eq_true'] at hd
  exact ⟨wpAnyD_first hi (Region.noSelect_spec hs) hQ hd.1.1 hd.1.2 n listed a w (Region.free_spec hi hf) (by simpa using hr) (.inl ⟨hw, hy⟩) hd.2 hC h.out⟩

/-- An operation that reads no memory. -/
theorem RD.pure {i : Nat} {oi : Oper} {v : Value} {n : Nat} {listed : Array Bool} {a : Act} {w : World} (hi : ops[i]? = some oi) (hs : Region.noSelect ops = true) (hf : Region.free md ops listed i = true) (hr : (Region.ready md ops listed).contains i = true)
    (hd : st.contains i = false)
    (hQ : ∀ c a w, Q (.panic c) (a.put oi.dst v) w → Q (.panic c) a w) (hC : clean st listed = true → C w) (hw : Region.wanted oi (yielded ops a.tmps) = true) (hy : ∀ w, (execOp a.eval oi).run P w = .ok (.value v) w)
    (h : RD P md ops C st Q n (listed.setIfInBounds i true) (a.put oi.dst v) w) : RD P md ops C st Q (n + 1) listed a w :=
  ⟨wpAnyD_pure hi (Region.noSelect_spec hs) hQ hd n listed a w (Region.free_spec hi hf) (by simpa using hr) (.inl ⟨hw, fun w _ => hy w⟩) hC h.out⟩

/-- An operation that a guard leaves out. -/
theorem RD.skip {i : Nat} {oi : Oper} {n : Nat} {listed : Array Bool} {a : Act} {w : World} (hi : ops[i]? = some oi) (hs : Region.noSelect ops = true) (hf : Region.free md ops listed i = true) (hr : (Region.ready md ops listed).contains i = true)
    (hd : st.contains i = false)
    (hQ : ∀ c a w, Q (.panic c) (a.put oi.dst undef) w → Q (.panic c) a w) (hC : clean st listed = true → C w) (hw : Region.wanted oi (yielded ops a.tmps) = false)
    (h : RD P md ops C st Q n (listed.setIfInBounds i true) (a.put oi.dst undef) w) : RD P md ops C st Q (n + 1) listed a w :=
  ⟨wpAnyD_pure hi (Region.noSelect_spec hs) hQ hd n listed a w (Region.free_spec hi hf) (by simpa using hr) (.inr ⟨hw, rfl⟩) hC h.out⟩

theorem RD.one {i : Nat} {o : Oper} {n : Nat} {listed : Array Bool} {a : Act} {w : World} (hr : Region.ready md ops listed = [i]) (ho : ops[i]? = some o)
    (h : ∀ K' : Act → World → Prop, (∀ a w, (clean st (listed.setIfInBounds i true) = true → C w) → RD P md ops C st Q n (listed.setIfInBounds i true) a w → K' a w) → if Region.wanted o (yielded ops a.tmps) = true then Oper.wp P o a w K' Q else K' (a.put o.dst undef) w) : RD P md ops C st Q (n + 1) listed a w := by
  refine ⟨⟨fun h0 => absurd (hr.symm.trans h0) (by simp), fun j hj => ?_⟩⟩
  rw [hr] at hj
  obtain rfl : j = i := by simpa using hj
  exact wpOp_step ho fun K' hK => h K' fun a w h1 h2 => hK a w ⟨h1, h2.out⟩

theorem RD.two {i k : Nat} {o p : Oper} {n : Nat} {listed : Array Bool} {a : Act} {w : World} (hr : Region.ready md ops listed = [i, k]) (ho : ops[i]? = some o) (hp : ops[k]? = some p)
    (h : ∀ K' : Act → World → Prop, (∀ a w, (clean st (listed.setIfInBounds i true) = true → C w) → RD P md ops C st Q n (listed.setIfInBounds i true) a w → K' a w) → if Region.wanted o (yielded ops a.tmps) = true then Oper.wp P o a w K' Q else K' (a.put o.dst undef) w)
    (h' : ∀ K' : Act → World → Prop, (∀ a w, (clean st (listed.setIfInBounds k true) = true → C w) → RD P md ops C st Q n (listed.setIfInBounds k true) a w → K' a w) → if Region.wanted p (yielded ops a.tmps) = true then Oper.wp P p a w K' Q else K' (a.put p.dst undef) w) : RD P md ops C st Q (n + 1) listed a w := by
  refine ⟨⟨fun h0 => absurd (hr.symm.trans h0) (by simp), fun j hj => ?_⟩⟩
  rw [hr] at hj
  have hj' : j = i ∨ j = k := by simpa using hj
  rcases hj' with rfl | rfl
  · exact wpOp_step ho fun K' hK => h K' fun a w h1 h2 => hK a w ⟨h1, h2.out⟩
  · exact wpOp_step hp fun K' hK => h' K' fun a w h1 h2 => hK a w ⟨h1, h2.out⟩

theorem RD.want {i : Nat} {o : Oper} {n : Nat} {listed : Array Bool} {a : Act} {w : World} (hr : Region.ready md ops listed = [i]) (ho : ops[i]? = some o) (hw : Region.wanted o (yielded ops a.tmps) = true)
    (h : ∀ K' : Act → World → Prop, (∀ a w, (clean st (listed.setIfInBounds i true) = true → C w) → RD P md ops C st Q n (listed.setIfInBounds i true) a w → K' a w) → Oper.wp P o a w K' Q) : RD P md ops C st Q (n + 1) listed a w :=
  RD.one hr ho fun K' hK => by rw [if_pos hw]; exact h K' hK

theorem RD.done {listed : Array Bool} {a : Act} {w : World} (hr : Region.ready md ops listed = []) (h : Q .normal a w) : RD P md ops C st Q 0 listed a w := ⟨⟨hr, h⟩⟩

theorem wp_region_RD (C : World → Prop) (st : List Nat) {id : Nat} {a : Act} {w : World} (hm : P.follows .mixedOrders = true) (h : RD P .any ops C st Q ops.size (Array.replicate ops.size false) a w.drew) : (Code.region id ops true).wp P Q a w :=
  wp_region_any hm (wpAny_of_D _ _ _ _ h.out)
end

/-- A fact hidden from the walk, as it is stated. -/
theorem hid {p : Prop} (h : p) : Hid p := h
theorem not_clean {st : List Nat} {listed : Array Bool} {C : Prop} (h : clean st listed = false) : clean st listed = true → C := fun h1 => by rw [h] at h1; cases h1

/-- A block of its own, cell by cell, that may be stored into. -/
def BoxAt (b : Nat) (cs : Array Value) (t : TypeId) (W : World) : Prop := W.heap[b]? = some (.cells cs t (0, 0))
theorem BoxAt.new (W : World) (cs : Array Value) (t : TypeId) : BoxAt W.heap.size cs t (W.alloc (.cells cs t)) := heap_alloc_new W _
theorem BoxAt.lt {b : Nat} {cs : Array Value} {t : TypeId} {W : World} (h : BoxAt b cs t W) : b < W.heap.size := (Array.getElem?_eq_some_iff.1 h).1
theorem BoxAt.cell {b : Nat} {cs : Array Value} {t : TypeId} {W : World} (h : BoxAt b cs t W) (i : Nat) : W.cell? ⟨b, i, none⟩ = cs[i]? := cell_of_row W b i cs t (0, 0) h
theorem BoxAt.soft {b : Nat} {cs : Array Value} {t : TypeId} {W : World} (h : BoxAt b cs t W) (i : Nat) : W.frozen? ⟨b, i, none⟩ = false := frozen_of_row W b i cs t h
theorem BoxAt.kept {b : Nat} {cs : Array Value} {t : TypeId} {W W' : World} (h : BoxAt b cs t W) (hb : W'.heap[b]? = W.heap[b]?) : BoxAt b cs t W' := hb.trans h
theorem BoxAt.later {b m : Nat} {cs : Array Value} {t : TypeId} {W W' : World} (h : BoxAt b cs t W) (hb : Below m W W') (hm : b < m) : BoxAt b cs t W' := (hb.block b hm).trans h
theorem BoxAt.next {b : Nat} {cs : Array Value} {t : TypeId} {W W' : World} (h : BoxAt b cs t W) (hb : Below W.heap.size W W') : BoxAt b cs t W' := h.later hb h.lt
theorem BoxAt.set {b : Nat} {cs : Array Value} {t : TypeId} {W : World} (h : BoxAt b cs t W) (i : Nat) (v : Value) : BoxAt b (cs.setIfInBounds i v) t (W.setCell ⟨b, i, none⟩ v) := heap_setCell_same W b i cs t v h
theorem BoxAt.other {b g : Nat} {cs : Array Value} {t : TypeId} {W : World} (h : BoxAt b cs t W) (hg : b ≠ g) (i : Nat) (v : Value) : BoxAt b cs t (W.setCell ⟨g, i, none⟩ v) := (Below.heap_setCell W ⟨g, i, none⟩ v b hg).trans h
theorem wp_cutR {P : Program} {c : Code} {Q : Exit → Act → World → Prop} {a : Act} {w : World} (R : Act → Act → World → Prop) (h : c.wp P (Exit.then (R a) (fun _ _ _ => False)) a w) (h' : ∀ a' w', R a a' w' → Q .normal a' w') : c.wp P Q a w :=
  Code.wp_mono (fun e a w q => by cases e <;> first | exact h' _ _ q | exact q.elim) h

/-- What is read on the way: cells that hold what they hold. -/
def CL : List (Addr × Value) → World → Prop
  | [], _ => True
  | p :: l, W => W.cell? p.1 = some p.2 ∧ CL l W
def CLlt (m : Nat) : List (Addr × Value) → Prop
  | [] => True
  | p :: l => p.1.block < m ∧ CLlt m l
theorem CL.kept : ∀ {l : List (Addr × Value)} {W W' : World}, CL l W → (∀ p ∈ l, W'.heap[p.1.block]? = W.heap[p.1.block]?) → CL l W'
  | [], _, _, _, _ => trivial
  | p :: _, W, _, h, hb => ⟨(World.cell?_of_block (w := W) (hb p (by simp))).trans h.1, CL.kept h.2 fun q hq => hb q (by simp [hq])⟩
theorem CLlt.mem {m : Nat} : ∀ {l : List (Addr × Value)}, CLlt m l → ∀ p ∈ l, p.1.block < m
  | [], _, _, h => by cases h
  | _ :: _, h, _, hp => by
    rcases List.mem_cons.1 hp with rfl | h1
    · exact h.1
    · exact CLlt.mem h.2 _ h1
theorem CLlt.mono {m m' : Nat} : ∀ {l : List (Addr × Value)}, CLlt m l → m ≤ m' → CLlt m' l
  | [], _, _ => trivial
  | _ :: _, h, hm => ⟨Nat.lt_of_lt_of_le h.1 hm, h.2.mono hm⟩
theorem CL.put {l : List (Addr × Value)} {W : World} {m b : Nat} (h : CL l W) (hl : CLlt m l) (hm : m ≤ b) (i : Nat) (v : Value) : CL l (W.setCell ⟨b, i, none⟩ v) :=
  h.kept fun p hp => Below.heap_setCell W ⟨b, i, none⟩ v _ (by have := hl.mem p hp; show p.1.block ≠ b; omega)
theorem CL.later {l : List (Addr × Value)} {W W' : World} {m : Nat} (h : CL l W) (hb : Below m W W') (hl : CLlt m l) : CL l W' := h.kept fun p hp => hb.block _ (hl.mem p hp)

end Go.Proofs.Ytpjacfnjjkoikaa
