/- DERIVED. impl.planNextThing: its walk (written by wip/tools/mk_nwn.py). -/
import Derived.Test.YtohgkiljdehefaaGreatGNb
import Derived.Test.YtohgkiljdehefaaGreatPQ0
namespace Go.Proofs.YtohgkiljdehefaaGreat
open Go.RowKit
set_option linter.unusedSimpArgs false
set_option linter.unusedVariables false

def zt : Thing := (⟨#[]⟩, 0)
noncomputable def nextV (A B : List DChange) : Thing := (nextT A B).getD zt

set_option maxRecDepth 100000 in
set_option maxHeartbeats 2000000 in
theorem iNext_none (ao bo : Option Addr) (ca cb : Nat) (w : World) :
    Calls Tryz.prog 43 #[.agg #[.slice ao 0 ca], .agg #[.slice bo 0 cb]] w fun e w' => e = .returned (.tuple #[.agg #[.string ⟨#[]⟩, .int .i64 0], .bool false]) ∧ Below w.heap.size w w' := by
  go_enter Tryz.func43, Tryz.ntmps43
  go_wp2_with fail
  refine bodyPost_ret (v := .tuple #[.agg #[.string ⟨#[]⟩, .int .i64 0], .bool false]) (by simp [results, Tryz.results43, go_sem]) rfl ⟨rfl, ?_⟩
  exact (((Below.refl _ _).alloc (Nat.le_refl _) _).alloc (by simp) _).alloc (by simp; omega) _

set_option maxRecDepth 100000 in
set_option maxHeartbeats 2000000 in
theorem iNext_left (c : DChange) (g off n ca cb : Nat) (bo : Option Addr) (w : World) (hgw : g < w.heap.size) (c0 : w.cell? ⟨g, off, none⟩ = some (.string c.1)) (c1 : w.cell? ⟨g, off + 1, none⟩ = some (.int .i64 c.2.1)) (c2 : w.cell? ⟨g, off + 2, none⟩ = some (.int .i64 c.2.2.1)) (c3 : w.cell? ⟨g, off + 3, none⟩ = some (.string c.2.2.2)) (hn : n + 1 ≤ maxLen) :
    Calls Tryz.prog 43 #[.agg #[.slice (some ⟨g, off, none⟩) (n + 1) ca], .agg #[.slice bo 0 cb]] w fun e w' => e = .returned (.tuple #[.agg #[.string c.1, .int .i64 c.2.1], .bool true]) ∧ Below w.heap.size w w' := by
  unfold maxLen at hn
  have hnz : (((n + 1 : Nat) : Int) == 0) = false := by simp; omega
  have hg1 : g < w.heap.size + 1 := by omega
  have hg2 : g < w.heap.size + 1 + 1 := by omega
  have hne : ¬ w.heap.size + 1 + 1 < w.heap.size := by omega
  go_enter Tryz.func43, Tryz.ntmps43
  go_wp2_with fail
  refine (iThing c _).mono ?_
  rintro e w1 ⟨rfl, hb1⟩
  have hB0 : Below w.heap.size w (((w.alloc (.cells #[.slice (some ⟨g, off, none⟩) (n + 1) ca] 84)).alloc (.cells #[.slice bo 0 cb] 84)).alloc (.cells #[.string ⟨#[]⟩, .int .i64 0] 86)) := (((Below.refl _ _).alloc (Nat.le_refl _) _).alloc (by simp) _).alloc (by simp; omega) _
  have hB := hB0.trans (hb1.mono (by simp; omega))
  have hT : w1.heap[w.heap.size + 1 + 1]? = some (.cells #[.string ⟨#[]⟩, .int .i64 0] 86 (0, 0)) := by
    rw [hb1.block _ (by simp)]
    have := heap_alloc_new ((w.alloc (.cells #[.slice (some ⟨g, off, none⟩) (n + 1) ca] 84)).alloc (.cells #[.slice bo 0 cb] 84)) (.cells #[.string ⟨#[]⟩, .int .i64 0] 86)
    simp only [World.size_alloc] at this
    exact this
  have hz : w.heap.size + 1 + 1 < w1.heap.size := (Array.getElem?_eq_some_iff.1 hT).1
  have z0 := cell_of_heapN hT 0
  have z1 := cell_of_heapN hT 1
  have f0 := free_of_heapN hT 0
  have f1 := free_of_heapN hT 1
  simp at z0 z1
  clear hb1 hB0 hT
  go_wp2
  refine bodyPost_ret (v := .tuple #[.agg #[.string c.1, .int .i64 c.2.1], .bool true]) (by simp [results, Tryz.results43, go_sem, z0, z1, hz]) rfl ⟨rfl, ?_⟩
  exact (hB.setCell (p := ⟨w.heap.size + 1 + 1, 0, none⟩) (by simp; omega) _).setCell (p := ⟨w.heap.size + 1 + 1, 1, none⟩) (by simp; omega) _

set_option maxRecDepth 100000 in
set_option maxHeartbeats 2000000 in
theorem iNext_right (c : DChange) (g off n ca cb : Nat) (bo : Option Addr) (w : World) (hgw : g < w.heap.size) (c0 : w.cell? ⟨g, off, none⟩ = some (.string c.1)) (c1 : w.cell? ⟨g, off + 1, none⟩ = some (.int .i64 c.2.1)) (c2 : w.cell? ⟨g, off + 2, none⟩ = some (.int .i64 c.2.2.1)) (c3 : w.cell? ⟨g, off + 3, none⟩ = some (.string c.2.2.2)) (hn : n + 1 ≤ maxLen) :
    Calls Tryz.prog 43 #[.agg #[.slice bo 0 cb], .agg #[.slice (some ⟨g, off, none⟩) (n + 1) ca]] w fun e w' => e = .returned (.tuple #[.agg #[.string c.1, .int .i64 c.2.1], .bool true]) ∧ Below w.heap.size w w' := by
  unfold maxLen at hn
  have hnz : (((n + 1 : Nat) : Int) == 0) = false := by simp; omega
  have hg1 : g < w.heap.size + 1 := by omega
  have hg2 : g < w.heap.size + 1 + 1 := by omega
  have hne : ¬ w.heap.size + 1 + 1 < w.heap.size := by omega
  go_enter Tryz.func43, Tryz.ntmps43
  go_wp2_with fail
  refine (iThing c _).mono ?_
  rintro e w1 ⟨rfl, hb1⟩
  have hB0 : Below w.heap.size w (((w.alloc (.cells #[.slice bo 0 cb] 84)).alloc (.cells #[.slice (some ⟨g, off, none⟩) (n + 1) ca] 84)).alloc (.cells #[.string ⟨#[]⟩, .int .i64 0] 86)) := (((Below.refl _ _).alloc (Nat.le_refl _) _).alloc (by simp) _).alloc (by simp; omega) _
  have hB := hB0.trans (hb1.mono (by simp; omega))
  have hT : w1.heap[w.heap.size + 1 + 1]? = some (.cells #[.string ⟨#[]⟩, .int .i64 0] 86 (0, 0)) := by
    rw [hb1.block _ (by simp)]
    have := heap_alloc_new ((w.alloc (.cells #[.slice bo 0 cb] 84)).alloc (.cells #[.slice (some ⟨g, off, none⟩) (n + 1) ca] 84)) (.cells #[.string ⟨#[]⟩, .int .i64 0] 86)
    simp only [World.size_alloc] at this
    exact this
  have hz : w.heap.size + 1 + 1 < w1.heap.size := (Array.getElem?_eq_some_iff.1 hT).1
  have z0 := cell_of_heapN hT 0
  have z1 := cell_of_heapN hT 1
  have f0 := free_of_heapN hT 0
  have f1 := free_of_heapN hT 1
  simp at z0 z1
  clear hb1 hB0 hT
  go_wp2
  refine bodyPost_ret (v := .tuple #[.agg #[.string c.1, .int .i64 c.2.1], .bool true]) (by simp [results, Tryz.results43, go_sem, z0, z1, hz]) rfl ⟨rfl, ?_⟩
  exact (hB.setCell (p := ⟨w.heap.size + 1 + 1, 0, none⟩) (by simp; omega) _).setCell (p := ⟨w.heap.size + 1 + 1, 1, none⟩) (by simp; omega) _

theorem wp_cut {P : Program} {c : Code} {Q : Exit → Act → World → Prop} {a : Act} {w : World} (R : Act → World → Prop) (h : c.wp P (Exit.then R (fun _ _ _ => False)) a w) (h' : ∀ a w, R a w → Q .normal a w) : c.wp P Q a w :=
  Code.wp_mono (fun e a w q => by cases e <;> first | exact h' _ _ q | exact q.elim) h
theorem heap_set_same (w : World) (p i : Nat) (cs : Array Value) (t : TypeId) (v : Value) (h : w.heap[p]? = some (.cells cs t (0, 0))) : (w.setCell ⟨p, i, none⟩ v).heap[p]? = some (.cells (cs.setIfInBounds i v) t (0, 0)) := by
  obtain ⟨hlt, hk⟩ := Array.getElem?_eq_some_iff.1 h
  show (w.heap.modify p _)[p]? = _
  rw [Array.getElem?_eq_getElem (by rw [Array.size_modify]; exact hlt), Array.getElem_modify_self, hk]
  rfl
def putT (w : World) (p : Nat) (v0 v1 : Value) : World := (w.setCell ⟨p, 0, none⟩ v0).setCell ⟨p, 1, none⟩ v1
theorem putT_below {n p : Nat} {w0 w : World} (h : Below n w0 w) (hp : n ≤ p) (v0 v1 : Value) : Below n w0 (putT w p v0 v1) := (h.setCell (p := ⟨p, 0, none⟩) hp v0).setCell (p := ⟨p, 1, none⟩) hp v1
theorem putT_other (w : World) (p : Nat) (v0 v1 : Value) (k : Nat) (hk : k ≠ p) : (putT w p v0 v1).heap[k]? = w.heap[k]? := (Below.heap_setCell _ ⟨p, 1, none⟩ v1 k hk).trans (Below.heap_setCell w ⟨p, 0, none⟩ v0 k hk)
theorem putT_same {w : World} {p : Nat} {t : TypeId} {c0 c1 : Value} (h : w.heap[p]? = some (.cells #[c0, c1] t (0, 0))) (v0 v1 : Value) : (putT w p v0 v1).heap[p]? = some (.cells #[v0, v1] t (0, 0)) := by
  refine Eq.trans (heap_set_same _ p 1 _ t v1 (heap_set_same w p 0 _ t v0 h)) ?_
  simp
theorem RC.three {P : Program} {ops : Array Oper} {md : Region.Mode} {Q : Exit → Act → World → Prop} {C : World → Prop} {i k m : Nat} {o p q : Oper} {n : Nat} {listed : Array Bool} {a : Act} {w : World} (hr : Region.ready md ops listed = [i, k, m]) (ho : ops[i]? = some o) (hp : ops[k]? = some p) (hq : ops[m]? = some q)
    (h : ∀ K' : Act → World → Prop, (∀ a w, C w → RC P md ops C Q n (listed.setIfInBounds i true) a w → K' a w) → if Region.wanted o (yielded ops a.tmps) = true then Oper.wp P o a w K' Q else K' (a.put o.dst undef) w)
    (h' : ∀ K' : Act → World → Prop, (∀ a w, C w → RC P md ops C Q n (listed.setIfInBounds k true) a w → K' a w) → if Region.wanted p (yielded ops a.tmps) = true then Oper.wp P p a w K' Q else K' (a.put p.dst undef) w)
    (h'' : ∀ K' : Act → World → Prop, (∀ a w, C w → RC P md ops C Q n (listed.setIfInBounds m true) a w → K' a w) → if Region.wanted q (yielded ops a.tmps) = true then Oper.wp P q a w K' Q else K' (a.put q.dst undef) w) : RC P md ops C Q (n + 1) listed a w := by
  refine ⟨⟨fun h0 => absurd (hr.symm.trans h0) (by simp), fun j hj => ?_⟩⟩
  rw [hr] at hj
  have hj' : j = i ∨ j = k ∨ j = m := by simpa using hj
  rcases hj' with rfl | rfl | rfl
  · exact wpOp_step ho fun K' hK => h K' fun a w h1 h2 => hK a w ⟨h1, h2.out⟩
  · exact wpOp_step hp fun K' hK => h' K' fun a w h1 h2 => hK a w ⟨h1, h2.out⟩
  · exact wpOp_step hq fun K' hK => h'' K' fun a w h1 h2 => hK a w ⟨h1, h2.out⟩

/-- What the two boxes and the two lists' first changes hold. -/
def NxC (B g1 o1 g2 o2 : Nat) (s1 s2 : Value) (a b : DChange) (w : World) : Prop := (B + 3 ≤ w.heap.size ∧ g1 < B ∧ g2 < B) ∧ w.cell? ⟨B, 0, none⟩ = some s1 ∧ w.cell? ⟨B + 1, 0, none⟩ = some s2 ∧ (w.cell? ⟨g1, o1, none⟩ = some (.string a.1) ∧ w.cell? ⟨g1, o1 + 1, none⟩ = some (.int .i64 a.2.1) ∧ w.cell? ⟨g1, o1 + 2, none⟩ = some (.int .i64 a.2.2.1) ∧ w.cell? ⟨g1, o1 + 3, none⟩ = some (.string a.2.2.2)) ∧ w.cell? ⟨g2, o2, none⟩ = some (.string b.1) ∧ w.cell? ⟨g2, o2 + 1, none⟩ = some (.int .i64 b.2.1) ∧ w.cell? ⟨g2, o2 + 2, none⟩ = some (.int .i64 b.2.2.1) ∧ w.cell? ⟨g2, o2 + 3, none⟩ = some (.string b.2.2.2)
theorem NxC.later {B g1 o1 g2 o2 : Nat} {s1 s2 : Value} {a b : DChange} {w w' : World} (h : NxC B g1 o1 g2 o2 s1 s2 a b w) (hb : Below (B + 3) w w') : NxC B g1 o1 g2 o2 s1 s2 a b w' := by
  obtain ⟨⟨h1, h2, h3⟩, h4, h5, ⟨h6, h7, h8, h9⟩, k6, k7, k8, k9⟩ := h
  have e := fun (x y : Nat) (hx : x < B + 3) => World.cell?_of_block (w := w) (w' := w') (a := ⟨x, y, none⟩) (hb.block x hx)
  exact ⟨⟨Nat.le_trans h1 hb.size, h2, h3⟩, (e _ _ (by omega)).trans h4, (e _ _ (by omega)).trans h5, ⟨(e _ _ (by omega)).trans h6, (e _ _ (by omega)).trans h7, (e _ _ (by omega)).trans h8, (e _ _ (by omega)).trans h9⟩, (e _ _ (by omega)).trans k6, (e _ _ (by omega)).trans k7, (e _ _ (by omega)).trans k8, (e _ _ (by omega)).trans k9⟩

set_option maxRecDepth 100000 in
set_option maxHeartbeats 2000000 in
theorem iNext_both (a b : DChange) (g1 o1 n1 ca g2 o2 n2 cb : Nat) (w : World) (hg1 : g1 < w.heap.size) (hg2 : g2 < w.heap.size) (c0 : w.cell? ⟨g1, o1, none⟩ = some (.string a.1)) (c1 : w.cell? ⟨g1, o1 + 1, none⟩ = some (.int .i64 a.2.1)) (c2 : w.cell? ⟨g1, o1 + 2, none⟩ = some (.int .i64 a.2.2.1)) (c3 : w.cell? ⟨g1, o1 + 3, none⟩ = some (.string a.2.2.2)) (d0 : w.cell? ⟨g2, o2, none⟩ = some (.string b.1)) (d1 : w.cell? ⟨g2, o2 + 1, none⟩ = some (.int .i64 b.2.1)) (d2 : w.cell? ⟨g2, o2 + 2, none⟩ = some (.int .i64 b.2.2.1)) (d3 : w.cell? ⟨g2, o2 + 3, none⟩ = some (.string b.2.2.2)) (hn1 : n1 + 1 ≤ maxLen) (hn2 : n2 + 1 ≤ maxLen) (t : Thing) (ht : Hid (t = if cmpT (th a) (th b) ≤ 0 then th a else th b)) :
    Calls Tryz.prog 43 #[.agg #[.slice (some ⟨g1, o1, none⟩) (n1 + 1) ca], .agg #[.slice (some ⟨g2, o2, none⟩) (n2 + 1) cb]] w fun e w' => e = .returned (.tuple #[.agg #[.string t.1, .int .i64 t.2], .bool true]) ∧ Below w.heap.size w w' := by
  unfold maxLen at hn1 hn2
  have hnz1 : (((n1 + 1 : Nat) : Int) == 0) = false := by simp; omega
  have hnz2 : (((n2 + 1 : Nat) : Int) == 0) = false := by simp; omega
  go_enter Tryz.func43, Tryz.ntmps43
  go_wp2_with fail
  have hB3 : Below w.heap.size w (((w.alloc (.cells #[.slice (some ⟨g1, o1, none⟩) (n1 + 1) ca] 84)).alloc (.cells #[.slice (some ⟨g2, o2, none⟩) (n2 + 1) cb] 84)).alloc (.cells #[.string ⟨#[]⟩, .int .i64 0] 86)) := (((Below.refl _ _).alloc (Nat.le_refl _) _).alloc (by simp) _).alloc (by simp; omega) _
  have hX1 : (((w.alloc (.cells #[.slice (some ⟨g1, o1, none⟩) (n1 + 1) ca] 84)).alloc (.cells #[.slice (some ⟨g2, o2, none⟩) (n2 + 1) cb] 84)).alloc (.cells #[.string ⟨#[]⟩, .int .i64 0] 86)).heap[w.heap.size]? = some (.cells #[.slice (some ⟨g1, o1, none⟩) (n1 + 1) ca] 84 (0, 0)) := by
    rw [Below.heap_alloc _ _ _ (by simp; omega), Below.heap_alloc _ _ _ (by simp)]
    exact heap_alloc_new w _
  have hX2 : (((w.alloc (.cells #[.slice (some ⟨g1, o1, none⟩) (n1 + 1) ca] 84)).alloc (.cells #[.slice (some ⟨g2, o2, none⟩) (n2 + 1) cb] 84)).alloc (.cells #[.string ⟨#[]⟩, .int .i64 0] 86)).heap[w.heap.size + 1]? = some (.cells #[.slice (some ⟨g2, o2, none⟩) (n2 + 1) cb] 84 (0, 0)) := by
    rw [Below.heap_alloc _ _ _ (by simp)]
    have := heap_alloc_new (w.alloc (.cells #[.slice (some ⟨g1, o1, none⟩) (n1 + 1) ca] 84)) (.cells #[.slice (some ⟨g2, o2, none⟩) (n2 + 1) cb] 84)
    rwa [World.size_alloc] at this
  have hX3 : (((w.alloc (.cells #[.slice (some ⟨g1, o1, none⟩) (n1 + 1) ca] 84)).alloc (.cells #[.slice (some ⟨g2, o2, none⟩) (n2 + 1) cb] 84)).alloc (.cells #[.string ⟨#[]⟩, .int .i64 0] 86)).heap[w.heap.size + 1 + 1]? = some (.cells #[.string ⟨#[]⟩, .int .i64 0] 86 (0, 0)) := by
    have := heap_alloc_new ((w.alloc (.cells #[.slice (some ⟨g1, o1, none⟩) (n1 + 1) ca] 84)).alloc (.cells #[.slice (some ⟨g2, o2, none⟩) (n2 + 1) cb] 84)) (.cells #[.string ⟨#[]⟩, .int .i64 0] 86)
    simp only [World.size_alloc] at this
    exact this
  have hz3 : (((w.alloc (.cells #[.slice (some ⟨g1, o1, none⟩) (n1 + 1) ca] 84)).alloc (.cells #[.slice (some ⟨g2, o2, none⟩) (n2 + 1) cb] 84)).alloc (.cells #[.string ⟨#[]⟩, .int .i64 0] 86)).heap.size = w.heap.size + 3 := by simp
  generalize (((w.alloc (.cells #[.slice (some ⟨g1, o1, none⟩) (n1 + 1) ca] 84)).alloc (.cells #[.slice (some ⟨g2, o2, none⟩) (n2 + 1) cb] 84)).alloc (.cells #[.string ⟨#[]⟩, .int .i64 0] 86)) = W00 at *
  have y0 := cell_of_heapN hX1 0
  have y1 := cell_of_heapN hX2 0
  simp at y0 y1
  have HC0 : NxC w.heap.size g1 o1 g2 o2 (.slice (some ⟨g1, o1, none⟩) (n1 + 1) ca) (.slice (some ⟨g2, o2, none⟩) (n2 + 1) cb) a b W00.drew := by
    have e := fun (x y : Nat) (hx : x < w.heap.size) => hB3.cell (p := ⟨x, y, none⟩) hx
    exact ⟨⟨by simp; omega, hg1, hg2⟩, y0, y1, ⟨(e _ _ hg1).trans c0, (e _ _ hg1).trans c1, (e _ _ hg1).trans c2, (e _ _ hg1).trans c3⟩, (e _ _ hg2).trans d0, (e _ _ hg2).trans d1, (e _ _ hg2).trans d2, (e _ _ hg2).trans d3⟩
  have HB0 : Below (w.heap.size + 3) W00 W00.drew := (Below.refl _ _).drew
  clear y0 y1 c0 c1 c2 c3 d0 d1 d2 d3 hg1 hg2 hX1 hX2
  refine wp_cut (fun a' W' => ∃ b6 b7, a' = { tmps := #[.agg #[.slice (some ⟨g1, o1, none⟩) (n1 + 1) ca], .agg #[.slice (some ⟨g2, o2, none⟩) (n2 + 1) cb], .pointer (some ⟨w.heap.size, 0, none⟩), .pointer (some ⟨w.heap.size + 1, 0, none⟩), .pointer (some ⟨w.heap.size + 1 + 1, 0, none⟩), .bool false, .pointer (some ⟨b6, 0, none⟩), .pointer (some ⟨b7, 0, none⟩), .bool false, .pointer (some ⟨w.heap.size, 0, none⟩), .slice (some ⟨g1, o1, none⟩) (n1 + 1) ca, .int .i64 ((n1 : Int) + 1), .bool (((n1 : Int) + 1) == 0), .bool (((n1 : Int) + 1) == 0), undef, undef, undef, undef, .bool false, undef, .bool (((n2 : Int) + 1) == 0), .pointer (some ⟨w.heap.size + 1, 0, none⟩), .slice (some ⟨g2, o2, none⟩) (n2 + 1) cb, .int .i64 ((n2 : Int) + 1), .bool (((n2 : Int) + 1) == 0), undef, undef, undef, undef, undef, .bool (((n1 : Int) + 1) == 0), .pointer (some ⟨w.heap.size, 0, none⟩), .slice (some ⟨g1, o1, none⟩) (n1 + 1) ca, .int .i64 ((n1 : Int) + 1), .bool (((n1 : Int) + 1) == 0), undef, undef, undef, undef, undef, .pointer (some ⟨w.heap.size, 0, none⟩), .slice (some ⟨g1, o1, none⟩) (n1 + 1) ca, .pointer (some ⟨g1, o1, none⟩), .agg #[.string a.1, .int .i64 a.2.1, .int .i64 a.2.2.1, .string a.2.2.2], .agg #[.string a.1, .int .i64 a.2.1], .pointer (some ⟨w.heap.size + 1, 0, none⟩), .slice (some ⟨g2, o2, none⟩) (n2 + 1) cb, .pointer (some ⟨g2, o2, none⟩), .agg #[.string b.1, .int .i64 b.2.1, .int .i64 b.2.2.1, .string b.2.2.2], .agg #[.string b.1, .int .i64 b.2.1], undef, undef, undef, undef, undef, undef], defers := [] } ∧ W'.heap[b6]? = some (.cells #[.string a.1, .int .i64 a.2.1] 86 (0, 0)) ∧ W'.heap[b7]? = some (.cells #[.string b.1, .int .i64 b.2.1] 86 (0, 0)) ∧ b6 ≠ b7 ∧ Below (w.heap.size + 3) W00 W') ?_ ?_
  · refine wp_region_RC (NxC w.heap.size g1 o1 g2 o2 (.slice (some ⟨g1, o1, none⟩) (n1 + 1) ca) (.slice (some ⟨g2, o2, none⟩) (n2 + 1) cb) a b) mixedF2 ?_
    generalize W00.drew = W0 at *
    refine RC.take (i := 0) (v := .pointer (some ⟨w.heap.size, 0, none⟩)) rfl (by kernel_rfl) (by kernel_rfl) (by kernel_rfl) (fun _ _ _ h => h) HC0 (by kernel_rfl) ?y0 ?_
    case y0 => (intro W hW; clear HC0 HB0; obtain ⟨_, h4, h5, ⟨h6, h7, h8, h9⟩, k6, k7, k8, k9⟩ := hW; go_simp; try with_reducible rfl)
    refine RC.take (i := 1) (v := .slice (some ⟨g1, o1, none⟩) (n1 + 1) ca) rfl (by kernel_rfl) (by kernel_rfl) (by kernel_rfl) (fun _ _ _ h => h) HC0 (by kernel_rfl) ?y1 ?_
    case y1 => (intro W hW; clear HC0 HB0; obtain ⟨_, h4, h5, ⟨h6, h7, h8, h9⟩, k6, k7, k8, k9⟩ := hW; go_simp; try with_reducible rfl)
    refine RC.take (i := 2) (v := .pointer (some ⟨g1, o1, none⟩)) rfl (by kernel_rfl) (by kernel_rfl) (by kernel_rfl) (fun _ _ _ h => h) HC0 (by kernel_rfl) ?y2 ?_
    case y2 => (intro W hW; clear HC0 HB0; obtain ⟨_, h4, h5, ⟨h6, h7, h8, h9⟩, k6, k7, k8, k9⟩ := hW; go_simp; try with_reducible rfl)
    refine RC.take (i := 3) (v := .agg #[.string a.1, .int .i64 a.2.1, .int .i64 a.2.2.1, .string a.2.2.2]) rfl (by kernel_rfl) (by kernel_rfl) (by kernel_rfl) (fun _ _ _ h => h) HC0 (by kernel_rfl) ?y3 ?_
    case y3 => (intro W hW; clear HC0 HB0; obtain ⟨_, h4, h5, ⟨h6, h7, h8, h9⟩, k6, k7, k8, k9⟩ := hW; go_simp; try with_reducible rfl)
    refine RC.take (i := 5) (v := .pointer (some ⟨w.heap.size + 1, 0, none⟩)) rfl (by kernel_rfl) (by kernel_rfl) (by kernel_rfl) (fun _ _ _ h => h) HC0 (by kernel_rfl) ?y4 ?_
    case y4 => (intro W hW; clear HC0 HB0; obtain ⟨_, h4, h5, ⟨h6, h7, h8, h9⟩, k6, k7, k8, k9⟩ := hW; go_simp; try with_reducible rfl)
    refine RC.take (i := 6) (v := .slice (some ⟨g2, o2, none⟩) (n2 + 1) cb) rfl (by kernel_rfl) (by kernel_rfl) (by kernel_rfl) (fun _ _ _ h => h) HC0 (by kernel_rfl) ?y5 ?_
    case y5 => (intro W hW; clear HC0 HB0; obtain ⟨_, h4, h5, ⟨h6, h7, h8, h9⟩, k6, k7, k8, k9⟩ := hW; go_simp; try with_reducible rfl)
    refine RC.take (i := 7) (v := .pointer (some ⟨g2, o2, none⟩)) rfl (by kernel_rfl) (by kernel_rfl) (by kernel_rfl) (fun _ _ _ h => h) HC0 (by kernel_rfl) ?y6 ?_
    case y6 => (intro W hW; clear HC0 HB0; obtain ⟨_, h4, h5, ⟨h6, h7, h8, h9⟩, k6, k7, k8, k9⟩ := hW; go_simp; try with_reducible rfl)
    refine RC.take (i := 8) (v := .agg #[.string b.1, .int .i64 b.2.1, .int .i64 b.2.2.1, .string b.2.2.2]) rfl (by kernel_rfl) (by kernel_rfl) (by kernel_rfl) (fun _ _ _ h => h) HC0 (by kernel_rfl) ?y7 ?_
    case y7 => (intro W hW; clear HC0 HB0; obtain ⟨_, h4, h5, ⟨h6, h7, h8, h9⟩, k6, k7, k8, k9⟩ := hW; go_simp; try with_reducible rfl)
    refine RC.three (i := 4) (k := 10) (m := 11) (by kernel_rfl) rfl rfl rfl (fun K hK => ?_) (fun K hK => ?_) (fun K hK => ?_) 
    · rw [if_pos (by kernel_rfl)]
      go_simp
      refine (iThing a _).mono ?_
      rintro e W1 ⟨rfl, hb1⟩
      simp only
      have HC1 := HC0.later (hb1.mono HC0.1.1)
      have HB1 := HB0.trans (hb1.mono HC0.1.1)
      refine hK _ _ HC1 ?_
      clear hK K hb1 HC0 HB0 
      refine RC.three (i := 9) (k := 10) (m := 11) (by kernel_rfl) rfl rfl rfl (fun K hK => ?_) (fun K hK => ?_) (fun K hK => ?_) 
      · rw [if_pos (by kernel_rfl)]
        go_simp
        refine (iThing b _).mono ?_
        rintro e W2 ⟨rfl, hb2⟩
        simp only
        have HC2 := HC1.later (hb2.mono HC1.1.1)
        have HB2 := HB1.trans (hb2.mono HC1.1.1)
        refine hK _ _ HC2 ?_
        clear hK K hb2 HC1 HB1 
        refine RC.two (i := 10) (k := 11) (by kernel_rfl) rfl rfl (fun K hK => ?_) (fun K hK => ?_) 
        · rw [if_pos (by kernel_rfl)]
          go_simp
          obtain ⟨W3, hW3⟩ : ∃ W, W = W2.alloc (.cells #[.string ⟨#[]⟩, .int .i64 0] 86) := ⟨_, rfl⟩
          rw [← hW3]
          have hb3 : Below W2.heap.size W2 W3 := by rw [hW3]; exact (Below.refl _ _).alloc (Nat.le_refl _) _
          have HC3 := HC2.later (hb3.mono HC2.1.1)
          have HB3 := HB2.trans (hb3.mono HC2.1.1)
          have Q6_3 : W3.heap[W2.heap.size]? = some (.cells #[.string ⟨#[]⟩, .int .i64 0] 86 (0, 0)) := by rw [hW3]; exact heap_alloc_new _ _
          have hge6 := HC2.1.1
          clear hW3
          refine hK _ _ HC3 ?_
          clear hK K hb3 HC2 HB2 
          generalize W2.heap.size = b6 at *
          refine RC.want (i := 11) (by kernel_rfl) rfl (by kernel_rfl) (fun K hK => ?_)
          go_simp
          obtain ⟨W4, hW4⟩ : ∃ W, W = W3.alloc (.cells #[.string ⟨#[]⟩, .int .i64 0] 86) := ⟨_, rfl⟩
          rw [← hW4]
          have hb4 : Below W3.heap.size W3 W4 := by rw [hW4]; exact (Below.refl _ _).alloc (Nat.le_refl _) _
          have HC4 := HC3.later (hb4.mono HC3.1.1)
          have HB4 := HB3.trans (hb4.mono HC3.1.1)
          have hne4 := (Array.getElem?_eq_some_iff.1 Q6_3).1
          have Q6_4 := (hb4.block _ ((Array.getElem?_eq_some_iff.1 Q6_3).1)).trans Q6_3
          have Q7_4 : W4.heap[W3.heap.size]? = some (.cells #[.string ⟨#[]⟩, .int .i64 0] 86 (0, 0)) := by rw [hW4]; exact heap_alloc_new _ _
          have hge7 := HC3.1.1
          clear hW4
          refine hK _ _ HC4 ?_
          clear hK K hb4 HC3 HB3 Q6_3
          generalize W3.heap.size = b7 at *
          have hne : b6 ≠ b7 := by omega
          have z0 := cell_of_heapN Q6_4 0
          have z1 := cell_of_heapN Q6_4 1
          have f0 := free_of_heapN Q6_4 0
          have f1 := free_of_heapN Q6_4 1
          simp at z0 z1
          refine RC.want (i := 12) (by kernel_rfl) rfl (by kernel_rfl) (fun K hK => ?_)
          go_simp
          obtain ⟨V1, hV1⟩ : ∃ V1, V1 = putT W4 b6 (.string a.1) (.int .i64 a.2.1) := ⟨_, rfl⟩
          have hp1 : Below (w.heap.size + 3) W4 V1 := by rw [hV1]; exact putT_below (Below.refl _ _) hge6 _ _
          have HC9 := HC4.later hp1
          have HB9 := HB4.trans hp1
          have R6 : V1.heap[b6]? = some (.cells #[.string a.1, .int .i64 a.2.1] 86 (0, 0)) := by rw [hV1]; exact putT_same Q6_4 _ _
          have R7 : V1.heap[b7]? = some (.cells #[.string ⟨#[]⟩, .int .i64 0] 86 (0, 0)) := by rw [hV1]; exact (putT_other _ _ _ _ _ (Ne.symm hne)).trans Q7_4
          unfold putT at hV1
          rw [← hV1]
          refine hK _ _ HC9 ?_
          clear hK K hV1 z0 z1 f0 f1 hp1 HC4 HB4 Q6_4 Q7_4
          have z0 := cell_of_heapN R7 0
          have z1 := cell_of_heapN R7 1
          have f0 := free_of_heapN R7 0
          have f1 := free_of_heapN R7 1
          simp at z0 z1
          refine RC.want (i := 13) (by kernel_rfl) rfl (by kernel_rfl) (fun K hK => ?_)
          go_simp
          obtain ⟨V2, hV2⟩ : ∃ V2, V2 = putT V1 b7 (.string b.1) (.int .i64 b.2.1) := ⟨_, rfl⟩
          have hp2 : Below (w.heap.size + 3) V1 V2 := by rw [hV2]; exact putT_below (Below.refl _ _) hge7 _ _
          have HB10 := HB9.trans hp2
          have S6 : V2.heap[b6]? = some (.cells #[.string a.1, .int .i64 a.2.1] 86 (0, 0)) := by rw [hV2]; exact (putT_other _ _ _ _ _ hne).trans R6
          have S7 : V2.heap[b7]? = some (.cells #[.string b.1, .int .i64 b.2.1] 86 (0, 0)) := by rw [hV2]; exact putT_same R7 _ _
          unfold putT at hV2
          rw [← hV2]
          refine hK _ _ (HC9.later hp2) ?_
          clear hK K hV2 z0 z1 f0 f1
          refine RC.done (by kernel_rfl) ?_
          exact ⟨b6, b7, rfl, S6, S7, hne, HB10⟩
        · rw [if_pos (by kernel_rfl)]
          go_simp
          obtain ⟨W3, hW3⟩ : ∃ W, W = W2.alloc (.cells #[.string ⟨#[]⟩, .int .i64 0] 86) := ⟨_, rfl⟩
          rw [← hW3]
          have hb3 : Below W2.heap.size W2 W3 := by rw [hW3]; exact (Below.refl _ _).alloc (Nat.le_refl _) _
          have HC3 := HC2.later (hb3.mono HC2.1.1)
          have HB3 := HB2.trans (hb3.mono HC2.1.1)
          have Q7_3 : W3.heap[W2.heap.size]? = some (.cells #[.string ⟨#[]⟩, .int .i64 0] 86 (0, 0)) := by rw [hW3]; exact heap_alloc_new _ _
          have hge7 := HC2.1.1
          clear hW3
          refine hK _ _ HC3 ?_
          clear hK K hb3 HC2 HB2 
          generalize W2.heap.size = b7 at *
          refine RC.want (i := 10) (by kernel_rfl) rfl (by kernel_rfl) (fun K hK => ?_)
          go_simp
          obtain ⟨W4, hW4⟩ : ∃ W, W = W3.alloc (.cells #[.string ⟨#[]⟩, .int .i64 0] 86) := ⟨_, rfl⟩
          rw [← hW4]
          have hb4 : Below W3.heap.size W3 W4 := by rw [hW4]; exact (Below.refl _ _).alloc (Nat.le_refl _) _
          have HC4 := HC3.later (hb4.mono HC3.1.1)
          have HB4 := HB3.trans (hb4.mono HC3.1.1)
          have hne4 := (Array.getElem?_eq_some_iff.1 Q7_3).1
          have Q7_4 := (hb4.block _ ((Array.getElem?_eq_some_iff.1 Q7_3).1)).trans Q7_3
          have Q6_4 : W4.heap[W3.heap.size]? = some (.cells #[.string ⟨#[]⟩, .int .i64 0] 86 (0, 0)) := by rw [hW4]; exact heap_alloc_new _ _
          have hge6 := HC3.1.1
          clear hW4
          refine hK _ _ HC4 ?_
          clear hK K hb4 HC3 HB3 Q7_3
          generalize W3.heap.size = b6 at *
          have hne : b6 ≠ b7 := by omega
          have z0 := cell_of_heapN Q6_4 0
          have z1 := cell_of_heapN Q6_4 1
          have f0 := free_of_heapN Q6_4 0
          have f1 := free_of_heapN Q6_4 1
          simp at z0 z1
          refine RC.want (i := 12) (by kernel_rfl) rfl (by kernel_rfl) (fun K hK => ?_)
          go_simp
          obtain ⟨V1, hV1⟩ : ∃ V1, V1 = putT W4 b6 (.string a.1) (.int .i64 a.2.1) := ⟨_, rfl⟩
          have hp1 : Below (w.heap.size + 3) W4 V1 := by rw [hV1]; exact putT_below (Below.refl _ _) hge6 _ _
          have HC9 := HC4.later hp1
          have HB9 := HB4.trans hp1
          have R6 : V1.heap[b6]? = some (.cells #[.string a.1, .int .i64 a.2.1] 86 (0, 0)) := by rw [hV1]; exact putT_same Q6_4 _ _
          have R7 : V1.heap[b7]? = some (.cells #[.string ⟨#[]⟩, .int .i64 0] 86 (0, 0)) := by rw [hV1]; exact (putT_other _ _ _ _ _ (Ne.symm hne)).trans Q7_4
          unfold putT at hV1
          rw [← hV1]
          refine hK _ _ HC9 ?_
          clear hK K hV1 z0 z1 f0 f1 hp1 HC4 HB4 Q6_4 Q7_4
          have z0 := cell_of_heapN R7 0
          have z1 := cell_of_heapN R7 1
          have f0 := free_of_heapN R7 0
          have f1 := free_of_heapN R7 1
          simp at z0 z1
          refine RC.want (i := 13) (by kernel_rfl) rfl (by kernel_rfl) (fun K hK => ?_)
          go_simp
          obtain ⟨V2, hV2⟩ : ∃ V2, V2 = putT V1 b7 (.string b.1) (.int .i64 b.2.1) := ⟨_, rfl⟩
          have hp2 : Below (w.heap.size + 3) V1 V2 := by rw [hV2]; exact putT_below (Below.refl _ _) hge7 _ _
          have HB10 := HB9.trans hp2
          have S6 : V2.heap[b6]? = some (.cells #[.string a.1, .int .i64 a.2.1] 86 (0, 0)) := by rw [hV2]; exact (putT_other _ _ _ _ _ hne).trans R6
          have S7 : V2.heap[b7]? = some (.cells #[.string b.1, .int .i64 b.2.1] 86 (0, 0)) := by rw [hV2]; exact putT_same R7 _ _
          unfold putT at hV2
          rw [← hV2]
          refine hK _ _ (HC9.later hp2) ?_
          clear hK K hV2 z0 z1 f0 f1
          refine RC.done (by kernel_rfl) ?_
          exact ⟨b6, b7, rfl, S6, S7, hne, HB10⟩
      · rw [if_pos (by kernel_rfl)]
        go_simp
        obtain ⟨W2, hW2⟩ : ∃ W, W = W1.alloc (.cells #[.string ⟨#[]⟩, .int .i64 0] 86) := ⟨_, rfl⟩
        rw [← hW2]
        have hb2 : Below W1.heap.size W1 W2 := by rw [hW2]; exact (Below.refl _ _).alloc (Nat.le_refl _) _
        have HC2 := HC1.later (hb2.mono HC1.1.1)
        have HB2 := HB1.trans (hb2.mono HC1.1.1)
        have Q6_2 : W2.heap[W1.heap.size]? = some (.cells #[.string ⟨#[]⟩, .int .i64 0] 86 (0, 0)) := by rw [hW2]; exact heap_alloc_new _ _
        have hge6 := HC1.1.1
        clear hW2
        refine hK _ _ HC2 ?_
        clear hK K hb2 HC1 HB1 
        generalize W1.heap.size = b6 at *
        refine RC.two (i := 9) (k := 11) (by kernel_rfl) rfl rfl (fun K hK => ?_) (fun K hK => ?_) 
        · rw [if_pos (by kernel_rfl)]
          go_simp
          refine (iThing b _).mono ?_
          rintro e W3 ⟨rfl, hb3⟩
          simp only
          have HC3 := HC2.later (hb3.mono HC2.1.1)
          have HB3 := HB2.trans (hb3.mono HC2.1.1)
          have Q6_3 := (hb3.block _ ((Array.getElem?_eq_some_iff.1 Q6_2).1)).trans Q6_2
          refine hK _ _ HC3 ?_
          clear hK K hb3 HC2 HB2 Q6_2
          refine RC.want (i := 11) (by kernel_rfl) rfl (by kernel_rfl) (fun K hK => ?_)
          go_simp
          obtain ⟨W4, hW4⟩ : ∃ W, W = W3.alloc (.cells #[.string ⟨#[]⟩, .int .i64 0] 86) := ⟨_, rfl⟩
          rw [← hW4]
          have hb4 : Below W3.heap.size W3 W4 := by rw [hW4]; exact (Below.refl _ _).alloc (Nat.le_refl _) _
          have HC4 := HC3.later (hb4.mono HC3.1.1)
          have HB4 := HB3.trans (hb4.mono HC3.1.1)
          have hne4 := (Array.getElem?_eq_some_iff.1 Q6_3).1
          have Q6_4 := (hb4.block _ ((Array.getElem?_eq_some_iff.1 Q6_3).1)).trans Q6_3
          have Q7_4 : W4.heap[W3.heap.size]? = some (.cells #[.string ⟨#[]⟩, .int .i64 0] 86 (0, 0)) := by rw [hW4]; exact heap_alloc_new _ _
          have hge7 := HC3.1.1
          clear hW4
          refine hK _ _ HC4 ?_
          clear hK K hb4 HC3 HB3 Q6_3
          generalize W3.heap.size = b7 at *
          have hne : b6 ≠ b7 := by omega
          have z0 := cell_of_heapN Q6_4 0
          have z1 := cell_of_heapN Q6_4 1
          have f0 := free_of_heapN Q6_4 0
          have f1 := free_of_heapN Q6_4 1
          simp at z0 z1
          refine RC.want (i := 12) (by kernel_rfl) rfl (by kernel_rfl) (fun K hK => ?_)
          go_simp
          obtain ⟨V1, hV1⟩ : ∃ V1, V1 = putT W4 b6 (.string a.1) (.int .i64 a.2.1) := ⟨_, rfl⟩
          have hp1 : Below (w.heap.size + 3) W4 V1 := by rw [hV1]; exact putT_below (Below.refl _ _) hge6 _ _
          have HC9 := HC4.later hp1
          have HB9 := HB4.trans hp1
          have R6 : V1.heap[b6]? = some (.cells #[.string a.1, .int .i64 a.2.1] 86 (0, 0)) := by rw [hV1]; exact putT_same Q6_4 _ _
          have R7 : V1.heap[b7]? = some (.cells #[.string ⟨#[]⟩, .int .i64 0] 86 (0, 0)) := by rw [hV1]; exact (putT_other _ _ _ _ _ (Ne.symm hne)).trans Q7_4
          unfold putT at hV1
          rw [← hV1]
          refine hK _ _ HC9 ?_
          clear hK K hV1 z0 z1 f0 f1 hp1 HC4 HB4 Q6_4 Q7_4
          have z0 := cell_of_heapN R7 0
          have z1 := cell_of_heapN R7 1
          have f0 := free_of_heapN R7 0
          have f1 := free_of_heapN R7 1
          simp at z0 z1
          refine RC.want (i := 13) (by kernel_rfl) rfl (by kernel_rfl) (fun K hK => ?_)
          go_simp
          obtain ⟨V2, hV2⟩ : ∃ V2, V2 = putT V1 b7 (.string b.1) (.int .i64 b.2.1) := ⟨_, rfl⟩
          have hp2 : Below (w.heap.size + 3) V1 V2 := by rw [hV2]; exact putT_below (Below.refl _ _) hge7 _ _
          have HB10 := HB9.trans hp2
          have S6 : V2.heap[b6]? = some (.cells #[.string a.1, .int .i64 a.2.1] 86 (0, 0)) := by rw [hV2]; exact (putT_other _ _ _ _ _ hne).trans R6
          have S7 : V2.heap[b7]? = some (.cells #[.string b.1, .int .i64 b.2.1] 86 (0, 0)) := by rw [hV2]; exact putT_same R7 _ _
          unfold putT at hV2
          rw [← hV2]
          refine hK _ _ (HC9.later hp2) ?_
          clear hK K hV2 z0 z1 f0 f1
          refine RC.done (by kernel_rfl) ?_
          exact ⟨b6, b7, rfl, S6, S7, hne, HB10⟩
        · rw [if_pos (by kernel_rfl)]
          go_simp
          obtain ⟨W3, hW3⟩ : ∃ W, W = W2.alloc (.cells #[.string ⟨#[]⟩, .int .i64 0] 86) := ⟨_, rfl⟩
          rw [← hW3]
          have hb3 : Below W2.heap.size W2 W3 := by rw [hW3]; exact (Below.refl _ _).alloc (Nat.le_refl _) _
          have HC3 := HC2.later (hb3.mono HC2.1.1)
          have HB3 := HB2.trans (hb3.mono HC2.1.1)
          have hne3 := (Array.getElem?_eq_some_iff.1 Q6_2).1
          have Q6_3 := (hb3.block _ ((Array.getElem?_eq_some_iff.1 Q6_2).1)).trans Q6_2
          have Q7_3 : W3.heap[W2.heap.size]? = some (.cells #[.string ⟨#[]⟩, .int .i64 0] 86 (0, 0)) := by rw [hW3]; exact heap_alloc_new _ _
          have hge7 := HC2.1.1
          clear hW3
          refine hK _ _ HC3 ?_
          clear hK K hb3 HC2 HB2 Q6_2
          generalize W2.heap.size = b7 at *
          refine RC.want (i := 9) (by kernel_rfl) rfl (by kernel_rfl) (fun K hK => ?_)
          go_simp
          refine (iThing b _).mono ?_
          rintro e W4 ⟨rfl, hb4⟩
          simp only
          have HC4 := HC3.later (hb4.mono HC3.1.1)
          have HB4 := HB3.trans (hb4.mono HC3.1.1)
          have Q6_4 := (hb4.block _ ((Array.getElem?_eq_some_iff.1 Q6_3).1)).trans Q6_3
          have Q7_4 := (hb4.block _ ((Array.getElem?_eq_some_iff.1 Q7_3).1)).trans Q7_3
          refine hK _ _ HC4 ?_
          clear hK K hb4 HC3 HB3 Q6_3 Q7_3
          have hne : b6 ≠ b7 := by omega
          have z0 := cell_of_heapN Q6_4 0
          have z1 := cell_of_heapN Q6_4 1
          have f0 := free_of_heapN Q6_4 0
          have f1 := free_of_heapN Q6_4 1
          simp at z0 z1
          refine RC.want (i := 12) (by kernel_rfl) rfl (by kernel_rfl) (fun K hK => ?_)
          go_simp
          obtain ⟨V1, hV1⟩ : ∃ V1, V1 = putT W4 b6 (.string a.1) (.int .i64 a.2.1) := ⟨_, rfl⟩
          have hp1 : Below (w.heap.size + 3) W4 V1 := by rw [hV1]; exact putT_below (Below.refl _ _) hge6 _ _
          have HC9 := HC4.later hp1
          have HB9 := HB4.trans hp1
          have R6 : V1.heap[b6]? = some (.cells #[.string a.1, .int .i64 a.2.1] 86 (0, 0)) := by rw [hV1]; exact putT_same Q6_4 _ _
          have R7 : V1.heap[b7]? = some (.cells #[.string ⟨#[]⟩, .int .i64 0] 86 (0, 0)) := by rw [hV1]; exact (putT_other _ _ _ _ _ (Ne.symm hne)).trans Q7_4
          unfold putT at hV1
          rw [← hV1]
          refine hK _ _ HC9 ?_
          clear hK K hV1 z0 z1 f0 f1 hp1 HC4 HB4 Q6_4 Q7_4
          have z0 := cell_of_heapN R7 0
          have z1 := cell_of_heapN R7 1
          have f0 := free_of_heapN R7 0
          have f1 := free_of_heapN R7 1
          simp at z0 z1
          refine RC.want (i := 13) (by kernel_rfl) rfl (by kernel_rfl) (fun K hK => ?_)
          go_simp
          obtain ⟨V2, hV2⟩ : ∃ V2, V2 = putT V1 b7 (.string b.1) (.int .i64 b.2.1) := ⟨_, rfl⟩
          have hp2 : Below (w.heap.size + 3) V1 V2 := by rw [hV2]; exact putT_below (Below.refl _ _) hge7 _ _
          have HB10 := HB9.trans hp2
          have S6 : V2.heap[b6]? = some (.cells #[.string a.1, .int .i64 a.2.1] 86 (0, 0)) := by rw [hV2]; exact (putT_other _ _ _ _ _ hne).trans R6
          have S7 : V2.heap[b7]? = some (.cells #[.string b.1, .int .i64 b.2.1] 86 (0, 0)) := by rw [hV2]; exact putT_same R7 _ _
          unfold putT at hV2
          rw [← hV2]
          refine hK _ _ (HC9.later hp2) ?_
          clear hK K hV2 z0 z1 f0 f1
          refine RC.done (by kernel_rfl) ?_
          exact ⟨b6, b7, rfl, S6, S7, hne, HB10⟩
      · rw [if_pos (by kernel_rfl)]
        go_simp
        obtain ⟨W2, hW2⟩ : ∃ W, W = W1.alloc (.cells #[.string ⟨#[]⟩, .int .i64 0] 86) := ⟨_, rfl⟩
        rw [← hW2]
        have hb2 : Below W1.heap.size W1 W2 := by rw [hW2]; exact (Below.refl _ _).alloc (Nat.le_refl _) _
        have HC2 := HC1.later (hb2.mono HC1.1.1)
        have HB2 := HB1.trans (hb2.mono HC1.1.1)
        have Q7_2 : W2.heap[W1.heap.size]? = some (.cells #[.string ⟨#[]⟩, .int .i64 0] 86 (0, 0)) := by rw [hW2]; exact heap_alloc_new _ _
        have hge7 := HC1.1.1
        clear hW2
        refine hK _ _ HC2 ?_
        clear hK K hb2 HC1 HB1 
        generalize W1.heap.size = b7 at *
        refine RC.two (i := 9) (k := 10) (by kernel_rfl) rfl rfl (fun K hK => ?_) (fun K hK => ?_) 
        · rw [if_pos (by kernel_rfl)]
          go_simp
          refine (iThing b _).mono ?_
          rintro e W3 ⟨rfl, hb3⟩
          simp only
          have HC3 := HC2.later (hb3.mono HC2.1.1)
          have HB3 := HB2.trans (hb3.mono HC2.1.1)
          have Q7_3 := (hb3.block _ ((Array.getElem?_eq_some_iff.1 Q7_2).1)).trans Q7_2
          refine hK _ _ HC3 ?_
          clear hK K hb3 HC2 HB2 Q7_2
          refine RC.want (i := 10) (by kernel_rfl) rfl (by kernel_rfl) (fun K hK => ?_)
          go_simp
          obtain ⟨W4, hW4⟩ : ∃ W, W = W3.alloc (.cells #[.string ⟨#[]⟩, .int .i64 0] 86) := ⟨_, rfl⟩
          rw [← hW4]
          have hb4 : Below W3.heap.size W3 W4 := by rw [hW4]; exact (Below.refl _ _).alloc (Nat.le_refl _) _
          have HC4 := HC3.later (hb4.mono HC3.1.1)
          have HB4 := HB3.trans (hb4.mono HC3.1.1)
          have hne4 := (Array.getElem?_eq_some_iff.1 Q7_3).1
          have Q7_4 := (hb4.block _ ((Array.getElem?_eq_some_iff.1 Q7_3).1)).trans Q7_3
          have Q6_4 : W4.heap[W3.heap.size]? = some (.cells #[.string ⟨#[]⟩, .int .i64 0] 86 (0, 0)) := by rw [hW4]; exact heap_alloc_new _ _
          have hge6 := HC3.1.1
          clear hW4
          refine hK _ _ HC4 ?_
          clear hK K hb4 HC3 HB3 Q7_3
          generalize W3.heap.size = b6 at *
          have hne : b6 ≠ b7 := by omega
          have z0 := cell_of_heapN Q6_4 0
          have z1 := cell_of_heapN Q6_4 1
          have f0 := free_of_heapN Q6_4 0
          have f1 := free_of_heapN Q6_4 1
          simp at z0 z1
          refine RC.want (i := 12) (by kernel_rfl) rfl (by kernel_rfl) (fun K hK => ?_)
          go_simp
          obtain ⟨V1, hV1⟩ : ∃ V1, V1 = putT W4 b6 (.string a.1) (.int .i64 a.2.1) := ⟨_, rfl⟩
          have hp1 : Below (w.heap.size + 3) W4 V1 := by rw [hV1]; exact putT_below (Below.refl _ _) hge6 _ _
          have HC9 := HC4.later hp1
          have HB9 := HB4.trans hp1
          have R6 : V1.heap[b6]? = some (.cells #[.string a.1, .int .i64 a.2.1] 86 (0, 0)) := by rw [hV1]; exact putT_same Q6_4 _ _
          have R7 : V1.heap[b7]? = some (.cells #[.string ⟨#[]⟩, .int .i64 0] 86 (0, 0)) := by rw [hV1]; exact (putT_other _ _ _ _ _ (Ne.symm hne)).trans Q7_4
          unfold putT at hV1
          rw [← hV1]
          refine hK _ _ HC9 ?_
          clear hK K hV1 z0 z1 f0 f1 hp1 HC4 HB4 Q6_4 Q7_4
          have z0 := cell_of_heapN R7 0
          have z1 := cell_of_heapN R7 1
          have f0 := free_of_heapN R7 0
          have f1 := free_of_heapN R7 1
          simp at z0 z1
          refine RC.want (i := 13) (by kernel_rfl) rfl (by kernel_rfl) (fun K hK => ?_)
          go_simp
          obtain ⟨V2, hV2⟩ : ∃ V2, V2 = putT V1 b7 (.string b.1) (.int .i64 b.2.1) := ⟨_, rfl⟩
          have hp2 : Below (w.heap.size + 3) V1 V2 := by rw [hV2]; exact putT_below (Below.refl _ _) hge7 _ _
          have HB10 := HB9.trans hp2
          have S6 : V2.heap[b6]? = some (.cells #[.string a.1, .int .i64 a.2.1] 86 (0, 0)) := by rw [hV2]; exact (putT_other _ _ _ _ _ hne).trans R6
          have S7 : V2.heap[b7]? = some (.cells #[.string b.1, .int .i64 b.2.1] 86 (0, 0)) := by rw [hV2]; exact putT_same R7 _ _
          unfold putT at hV2
          rw [← hV2]
          refine hK _ _ (HC9.later hp2) ?_
          clear hK K hV2 z0 z1 f0 f1
          refine RC.done (by kernel_rfl) ?_
          exact ⟨b6, b7, rfl, S6, S7, hne, HB10⟩
        · rw [if_pos (by kernel_rfl)]
          go_simp
          obtain ⟨W3, hW3⟩ : ∃ W, W = W2.alloc (.cells #[.string ⟨#[]⟩, .int .i64 0] 86) := ⟨_, rfl⟩
          rw [← hW3]
          have hb3 : Below W2.heap.size W2 W3 := by rw [hW3]; exact (Below.refl _ _).alloc (Nat.le_refl _) _
          have HC3 := HC2.later (hb3.mono HC2.1.1)
          have HB3 := HB2.trans (hb3.mono HC2.1.1)
          have hne3 := (Array.getElem?_eq_some_iff.1 Q7_2).1
          have Q7_3 := (hb3.block _ ((Array.getElem?_eq_some_iff.1 Q7_2).1)).trans Q7_2
          have Q6_3 : W3.heap[W2.heap.size]? = some (.cells #[.string ⟨#[]⟩, .int .i64 0] 86 (0, 0)) := by rw [hW3]; exact heap_alloc_new _ _
          have hge6 := HC2.1.1
          clear hW3
          refine hK _ _ HC3 ?_
          clear hK K hb3 HC2 HB2 Q7_2
          generalize W2.heap.size = b6 at *
          refine RC.want (i := 9) (by kernel_rfl) rfl (by kernel_rfl) (fun K hK => ?_)
          go_simp
          refine (iThing b _).mono ?_
          rintro e W4 ⟨rfl, hb4⟩
          simp only
          have HC4 := HC3.later (hb4.mono HC3.1.1)
          have HB4 := HB3.trans (hb4.mono HC3.1.1)
          have Q6_4 := (hb4.block _ ((Array.getElem?_eq_some_iff.1 Q6_3).1)).trans Q6_3
          have Q7_4 := (hb4.block _ ((Array.getElem?_eq_some_iff.1 Q7_3).1)).trans Q7_3
          refine hK _ _ HC4 ?_
          clear hK K hb4 HC3 HB3 Q6_3 Q7_3
          have hne : b6 ≠ b7 := by omega
          have z0 := cell_of_heapN Q6_4 0
          have z1 := cell_of_heapN Q6_4 1
          have f0 := free_of_heapN Q6_4 0
          have f1 := free_of_heapN Q6_4 1
          simp at z0 z1
          refine RC.want (i := 12) (by kernel_rfl) rfl (by kernel_rfl) (fun K hK => ?_)
          go_simp
          obtain ⟨V1, hV1⟩ : ∃ V1, V1 = putT W4 b6 (.string a.1) (.int .i64 a.2.1) := ⟨_, rfl⟩
          have hp1 : Below (w.heap.size + 3) W4 V1 := by rw [hV1]; exact putT_below (Below.refl _ _) hge6 _ _
          have HC9 := HC4.later hp1
          have HB9 := HB4.trans hp1
          have R6 : V1.heap[b6]? = some (.cells #[.string a.1, .int .i64 a.2.1] 86 (0, 0)) := by rw [hV1]; exact putT_same Q6_4 _ _
          have R7 : V1.heap[b7]? = some (.cells #[.string ⟨#[]⟩, .int .i64 0] 86 (0, 0)) := by rw [hV1]; exact (putT_other _ _ _ _ _ (Ne.symm hne)).trans Q7_4
          unfold putT at hV1
          rw [← hV1]
          refine hK _ _ HC9 ?_
          clear hK K hV1 z0 z1 f0 f1 hp1 HC4 HB4 Q6_4 Q7_4
          have z0 := cell_of_heapN R7 0
          have z1 := cell_of_heapN R7 1
          have f0 := free_of_heapN R7 0
          have f1 := free_of_heapN R7 1
          simp at z0 z1
          refine RC.want (i := 13) (by kernel_rfl) rfl (by kernel_rfl) (fun K hK => ?_)
          go_simp
          obtain ⟨V2, hV2⟩ : ∃ V2, V2 = putT V1 b7 (.string b.1) (.int .i64 b.2.1) := ⟨_, rfl⟩
          have hp2 : Below (w.heap.size + 3) V1 V2 := by rw [hV2]; exact putT_below (Below.refl _ _) hge7 _ _
          have HB10 := HB9.trans hp2
          have S6 : V2.heap[b6]? = some (.cells #[.string a.1, .int .i64 a.2.1] 86 (0, 0)) := by rw [hV2]; exact (putT_other _ _ _ _ _ hne).trans R6
          have S7 : V2.heap[b7]? = some (.cells #[.string b.1, .int .i64 b.2.1] 86 (0, 0)) := by rw [hV2]; exact putT_same R7 _ _
          unfold putT at hV2
          rw [← hV2]
          refine hK _ _ (HC9.later hp2) ?_
          clear hK K hV2 z0 z1 f0 f1
          refine RC.done (by kernel_rfl) ?_
          exact ⟨b6, b7, rfl, S6, S7, hne, HB10⟩
    · rw [if_pos (by kernel_rfl)]
      go_simp
      obtain ⟨W1, hW1⟩ : ∃ W, W = W0.alloc (.cells #[.string ⟨#[]⟩, .int .i64 0] 86) := ⟨_, rfl⟩
      rw [← hW1]
      have hb1 : Below W0.heap.size W0 W1 := by rw [hW1]; exact (Below.refl _ _).alloc (Nat.le_refl _) _
      have HC1 := HC0.later (hb1.mono HC0.1.1)
      have HB1 := HB0.trans (hb1.mono HC0.1.1)
      have Q6_1 : W1.heap[W0.heap.size]? = some (.cells #[.string ⟨#[]⟩, .int .i64 0] 86 (0, 0)) := by rw [hW1]; exact heap_alloc_new _ _
      have hge6 := HC0.1.1
      clear hW1
      refine hK _ _ HC1 ?_
      clear hK K hb1 HC0 HB0 
      generalize W0.heap.size = b6 at *
      refine RC.two (i := 4) (k := 11) (by kernel_rfl) rfl rfl (fun K hK => ?_) (fun K hK => ?_) 
      · rw [if_pos (by kernel_rfl)]
        go_simp
        refine (iThing a _).mono ?_
        rintro e W2 ⟨rfl, hb2⟩
        simp only
        have HC2 := HC1.later (hb2.mono HC1.1.1)
        have HB2 := HB1.trans (hb2.mono HC1.1.1)
        have Q6_2 := (hb2.block _ ((Array.getElem?_eq_some_iff.1 Q6_1).1)).trans Q6_1
        refine hK _ _ HC2 ?_
        clear hK K hb2 HC1 HB1 Q6_1
        refine RC.two (i := 9) (k := 11) (by kernel_rfl) rfl rfl (fun K hK => ?_) (fun K hK => ?_) 
        · rw [if_pos (by kernel_rfl)]
          go_simp
          refine (iThing b _).mono ?_
          rintro e W3 ⟨rfl, hb3⟩
          simp only
          have HC3 := HC2.later (hb3.mono HC2.1.1)
          have HB3 := HB2.trans (hb3.mono HC2.1.1)
          have Q6_3 := (hb3.block _ ((Array.getElem?_eq_some_iff.1 Q6_2).1)).trans Q6_2
          refine hK _ _ HC3 ?_
          clear hK K hb3 HC2 HB2 Q6_2
          refine RC.want (i := 11) (by kernel_rfl) rfl (by kernel_rfl) (fun K hK => ?_)
          go_simp
          obtain ⟨W4, hW4⟩ : ∃ W, W = W3.alloc (.cells #[.string ⟨#[]⟩, .int .i64 0] 86) := ⟨_, rfl⟩
          rw [← hW4]
          have hb4 : Below W3.heap.size W3 W4 := by rw [hW4]; exact (Below.refl _ _).alloc (Nat.le_refl _) _
          have HC4 := HC3.later (hb4.mono HC3.1.1)
          have HB4 := HB3.trans (hb4.mono HC3.1.1)
          have hne4 := (Array.getElem?_eq_some_iff.1 Q6_3).1
          have Q6_4 := (hb4.block _ ((Array.getElem?_eq_some_iff.1 Q6_3).1)).trans Q6_3
          have Q7_4 : W4.heap[W3.heap.size]? = some (.cells #[.string ⟨#[]⟩, .int .i64 0] 86 (0, 0)) := by rw [hW4]; exact heap_alloc_new _ _
          have hge7 := HC3.1.1
          clear hW4
          refine hK _ _ HC4 ?_
          clear hK K hb4 HC3 HB3 Q6_3
          generalize W3.heap.size = b7 at *
          have hne : b6 ≠ b7 := by omega
          have z0 := cell_of_heapN Q6_4 0
          have z1 := cell_of_heapN Q6_4 1
          have f0 := free_of_heapN Q6_4 0
          have f1 := free_of_heapN Q6_4 1
          simp at z0 z1
          refine RC.want (i := 12) (by kernel_rfl) rfl (by kernel_rfl) (fun K hK => ?_)
          go_simp
          obtain ⟨V1, hV1⟩ : ∃ V1, V1 = putT W4 b6 (.string a.1) (.int .i64 a.2.1) := ⟨_, rfl⟩
          have hp1 : Below (w.heap.size + 3) W4 V1 := by rw [hV1]; exact putT_below (Below.refl _ _) hge6 _ _
          have HC9 := HC4.later hp1
          have HB9 := HB4.trans hp1
          have R6 : V1.heap[b6]? = some (.cells #[.string a.1, .int .i64 a.2.1] 86 (0, 0)) := by rw [hV1]; exact putT_same Q6_4 _ _
          have R7 : V1.heap[b7]? = some (.cells #[.string ⟨#[]⟩, .int .i64 0] 86 (0, 0)) := by rw [hV1]; exact (putT_other _ _ _ _ _ (Ne.symm hne)).trans Q7_4
          unfold putT at hV1
          rw [← hV1]
          refine hK _ _ HC9 ?_
          clear hK K hV1 z0 z1 f0 f1 hp1 HC4 HB4 Q6_4 Q7_4
          have z0 := cell_of_heapN R7 0
          have z1 := cell_of_heapN R7 1
          have f0 := free_of_heapN R7 0
          have f1 := free_of_heapN R7 1
          simp at z0 z1
          refine RC.want (i := 13) (by kernel_rfl) rfl (by kernel_rfl) (fun K hK => ?_)
          go_simp
          obtain ⟨V2, hV2⟩ : ∃ V2, V2 = putT V1 b7 (.string b.1) (.int .i64 b.2.1) := ⟨_, rfl⟩
          have hp2 : Below (w.heap.size + 3) V1 V2 := by rw [hV2]; exact putT_below (Below.refl _ _) hge7 _ _
          have HB10 := HB9.trans hp2
          have S6 : V2.heap[b6]? = some (.cells #[.string a.1, .int .i64 a.2.1] 86 (0, 0)) := by rw [hV2]; exact (putT_other _ _ _ _ _ hne).trans R6
          have S7 : V2.heap[b7]? = some (.cells #[.string b.1, .int .i64 b.2.1] 86 (0, 0)) := by rw [hV2]; exact putT_same R7 _ _
          unfold putT at hV2
          rw [← hV2]
          refine hK _ _ (HC9.later hp2) ?_
          clear hK K hV2 z0 z1 f0 f1
          refine RC.done (by kernel_rfl) ?_
          exact ⟨b6, b7, rfl, S6, S7, hne, HB10⟩
        · rw [if_pos (by kernel_rfl)]
          go_simp
          obtain ⟨W3, hW3⟩ : ∃ W, W = W2.alloc (.cells #[.string ⟨#[]⟩, .int .i64 0] 86) := ⟨_, rfl⟩
          rw [← hW3]
          have hb3 : Below W2.heap.size W2 W3 := by rw [hW3]; exact (Below.refl _ _).alloc (Nat.le_refl _) _
          have HC3 := HC2.later (hb3.mono HC2.1.1)
          have HB3 := HB2.trans (hb3.mono HC2.1.1)
          have hne3 := (Array.getElem?_eq_some_iff.1 Q6_2).1
          have Q6_3 := (hb3.block _ ((Array.getElem?_eq_some_iff.1 Q6_2).1)).trans Q6_2
          have Q7_3 : W3.heap[W2.heap.size]? = some (.cells #[.string ⟨#[]⟩, .int .i64 0] 86 (0, 0)) := by rw [hW3]; exact heap_alloc_new _ _
          have hge7 := HC2.1.1
          clear hW3
          refine hK _ _ HC3 ?_
          clear hK K hb3 HC2 HB2 Q6_2
          generalize W2.heap.size = b7 at *
          refine RC.want (i := 9) (by kernel_rfl) rfl (by kernel_rfl) (fun K hK => ?_)
          go_simp
          refine (iThing b _).mono ?_
          rintro e W4 ⟨rfl, hb4⟩
          simp only
          have HC4 := HC3.later (hb4.mono HC3.1.1)
          have HB4 := HB3.trans (hb4.mono HC3.1.1)
          have Q6_4 := (hb4.block _ ((Array.getElem?_eq_some_iff.1 Q6_3).1)).trans Q6_3
          have Q7_4 := (hb4.block _ ((Array.getElem?_eq_some_iff.1 Q7_3).1)).trans Q7_3
          refine hK _ _ HC4 ?_
          clear hK K hb4 HC3 HB3 Q6_3 Q7_3
          have hne : b6 ≠ b7 := by omega
          have z0 := cell_of_heapN Q6_4 0
          have z1 := cell_of_heapN Q6_4 1
          have f0 := free_of_heapN Q6_4 0
          have f1 := free_of_heapN Q6_4 1
          simp at z0 z1
          refine RC.want (i := 12) (by kernel_rfl) rfl (by kernel_rfl) (fun K hK => ?_)
          go_simp
          obtain ⟨V1, hV1⟩ : ∃ V1, V1 = putT W4 b6 (.string a.1) (.int .i64 a.2.1) := ⟨_, rfl⟩
          have hp1 : Below (w.heap.size + 3) W4 V1 := by rw [hV1]; exact putT_below (Below.refl _ _) hge6 _ _
          have HC9 := HC4.later hp1
          have HB9 := HB4.trans hp1
          have R6 : V1.heap[b6]? = some (.cells #[.string a.1, .int .i64 a.2.1] 86 (0, 0)) := by rw [hV1]; exact putT_same Q6_4 _ _
          have R7 : V1.heap[b7]? = some (.cells #[.string ⟨#[]⟩, .int .i64 0] 86 (0, 0)) := by rw [hV1]; exact (putT_other _ _ _ _ _ (Ne.symm hne)).trans Q7_4
          unfold putT at hV1
          rw [← hV1]
          refine hK _ _ HC9 ?_
          clear hK K hV1 z0 z1 f0 f1 hp1 HC4 HB4 Q6_4 Q7_4
          have z0 := cell_of_heapN R7 0
          have z1 := cell_of_heapN R7 1
          have f0 := free_of_heapN R7 0
          have f1 := free_of_heapN R7 1
          simp at z0 z1
          refine RC.want (i := 13) (by kernel_rfl) rfl (by kernel_rfl) (fun K hK => ?_)
          go_simp
          obtain ⟨V2, hV2⟩ : ∃ V2, V2 = putT V1 b7 (.string b.1) (.int .i64 b.2.1) := ⟨_, rfl⟩
          have hp2 : Below (w.heap.size + 3) V1 V2 := by rw [hV2]; exact putT_below (Below.refl _ _) hge7 _ _
          have HB10 := HB9.trans hp2
          have S6 : V2.heap[b6]? = some (.cells #[.string a.1, .int .i64 a.2.1] 86 (0, 0)) := by rw [hV2]; exact (putT_other _ _ _ _ _ hne).trans R6
          have S7 : V2.heap[b7]? = some (.cells #[.string b.1, .int .i64 b.2.1] 86 (0, 0)) := by rw [hV2]; exact putT_same R7 _ _
          unfold putT at hV2
          rw [← hV2]
          refine hK _ _ (HC9.later hp2) ?_
          clear hK K hV2 z0 z1 f0 f1
          refine RC.done (by kernel_rfl) ?_
          exact ⟨b6, b7, rfl, S6, S7, hne, HB10⟩
      · rw [if_pos (by kernel_rfl)]
        go_simp
        obtain ⟨W2, hW2⟩ : ∃ W, W = W1.alloc (.cells #[.string ⟨#[]⟩, .int .i64 0] 86) := ⟨_, rfl⟩
        rw [← hW2]
        have hb2 : Below W1.heap.size W1 W2 := by rw [hW2]; exact (Below.refl _ _).alloc (Nat.le_refl _) _
        have HC2 := HC1.later (hb2.mono HC1.1.1)
        have HB2 := HB1.trans (hb2.mono HC1.1.1)
        have hne2 := (Array.getElem?_eq_some_iff.1 Q6_1).1
        have Q6_2 := (hb2.block _ ((Array.getElem?_eq_some_iff.1 Q6_1).1)).trans Q6_1
        have Q7_2 : W2.heap[W1.heap.size]? = some (.cells #[.string ⟨#[]⟩, .int .i64 0] 86 (0, 0)) := by rw [hW2]; exact heap_alloc_new _ _
        have hge7 := HC1.1.1
        clear hW2
        refine hK _ _ HC2 ?_
        clear hK K hb2 HC1 HB1 Q6_1
        generalize W1.heap.size = b7 at *
        refine RC.want (i := 4) (by kernel_rfl) rfl (by kernel_rfl) (fun K hK => ?_)
        go_simp
        refine (iThing a _).mono ?_
        rintro e W3 ⟨rfl, hb3⟩
        simp only
        have HC3 := HC2.later (hb3.mono HC2.1.1)
        have HB3 := HB2.trans (hb3.mono HC2.1.1)
        have Q6_3 := (hb3.block _ ((Array.getElem?_eq_some_iff.1 Q6_2).1)).trans Q6_2
        have Q7_3 := (hb3.block _ ((Array.getElem?_eq_some_iff.1 Q7_2).1)).trans Q7_2
        refine hK _ _ HC3 ?_
        clear hK K hb3 HC2 HB2 Q6_2 Q7_2
        refine RC.want (i := 9) (by kernel_rfl) rfl (by kernel_rfl) (fun K hK => ?_)
        go_simp
        refine (iThing b _).mono ?_
        rintro e W4 ⟨rfl, hb4⟩
        simp only
        have HC4 := HC3.later (hb4.mono HC3.1.1)
        have HB4 := HB3.trans (hb4.mono HC3.1.1)
        have Q6_4 := (hb4.block _ ((Array.getElem?_eq_some_iff.1 Q6_3).1)).trans Q6_3
        have Q7_4 := (hb4.block _ ((Array.getElem?_eq_some_iff.1 Q7_3).1)).trans Q7_3
        refine hK _ _ HC4 ?_
        clear hK K hb4 HC3 HB3 Q6_3 Q7_3
        have hne : b6 ≠ b7 := by omega
        have z0 := cell_of_heapN Q6_4 0
        have z1 := cell_of_heapN Q6_4 1
        have f0 := free_of_heapN Q6_4 0
        have f1 := free_of_heapN Q6_4 1
        simp at z0 z1
        refine RC.want (i := 12) (by kernel_rfl) rfl (by kernel_rfl) (fun K hK => ?_)
        go_simp
        obtain ⟨V1, hV1⟩ : ∃ V1, V1 = putT W4 b6 (.string a.1) (.int .i64 a.2.1) := ⟨_, rfl⟩
        have hp1 : Below (w.heap.size + 3) W4 V1 := by rw [hV1]; exact putT_below (Below.refl _ _) hge6 _ _
        have HC9 := HC4.later hp1
        have HB9 := HB4.trans hp1
        have R6 : V1.heap[b6]? = some (.cells #[.string a.1, .int .i64 a.2.1] 86 (0, 0)) := by rw [hV1]; exact putT_same Q6_4 _ _
        have R7 : V1.heap[b7]? = some (.cells #[.string ⟨#[]⟩, .int .i64 0] 86 (0, 0)) := by rw [hV1]; exact (putT_other _ _ _ _ _ (Ne.symm hne)).trans Q7_4
        unfold putT at hV1
        rw [← hV1]
        refine hK _ _ HC9 ?_
        clear hK K hV1 z0 z1 f0 f1 hp1 HC4 HB4 Q6_4 Q7_4
        have z0 := cell_of_heapN R7 0
        have z1 := cell_of_heapN R7 1
        have f0 := free_of_heapN R7 0
        have f1 := free_of_heapN R7 1
        simp at z0 z1
        refine RC.want (i := 13) (by kernel_rfl) rfl (by kernel_rfl) (fun K hK => ?_)
        go_simp
        obtain ⟨V2, hV2⟩ : ∃ V2, V2 = putT V1 b7 (.string b.1) (.int .i64 b.2.1) := ⟨_, rfl⟩
        have hp2 : Below (w.heap.size + 3) V1 V2 := by rw [hV2]; exact putT_below (Below.refl _ _) hge7 _ _
        have HB10 := HB9.trans hp2
        have S6 : V2.heap[b6]? = some (.cells #[.string a.1, .int .i64 a.2.1] 86 (0, 0)) := by rw [hV2]; exact (putT_other _ _ _ _ _ hne).trans R6
        have S7 : V2.heap[b7]? = some (.cells #[.string b.1, .int .i64 b.2.1] 86 (0, 0)) := by rw [hV2]; exact putT_same R7 _ _
        unfold putT at hV2
        rw [← hV2]
        refine hK _ _ (HC9.later hp2) ?_
        clear hK K hV2 z0 z1 f0 f1
        refine RC.done (by kernel_rfl) ?_
        exact ⟨b6, b7, rfl, S6, S7, hne, HB10⟩
    · rw [if_pos (by kernel_rfl)]
      go_simp
      obtain ⟨W1, hW1⟩ : ∃ W, W = W0.alloc (.cells #[.string ⟨#[]⟩, .int .i64 0] 86) := ⟨_, rfl⟩
      rw [← hW1]
      have hb1 : Below W0.heap.size W0 W1 := by rw [hW1]; exact (Below.refl _ _).alloc (Nat.le_refl _) _
      have HC1 := HC0.later (hb1.mono HC0.1.1)
      have HB1 := HB0.trans (hb1.mono HC0.1.1)
      have Q7_1 : W1.heap[W0.heap.size]? = some (.cells #[.string ⟨#[]⟩, .int .i64 0] 86 (0, 0)) := by rw [hW1]; exact heap_alloc_new _ _
      have hge7 := HC0.1.1
      clear hW1
      refine hK _ _ HC1 ?_
      clear hK K hb1 HC0 HB0 
      generalize W0.heap.size = b7 at *
      refine RC.two (i := 4) (k := 10) (by kernel_rfl) rfl rfl (fun K hK => ?_) (fun K hK => ?_) 
      · rw [if_pos (by kernel_rfl)]
        go_simp
        refine (iThing a _).mono ?_
        rintro e W2 ⟨rfl, hb2⟩
        simp only
        have HC2 := HC1.later (hb2.mono HC1.1.1)
        have HB2 := HB1.trans (hb2.mono HC1.1.1)
        have Q7_2 := (hb2.block _ ((Array.getElem?_eq_some_iff.1 Q7_1).1)).trans Q7_1
        refine hK _ _ HC2 ?_
        clear hK K hb2 HC1 HB1 Q7_1
        refine RC.two (i := 9) (k := 10) (by kernel_rfl) rfl rfl (fun K hK => ?_) (fun K hK => ?_) 
        · rw [if_pos (by kernel_rfl)]
          go_simp
          refine (iThing b _).mono ?_
          rintro e W3 ⟨rfl, hb3⟩
          simp only
          have HC3 := HC2.later (hb3.mono HC2.1.1)
          have HB3 := HB2.trans (hb3.mono HC2.1.1)
          have Q7_3 := (hb3.block _ ((Array.getElem?_eq_some_iff.1 Q7_2).1)).trans Q7_2
          refine hK _ _ HC3 ?_
          clear hK K hb3 HC2 HB2 Q7_2
          refine RC.want (i := 10) (by kernel_rfl) rfl (by kernel_rfl) (fun K hK => ?_)
          go_simp
          obtain ⟨W4, hW4⟩ : ∃ W, W = W3.alloc (.cells #[.string ⟨#[]⟩, .int .i64 0] 86) := ⟨_, rfl⟩
          rw [← hW4]
          have hb4 : Below W3.heap.size W3 W4 := by rw [hW4]; exact (Below.refl _ _).alloc (Nat.le_refl _) _
          have HC4 := HC3.later (hb4.mono HC3.1.1)
          have HB4 := HB3.trans (hb4.mono HC3.1.1)
          have hne4 := (Array.getElem?_eq_some_iff.1 Q7_3).1
          have Q7_4 := (hb4.block _ ((Array.getElem?_eq_some_iff.1 Q7_3).1)).trans Q7_3
          have Q6_4 : W4.heap[W3.heap.size]? = some (.cells #[.string ⟨#[]⟩, .int .i64 0] 86 (0, 0)) := by rw [hW4]; exact heap_alloc_new _ _
          have hge6 := HC3.1.1
          clear hW4
          refine hK _ _ HC4 ?_
          clear hK K hb4 HC3 HB3 Q7_3
          generalize W3.heap.size = b6 at *
          have hne : b6 ≠ b7 := by omega
          have z0 := cell_of_heapN Q6_4 0
          have z1 := cell_of_heapN Q6_4 1
          have f0 := free_of_heapN Q6_4 0
          have f1 := free_of_heapN Q6_4 1
          simp at z0 z1
          refine RC.want (i := 12) (by kernel_rfl) rfl (by kernel_rfl) (fun K hK => ?_)
          go_simp
          obtain ⟨V1, hV1⟩ : ∃ V1, V1 = putT W4 b6 (.string a.1) (.int .i64 a.2.1) := ⟨_, rfl⟩
          have hp1 : Below (w.heap.size + 3) W4 V1 := by rw [hV1]; exact putT_below (Below.refl _ _) hge6 _ _
          have HC9 := HC4.later hp1
          have HB9 := HB4.trans hp1
          have R6 : V1.heap[b6]? = some (.cells #[.string a.1, .int .i64 a.2.1] 86 (0, 0)) := by rw [hV1]; exact putT_same Q6_4 _ _
          have R7 : V1.heap[b7]? = some (.cells #[.string ⟨#[]⟩, .int .i64 0] 86 (0, 0)) := by rw [hV1]; exact (putT_other _ _ _ _ _ (Ne.symm hne)).trans Q7_4
          unfold putT at hV1
          rw [← hV1]
          refine hK _ _ HC9 ?_
          clear hK K hV1 z0 z1 f0 f1 hp1 HC4 HB4 Q6_4 Q7_4
          have z0 := cell_of_heapN R7 0
          have z1 := cell_of_heapN R7 1
          have f0 := free_of_heapN R7 0
          have f1 := free_of_heapN R7 1
          simp at z0 z1
          refine RC.want (i := 13) (by kernel_rfl) rfl (by kernel_rfl) (fun K hK => ?_)
          go_simp
          obtain ⟨V2, hV2⟩ : ∃ V2, V2 = putT V1 b7 (.string b.1) (.int .i64 b.2.1) := ⟨_, rfl⟩
          have hp2 : Below (w.heap.size + 3) V1 V2 := by rw [hV2]; exact putT_below (Below.refl _ _) hge7 _ _
          have HB10 := HB9.trans hp2
          have S6 : V2.heap[b6]? = some (.cells #[.string a.1, .int .i64 a.2.1] 86 (0, 0)) := by rw [hV2]; exact (putT_other _ _ _ _ _ hne).trans R6
          have S7 : V2.heap[b7]? = some (.cells #[.string b.1, .int .i64 b.2.1] 86 (0, 0)) := by rw [hV2]; exact putT_same R7 _ _
          unfold putT at hV2
          rw [← hV2]
          refine hK _ _ (HC9.later hp2) ?_
          clear hK K hV2 z0 z1 f0 f1
          refine RC.done (by kernel_rfl) ?_
          exact ⟨b6, b7, rfl, S6, S7, hne, HB10⟩
        · rw [if_pos (by kernel_rfl)]
          go_simp
          obtain ⟨W3, hW3⟩ : ∃ W, W = W2.alloc (.cells #[.string ⟨#[]⟩, .int .i64 0] 86) := ⟨_, rfl⟩
          rw [← hW3]
          have hb3 : Below W2.heap.size W2 W3 := by rw [hW3]; exact (Below.refl _ _).alloc (Nat.le_refl _) _
          have HC3 := HC2.later (hb3.mono HC2.1.1)
          have HB3 := HB2.trans (hb3.mono HC2.1.1)
          have hne3 := (Array.getElem?_eq_some_iff.1 Q7_2).1
          have Q7_3 := (hb3.block _ ((Array.getElem?_eq_some_iff.1 Q7_2).1)).trans Q7_2
          have Q6_3 : W3.heap[W2.heap.size]? = some (.cells #[.string ⟨#[]⟩, .int .i64 0] 86 (0, 0)) := by rw [hW3]; exact heap_alloc_new _ _
          have hge6 := HC2.1.1
          clear hW3
          refine hK _ _ HC3 ?_
          clear hK K hb3 HC2 HB2 Q7_2
          generalize W2.heap.size = b6 at *
          refine RC.want (i := 9) (by kernel_rfl) rfl (by kernel_rfl) (fun K hK => ?_)
          go_simp
          refine (iThing b _).mono ?_
          rintro e W4 ⟨rfl, hb4⟩
          simp only
          have HC4 := HC3.later (hb4.mono HC3.1.1)
          have HB4 := HB3.trans (hb4.mono HC3.1.1)
          have Q6_4 := (hb4.block _ ((Array.getElem?_eq_some_iff.1 Q6_3).1)).trans Q6_3
          have Q7_4 := (hb4.block _ ((Array.getElem?_eq_some_iff.1 Q7_3).1)).trans Q7_3
          refine hK _ _ HC4 ?_
          clear hK K hb4 HC3 HB3 Q6_3 Q7_3
          have hne : b6 ≠ b7 := by omega
          have z0 := cell_of_heapN Q6_4 0
          have z1 := cell_of_heapN Q6_4 1
          have f0 := free_of_heapN Q6_4 0
          have f1 := free_of_heapN Q6_4 1
          simp at z0 z1
          refine RC.want (i := 12) (by kernel_rfl) rfl (by kernel_rfl) (fun K hK => ?_)
          go_simp
          obtain ⟨V1, hV1⟩ : ∃ V1, V1 = putT W4 b6 (.string a.1) (.int .i64 a.2.1) := ⟨_, rfl⟩
          have hp1 : Below (w.heap.size + 3) W4 V1 := by rw [hV1]; exact putT_below (Below.refl _ _) hge6 _ _
          have HC9 := HC4.later hp1
          have HB9 := HB4.trans hp1
          have R6 : V1.heap[b6]? = some (.cells #[.string a.1, .int .i64 a.2.1] 86 (0, 0)) := by rw [hV1]; exact putT_same Q6_4 _ _
          have R7 : V1.heap[b7]? = some (.cells #[.string ⟨#[]⟩, .int .i64 0] 86 (0, 0)) := by rw [hV1]; exact (putT_other _ _ _ _ _ (Ne.symm hne)).trans Q7_4
          unfold putT at hV1
          rw [← hV1]
          refine hK _ _ HC9 ?_
          clear hK K hV1 z0 z1 f0 f1 hp1 HC4 HB4 Q6_4 Q7_4
          have z0 := cell_of_heapN R7 0
          have z1 := cell_of_heapN R7 1
          have f0 := free_of_heapN R7 0
          have f1 := free_of_heapN R7 1
          simp at z0 z1
          refine RC.want (i := 13) (by kernel_rfl) rfl (by kernel_rfl) (fun K hK => ?_)
          go_simp
          obtain ⟨V2, hV2⟩ : ∃ V2, V2 = putT V1 b7 (.string b.1) (.int .i64 b.2.1) := ⟨_, rfl⟩
          have hp2 : Below (w.heap.size + 3) V1 V2 := by rw [hV2]; exact putT_below (Below.refl _ _) hge7 _ _
          have HB10 := HB9.trans hp2
          have S6 : V2.heap[b6]? = some (.cells #[.string a.1, .int .i64 a.2.1] 86 (0, 0)) := by rw [hV2]; exact (putT_other _ _ _ _ _ hne).trans R6
          have S7 : V2.heap[b7]? = some (.cells #[.string b.1, .int .i64 b.2.1] 86 (0, 0)) := by rw [hV2]; exact putT_same R7 _ _
          unfold putT at hV2
          rw [← hV2]
          refine hK _ _ (HC9.later hp2) ?_
          clear hK K hV2 z0 z1 f0 f1
          refine RC.done (by kernel_rfl) ?_
          exact ⟨b6, b7, rfl, S6, S7, hne, HB10⟩
      · rw [if_pos (by kernel_rfl)]
        go_simp
        obtain ⟨W2, hW2⟩ : ∃ W, W = W1.alloc (.cells #[.string ⟨#[]⟩, .int .i64 0] 86) := ⟨_, rfl⟩
        rw [← hW2]
        have hb2 : Below W1.heap.size W1 W2 := by rw [hW2]; exact (Below.refl _ _).alloc (Nat.le_refl _) _
        have HC2 := HC1.later (hb2.mono HC1.1.1)
        have HB2 := HB1.trans (hb2.mono HC1.1.1)
        have hne2 := (Array.getElem?_eq_some_iff.1 Q7_1).1
        have Q7_2 := (hb2.block _ ((Array.getElem?_eq_some_iff.1 Q7_1).1)).trans Q7_1
        have Q6_2 : W2.heap[W1.heap.size]? = some (.cells #[.string ⟨#[]⟩, .int .i64 0] 86 (0, 0)) := by rw [hW2]; exact heap_alloc_new _ _
        have hge6 := HC1.1.1
        clear hW2
        refine hK _ _ HC2 ?_
        clear hK K hb2 HC1 HB1 Q7_1
        generalize W1.heap.size = b6 at *
        refine RC.want (i := 4) (by kernel_rfl) rfl (by kernel_rfl) (fun K hK => ?_)
        go_simp
        refine (iThing a _).mono ?_
        rintro e W3 ⟨rfl, hb3⟩
        simp only
        have HC3 := HC2.later (hb3.mono HC2.1.1)
        have HB3 := HB2.trans (hb3.mono HC2.1.1)
        have Q6_3 := (hb3.block _ ((Array.getElem?_eq_some_iff.1 Q6_2).1)).trans Q6_2
        have Q7_3 := (hb3.block _ ((Array.getElem?_eq_some_iff.1 Q7_2).1)).trans Q7_2
        refine hK _ _ HC3 ?_
        clear hK K hb3 HC2 HB2 Q6_2 Q7_2
        refine RC.want (i := 9) (by kernel_rfl) rfl (by kernel_rfl) (fun K hK => ?_)
        go_simp
        refine (iThing b _).mono ?_
        rintro e W4 ⟨rfl, hb4⟩
        simp only
        have HC4 := HC3.later (hb4.mono HC3.1.1)
        have HB4 := HB3.trans (hb4.mono HC3.1.1)
        have Q6_4 := (hb4.block _ ((Array.getElem?_eq_some_iff.1 Q6_3).1)).trans Q6_3
        have Q7_4 := (hb4.block _ ((Array.getElem?_eq_some_iff.1 Q7_3).1)).trans Q7_3
        refine hK _ _ HC4 ?_
        clear hK K hb4 HC3 HB3 Q6_3 Q7_3
        have hne : b6 ≠ b7 := by omega
        have z0 := cell_of_heapN Q6_4 0
        have z1 := cell_of_heapN Q6_4 1
        have f0 := free_of_heapN Q6_4 0
        have f1 := free_of_heapN Q6_4 1
        simp at z0 z1
        refine RC.want (i := 12) (by kernel_rfl) rfl (by kernel_rfl) (fun K hK => ?_)
        go_simp
        obtain ⟨V1, hV1⟩ : ∃ V1, V1 = putT W4 b6 (.string a.1) (.int .i64 a.2.1) := ⟨_, rfl⟩
        have hp1 : Below (w.heap.size + 3) W4 V1 := by rw [hV1]; exact putT_below (Below.refl _ _) hge6 _ _
        have HC9 := HC4.later hp1
        have HB9 := HB4.trans hp1
        have R6 : V1.heap[b6]? = some (.cells #[.string a.1, .int .i64 a.2.1] 86 (0, 0)) := by rw [hV1]; exact putT_same Q6_4 _ _
        have R7 : V1.heap[b7]? = some (.cells #[.string ⟨#[]⟩, .int .i64 0] 86 (0, 0)) := by rw [hV1]; exact (putT_other _ _ _ _ _ (Ne.symm hne)).trans Q7_4
        unfold putT at hV1
        rw [← hV1]
        refine hK _ _ HC9 ?_
        clear hK K hV1 z0 z1 f0 f1 hp1 HC4 HB4 Q6_4 Q7_4
        have z0 := cell_of_heapN R7 0
        have z1 := cell_of_heapN R7 1
        have f0 := free_of_heapN R7 0
        have f1 := free_of_heapN R7 1
        simp at z0 z1
        refine RC.want (i := 13) (by kernel_rfl) rfl (by kernel_rfl) (fun K hK => ?_)
        go_simp
        obtain ⟨V2, hV2⟩ : ∃ V2, V2 = putT V1 b7 (.string b.1) (.int .i64 b.2.1) := ⟨_, rfl⟩
        have hp2 : Below (w.heap.size + 3) V1 V2 := by rw [hV2]; exact putT_below (Below.refl _ _) hge7 _ _
        have HB10 := HB9.trans hp2
        have S6 : V2.heap[b6]? = some (.cells #[.string a.1, .int .i64 a.2.1] 86 (0, 0)) := by rw [hV2]; exact (putT_other _ _ _ _ _ hne).trans R6
        have S7 : V2.heap[b7]? = some (.cells #[.string b.1, .int .i64 b.2.1] 86 (0, 0)) := by rw [hV2]; exact putT_same R7 _ _
        unfold putT at hV2
        rw [← hV2]
        refine hK _ _ (HC9.later hp2) ?_
        clear hK K hV2 z0 z1 f0 f1
        refine RC.done (by kernel_rfl) ?_
        exact ⟨b6, b7, rfl, S6, S7, hne, HB10⟩
  · rintro a' W ⟨b6, b7, rfl, hb6, hb7, hne, hbW⟩
    have hB := hB3.trans (hbW.mono (by omega))
    have hT := (hbW.block (w.heap.size + 1 + 1) (by omega)).trans hX3
    have q0 := cell_of_heapN hb6 0
    have q1 := cell_of_heapN hb6 1
    have r0 := cell_of_heapN hb7 0
    have r1 := cell_of_heapN hb7 1
    simp at q0 q1 r0 r1
    clear hB3 hX3 hbW hz3
    go_wp2_with fail
    refine (iCmpT (th a) (th b) _).mono ?_
    rintro e W1 ⟨rfl, hb1⟩
    have hl6 := (Array.getElem?_eq_some_iff.1 hb6).1
    have hl7 := (Array.getElem?_eq_some_iff.1 hb7).1
    have hlT := (Array.getElem?_eq_some_iff.1 hT).1
    have hBf := hB.trans (hb1.mono hB.size)
    have hT1 := (hb1.block _ hlT).trans hT
    have h61 := (hb1.block _ hl6).trans hb6
    have h71 := (hb1.block _ hl7).trans hb7
    have s0 := cell_of_heapN hT1 0
    have s1 := cell_of_heapN hT1 1
    have f0 := free_of_heapN hT1 0
    have f1 := free_of_heapN hT1 1
    have q0 := cell_of_heapN h61 0
    have q1 := cell_of_heapN h61 1
    have r0 := cell_of_heapN h71 0
    have r1 := cell_of_heapN h71 1
    simp at s0 s1 q0 q1 r0 r1
    have hz : w.heap.size + 1 + 1 < W1.heap.size := (Array.getElem?_eq_some_iff.1 hT1).1
    clear hb1 hB hT hb6 hb7 hl6 hl7 hlT hT1 h61 h71
    by_cases hc : cmpT (th a) (th b) ≤ 0
    · obtain rfl : t = th a := by rw [ht.out, if_pos hc]
      clear ht
      go_wp2
      refine bodyPost_ret (v := .tuple #[.agg #[.string a.1, .int .i64 a.2.1], .bool true]) (by simp [results, Tryz.results43, go_sem, s0, s1, hz]) rfl ⟨rfl, ?_⟩
      exact (hBf.setCell (p := ⟨w.heap.size + 1 + 1, 0, none⟩) (by simp; omega) _).setCell (p := ⟨w.heap.size + 1 + 1, 1, none⟩) (by simp; omega) _
    · obtain rfl : t = th b := by rw [ht.out, if_neg hc]
      clear ht
      go_wp2
      refine bodyPost_ret (v := .tuple #[.agg #[.string b.1, .int .i64 b.2.1], .bool true]) (by simp [results, Tryz.results43, go_sem, s0, s1, hz]) rfl ⟨rfl, ?_⟩
      exact (hBf.setCell (p := ⟨w.heap.size + 1 + 1, 0, none⟩) (by simp; omega) _).setCell (p := ⟨w.heap.size + 1 + 1, 1, none⟩) (by simp; omega) _

end Go.Proofs.YtohgkiljdehefaaGreat
