/- DERIVED. SHAPES: what a function that writes marks over an argument needs of it: typed blocks that are not frozen, and where slices lie in them. Same: what such a function leaves. No program is named here. -/
import Derived.Test.YtpjacfnjjkoikaaKGWa
namespace Go.Proofs.Ytpjacfnjjkoikaa
open Go.RowKit
set_option linter.unusedSimpArgs false
set_option linter.unusedVariables false

def isSl : Value → Bool
  | .slice _ _ _ => true
  | _ => false
theorem isSl_int (t : IntKind) (x : Int) : isSl (.int t x) = false := rfl
theorem isSl_str (x : ByteArray) : isSl (.string x) = false := rfl
theorem isSl_bool (x : Bool) : isSl (.bool x) = false := rfl

/-- A cell is as it was, or neither is a slice. -/
def Near (v v' : Value) : Prop := v' = v ∨ (isSl v = false ∧ isSl v' = false)
theorem Near.trans {a b c : Value} (h : Near a b) (k : Near b c) : Near a c := by
  rcases h with rfl | ⟨h1, h2⟩
  · exact k
  · rcases k with rfl | ⟨k1, k2⟩
    · exact .inr ⟨h1, h2⟩
    · exact .inr ⟨h1, k2⟩

/-- Only blocks from lo to hi have turned, and in them no slice and no type. -/
structure Same (lo hi : Nat) (w w' : World) : Prop where
  below : Below lo w w'
  above : ∀ b, hi ≤ b → b < w.heap.size → w'.heap[b]? = w.heap[b]?
  mid : ∀ b cur t, lo ≤ b → b < hi → w.heap[b]? = some (.cells cur t (0, 0)) → ∃ cur', w'.heap[b]? = some (.cells cur' t (0, 0)) ∧ cur'.size = cur.size ∧ ∀ (i : Nat) v, cur[i]? = some v → ∃ v', cur'[i]? = some v' ∧ Near v v'

theorem Same.refl (lo hi : Nat) (w : World) : Same lo hi w w := ⟨Below.refl _ _, fun _ _ _ => rfl, fun b cur t _ _ h => ⟨cur, h, rfl, fun i v hv => ⟨v, hv, .inl rfl⟩⟩⟩
theorem Same.trans {lo hi : Nat} {a b c : World} (h : Same lo hi a b) (k : Same lo hi b c) : Same lo hi a c := by
  refine ⟨h.below.trans k.below, fun i h1 h2 => (k.above i h1 (Nat.lt_of_lt_of_le h2 h.below.size)).trans (h.above i h1 h2), fun i cur t h1 h2 h3 => ?_⟩
  obtain ⟨c1, e1, e2, e3⟩ := h.mid i cur t h1 h2 h3
  obtain ⟨c2, f1, f2, f3⟩ := k.mid i c1 t h1 h2 e1
  refine ⟨c2, f1, by omega, fun j v hv => ?_⟩
  obtain ⟨v1, g1, g2⟩ := e3 j v hv
  obtain ⟨v2, g3, g4⟩ := f3 j v1 g1
  exact ⟨v2, g3, g2.trans g4⟩
theorem Same.ofBelow {lo hi : Nat} {w w' : World} (h : Below w.heap.size w w') (h1 : lo ≤ w.heap.size) (h2 : hi ≤ w.heap.size) : Same lo hi w w' :=
  ⟨h.mono h1, fun b _ hb => h.block b hb, fun b cur t _ hb hc => ⟨cur, (h.block b (by omega)).trans hc, rfl, fun i v hv => ⟨v, hv, .inl rfl⟩⟩⟩
theorem Same.widen {lo hi lo' hi' : Nat} {w w' : World} (h : Same lo hi w w') (h1 : lo' ≤ lo) (h2 : hi ≤ hi') (h3 : hi' ≤ w.heap.size) : Same lo' hi' w w' := by
  refine ⟨h.below.mono h1, fun b hb hb2 => h.above b (by omega) hb2, fun b cur t hb1 hb2 hc => ?_⟩
  by_cases e1 : lo ≤ b
  · by_cases e2 : b < hi
    · exact h.mid b cur t e1 e2 hc
    · exact ⟨cur, (h.above b (by omega) (by omega)).trans hc, rfl, fun i v hv => ⟨v, hv, .inl rfl⟩⟩
  · exact ⟨cur, (h.below.block b (by omega)).trans hc, rfl, fun i v hv => ⟨v, hv, .inl rfl⟩⟩

theorem cell_of_block {w : World} {b i : Nat} {cur : Array Value} {t : TypeId} (h : w.heap[b]? = some (.cells cur t (0, 0))) : w.cell? ⟨b, i, none⟩ = cur[i]? := by simp [World.cell?, h]
theorem free_of_block {w : World} {b i : Nat} {cur : Array Value} {t : TypeId} (h : w.heap[b]? = some (.cells cur t (0, 0))) : w.frozen? ⟨b, i, none⟩ = false := by simp [World.frozen?, h]

theorem Same.set {lo hi : Nat} {w0 w : World} (h : Same lo hi w0 w) {b i : Nat} {v u : Value} (h1 : lo ≤ b) (h2 : b < hi) (hc : w.cell? ⟨b, i, none⟩ = some v) (hv : isSl v = false) (hu : isSl u = false) : Same lo hi w0 (w.setCell ⟨b, i, none⟩ u) := by
  refine ⟨h.below.setCell (p := ⟨b, i, none⟩) h1 u, fun c hc1 hc2 => (Below.heap_setCell w ⟨b, i, none⟩ u c (by show c ≠ b; omega)).trans (h.above c hc1 hc2), fun c cur t k1 k2 k3 => ?_⟩
  obtain ⟨c1, e1, e2, e3⟩ := h.mid c cur t k1 k2 k3
  by_cases e : c = b
  · subst e
    refine ⟨c1.setIfInBounds i u, heap_setCell_same w c i c1 t u e1, by simpa using e2, fun j x hx => ?_⟩
    obtain ⟨x1, g1, g2⟩ := e3 j x hx
    rw [Array.getElem?_setIfInBounds]
    by_cases hij : i = j
    · subst hij
      have hlt : i < c1.size := (Array.getElem?_eq_some_iff.1 g1).1
      rw [if_pos rfl, if_pos hlt]
      rw [cell_of_block e1, g1] at hc
      cases hc
      exact ⟨u, rfl, g2.trans (.inr ⟨hv, hu⟩)⟩
    · rw [if_neg hij]
      exact ⟨x1, g1, g2⟩
  · exact ⟨c1, (Below.heap_setCell w ⟨b, i, none⟩ u c e).trans e1, e2, e3⟩

theorem set_ne (w : World) {b i j : Nat} (u : Value) (h : j ≠ i) : (w.setCell ⟨b, i, none⟩ u).cell? ⟨b, j, none⟩ = w.cell? ⟨b, j, none⟩ := by
  exact World.cell?_setCell_other _ _ _ _ (fun e => by cases e; exact h rfl)

structure Shape where
  size : Nat
  holds : (Nat → Prop) → World → List Value → Nat → Prop
  stays : ∀ (ok : Nat → Prop) (w w' : World) (cs : List Value) (c : Nat), holds ok w cs c → (∀ b, ok b → w'.heap[b]? = w.heap[b]?) → holds ok w' cs c
  mono : ∀ (ok ok' : Nat → Prop) (w : World) (cs : List Value) (c : Nat), holds ok w cs c → (∀ b, ok b → ok' b) → holds ok' w cs c
  turn : ∀ (lo hi : Nat) (ok : Nat → Prop) (w w' : World) (cs cs' : List Value) (c : Nat), Same lo hi w w' → (∀ b, ok b → lo ≤ b ∧ b < hi) → holds ok w cs c → cs'.length = cs.length → (∀ (i : Nat) v, cs[i]? = some v → ∃ v', cs'[i]? = some v' ∧ Near v v') → holds ok w' cs' c
  len : ∀ (ok : Nat → Prop) (w : World) (cs : List Value) (c : Nat), holds ok w cs c → cs.length = size

def shFlat : Shape where
  size := 1
  holds := fun _ _ cs c => ∃ v, cs = [v] ∧ isSl v = false ∧ c = 1
  stays := fun _ _ _ _ _ h _ => h
  mono := fun _ _ _ _ _ h _ => h
  turn := fun lo hi ok w w' cs cs' c hS hok ⟨v, h1, h2, h3⟩ hl hn => by
    subst h1
    obtain ⟨v', g1, g2⟩ := hn 0 v rfl
    match cs', hl with
    | [x], _ =>
      simp at g1
      subst g1
      refine ⟨x, rfl, ?_, h3⟩
      rcases g2 with rfl | ⟨_, g2⟩
      · exact h2
      · exact g2
  len := fun _ _ cs c ⟨v, h, _⟩ => by rw [h]; rfl

def shPair (A B : Shape) : Shape where
  size := A.size + B.size
  holds := fun ok w cs c => ∃ c1 c2 n1 n2, cs = c1 ++ c2 ∧ c = n1 + n2 ∧ A.holds ok w c1 n1 ∧ B.holds ok w c2 n2
  stays := fun ok w w' cs c ⟨c1, c2, n1, n2, h1, h2, h3, h4⟩ hb => ⟨c1, c2, n1, n2, h1, h2, A.stays _ _ _ _ _ h3 hb, B.stays _ _ _ _ _ h4 hb⟩
  mono := fun ok ok' w cs c ⟨c1, c2, n1, n2, h1, h2, h3, h4⟩ hb => ⟨c1, c2, n1, n2, h1, h2, A.mono _ _ _ _ _ h3 hb, B.mono _ _ _ _ _ h4 hb⟩
  turn := fun lo hi ok w w' cs cs' c hS hok ⟨c1, c2, n1, n2, h1, h2, h3, h4⟩ hl hn => by
    subst h1
    rw [List.length_append] at hl
    refine ⟨cs'.take c1.length, cs'.drop c1.length, n1, n2, (List.take_append_drop _ _).symm, h2, A.turn lo hi ok w w' c1 _ n1 hS hok h3 (by rw [List.length_take]; omega) (fun i v hv => ?_), B.turn lo hi ok w w' c2 _ n2 hS hok h4 (by rw [List.length_drop]; omega) (fun i v hv => ?_)⟩
    · have hi : i < c1.length := (List.getElem?_eq_some_iff.1 hv).1
      obtain ⟨v', g1, g2⟩ := hn i v (by rw [List.getElem?_append_left hi]; exact hv)
      exact ⟨v', by rw [List.getElem?_take, if_pos hi]; exact g1, g2⟩
    · obtain ⟨v', g1, g2⟩ := hn (c1.length + i) v (by rw [List.getElem?_append_right (by omega), Nat.add_sub_cancel_left]; exact hv)
      exact ⟨v', by rw [List.getElem?_drop]; exact g1, g2⟩
  len := fun ok w cs c ⟨c1, c2, n1, n2, h1, _, h3, h4⟩ => by rw [h1, List.length_append, A.len _ _ _ _ h3, B.len _ _ _ _ h4]

def sumTo (f : Nat → Nat) : Nat → Nat
  | 0 => 0
  | n + 1 => sumTo f n + f n
theorem sumTo_le (f : Nat → Nat) {m n : Nat} (h : m ≤ n) : sumTo f m ≤ sumTo f n := by
  induction n with
  | zero => cases Nat.le_zero.1 h; exact Nat.le_refl _
  | succ n ih =>
    by_cases e : m = n + 1
    · subst e; exact Nat.le_refl _
    · exact Nat.le_trans (ih (by omega)) (Nat.le_add_right _ _)

/-- n elements of shape A lie, from cell 0 on, in block b, of element type t; element i bears f i marks. -/
def RowSh (A : Shape) (t : TypeId) (ok : Nat → Prop) (w : World) (b n : Nat) (f : Nat → Nat) : Prop :=
  ok b ∧ ∃ cur, w.heap[b]? = some (.cells cur t (0, 0)) ∧ n * A.size ≤ cur.size ∧ ∀ i, i < n → ∃ cs, A.holds ok w cs (f i) ∧ ∀ j, j < A.size → cur[i * A.size + j]? = cs[j]?

def SlSh (A : Shape) (t : TypeId) (ok : Nat → Prop) (w : World) (ao : Option Addr) (n c : Nat) : Prop :=
  n ≤ maxLen ∧ ((n = 0 ∧ c = 0) ∨ ∃ b f, ao = some ⟨b, 0, none⟩ ∧ c = sumTo f n ∧ RowSh A t ok w b n f)

theorem RowSh.stays {A : Shape} {t : TypeId} {ok : Nat → Prop} {w w' : World} {b n : Nat} {f : Nat → Nat} (h : RowSh A t ok w b n f) (hb : ∀ b, ok b → w'.heap[b]? = w.heap[b]?) : RowSh A t ok w' b n f := by
  obtain ⟨h0, cur, h1, h2, h3⟩ := h
  refine ⟨h0, cur, (hb b h0).trans h1, h2, fun i hi => ?_⟩
  obtain ⟨cs, h4, h5⟩ := h3 i hi
  exact ⟨cs, A.stays _ _ _ _ _ h4 hb, h5⟩
theorem RowSh.mono {A : Shape} {t : TypeId} {ok ok' : Nat → Prop} {w : World} {b n : Nat} {f : Nat → Nat} (h : RowSh A t ok w b n f) (hb : ∀ b, ok b → ok' b) : RowSh A t ok' w b n f := by
  obtain ⟨h0, cur, h1, h2, h3⟩ := h
  refine ⟨hb _ h0, cur, h1, h2, fun i hi => ?_⟩
  obtain ⟨cs, h4, h5⟩ := h3 i hi
  exact ⟨cs, A.mono _ _ _ _ _ h4 hb, h5⟩
theorem RowSh.turn {A : Shape} {t : TypeId} {ok : Nat → Prop} {lo hi : Nat} {w w' : World} {b n : Nat} {f : Nat → Nat} (h : RowSh A t ok w b n f) (hS : Same lo hi w w') (hok : ∀ b, ok b → lo ≤ b ∧ b < hi) : RowSh A t ok w' b n f := by
  obtain ⟨h0, cur, h1, h2, h3⟩ := h
  obtain ⟨cur', e1, e2, e3⟩ := hS.mid b cur t (hok b h0).1 (hok b h0).2 h1
  refine ⟨h0, cur', e1, by omega, fun i hi => ?_⟩
  obtain ⟨cs, h4, h5⟩ := h3 i hi
  have hl := A.len _ _ _ _ h4
  have hrow : ∀ j, j < A.size → i * A.size + j < cur'.size := fun j hj => by
    have := idx_ne hi hj
    omega
  refine ⟨(List.range A.size).map fun j => (cur'[i * A.size + j]?).getD (.bool false), A.turn lo _ ok w w' cs _ (f i) hS hok h4 (by simp [hl]) (fun j v hv => ?_), fun j hj => ?_⟩
  · have hj : j < A.size := by have := (List.getElem?_eq_some_iff.1 hv).1; omega
    obtain ⟨v', g1, g2⟩ := e3 (i * A.size + j) v ((h5 j hj).trans hv)
    exact ⟨v', by simp [hj, g1], g2⟩
  · simp [hj, hrow j hj]

theorem SlSh.stays {A : Shape} {t : TypeId} {ok : Nat → Prop} {w w' : World} {ao : Option Addr} {n c : Nat} (h : SlSh A t ok w ao n c) (hb : ∀ b, ok b → w'.heap[b]? = w.heap[b]?) : SlSh A t ok w' ao n c := by
  refine ⟨h.1, ?_⟩
  rcases h.2 with h0 | ⟨b, f, h1, h2, h3⟩
  · exact .inl h0
  · exact .inr ⟨b, f, h1, h2, h3.stays hb⟩
theorem SlSh.mono {A : Shape} {t : TypeId} {ok ok' : Nat → Prop} {w : World} {ao : Option Addr} {n c : Nat} (h : SlSh A t ok w ao n c) (hb : ∀ b, ok b → ok' b) : SlSh A t ok' w ao n c := by
  refine ⟨h.1, ?_⟩
  rcases h.2 with h0 | ⟨b, f, h1, h2, h3⟩
  · exact .inl h0
  · exact .inr ⟨b, f, h1, h2, h3.mono hb⟩
theorem SlSh.turn {A : Shape} {t : TypeId} {ok : Nat → Prop} {lo hi : Nat} {w w' : World} {ao : Option Addr} {n c : Nat} (h : SlSh A t ok w ao n c) (hS : Same lo hi w w') (hok : ∀ b, ok b → lo ≤ b ∧ b < hi) : SlSh A t ok w' ao n c := by
  refine ⟨h.1, ?_⟩
  rcases h.2 with h0 | ⟨b, f, h1, h2, h3⟩
  · exact .inl h0
  · exact .inr ⟨b, f, h1, h2, h3.turn hS hok⟩

def shSlice (A : Shape) (t : TypeId) : Shape where
  size := 1
  holds := fun ok w cs c => ∃ ao n cap, cs = [.slice ao n cap] ∧ SlSh A t ok w ao n c
  stays := fun ok w w' cs c ⟨ao, n, cap, h1, h2⟩ hb => ⟨ao, n, cap, h1, h2.stays hb⟩
  mono := fun ok ok' w cs c ⟨ao, n, cap, h1, h2⟩ hb => ⟨ao, n, cap, h1, h2.mono hb⟩
  turn := fun lo hi ok w w' cs cs' c hS hok ⟨ao, n, cap, h1, h2⟩ hl hn => by
    subst h1
    obtain ⟨v', g1, g2⟩ := hn 0 _ rfl
    match cs', hl with
    | [x], _ =>
      simp at g1
      subst g1
      rcases g2 with rfl | ⟨g2, _⟩
      · exact ⟨ao, n, cap, rfl, h2.turn hS hok⟩
      · cases g2
  len := fun _ _ cs c ⟨ao, n, cap, h, _⟩ => by rw [h]; rfl

/-- A view and a shape at once. -/
def vWith {α : Type} (A : View α) (S : Shape) (cnt : α → Nat) : View α where
  size := A.size
  rel := fun ok w cs x => A.rel ok w cs x ∧ S.holds ok w cs (cnt x)
  len := fun ok w cs x h => A.len _ _ _ _ h.1
  stays := fun ok w w' cs x h hb => ⟨A.stays _ _ _ _ _ h.1 hb, S.stays _ _ _ _ _ h.2 hb⟩
  mono := fun ok ok' w cs x h hb => ⟨A.mono _ _ _ _ _ h.1 hb, S.mono _ _ _ _ _ h.2 hb⟩

theorem SliceAt.bare {α : Type} {A : View α} {S : Shape} {cnt : α → Nat} {ok : Nat → Prop} {w : World} {ao : Option Addr} {cap : Nat} {l : List α} (h : SliceAt (vWith A S cnt) ok w ao cap l) : SliceAt A ok w ao cap l := by
  refine ⟨h.1, h.2.1, ?_⟩
  rcases h.2.2 with h0 | ⟨b, off, h1, h2, h3⟩
  · exact .inl h0
  · refine .inr ⟨b, off, h1, h2, fun i hi => ?_⟩
    obtain ⟨c, h4, h5⟩ := h3 i hi
    exact ⟨c, h4.1, h5⟩

def cntAt {α : Type} (cnt : α → Nat) (l : List α) (i : Nat) : Nat := (l[i]?.map cnt).getD 0
theorem sumTo_cnt {α : Type} (cnt : α → Nat) (l : List α) : ∀ n, n ≤ l.length → sumTo (cntAt cnt l) n = ((l.take n).map cnt).sum
  | 0, _ => by simp [sumTo]
  | n + 1, h => by
    rw [sum_take cnt l n (by omega), sumTo, sumTo_cnt cnt l n (by omega)]
    simp [cntAt, show n < l.length by omega]

theorem RowAt.shape {α : Type} {A : View α} {S : Shape} {cnt : α → Nat} {w w' : World} {e : TypeId} {l : List α} (h : RowAt (vWith A S cnt) w' w.heap.size e l.length l) (hm : l.length ≤ maxLen) (hs : A.size = S.size) : SlSh S e (fresh w w') w' (some ⟨w.heap.size, 0, none⟩) l.length (l.map cnt).sum := by
  have hlt := h.lt
  obtain ⟨cur, h1, h2, h3⟩ := h
  have h2 : cur.size = l.length * A.size := h2
  refine ⟨hm, .inr ⟨w.heap.size, cntAt cnt l, rfl, ?_, ⟨Nat.le_refl _, hlt⟩, cur, h1, by rw [h2, hs]; exact Nat.le_refl _, fun i hi => ?_⟩⟩
  · rw [sumTo_cnt cnt l _ (Nat.le_refl _), List.take_length]
  · obtain ⟨c, h4, h5⟩ := h3 i hi hi
    have e1 : cntAt cnt l i = cnt (l[i]'hi) := by simp [cntAt, hi]
    refine ⟨c, ?_, fun j hj => ?_⟩
    · rw [e1]
      exact S.mono _ _ _ _ _ h4.2 (fun b hb => ⟨Nat.le_of_lt hb.1, hb.2⟩)
    · have := h5 j (show j < A.size by omega)
      rw [← hs]
      exact this

/-- One element's cells. -/
theorem RowSh.elem {A : Shape} {t : TypeId} {ok : Nat → Prop} {w : World} {b n : Nat} {f : Nat → Nat} (h : RowSh A t ok w b n f) {i : Nat} (hi : i < n) :
    ∃ cs, A.holds ok w cs (f i) ∧ ∀ j, j < A.size → w.cell? ⟨b, i * A.size + j, none⟩ = cs[j]? ∧ w.frozen? ⟨b, i * A.size + j, none⟩ = false := by
  obtain ⟨h0, cur, h1, h2, h3⟩ := h
  obtain ⟨cs, h4, h5⟩ := h3 i hi
  exact ⟨cs, h4, fun j hj => ⟨(cell_of_block h1).trans (h5 j hj), free_of_block h1⟩⟩

theorem cnt_sum {α : Type} (cnt wt : α → Nat) (h : ∀ x, cnt x ≤ 16 + 16 * wt x) : ∀ l : List α, (l.map cnt).sum ≤ 16 * (l.length + (l.map wt).sum)
  | [] => by simp
  | x :: l => by
    have h1 := h x
    have h2 := cnt_sum cnt wt h l
    simp only [List.map_cons, List.sum_cons, List.length_cons]
    omega
theorem cnt_flat {α : Type} (cnt : α → Nat) (h : ∀ x, cnt x ≤ 16) : ∀ l : List α, (l.map cnt).sum ≤ 16 * l.length
  | [] => by simp
  | x :: l => by
    have h1 := h x
    have h2 := cnt_flat cnt h l
    simp only [List.map_cons, List.sum_cons, List.length_cons]
    omega

end Go.Proofs.Ytpjacfnjjkoikaa
