import Derived.Test.YtnjkkohhgbgpgaaGreatDoorVw1
import Derived.Test.YtnjkkohhgbgpgaaGreatDoorRows
import Derived.Laws.IdiomStrings
import Derived.Test.YtnjkkohhgbgpgaaGreatDoorVStrings
import Derived.Test.YtnjkkohhgbgpgaaGreatDoorVSkyPoint
import Derived.Test.YtnjkkohhgbgpgaaGreatDoorVSkyRunway
import Derived.Test.YtnjkkohhgbgpgaaGreatDoorVSkyBlock
import Derived.Test.YtnjkkohhgbgpgaaGreatDoorVSkyAirway
import Derived.Test.YtnjkkohhgbgpgaaGreatDoorVSkySector
import Derived.Test.YtnjkkohhgbgpgaaGreatDoorVSky

/- DERIVED. SHAPES: what a function that writes marks over an argument needs of it: typed blocks that are not frozen, and where slices lie in them. Same: what such a function leaves. No program is named here. -/
namespace Go.Proofs.YtnjkkohhgbgpgaaGreatDoor
open Go.RowKit
set_option linter.unusedSimpArgs false
set_option linter.unusedVariables false

def isSl : Value → Bool
  | .slice _ _ _ => true
  | _ => false
theorem isSl_int (t : IntKind) (x : Int) : isSl (.int t x) = false := rfl
theorem isSl_str (x : ByteArray) : isSl (.string x) = false := rfl
theorem isSl_bool (x : Bool) : isSl (.bool x) = false := rfl

/-- A cell is as it was, or neither is a slice. -/
def Near (v v' : Value) : Prop := v' = v ∨ (isSl v = false ∧ isSl v' = false)
theorem Near.trans {a b c : Value} (h : Near a b) (k : Near b c) : Near a c := by
  rcases h with rfl | ⟨h1, h2⟩
  · exact k
  · rcases k with rfl | ⟨k1, k2⟩
    · exact .inr ⟨h1, h2⟩
    · exact .inr ⟨h1, k2⟩

/-- Only blocks from lo to hi have turned, and in them no slice and no type. -/
structure Same (lo hi : Nat) (w w' : World) : Prop where
  below : Below lo w w'
  above : ∀ b, hi ≤ b → b < w.heap.size → w'.heap[b]? = w.heap[b]?
  mid : ∀ b cur t, lo ≤ b → b < hi → w.heap[b]? = some (.cells cur t (0, 0)) → ∃ cur', w'.heap[b]? = some (.cells cur' t (0, 0)) ∧ cur'.size = cur.size ∧ ∀ (i : Nat) v, cur[i]? = some v → ∃ v', cur'[i]? = some v' ∧ Near v v'

theorem Same.refl (lo hi : Nat) (w : World) : Same lo hi w w := ⟨Below.refl _ _, fun _ _ _ => rfl, fun b cur t _ _ h => ⟨cur, h, rfl, fun i v hv => ⟨v, hv, .inl rfl⟩⟩⟩
theorem Same.trans {lo hi : Nat} {a b c : World} (h : Same lo hi a b) (k : Same lo hi b c) : Same lo hi a c := by
  refine ⟨h.below.trans k.below, fun i h1 h2 => (k.above i h1 (Nat.lt_of_lt_of_le h2 h.below.size)).trans (h.above i h1 h2), fun i cur t h1 h2 h3 => ?_⟩
  obtain ⟨c1, e1, e2, e3⟩ := h.mid i cur t h1 h2 h3
  obtain ⟨c2, f1, f2, f3⟩ := k.mid i c1 t h1 h2 e1
  refine ⟨c2, f1, by omega, fun j v hv => ?_⟩
  obtain ⟨v1, g1, g2⟩ := e3 j v hv
  obtain ⟨v2, g3, g4⟩ := f3 j v1 g1
  exact ⟨v2, g3, g2.trans g4⟩
theorem Same.ofBelow {lo hi : Nat} {w w' : World} (h : Below w.heap.size w w') (h1 : lo ≤ w.heap.size) (h2 : hi ≤ w.heap.size) : Same lo hi w w' :=
  ⟨h.mono h1, fun b _ hb => h.block b hb, fun b cur t _ hb hc => ⟨cur, (h.block b (by omega)).trans hc, rfl, fun i v hv => ⟨v, hv, .inl rfl⟩⟩⟩
theorem Same.widen {lo hi lo' hi' : Nat} {w w' : World} (h : Same lo hi w w') (h1 : lo' ≤ lo) (h2 : hi ≤ hi') (h3 : hi' ≤ w.heap.size) : Same lo' hi' w w' := by
  refine ⟨h.below.mono h1, fun b hb hb2 => h.above b (by omega) hb2, fun b cur t hb1 hb2 hc => ?_⟩
  by_cases e1 : lo ≤ b
  · by_cases e2 : b < hi
    · exact h.mid b cur t e1 e2 hc
    · exact ⟨cur, (h.above b (by omega) (by omega)).trans hc, rfl, fun i v hv => ⟨v, hv, .inl rfl⟩⟩
  · exact ⟨cur, (h.below.block b (by omega)).trans hc, rfl, fun i v hv => ⟨v, hv, .inl rfl⟩⟩

theorem cell_of_block {w : World} {b i : Nat} {cur : Array Value} {t : TypeId} (h : w.heap[b]? = some (.cells cur t (0, 0))) : w.cell? ⟨b, i, none⟩ = cur[i]? := by simp [World.cell?, h]
theorem free_of_block {w : World} {b i : Nat} {cur : Array Value} {t : TypeId} (h : w.heap[b]? = some (.cells cur t (0, 0))) : w.frozen? ⟨b, i, none⟩ = false := by simp [World.frozen?, h]

theorem Same.set {lo hi : Nat} {w0 w : World} (h : Same lo hi w0 w) {b i : Nat} {v u : Value} (h1 : lo ≤ b) (h2 : b < hi) (hc : w.cell? ⟨b, i, none⟩ = some v) (hv : isSl v = false) (hu : isSl u = false) : Same lo hi w0 (w.setCell ⟨b, i, none⟩ u) := by
  refine ⟨h.below.setCell (p := ⟨b, i, none⟩) h1 u, fun c hc1 hc2 => (Below.heap_setCell w ⟨b, i, none⟩ u c (by show c ≠ b; omega)).trans (h.above c hc1 hc2), fun c cur t k1 k2 k3 => ?_⟩
  obtain ⟨c1, e1, e2, e3⟩ := h.mid c cur t k1 k2 k3
  by_cases e : c = b
  · subst e
    refine ⟨c1.setIfInBounds i u, heap_setCell_same w c i c1 t u e1, by simpa using e2, fun j x hx => ?_⟩
    obtain ⟨x1, g1, g2⟩ := e3 j x hx
    rw [Array.getElem?_setIfInBounds]
    by_cases hij : i = j
    · subst hij
      have hlt : i < c1.size := (Array.getElem?_eq_some_iff.1 g1).1
      rw [if_pos rfl, if_pos hlt]
      rw [cell_of_block e1, g1] at hc
      cases hc
      exact ⟨u, rfl, g2.trans (.inr ⟨hv, hu⟩)⟩
    · rw [if_neg hij]
      exact ⟨x1, g1, g2⟩
  · exact ⟨c1, (Below.heap_setCell w ⟨b, i, none⟩ u c e).trans e1, e2, e3⟩

theorem set_ne (w : World) {b i j : Nat} (u : Value) (h : j ≠ i) : (w.setCell ⟨b, i, none⟩ u).cell? ⟨b, j, none⟩ = w.cell? ⟨b, j, none⟩ := by
  exact World.cell?_setCell_other _ _ _ _ (fun e => by cases e; exact h rfl)

structure Shape where
  size : Nat
  holds : (Nat → Prop) → World → List Value → Nat → Prop
  stays : ∀ (ok : Nat → Prop) (w w' : World) (cs : List Value) (c : Nat), holds ok w cs c → (∀ b, ok b → w'.heap[b]? = w.heap[b]?) → holds ok w' cs c
  mono : ∀ (ok ok' : Nat → Prop) (w : World) (cs : List Value) (c : Nat), holds ok w cs c → (∀ b, ok b → ok' b) → holds ok' w cs c
  turn : ∀ (lo hi : Nat) (ok : Nat → Prop) (w w' : World) (cs cs' : List Value) (c : Nat), Same lo hi w w' → (∀ b, ok b → lo ≤ b ∧ b < hi) → holds ok w cs c → cs'.length = cs.length → (∀ (i : Nat) v, cs[i]? = some v → ∃ v', cs'[i]? = some v' ∧ Near v v') → holds ok w' cs' c
  len : ∀ (ok : Nat → Prop) (w : World) (cs : List Value) (c : Nat), holds ok w cs c → cs.length = size

def shFlat : Shape where
  size := 1
  holds := fun _ _ cs c => ∃ v, cs = [v] ∧ isSl v = false ∧ c = 1
  stays := fun _ _ _ _ _ h _ => h
  mono := fun _ _ _ _ _ h _ => h
  turn := fun lo hi ok w w' cs cs' c hS hok ⟨v, h1, h2, h3⟩ hl hn => by
    subst h1
    obtain ⟨v', g1, g2⟩ := hn 0 v rfl
    match cs', hl with
    | [x], _ =>
      simp at g1
      subst g1
      refine ⟨x, rfl, ?_, h3⟩
      rcases g2 with rfl | ⟨_, g2⟩
      · exact h2
      · exact g2
  len := fun _ _ cs c ⟨v, h, _⟩ => by rw [h]; rfl

def shPair (A B : Shape) : Shape where
  size := A.size + B.size
  holds := fun ok w cs c => ∃ c1 c2 n1 n2, cs = c1 ++ c2 ∧ c = n1 + n2 ∧ A.holds ok w c1 n1 ∧ B.holds ok w c2 n2
  stays := fun ok w w' cs c ⟨c1, c2, n1, n2, h1, h2, h3, h4⟩ hb => ⟨c1, c2, n1, n2, h1, h2, A.stays _ _ _ _ _ h3 hb, B.stays _ _ _ _ _ h4 hb⟩
  mono := fun ok ok' w cs c ⟨c1, c2, n1, n2, h1, h2, h3, h4⟩ hb => ⟨c1, c2, n1, n2, h1, h2, A.mono _ _ _ _ _ h3 hb, B.mono _ _ _ _ _ h4 hb⟩
  turn := fun lo hi ok w w' cs cs' c hS hok ⟨c1, c2, n1, n2, h1, h2, h3, h4⟩ hl hn => by
    subst h1
    rw [List.length_append] at hl
    refine ⟨cs'.take c1.length, cs'.drop c1.length, n1, n2, (List.take_append_drop _ _).symm, h2, A.turn lo hi ok w w' c1 _ n1 hS hok h3 (by rw [List.length_take]; omega) (fun i v hv => ?_), B.turn lo hi ok w w' c2 _ n2 hS hok h4 (by rw [List.length_drop]; omega) (fun i v hv => ?_)⟩
    · have hi : i < c1.length := (List.getElem?_eq_some_iff.1 hv).1
      obtain ⟨v', g1, g2⟩ := hn i v (by rw [List.getElem?_append_left hi]; exact hv)
      exact ⟨v', by rw [List.getElem?_take, if_pos hi]; exact g1, g2⟩
    · obtain ⟨v', g1, g2⟩ := hn (c1.length + i) v (by rw [List.getElem?_append_right (by omega), Nat.add_sub_cancel_left]; exact hv)
      exact ⟨v', by rw [List.getElem?_drop]; exact g1, g2⟩
  len := fun ok w cs c ⟨c1, c2, n1, n2, h1, _, h3, h4⟩ => by rw [h1, List.length_append, A.len _ _ _ _ h3, B.len _ _ _ _ h4]

def sumTo (f : Nat → Nat) : Nat → Nat
  | 0 => 0
  | n + 1 => sumTo f n + f n
theorem sumTo_le (f : Nat → Nat) {m n : Nat} (h : m ≤ n) : sumTo f m ≤ sumTo f n := by
  induction n with
  | zero => cases Nat.le_zero.1 h; exact Nat.le_refl _
  | succ n ih =>
    by_cases e : m = n + 1
    · subst e; exact Nat.le_refl _
    · exact Nat.le_trans (ih (by omega)) (Nat.le_add_right _ _)

/-- n elements of shape A lie, from cell 0 on, in block b, of element type t; element i bears f i marks. -/
def RowSh (A : Shape) (t : TypeId) (ok : Nat → Prop) (w : World) (b n : Nat) (f : Nat → Nat) : Prop :=
  ok b ∧ ∃ cur, w.heap[b]? = some (.cells cur t (0, 0)) ∧ n * A.size ≤ cur.size ∧ ∀ i, i < n → ∃ cs, A.holds ok w cs (f i) ∧ ∀ j, j < A.size → cur[i * A.size + j]? = cs[j]?

def SlSh (A : Shape) (t : TypeId) (ok : Nat → Prop) (w : World) (ao : Option Addr) (n c : Nat) : Prop :=
  n ≤ maxLen ∧ ((n = 0 ∧ c = 0) ∨ ∃ b f, ao = some ⟨b, 0, none⟩ ∧ c = sumTo f n ∧ RowSh A t ok w b n f)

theorem RowSh.stays {A : Shape} {t : TypeId} {ok : Nat → Prop} {w w' : World} {b n : Nat} {f : Nat → Nat} (h : RowSh A t ok w b n f) (hb : ∀ b, ok b → w'.heap[b]? = w.heap[b]?) : RowSh A t ok w' b n f := by
  obtain ⟨h0, cur, h1, h2, h3⟩ := h
  refine ⟨h0, cur, (hb b h0).trans h1, h2, fun i hi => ?_⟩
  obtain ⟨cs, h4, h5⟩ := h3 i hi
  exact ⟨cs, A.stays _ _ _ _ _ h4 hb, h5⟩
theorem RowSh.mono {A : Shape} {t : TypeId} {ok ok' : Nat → Prop} {w : World} {b n : Nat} {f : Nat → Nat} (h : RowSh A t ok w b n f) (hb : ∀ b, ok b → ok' b) : RowSh A t ok' w b n f := by
  obtain ⟨h0, cur, h1, h2, h3⟩ := h
  refine ⟨hb _ h0, cur, h1, h2, fun i hi => ?_⟩
  obtain ⟨cs, h4, h5⟩ := h3 i hi
  exact ⟨cs, A.mono _ _ _ _ _ h4 hb, h5⟩
theorem RowSh.turn {A : Shape} {t : TypeId} {ok : Nat → Prop} {lo hi : Nat} {w w' : World} {b n : Nat} {f : Nat → Nat} (h : RowSh A t ok w b n f) (hS : Same lo hi w w') (hok : ∀ b, ok b → lo ≤ b ∧ b < hi) : RowSh A t ok w' b n f := by
  obtain ⟨h0, cur, h1, h2, h3⟩ := h
  obtain ⟨cur', e1, e2, e3⟩ := hS.mid b cur t (hok b h0).1 (hok b h0).2 h1
  refine ⟨h0, cur', e1, by omega, fun i hi => ?_⟩
  obtain ⟨cs, h4, h5⟩ := h3 i hi
  have hl := A.len _ _ _ _ h4
  have hrow : ∀ j, j < A.size → i * A.size + j < cur'.size := fun j hj => by
    have := idx_ne hi hj
    omega
  refine ⟨(List.range A.size).map fun j => (cur'[i * A.size + j]?).getD (.bool false), A.turn lo _ ok w w' cs _ (f i) hS hok h4 (by simp [hl]) (fun j v hv => ?_), fun j hj => ?_⟩
  · have hj : j < A.size := by have := (List.getElem?_eq_some_iff.1 hv).1; omega
    obtain ⟨v', g1, g2⟩ := e3 (i * A.size + j) v ((h5 j hj).trans hv)
    exact ⟨v', by simp [hj, g1], g2⟩
  · simp [hj, hrow j hj]

theorem SlSh.stays {A : Shape} {t : TypeId} {ok : Nat → Prop} {w w' : World} {ao : Option Addr} {n c : Nat} (h : SlSh A t ok w ao n c) (hb : ∀ b, ok b → w'.heap[b]? = w.heap[b]?) : SlSh A t ok w' ao n c := by
  refine ⟨h.1, ?_⟩
  rcases h.2 with h0 | ⟨b, f, h1, h2, h3⟩
  · exact .inl h0
  · exact .inr ⟨b, f, h1, h2, h3.stays hb⟩
theorem SlSh.mono {A : Shape} {t : TypeId} {ok ok' : Nat → Prop} {w : World} {ao : Option Addr} {n c : Nat} (h : SlSh A t ok w ao n c) (hb : ∀ b, ok b → ok' b) : SlSh A t ok' w ao n c := by
  refine ⟨h.1, ?_⟩
  rcases h.2 with h0 | ⟨b, f, h1, h2, h3⟩
  · exact .inl h0
  · exact .inr ⟨b, f, h1, h2, h3.mono hb⟩
theorem SlSh.turn {A : Shape} {t : TypeId} {ok : Nat → Prop} {lo hi : Nat} {w w' : World} {ao : Option Addr} {n c : Nat} (h : SlSh A t ok w ao n c) (hS : Same lo hi w w') (hok : ∀ b, ok b → lo ≤ b ∧ b < hi) : SlSh A t ok w' ao n c := by
  refine ⟨h.1, ?_⟩
  rcases h.2 with h0 | ⟨b, f, h1, h2, h3⟩
  · exact .inl h0
  · exact .inr ⟨b, f, h1, h2, h3.turn hS hok⟩

def shSlice (A : Shape) (t : TypeId) : Shape where
  size := 1
  holds := fun ok w cs c => ∃ ao n cap, cs = [.slice ao n cap] ∧ SlSh A t ok w ao n c
  stays := fun ok w w' cs c ⟨ao, n, cap, h1, h2⟩ hb => ⟨ao, n, cap, h1, h2.stays hb⟩
  mono := fun ok ok' w cs c ⟨ao, n, cap, h1, h2⟩ hb => ⟨ao, n, cap, h1, h2.mono hb⟩
  turn := fun lo hi ok w w' cs cs' c hS hok ⟨ao, n, cap, h1, h2⟩ hl hn => by
    subst h1
    obtain ⟨v', g1, g2⟩ := hn 0 _ rfl
    match cs', hl with
    | [x], _ =>
      simp at g1
      subst g1
      rcases g2 with rfl | ⟨g2, _⟩
      · exact ⟨ao, n, cap, rfl, h2.turn hS hok⟩
      · cases g2
  len := fun _ _ cs c ⟨ao, n, cap, h, _⟩ => by rw [h]; rfl

/-- A view and a shape at once. -/
def vWith {α : Type} (A : View α) (S : Shape) (cnt : α → Nat) : View α where
  size := A.size
  rel := fun ok w cs x => A.rel ok w cs x ∧ S.holds ok w cs (cnt x)
  len := fun ok w cs x h => A.len _ _ _ _ h.1
  stays := fun ok w w' cs x h hb => ⟨A.stays _ _ _ _ _ h.1 hb, S.stays _ _ _ _ _ h.2 hb⟩
  mono := fun ok ok' w cs x h hb => ⟨A.mono _ _ _ _ _ h.1 hb, S.mono _ _ _ _ _ h.2 hb⟩

theorem SliceAt.bare {α : Type} {A : View α} {S : Shape} {cnt : α → Nat} {ok : Nat → Prop} {w : World} {ao : Option Addr} {cap : Nat} {l : List α} (h : SliceAt (vWith A S cnt) ok w ao cap l) : SliceAt A ok w ao cap l := by
  refine ⟨h.1, h.2.1, ?_⟩
  rcases h.2.2 with h0 | ⟨b, off, h1, h2, h3⟩
  · exact .inl h0
  · refine .inr ⟨b, off, h1, h2, fun i hi => ?_⟩
    obtain ⟨c, h4, h5⟩ := h3 i hi
    exact ⟨c, h4.1, h5⟩

def cntAt {α : Type} (cnt : α → Nat) (l : List α) (i : Nat) : Nat := (l[i]?.map cnt).getD 0
theorem sumTo_cnt {α : Type} (cnt : α → Nat) (l : List α) : ∀ n, n ≤ l.length → sumTo (cntAt cnt l) n = ((l.take n).map cnt).sum
  | 0, _ => by simp [sumTo]
  | n + 1, h => by
    rw [sum_take cnt l n (by omega), sumTo, sumTo_cnt cnt l n (by omega)]
    simp [cntAt, show n < l.length by omega]

theorem RowAt.shape {α : Type} {A : View α} {S : Shape} {cnt : α → Nat} {w w' : World} {e : TypeId} {l : List α} (h : RowAt (vWith A S cnt) w' w.heap.size e l.length l) (hm : l.length ≤ maxLen) (hs : A.size = S.size) : SlSh S e (fresh w w') w' (some ⟨w.heap.size, 0, none⟩) l.length (l.map cnt).sum := by
  have hlt := h.lt
  obtain ⟨cur, h1, h2, h3⟩ := h
  have h2 : cur.size = l.length * A.size := h2
  refine ⟨hm, .inr ⟨w.heap.size, cntAt cnt l, rfl, ?_, ⟨Nat.le_refl _, hlt⟩, cur, h1, by rw [h2, hs]; exact Nat.le_refl _, fun i hi => ?_⟩⟩
  · rw [sumTo_cnt cnt l _ (Nat.le_refl _), List.take_length]
  · obtain ⟨c, h4, h5⟩ := h3 i hi hi
    have e1 : cntAt cnt l i = cnt (l[i]'hi) := by simp [cntAt, hi]
    refine ⟨c, ?_, fun j hj => ?_⟩
    · rw [e1]
      exact S.mono _ _ _ _ _ h4.2 (fun b hb => ⟨Nat.le_of_lt hb.1, hb.2⟩)
    · have := h5 j (show j < A.size by omega)
      rw [← hs]
      exact this

/-- One element's cells. -/
theorem RowSh.elem {A : Shape} {t : TypeId} {ok : Nat → Prop} {w : World} {b n : Nat} {f : Nat → Nat} (h : RowSh A t ok w b n f) {i : Nat} (hi : i < n) :
    ∃ cs, A.holds ok w cs (f i) ∧ ∀ j, j < A.size → w.cell? ⟨b, i * A.size + j, none⟩ = cs[j]? ∧ w.frozen? ⟨b, i * A.size + j, none⟩ = false := by
  obtain ⟨h0, cur, h1, h2, h3⟩ := h
  obtain ⟨cs, h4, h5⟩ := h3 i hi
  exact ⟨cs, h4, fun j hj => ⟨(cell_of_block h1).trans (h5 j hj), free_of_block h1⟩⟩

theorem cnt_sum {α : Type} (cnt wt : α → Nat) (h : ∀ x, cnt x ≤ 16 + 16 * wt x) : ∀ l : List α, (l.map cnt).sum ≤ 16 * (l.length + (l.map wt).sum)
  | [] => by simp
  | x :: l => by
    have h1 := h x
    have h2 := cnt_sum cnt wt h l
    simp only [List.map_cons, List.sum_cons, List.length_cons]
    omega
theorem cnt_flat {α : Type} (cnt : α → Nat) (h : ∀ x, cnt x ≤ 16) : ∀ l : List α, (l.map cnt).sum ≤ 16 * l.length
  | [] => by simp
  | x :: l => by
    have h1 := h x
    have h2 := cnt_flat cnt h l
    simp only [List.map_cons, List.sum_cons, List.length_cons]
    omega

end Go.Proofs.YtnjkkohhgbgpgaaGreatDoor

/- DERIVED. laws.markText: it returns some short text, and turns nothing that was there. -/
namespace Go.Proofs.YtnjkkohhgbgpgaaGreatDoor
open Go.RowKit
set_option linter.unusedSimpArgs false
set_option linter.unusedVariables false

/-- The decimal digits of k, as bytes. -/
def digs : Nat → Nat → List UInt8
  | 0, _ => []
  | f + 1, k => if k = 0 then [] else digs f (k / 10) ++ [UInt8.ofNat (48 + k % 10)]

theorem digs_zero (f : Nat) : digs f 0 = [] := by cases f <;> simp [digs]
theorem digs_len : ∀ f k, (digs f k).length ≤ f
  | 0, _ => Nat.le_refl _
  | f + 1, k => by
    have := digs_len f (k / 10)
    unfold digs
    split <;> simp <;> omega

def markL (k : Nat) : List UInt8 := if k = 0 then [109, 48] else 109 :: digs k k

theorem cons_byte (c : UInt8) (l : List UInt8) : ((⟨#[c]⟩ : ByteArray) ++ (⟨l.toArray⟩ : ByteArray)) = ⟨(c :: l).toArray⟩ := by
  apply ByteArray.ext
  simp [ByteArray.data_append]

theorem size_list (l : List UInt8) : (⟨l.toArray⟩ : ByteArray).size = l.length := by simp [ByteArray.size]

theorem dig_cell (k : Nat) : ((UInt8.ofNat (48 + k % 10)).toNat : Int) = 48 + (k : Int) % 10 := by
  have : (UInt8.ofNat (48 + k % 10)).toNat = 48 + k % 10 := by
    rw [UInt8.toNat_ofNat']; omega
  rw [this]; omega

theorem conv_dig (w : World) (k : Nat) :
    (convert 137 9 (.slice (some ⟨w.heap.size, 0, none⟩) 1 1)).run Tryz.prog (w.alloc (.cells #[.int .u8 (48 + (k : Int) % 10)] 5)) = .ok (.string ⟨#[UInt8.ofNat (48 + k % 10)]⟩) (w.alloc (.cells #[.int .u8 (48 + (k : Int) % 10)] 5)) := by
  refine run_convert_bytes_back (P := Tryz.prog) (w.alloc (.cells #[.int .u8 (48 + (k : Int) % 10)] 5)) 137 9 5 ⟨w.heap.size, 0, none⟩ 1 [UInt8.ofNat (48 + k % 10)] Tryz.underlying137 Tryz.underlying5 Tryz.underlying9 ?_
  intro j hj
  match j, hj with
  | 0, _ => simp only [List.getElem_cons_zero, dig_cell]; simp [Addr.add]

theorem digs_next (f k : Nat) (s D : List UInt8) (hk : 0 < k) (h : digs (f + 1) k ++ s = D) : digs f (k / 10) ++ (UInt8.ofNat (48 + k % 10) :: s) = D := by
  rw [← h]
  have : ¬ k = 0 := by omega
  simp [digs, this]

set_option maxHeartbeats 400000 in
theorem markText_any (K : Nat) (w : World) (hK : K ≤ 1099511627776) :
    Calls Tryz.prog 52 #[.int .i64 K] w fun e w' => e = .returned (.string ⟨(markL K).toArray⟩) ∧ Below w.heap.size w w' := by
  by_cases h0 : K = 0
  · subst h0
    go_enter Tryz.func52, Tryz.ntmps52
    go_wp2
    go_ret
    exact ⟨rfl, Below.refl _ _⟩
  · have hpos : 0 < K := by omega
    have hL := digs_len K K
    obtain ⟨D, hD⟩ : ∃ D, D = digs K K := ⟨_, rfl⟩
    rw [← hD] at hL
    have HM : Hid (markL K = 109 :: D) := by show _ = _; simp [markL, h0, hD]
    have HD : Hid (D = digs K K) := hD
    have h5 : decide ((K : Int) ≤ 0) = false := by simp; omega
    clear hD h0
    go_enter Tryz.func52, Tryz.ntmps52
    go_wp2
    go_loopw [0, 3] (fun a b wr => ∃ (f k : Nat) (s : List UInt8), k ≤ f ∧ k ≤ K ∧ a = .int .i64 k ∧ b = .string ⟨s.toArray⟩ ∧ Hid (digs f k ++ s = D) ∧ Below w.heap.size w wr) (fun a _ _ => (intOf a).toNat)
    case atStart => exact ⟨K, K, [], Nat.le_refl _, Nat.le_refl _, rfl, rfl, by show _ = _; rw [List.append_nil, HD.out], Below.refl _ _⟩
    case round =>
      obtain ⟨f, k, s, hkf, hkK, rfl, rfl, hs, hbel⟩ := hrel
      have hsl : s.length ≤ K := by have := congrArg List.length hs.out; simp at this; omega
      have hsz := hbel.size
      by_cases hk : 0 < k
      · obtain ⟨f', rfl⟩ : ∃ f', f = f' + 1 := ⟨f - 1, by omega⟩
        have hcv := conv_dig wr k
        have HN : Hid _ := digs_next f' k s D hk hs.out
        obtain ⟨c, hc⟩ : ∃ c, c = UInt8.ofNat (48 + k % 10) := ⟨_, rfl⟩
        rw [← hc] at hcv HN
        have hadd := fun W => run_string_add_sum (P := Tryz.prog) W ⟨#[c]⟩ ⟨s.toArray⟩ (by
          have h1 : (⟨#[c]⟩ : ByteArray).size = 1 := rfl
          have h2 := size_list s
          omega)
        rw [cons_byte] at hadd
        clear hs hc
        go_wp2
        go_roundw
        case rel => exact ⟨f', k / 10, c :: s, by omega, by omega, by go_num, rfl, HN, hbel.alloc hsz _⟩
        case measure => simp [intOf]; omega
      · have hk0 : k = 0 := by omega
        subst hk0
        have HS : Hid (s = D) := by have := hs.out; rw [digs_zero] at this; exact this
        have hadd := fun W => run_string_add_sum (P := Tryz.prog) W ⟨#[109]⟩ ⟨s.toArray⟩ (by
          have h1 : (⟨#[109]⟩ : ByteArray).size = 1 := rfl
          have h2 := size_list s
          omega)
        rw [cons_byte] at hadd
        go_wp2
        go_ret
        exact ⟨by rw [HM.out, ← HS.out]; rfl, hbel⟩

theorem markText_int (m : Int) (w : World) (h0 : 0 ≤ m) (h1 : m ≤ 1099511627776) :
    Calls Tryz.prog 52 #[.int .i64 m] w fun e w' => e = .returned (.string ⟨(markL m.toNat).toArray⟩) ∧ Below w.heap.size w w' := by
  obtain ⟨K, rfl⟩ := Int.eq_ofNat_of_zero_le h0
  exact markText_any K w (by omega)

theorem markText_ex (m : Int) (w : World) (h0 : 0 ≤ m) (h1 : m ≤ 1099511627776) :
    Calls Tryz.prog 52 #[.int .i64 m] w fun e w' => ∃ s : ByteArray, e = .returned (.string s) ∧ Below w.heap.size w w' :=
  (markText_int m w h0 h1).mono fun e w' h => ⟨_, h.1, h.2⟩

end Go.Proofs.YtnjkkohhgbgpgaaGreatDoor

/- DERIVED. The shape of a list of texts; 'to' ends in it; 'mark' over it. -/
namespace Go.Proofs.YtnjkkohhgbgpgaaGreatDoor
open Go.RowKit
set_option linter.unusedSimpArgs false
set_option linter.unusedVariables false

def shString : Shape := shFlat
def cnString (_ : ByteArray) : Nat := 1
def cnStringS (l : List ByteArray) : Nat := (l.map cnString).sum
theorem cnStringS_le (l : List ByteArray) : cnStringS l ≤ 16 * wStringS l := by
  unfold cnStringS wStringS
  have := cnt_flat cnString (fun _ => by unfold cnString; omega) l
  omega

theorem elemSh_String {t : TypeId} {ok : Nat → Prop} {w : World} {b n : Nat} {f : Nat → Nat} (h : RowSh shString t ok w b n f) {i : Nat} (hi : i < n) :
    ∃ (v0 : Value), f i = 1 ∧ w.cell? ⟨b, i, none⟩ = some v0 ∧ w.frozen? ⟨b, i, none⟩ = false ∧ isSl v0 = false := by
  obtain ⟨cs, h1, h2⟩ := h.elem hi
  obtain ⟨v0, rfl, q0, m0⟩ := h1
  have h3 := h2 0 (by decide)
  rw [show shString.size = 1 from rfl, Nat.mul_one, Nat.add_zero] at h3
  exact ⟨v0, m0, h3.1, h3.2, q0⟩

set_option maxHeartbeats 400000 in
theorem toStringS_sh (ao : Option Addr) (cap : Nat) (l : List ByteArray) (w : World) (hn : wStringS l ≤ 1048576) (h : SliceAt vStr (old w) w ao cap l) :
    Calls Tryz.prog 9 #[.slice ao l.length cap] w fun e w' => ∃ ao' cap', e = .returned (.slice ao' l.length cap') ∧ SliceAt vStr (fresh w w') w' ao' cap' l ∧ SlSh shString 9 (fresh w w') w' ao' l.length (cnStringS l) ∧ Below w.heap.size w w' := by
  have hl : l.length ≤ 1048576 := by unfold wStringS at hn; omega
  obtain ⟨i0, hi, hz0, hz1, hz2⟩ := info_parts Tryz.info_String
  go_enter Tryz.func9, Tryz.ntmps9
  go_wp2_with (at_make; refine wpList_make_full _ rfl _ _ 28 rfl w.heap.size 9 i0 _ 1 Tryz.underlying28 hi hz0 hz1 _ _ _ _ l.length rfl rfl rfl rfl ?c1 ?c2 ?c3 ?_)
  case c1 => rw [hz2]; omega
  case c2 => unfold maxLen; omega
  case c3 => exact Nat.le_refl _
  intro w1 hown hgr
  have hR0 : RowAt (vWith vStr shString cnString) w1 w.heap.size 9 0 l := RowAt.start (A := vWith vStr shString cnString) rfl hown
  have hB0 : Below w.heap.size w w1 := (Below.refl _ _).grown hgr (Nat.le_refl _) (by intro k hk; cases hk)
  clear hown hgr hi hz0 hz1 hz2
  go_wp2
  go_loopw [4] (fun i wr => ∃ k : Nat, k ≤ l.length ∧ i = .int .i64 k ∧ Below w.heap.size w wr ∧ RowAt (vWith vStr shString cnString) wr w.heap.size 9 k l) (fun i _ => l.length - (intOf i).toNat)
  case atStart => exact ⟨0, Nat.zero_le _, rfl, hB0, hR0⟩
  case round =>
    obtain ⟨k, hk, rfl, hbel, hR⟩ := hrel
    by_cases hlt : k < l.length
    · obtain ⟨b, off, rfl, hok, c0, p0⟩ := elem_String h hlt
      have d0 := (hbel.cell (p := ⟨b, off + k, none⟩) hok).trans c0
      have hR3 := hR.store hlt (c := [.string l[k]]) ⟨⟨rfl, p0⟩, ⟨_, rfl, rfl, rfl⟩⟩
      have hB3 := put_below w.heap.size w.heap.size (Nat.le_refl _) [.string l[k]] _ _ (k * 1) hbel
      obtain ⟨u0, e0⟩ := hR.cell (i := k) (by show k < l.length * 1; omega)
      have f0 := hR.free k
      have hv1 : (vWith vStr shString cnString).size = 1 := rfl
      rw [hv1, Nat.mul_one] at hR3
      rw [Nat.mul_one] at hB3
      clear c0 hR0 hB0 hR hv1
      go_wp2
      go_roundw
      case rel => exact ⟨k + 1, by omega, by go_num, hB3, hR3⟩
      case measure => simp [intOf]; omega
    · have hk2 : k = l.length := by omega
      subst hk2
      have hS := (hR.done (by unfold maxLen; omega)).bare
      have hSh := hR.shape (by unfold maxLen; omega) rfl
      go_wp2
      go_ret
      exact ⟨_, _, rfl, hS, hSh, hbel⟩

set_option maxRecDepth 100000 in
set_option maxHeartbeats 2000000 in
theorem markStringS_any (ao : Option Addr) (n cap c : Nat) (k : Int) (lo hi : Nat) (w : World) (h : SlSh shString 9 (fun b => lo ≤ b ∧ b < hi) w ao n c) (hlo : lo ≤ hi) (hhi : hi ≤ w.heap.size) (hk : 0 ≤ k) (hc : k + c ≤ 1099511627776) :
    Calls Tryz.prog 15 #[.slice ao n cap, .int .i64 k] w fun e w' => e = .returned (.int .i64 (k + c)) ∧ Same lo hi w w' := by
  have hm : n ≤ 9223372036854775807 := h.1
  rcases h.2 with ⟨rfl, rfl⟩ | ⟨b, f, rfl, hcf, hR⟩
  · go_enter Tryz.func15, Tryz.ntmps15
    go_wp2
    go_loop [1, 5] (fun a i => a = .int .i64 k ∧ i = .int .i64 0) (fun _ _ => 0)
    case atStart => exact ⟨rfl, rfl⟩
    case round =>
      obtain ⟨rfl, rfl⟩ := hrel
      go_wp2
      go_ret
      exact ⟨by simp, Same.refl _ _ _⟩
  · have hb1 := hR.1.1
    have hb2 := hR.1.2
    have HF : Hid (c = sumTo f n) := hcf
    clear hcf h
    go_enter Tryz.func15, Tryz.ntmps15
    go_wp2
    go_loopw [1, 5] (fun a i wr => ∃ (j : Nat) (q : Int), j ≤ n ∧ i = .int .i64 j ∧ a = .int .i64 q ∧ Hid (q = k + sumTo f j) ∧ Same lo hi w wr) (fun _ i _ => n - (intOf i).toNat)
    case atStart => exact ⟨0, k, Nat.zero_le _, rfl, rfl, by show _ = _; simp [sumTo], Same.refl _ _ _⟩
    case round =>
      obtain ⟨j, q, hj, rfl, rfl, hq, hS⟩ := hrel
      by_cases hlt : j < n
      · have hs1 : sumTo f j + f j ≤ sumTo f n := sumTo_le f (m := j + 1) hlt
        have hq0 : 0 ≤ q := by have := hq.out; omega
        have hq1 : q + f j ≤ 1099511627776 := by have h1 := hq.out; have h2 := HF.out; omega
        have HQ : Hid (q + f j = k + sumTo f (j + 1)) := by have h1 := hq.out; show _ = _; simp only [sumTo]; omega
        have hRw := hR.turn hS (fun _ h => h)
        have hsz := hS.below.size
        clear hs1 hq
        obtain ⟨v0, hf, d0, f0, z0⟩ := elemSh_String hRw hlt
        rw [hf] at hq1 HQ
        clear hf hRw
        go_wp2_with fail
        refine (markText_ex _ _ (by omega) (by omega)).mono ?_
        rintro e w1 ⟨t1, rfl, g1⟩
        have hY1 := hS.trans (Same.ofBelow (lo := lo) (hi := hi) g1 (by omega) (by omega))
        clear d0 f0 z0 g1 hS
        have hRw := hR.turn hY1 (fun _ h => h)
        have hsz := hY1.below.size
        obtain ⟨v0, hf, d0, f0, z0⟩ := elemSh_String hRw hlt
        clear hf
        have hE : Same lo hi w (w1.setCell ⟨b, j, none⟩ (.string t1)) := (hY1.set hb1 hb2 d0 z0 rfl)
        clear hRw
        go_wp2
        go_roundw
        case rel => exact ⟨j + 1, q + 1, by omega, by go_num, by go_num, by have := HQ.out; show _ = _; omega, hE⟩
        case measure => simp [intOf]; omega
      · have hje : j = n := by omega
        subst hje
        have HE : Hid (q = k + c) := by have h1 := hq.out; have h2 := HF.out; show _ = _; omega
        clear hq HF
        go_wp2
        go_ret
        exact ⟨by rw [HE.out]; rfl, hS⟩

end Go.Proofs.YtnjkkohhgbgpgaaGreatDoor

/- DERIVED. By gm.py: the shape of SkyPoint; 'to' ends in it; 'mark' over it. -/
namespace Go.Proofs.YtnjkkohhgbgpgaaGreatDoor
open Go.RowKit
set_option linter.unusedSimpArgs false
set_option linter.unusedVariables false

def shSkyPoint : Shape := shPair shFlat (shPair shFlat shFlat)
theorem shSkyPoint_size : shSkyPoint.size = 3 := rfl
def cnSkyPoint (x : DSkyPoint) : Nat := 1 + (1 + 1)
def cnSkyPointS (l : List DSkyPoint) : Nat := (l.map cnSkyPoint).sum
theorem cnSkyPointS_le (l : List DSkyPoint) : cnSkyPointS l ≤ 16 * wSkyPointS l := by
  unfold cnSkyPointS wSkyPointS
  refine cnt_sum cnSkyPoint wSkyPoint (fun x => ?_) l
  unfold cnSkyPoint wSkyPoint
  omega

theorem hold_SkyPoint {ok : Nat → Prop} {w : World} {x : DSkyPoint} : shSkyPoint.holds ok w [.string x.1, .int .i64 x.2.1, .int .i64 x.2.2] (cnSkyPoint x) :=
  ⟨[_], _, _, _, rfl, rfl, ⟨_, rfl, rfl, rfl⟩, ⟨[_], _, _, _, rfl, rfl, ⟨_, rfl, rfl, rfl⟩, ⟨_, rfl, rfl, rfl⟩⟩⟩

theorem elemSh_SkyPoint {t : TypeId} {ok : Nat → Prop} {w : World} {b n : Nat} {f : Nat → Nat} (h : RowSh shSkyPoint t ok w b n f) {i : Nat} (hi : i < n) :
    ∃ (v0 : Value) (v1 : Value) (v2 : Value), f i = 1 + (1 + 1) ∧ w.cell? ⟨b, i * 3, none⟩ = some v0 ∧ w.frozen? ⟨b, i * 3, none⟩ = false ∧ isSl v0 = false ∧ w.cell? ⟨b, i * 3 + 1, none⟩ = some v1 ∧ w.frozen? ⟨b, i * 3 + 1, none⟩ = false ∧ isSl v1 = false ∧ w.cell? ⟨b, i * 3 + 2, none⟩ = some v2 ∧ w.frozen? ⟨b, i * 3 + 2, none⟩ = false ∧ isSl v2 = false := by
  obtain ⟨cs, h1, h2⟩ := h.elem hi
  obtain ⟨_, _, n0x, n0y, rfl, e0, ⟨v0, rfl, q0, m0⟩, ⟨_, _, n1x, n1y, rfl, e1, ⟨v1, rfl, q1, m1⟩, ⟨v2, rfl, q2, m2⟩⟩⟩ := h1
  refine ⟨v0, v1, v2, by omega, (h2 0 (by decide)).1, (h2 0 (by decide)).2, q0, (h2 1 (by decide)).1, (h2 1 (by decide)).2, q1, (h2 2 (by decide)).1, (h2 2 (by decide)).2, q2⟩

theorem vwSkyPoint_size : (vWith vSkyPoint shSkyPoint cnSkyPoint).size = 3 := rfl

set_option maxHeartbeats 1000000 in
theorem toSkyPointS_sh (ao : Option Addr) (cap : Nat) (l : List DSkyPoint) (w : World) (hn : wSkyPointS l ≤ 1048576) (h : SliceAt vSkyPoint (old w) w ao cap l) :
    Calls Tryz.prog 35 #[.slice ao l.length cap] w fun e w' => ∃ ao' cap', e = .returned (.slice ao' l.length cap') ∧ SliceAt vSkyPoint (fresh w w') w' ao' cap' l ∧ SlSh shSkyPoint 113 (fresh w w') w' ao' l.length (cnSkyPointS l) ∧ Below w.heap.size w w' := by
  have hl : l.length ≤ 1048576 := by unfold wSkyPointS at hn; omega
  obtain ⟨i0, hi, hz0, hz1, hz2⟩ := info_parts Tryz.info_SkyPoint
  go_enter Tryz.func35, Tryz.ntmps35
  go_wp2_with (at_make; refine wpList_make_full _ rfl _ _ 34 rfl w.heap.size 113 i0 _ 3 Tryz.underlying34 hi hz0 hz1 _ _ _ _ l.length rfl rfl rfl rfl ?c1 ?c2 ?c3 ?_)
  case c1 => rw [hz2]; omega
  case c2 => unfold maxLen; omega
  case c3 => exact Nat.le_refl _
  intro w1 hown hgr
  have hR0 : RowAt (vWith vSkyPoint shSkyPoint cnSkyPoint) w1 w.heap.size 113 0 l := RowAt.start (A := vWith vSkyPoint shSkyPoint cnSkyPoint) rfl hown
  have hB0 : Below w.heap.size w w1 := (Below.refl _ _).grown hgr (Nat.le_refl _) (by intro k hk; cases hk)
  clear hown hgr hi hz0 hz1 hz2
  go_wp2
  go_loopw [4] (fun i wr => ∃ k : Nat, k ≤ l.length ∧ i = .int .i64 k ∧ Below w.heap.size w wr ∧ RowAt (vWith vSkyPoint shSkyPoint cnSkyPoint) wr w.heap.size 113 k l) (fun i _ => l.length - (intOf i).toNat)
  case atStart => exact ⟨0, Nat.zero_le _, rfl, hB0, hR0⟩
  case round =>
    obtain ⟨k, hk, rfl, hbel, hR⟩ := hrel
    by_cases hlt : k < l.length
    · obtain ⟨b, off, rfl, hok, c0, c1, c2, p0, p1, p2⟩ := elem_SkyPoint h hlt
      have d0 := (hbel.cell (p := ⟨b, off + k * 3, none⟩) hok).trans c0
      have d1 := (hbel.cell (p := ⟨b, off + k * 3 + 1, none⟩) hok).trans c1
      have d2 := (hbel.cell (p := ⟨b, off + k * 3 + 2, none⟩) hok).trans c2
      clear c0 c1 c2 hR0 hB0
      go_wp2_with fail
      refine (toSkyPoint_any _ _).mono ?_
      rintro e w2 ⟨rfl, hb2⟩
      have hR2 := hR.later hb2
      have hB2 := hbel.trans (hb2.mono hbel.size)
      have hR3 := hR2.store hlt (c := [.string l[k].1, .int .i64 l[k].2.1, .int .i64 l[k].2.2]) ⟨mk_SkyPoint p0 p1 p2, hold_SkyPoint⟩
      have hB3 := put_below w.heap.size w.heap.size (Nat.le_refl _) [.string l[k].1, .int .i64 l[k].2.1, .int .i64 l[k].2.2] _ _ (k * 3) hB2
      obtain ⟨u0, e0⟩ := hR2.cell (i := k * 3) (by rw [vwSkyPoint_size]; omega)
      obtain ⟨u1, e1⟩ := hR2.cell (i := k * 3 + 1) (by rw [vwSkyPoint_size]; omega)
      obtain ⟨u2, e2⟩ := hR2.cell (i := k * 3 + 2) (by rw [vwSkyPoint_size]; omega)
      have f0 := hR2.free (k * 3)
      have f1 := hR2.free (k * 3 + 1)
      have f2 := hR2.free (k * 3 + 2)
      clear hR hR2 hB2 hb2
      go_wp2
      go_roundw
      case rel => exact ⟨k + 1, by omega, by go_num, hB3, hR3⟩
      case measure => simp [intOf]; omega
    · have hk2 : k = l.length := by omega
      subst hk2
      have hS := (hR.done (by unfold maxLen; omega)).bare
      have hSh := hR.shape (by unfold maxLen; omega) rfl
      go_wp2
      go_ret
      exact ⟨_, _, rfl, hS, hSh, hbel⟩

set_option maxRecDepth 100000 in
set_option maxHeartbeats 2000000 in
theorem markSkyPointS_any (ao : Option Addr) (n cap c : Nat) (k : Int) (lo hi : Nat) (w : World) (h : SlSh shSkyPoint 113 (fun b => lo ≤ b ∧ b < hi) w ao n c) (hlo : lo ≤ hi) (hhi : hi ≤ w.heap.size) (hk : 0 ≤ k) (hc : k + c ≤ 1099511627776) :
    Calls Tryz.prog 48 #[.slice ao n cap, .int .i64 k] w fun e w' => e = .returned (.int .i64 (k + c)) ∧ Same lo hi w w' := by
  have hm : n ≤ 9223372036854775807 := h.1
  rcases h.2 with ⟨rfl, rfl⟩ | ⟨b, f, rfl, hcf, hR⟩
  · go_enter Tryz.func48, Tryz.ntmps48
    go_wp2
    go_loop [1, 5] (fun a i => a = .int .i64 k ∧ i = .int .i64 0) (fun _ _ => 0)
    case atStart => exact ⟨rfl, rfl⟩
    case round =>
      obtain ⟨rfl, rfl⟩ := hrel
      go_wp2
      go_ret
      exact ⟨by simp, Same.refl _ _ _⟩
  · have hb1 := hR.1.1
    have hb2 := hR.1.2
    have HF : Hid (c = sumTo f n) := hcf
    clear hcf h
    go_enter Tryz.func48, Tryz.ntmps48
    go_wp2
    go_loopw [1, 5] (fun a i wr => ∃ (j : Nat) (q : Int), j ≤ n ∧ i = .int .i64 j ∧ a = .int .i64 q ∧ Hid (q = k + sumTo f j) ∧ Same lo hi w wr) (fun _ i _ => n - (intOf i).toNat)
    case atStart => exact ⟨0, k, Nat.zero_le _, rfl, rfl, by show _ = _; simp [sumTo], Same.refl _ _ _⟩
    case round =>
      obtain ⟨j, q, hj, rfl, rfl, hq, hS⟩ := hrel
      by_cases hlt : j < n
      · have hs1 : sumTo f j + f j ≤ sumTo f n := sumTo_le f (m := j + 1) hlt
        have hq0 : 0 ≤ q := by have := hq.out; omega
        have hq1 : q + f j ≤ 1099511627776 := by have h1 := hq.out; have h2 := HF.out; omega
        have HQ : Hid (q + f j = k + sumTo f (j + 1)) := by have h1 := hq.out; show _ = _; simp only [sumTo]; omega
        have hRw := hR.turn hS (fun _ h => h)
        have hsz := hS.below.size
        clear hs1 hq
        obtain ⟨v0, v1, v2, hf, d0, f0, z0, d1, f1, z1, d2, f2, z2⟩ := elemSh_SkyPoint hRw hlt
        have HG0 : Hid _ := hf
        clear hf
        have hX1 : Same lo hi w wr := hS
        have hXs1 := hX1.below.size
        clear hRw
        go_wp2_with fail
        refine (markText_ex _ _ (by omega) (by have := HG0.out; omega)).mono ?_
        rintro e w1 ⟨t1, rfl, g1⟩
        have hY1 := hX1.trans (Same.ofBelow (lo := lo) (hi := hi) g1 (by omega) (by omega))
        clear d0 f0 z0 d1 f1 z1 d2 f2 z2 hX1 hXs1 g1 hS
        have hRw := hR.turn hY1 (fun _ h => h)
        have hsz := hY1.below.size
        obtain ⟨v0, v1, v2, hf, d0, f0, z0, d1, f1, z1, d2, f2, z2⟩ := elemSh_SkyPoint hRw hlt
        have HG1 : Hid _ := hf
        clear hf
        have hE : Same lo hi w (((w1.setCell ⟨b, j * 3, none⟩ (.string t1)).setCell ⟨b, j * 3 + 1, none⟩ (.int .i64 (q + 1))).setCell ⟨b, j * 3 + 2, none⟩ (.int .i64 (q + 1 + 1))) := (((hY1.set hb1 hb2 d0 z0 rfl).set hb1 hb2 ((set_ne _ _ (by omega)).trans d1) z1 rfl).set hb1 hb2 ((set_ne _ _ (by omega)).trans ((set_ne _ _ (by omega)).trans d2)) z2 rfl)
        clear hRw
        go_wp2
        go_roundw
        case rel => exact ⟨j + 1, q + 1 + 1 + 1, by omega, by go_num, by go_num, by have := HQ.out; have := HG0.out; have := HG1.out; show _ = _; omega, hE⟩
        case measure => simp [intOf]; omega
      · have hje : j = n := by omega
        subst hje
        have HE : Hid (q = k + c) := by have h1 := hq.out; have h2 := HF.out; show _ = _; omega
        clear hq HF
        go_wp2
        go_ret
        exact ⟨by rw [HE.out]; rfl, hS⟩

end Go.Proofs.YtnjkkohhgbgpgaaGreatDoor

/- DERIVED. By gm.py: the shape of SkyRunway; 'to' ends in it; 'mark' over it. -/
namespace Go.Proofs.YtnjkkohhgbgpgaaGreatDoor
open Go.RowKit
set_option linter.unusedSimpArgs false
set_option linter.unusedVariables false

def shSkyRunway : Shape := shPair shFlat (shPair shFlat (shPair shFlat shFlat))
theorem shSkyRunway_size : shSkyRunway.size = 4 := rfl
def cnSkyRunway (x : DSkyRunway) : Nat := 1 + (1 + (1 + 1))
def cnSkyRunwayS (l : List DSkyRunway) : Nat := (l.map cnSkyRunway).sum
theorem cnSkyRunwayS_le (l : List DSkyRunway) : cnSkyRunwayS l ≤ 16 * wSkyRunwayS l := by
  unfold cnSkyRunwayS wSkyRunwayS
  refine cnt_sum cnSkyRunway wSkyRunway (fun x => ?_) l
  unfold cnSkyRunway wSkyRunway
  omega

theorem hold_SkyRunway {ok : Nat → Prop} {w : World} {x : DSkyRunway} : shSkyRunway.holds ok w [.string x.1, .int .i64 x.2.1, .int .i64 x.2.2.1, .int .i64 x.2.2.2] (cnSkyRunway x) :=
  ⟨[_], _, _, _, rfl, rfl, ⟨_, rfl, rfl, rfl⟩, ⟨[_], _, _, _, rfl, rfl, ⟨_, rfl, rfl, rfl⟩, ⟨[_], _, _, _, rfl, rfl, ⟨_, rfl, rfl, rfl⟩, ⟨_, rfl, rfl, rfl⟩⟩⟩⟩

theorem elemSh_SkyRunway {t : TypeId} {ok : Nat → Prop} {w : World} {b n : Nat} {f : Nat → Nat} (h : RowSh shSkyRunway t ok w b n f) {i : Nat} (hi : i < n) :
    ∃ (v0 : Value) (v1 : Value) (v2 : Value) (v3 : Value), f i = 1 + (1 + (1 + 1)) ∧ w.cell? ⟨b, i * 4, none⟩ = some v0 ∧ w.frozen? ⟨b, i * 4, none⟩ = false ∧ isSl v0 = false ∧ w.cell? ⟨b, i * 4 + 1, none⟩ = some v1 ∧ w.frozen? ⟨b, i * 4 + 1, none⟩ = false ∧ isSl v1 = false ∧ w.cell? ⟨b, i * 4 + 2, none⟩ = some v2 ∧ w.frozen? ⟨b, i * 4 + 2, none⟩ = false ∧ isSl v2 = false ∧ w.cell? ⟨b, i * 4 + 3, none⟩ = some v3 ∧ w.frozen? ⟨b, i * 4 + 3, none⟩ = false ∧ isSl v3 = false := by
  obtain ⟨cs, h1, h2⟩ := h.elem hi
  obtain ⟨_, _, n0x, n0y, rfl, e0, ⟨v0, rfl, q0, m0⟩, ⟨_, _, n1x, n1y, rfl, e1, ⟨v1, rfl, q1, m1⟩, ⟨_, _, n2x, n2y, rfl, e2, ⟨v2, rfl, q2, m2⟩, ⟨v3, rfl, q3, m3⟩⟩⟩⟩ := h1
  refine ⟨v0, v1, v2, v3, by omega, (h2 0 (by decide)).1, (h2 0 (by decide)).2, q0, (h2 1 (by decide)).1, (h2 1 (by decide)).2, q1, (h2 2 (by decide)).1, (h2 2 (by decide)).2, q2, (h2 3 (by decide)).1, (h2 3 (by decide)).2, q3⟩

theorem vwSkyRunway_size : (vWith vSkyRunway shSkyRunway cnSkyRunway).size = 4 := rfl

set_option maxHeartbeats 1000000 in
theorem toSkyRunwayS_sh (ao : Option Addr) (cap : Nat) (l : List DSkyRunway) (w : World) (hn : wSkyRunwayS l ≤ 1048576) (h : SliceAt vSkyRunway (old w) w ao cap l) :
    Calls Tryz.prog 38 #[.slice ao l.length cap] w fun e w' => ∃ ao' cap', e = .returned (.slice ao' l.length cap') ∧ SliceAt vSkyRunway (fresh w w') w' ao' cap' l ∧ SlSh shSkyRunway 124 (fresh w w') w' ao' l.length (cnSkyRunwayS l) ∧ Below w.heap.size w w' := by
  have hl : l.length ≤ 1048576 := by unfold wSkyRunwayS at hn; omega
  obtain ⟨i0, hi, hz0, hz1, hz2⟩ := info_parts Tryz.info_SkyRunway
  go_enter Tryz.func38, Tryz.ntmps38
  go_wp2_with (at_make; refine wpList_make_full _ rfl _ _ 37 rfl w.heap.size 124 i0 _ 4 Tryz.underlying37 hi hz0 hz1 _ _ _ _ l.length rfl rfl rfl rfl ?c1 ?c2 ?c3 ?_)
  case c1 => rw [hz2]; omega
  case c2 => unfold maxLen; omega
  case c3 => exact Nat.le_refl _
  intro w1 hown hgr
  have hR0 : RowAt (vWith vSkyRunway shSkyRunway cnSkyRunway) w1 w.heap.size 124 0 l := RowAt.start (A := vWith vSkyRunway shSkyRunway cnSkyRunway) rfl hown
  have hB0 : Below w.heap.size w w1 := (Below.refl _ _).grown hgr (Nat.le_refl _) (by intro k hk; cases hk)
  clear hown hgr hi hz0 hz1 hz2
  go_wp2
  go_loopw [4] (fun i wr => ∃ k : Nat, k ≤ l.length ∧ i = .int .i64 k ∧ Below w.heap.size w wr ∧ RowAt (vWith vSkyRunway shSkyRunway cnSkyRunway) wr w.heap.size 124 k l) (fun i _ => l.length - (intOf i).toNat)
  case atStart => exact ⟨0, Nat.zero_le _, rfl, hB0, hR0⟩
  case round =>
    obtain ⟨k, hk, rfl, hbel, hR⟩ := hrel
    by_cases hlt : k < l.length
    · obtain ⟨b, off, rfl, hok, c0, c1, c2, c3, p0, p1, p2, p3⟩ := elem_SkyRunway h hlt
      have d0 := (hbel.cell (p := ⟨b, off + k * 4, none⟩) hok).trans c0
      have d1 := (hbel.cell (p := ⟨b, off + k * 4 + 1, none⟩) hok).trans c1
      have d2 := (hbel.cell (p := ⟨b, off + k * 4 + 2, none⟩) hok).trans c2
      have d3 := (hbel.cell (p := ⟨b, off + k * 4 + 3, none⟩) hok).trans c3
      clear c0 c1 c2 c3 hR0 hB0
      go_wp2_with fail
      refine (toSkyRunway_any _ _).mono ?_
      rintro e w2 ⟨rfl, hb2⟩
      have hR2 := hR.later hb2
      have hB2 := hbel.trans (hb2.mono hbel.size)
      have hR3 := hR2.store hlt (c := [.string l[k].1, .int .i64 l[k].2.1, .int .i64 l[k].2.2.1, .int .i64 l[k].2.2.2]) ⟨mk_SkyRunway p0 p1 p2 p3, hold_SkyRunway⟩
      have hB3 := put_below w.heap.size w.heap.size (Nat.le_refl _) [.string l[k].1, .int .i64 l[k].2.1, .int .i64 l[k].2.2.1, .int .i64 l[k].2.2.2] _ _ (k * 4) hB2
      obtain ⟨u0, e0⟩ := hR2.cell (i := k * 4) (by rw [vwSkyRunway_size]; omega)
      obtain ⟨u1, e1⟩ := hR2.cell (i := k * 4 + 1) (by rw [vwSkyRunway_size]; omega)
      obtain ⟨u2, e2⟩ := hR2.cell (i := k * 4 + 2) (by rw [vwSkyRunway_size]; omega)
      obtain ⟨u3, e3⟩ := hR2.cell (i := k * 4 + 3) (by rw [vwSkyRunway_size]; omega)
      have f0 := hR2.free (k * 4)
      have f1 := hR2.free (k * 4 + 1)
      have f2 := hR2.free (k * 4 + 2)
      have f3 := hR2.free (k * 4 + 3)
      clear hR hR2 hB2 hb2
      go_wp2
      go_roundw
      case rel => exact ⟨k + 1, by omega, by go_num, hB3, hR3⟩
      case measure => simp [intOf]; omega
    · have hk2 : k = l.length := by omega
      subst hk2
      have hS := (hR.done (by unfold maxLen; omega)).bare
      have hSh := hR.shape (by unfold maxLen; omega) rfl
      go_wp2
      go_ret
      exact ⟨_, _, rfl, hS, hSh, hbel⟩

set_option maxRecDepth 100000 in
set_option maxHeartbeats 2000000 in
theorem markSkyRunwayS_any (ao : Option Addr) (n cap c : Nat) (k : Int) (lo hi : Nat) (w : World) (h : SlSh shSkyRunway 124 (fun b => lo ≤ b ∧ b < hi) w ao n c) (hlo : lo ≤ hi) (hhi : hi ≤ w.heap.size) (hk : 0 ≤ k) (hc : k + c ≤ 1099511627776) :
    Calls Tryz.prog 51 #[.slice ao n cap, .int .i64 k] w fun e w' => e = .returned (.int .i64 (k + c)) ∧ Same lo hi w w' := by
  have hm : n ≤ 9223372036854775807 := h.1
  rcases h.2 with ⟨rfl, rfl⟩ | ⟨b, f, rfl, hcf, hR⟩
  · go_enter Tryz.func51, Tryz.ntmps51
    go_wp2
    go_loop [1, 5] (fun a i => a = .int .i64 k ∧ i = .int .i64 0) (fun _ _ => 0)
    case atStart => exact ⟨rfl, rfl⟩
    case round =>
      obtain ⟨rfl, rfl⟩ := hrel
      go_wp2
      go_ret
      exact ⟨by simp, Same.refl _ _ _⟩
  · have hb1 := hR.1.1
    have hb2 := hR.1.2
    have HF : Hid (c = sumTo f n) := hcf
    clear hcf h
    go_enter Tryz.func51, Tryz.ntmps51
    go_wp2
    go_loopw [1, 5] (fun a i wr => ∃ (j : Nat) (q : Int), j ≤ n ∧ i = .int .i64 j ∧ a = .int .i64 q ∧ Hid (q = k + sumTo f j) ∧ Same lo hi w wr) (fun _ i _ => n - (intOf i).toNat)
    case atStart => exact ⟨0, k, Nat.zero_le _, rfl, rfl, by show _ = _; simp [sumTo], Same.refl _ _ _⟩
    case round =>
      obtain ⟨j, q, hj, rfl, rfl, hq, hS⟩ := hrel
      by_cases hlt : j < n
      · have hs1 : sumTo f j + f j ≤ sumTo f n := sumTo_le f (m := j + 1) hlt
        have hq0 : 0 ≤ q := by have := hq.out; omega
        have hq1 : q + f j ≤ 1099511627776 := by have h1 := hq.out; have h2 := HF.out; omega
        have HQ : Hid (q + f j = k + sumTo f (j + 1)) := by have h1 := hq.out; show _ = _; simp only [sumTo]; omega
        have hRw := hR.turn hS (fun _ h => h)
        have hsz := hS.below.size
        clear hs1 hq
        obtain ⟨v0, v1, v2, v3, hf, d0, f0, z0, d1, f1, z1, d2, f2, z2, d3, f3, z3⟩ := elemSh_SkyRunway hRw hlt
        have HG0 : Hid _ := hf
        clear hf
        have hX1 : Same lo hi w wr := hS
        have hXs1 := hX1.below.size
        clear hRw
        go_wp2_with fail
        refine (markText_ex _ _ (by omega) (by have := HG0.out; omega)).mono ?_
        rintro e w1 ⟨t1, rfl, g1⟩
        have hY1 := hX1.trans (Same.ofBelow (lo := lo) (hi := hi) g1 (by omega) (by omega))
        clear d0 f0 z0 d1 f1 z1 d2 f2 z2 d3 f3 z3 hX1 hXs1 g1 hS
        have hRw := hR.turn hY1 (fun _ h => h)
        have hsz := hY1.below.size
        obtain ⟨v0, v1, v2, v3, hf, d0, f0, z0, d1, f1, z1, d2, f2, z2, d3, f3, z3⟩ := elemSh_SkyRunway hRw hlt
        have HG1 : Hid _ := hf
        clear hf
        have hE : Same lo hi w ((((w1.setCell ⟨b, j * 4, none⟩ (.string t1)).setCell ⟨b, j * 4 + 1, none⟩ (.int .i64 (q + 1))).setCell ⟨b, j * 4 + 2, none⟩ (.int .i64 (q + 1 + 1))).setCell ⟨b, j * 4 + 3, none⟩ (.int .i64 (q + 1 + 1 + 1))) := ((((hY1.set hb1 hb2 d0 z0 rfl).set hb1 hb2 ((set_ne _ _ (by omega)).trans d1) z1 rfl).set hb1 hb2 ((set_ne _ _ (by omega)).trans ((set_ne _ _ (by omega)).trans d2)) z2 rfl).set hb1 hb2 ((set_ne _ _ (by omega)).trans ((set_ne _ _ (by omega)).trans ((set_ne _ _ (by omega)).trans d3))) z3 rfl)
        clear hRw
        go_wp2
        go_roundw
        case rel => exact ⟨j + 1, q + 1 + 1 + 1 + 1, by omega, by go_num, by go_num, by have := HQ.out; have := HG0.out; have := HG1.out; show _ = _; omega, hE⟩
        case measure => simp [intOf]; omega
      · have hje : j = n := by omega
        subst hje
        have HE : Hid (q = k + c) := by have h1 := hq.out; have h2 := HF.out; show _ = _; omega
        clear hq HF
        go_wp2
        go_ret
        exact ⟨by rw [HE.out]; rfl, hS⟩

end Go.Proofs.YtnjkkohhgbgpgaaGreatDoor

/- DERIVED. By gm.py: the shape of SkyBlock; 'to' ends in it; 'mark' over it. -/
namespace Go.Proofs.YtnjkkohhgbgpgaaGreatDoor
open Go.RowKit
set_option linter.unusedSimpArgs false
set_option linter.unusedVariables false

def shSkyBlock : Shape := shPair shFlat (shPair shFlat (shPair shFlat (shPair shFlat (shPair shFlat shFlat))))
theorem shSkyBlock_size : shSkyBlock.size = 6 := rfl
def cnSkyBlock (x : DSkyBlock) : Nat := 1 + (1 + (1 + (1 + (1 + 1))))
def cnSkyBlockS (l : List DSkyBlock) : Nat := (l.map cnSkyBlock).sum
theorem cnSkyBlockS_le (l : List DSkyBlock) : cnSkyBlockS l ≤ 16 * wSkyBlockS l := by
  unfold cnSkyBlockS wSkyBlockS
  exact cnt_flat cnSkyBlock (fun x => by unfold cnSkyBlock; omega) l

theorem hold_SkyBlock {ok : Nat → Prop} {w : World} {x : DSkyBlock} : shSkyBlock.holds ok w [.int .i64 x.1, .int .i64 x.2.1, .int .i64 x.2.2.1, .int .i64 x.2.2.2.1, .int .i64 x.2.2.2.2.1, .int .i64 x.2.2.2.2.2] (cnSkyBlock x) :=
  ⟨[_], _, _, _, rfl, rfl, ⟨_, rfl, rfl, rfl⟩, ⟨[_], _, _, _, rfl, rfl, ⟨_, rfl, rfl, rfl⟩, ⟨[_], _, _, _, rfl, rfl, ⟨_, rfl, rfl, rfl⟩, ⟨[_], _, _, _, rfl, rfl, ⟨_, rfl, rfl, rfl⟩, ⟨[_], _, _, _, rfl, rfl, ⟨_, rfl, rfl, rfl⟩, ⟨_, rfl, rfl, rfl⟩⟩⟩⟩⟩⟩

theorem elemSh_SkyBlock {t : TypeId} {ok : Nat → Prop} {w : World} {b n : Nat} {f : Nat → Nat} (h : RowSh shSkyBlock t ok w b n f) {i : Nat} (hi : i < n) :
    ∃ (v0 : Value) (v1 : Value) (v2 : Value) (v3 : Value) (v4 : Value) (v5 : Value), f i = 1 + (1 + (1 + (1 + (1 + 1)))) ∧ w.cell? ⟨b, i * 6, none⟩ = some v0 ∧ w.frozen? ⟨b, i * 6, none⟩ = false ∧ isSl v0 = false ∧ w.cell? ⟨b, i * 6 + 1, none⟩ = some v1 ∧ w.frozen? ⟨b, i * 6 + 1, none⟩ = false ∧ isSl v1 = false ∧ w.cell? ⟨b, i * 6 + 2, none⟩ = some v2 ∧ w.frozen? ⟨b, i * 6 + 2, none⟩ = false ∧ isSl v2 = false ∧ w.cell? ⟨b, i * 6 + 3, none⟩ = some v3 ∧ w.frozen? ⟨b, i * 6 + 3, none⟩ = false ∧ isSl v3 = false ∧ w.cell? ⟨b, i * 6 + 4, none⟩ = some v4 ∧ w.frozen? ⟨b, i * 6 + 4, none⟩ = false ∧ isSl v4 = false ∧ w.cell? ⟨b, i * 6 + 5, none⟩ = some v5 ∧ w.frozen? ⟨b, i * 6 + 5, none⟩ = false ∧ isSl v5 = false := by
  obtain ⟨cs, h1, h2⟩ := h.elem hi
  obtain ⟨_, _, n0x, n0y, rfl, e0, ⟨v0, rfl, q0, m0⟩, ⟨_, _, n1x, n1y, rfl, e1, ⟨v1, rfl, q1, m1⟩, ⟨_, _, n2x, n2y, rfl, e2, ⟨v2, rfl, q2, m2⟩, ⟨_, _, n3x, n3y, rfl, e3, ⟨v3, rfl, q3, m3⟩, ⟨_, _, n4x, n4y, rfl, e4, ⟨v4, rfl, q4, m4⟩, ⟨v5, rfl, q5, m5⟩⟩⟩⟩⟩⟩ := h1
  refine ⟨v0, v1, v2, v3, v4, v5, by omega, (h2 0 (by decide)).1, (h2 0 (by decide)).2, q0, (h2 1 (by decide)).1, (h2 1 (by decide)).2, q1, (h2 2 (by decide)).1, (h2 2 (by decide)).2, q2, (h2 3 (by decide)).1, (h2 3 (by decide)).2, q3, (h2 4 (by decide)).1, (h2 4 (by decide)).2, q4, (h2 5 (by decide)).1, (h2 5 (by decide)).2, q5⟩

theorem vwSkyBlock_size : (vWith vSkyBlock shSkyBlock cnSkyBlock).size = 6 := rfl

set_option maxHeartbeats 1000000 in
theorem toSkyBlockS_sh (ao : Option Addr) (cap : Nat) (l : List DSkyBlock) (w : World) (hn : wSkyBlockS l ≤ 1048576) (h : SliceAt vSkyBlock (old w) w ao cap l) :
    Calls Tryz.prog 101 #[.slice ao l.length cap] w fun e w' => ∃ ao' cap', e = .returned (.slice ao' l.length cap') ∧ SliceAt vSkyBlock (fresh w w') w' ao' cap' l ∧ SlSh shSkyBlock 140 (fresh w w') w' ao' l.length (cnSkyBlockS l) ∧ Below w.heap.size w w' := by
  have hl : l.length ≤ 1048576 := by unfold wSkyBlockS at hn; omega
  obtain ⟨i0, hi, hz0, hz1, hz2⟩ := info_parts Tryz.info_SkyBlock
  go_enter Tryz.func101, Tryz.ntmps101
  go_wp2_with (at_make; refine wpList_make_full _ rfl _ _ 120 rfl w.heap.size 140 i0 _ 6 Tryz.underlying120 hi hz0 hz1 _ _ _ _ l.length rfl rfl rfl rfl ?c1 ?c2 ?c3 ?_)
  case c1 => rw [hz2]; omega
  case c2 => unfold maxLen; omega
  case c3 => exact Nat.le_refl _
  intro w1 hown hgr
  have hR0 : RowAt (vWith vSkyBlock shSkyBlock cnSkyBlock) w1 w.heap.size 140 0 l := RowAt.start (A := vWith vSkyBlock shSkyBlock cnSkyBlock) rfl hown
  have hB0 : Below w.heap.size w w1 := (Below.refl _ _).grown hgr (Nat.le_refl _) (by intro k hk; cases hk)
  clear hown hgr hi hz0 hz1 hz2
  go_wp2
  go_loopw [4] (fun i wr => ∃ k : Nat, k ≤ l.length ∧ i = .int .i64 k ∧ Below w.heap.size w wr ∧ RowAt (vWith vSkyBlock shSkyBlock cnSkyBlock) wr w.heap.size 140 k l) (fun i _ => l.length - (intOf i).toNat)
  case atStart => exact ⟨0, Nat.zero_le _, rfl, hB0, hR0⟩
  case round =>
    obtain ⟨k, hk, rfl, hbel, hR⟩ := hrel
    by_cases hlt : k < l.length
    · obtain ⟨b, off, rfl, hok, c0, c1, c2, c3, c4, c5, p0, p1, p2, p3, p4, p5⟩ := elem_SkyBlock h hlt
      have d0 := (hbel.cell (p := ⟨b, off + k * 6, none⟩) hok).trans c0
      have d1 := (hbel.cell (p := ⟨b, off + k * 6 + 1, none⟩) hok).trans c1
      have d2 := (hbel.cell (p := ⟨b, off + k * 6 + 2, none⟩) hok).trans c2
      have d3 := (hbel.cell (p := ⟨b, off + k * 6 + 3, none⟩) hok).trans c3
      have d4 := (hbel.cell (p := ⟨b, off + k * 6 + 4, none⟩) hok).trans c4
      have d5 := (hbel.cell (p := ⟨b, off + k * 6 + 5, none⟩) hok).trans c5
      clear c0 c1 c2 c3 c4 c5 hR0 hB0
      go_wp2_with fail
      refine (toSkyBlock_any _ _).mono ?_
      rintro e w2 ⟨rfl, hb2⟩
      have hR2 := hR.later hb2
      have hB2 := hbel.trans (hb2.mono hbel.size)
      have hR3 := hR2.store hlt (c := [.int .i64 l[k].1, .int .i64 l[k].2.1, .int .i64 l[k].2.2.1, .int .i64 l[k].2.2.2.1, .int .i64 l[k].2.2.2.2.1, .int .i64 l[k].2.2.2.2.2]) ⟨mk_SkyBlock p0 p1 p2 p3 p4 p5, hold_SkyBlock⟩
      have hB3 := put_below w.heap.size w.heap.size (Nat.le_refl _) [.int .i64 l[k].1, .int .i64 l[k].2.1, .int .i64 l[k].2.2.1, .int .i64 l[k].2.2.2.1, .int .i64 l[k].2.2.2.2.1, .int .i64 l[k].2.2.2.2.2] _ _ (k * 6) hB2
      obtain ⟨u0, e0⟩ := hR2.cell (i := k * 6) (by rw [vwSkyBlock_size]; omega)
      obtain ⟨u1, e1⟩ := hR2.cell (i := k * 6 + 1) (by rw [vwSkyBlock_size]; omega)
      obtain ⟨u2, e2⟩ := hR2.cell (i := k * 6 + 2) (by rw [vwSkyBlock_size]; omega)
      obtain ⟨u3, e3⟩ := hR2.cell (i := k * 6 + 3) (by rw [vwSkyBlock_size]; omega)
      obtain ⟨u4, e4⟩ := hR2.cell (i := k * 6 + 4) (by rw [vwSkyBlock_size]; omega)
      obtain ⟨u5, e5⟩ := hR2.cell (i := k * 6 + 5) (by rw [vwSkyBlock_size]; omega)
      have f0 := hR2.free (k * 6)
      have f1 := hR2.free (k * 6 + 1)
      have f2 := hR2.free (k * 6 + 2)
      have f3 := hR2.free (k * 6 + 3)
      have f4 := hR2.free (k * 6 + 4)
      have f5 := hR2.free (k * 6 + 5)
      clear hR hR2 hB2 hb2
      go_wp2
      go_roundw
      case rel => exact ⟨k + 1, by omega, by go_num, hB3, hR3⟩
      case measure => simp [intOf]; omega
    · have hk2 : k = l.length := by omega
      subst hk2
      have hS := (hR.done (by unfold maxLen; omega)).bare
      have hSh := hR.shape (by unfold maxLen; omega) rfl
      go_wp2
      go_ret
      exact ⟨_, _, rfl, hS, hSh, hbel⟩

set_option maxRecDepth 100000 in
set_option maxHeartbeats 2000000 in
theorem markSkyBlockS_any (ao : Option Addr) (n cap c : Nat) (k : Int) (lo hi : Nat) (w : World) (h : SlSh shSkyBlock 140 (fun b => lo ≤ b ∧ b < hi) w ao n c) (hlo : lo ≤ hi) (hhi : hi ≤ w.heap.size) (hk : 0 ≤ k) (hc : k + c ≤ 1099511627776) :
    Calls Tryz.prog 87 #[.slice ao n cap, .int .i64 k] w fun e w' => e = .returned (.int .i64 (k + c)) ∧ Same lo hi w w' := by
  have hm : n ≤ 9223372036854775807 := h.1
  rcases h.2 with ⟨rfl, rfl⟩ | ⟨b, f, rfl, hcf, hR⟩
  · go_enter Tryz.func87, Tryz.ntmps87
    go_wp2
    go_loop [1, 5] (fun a i => a = .int .i64 k ∧ i = .int .i64 0) (fun _ _ => 0)
    case atStart => exact ⟨rfl, rfl⟩
    case round =>
      obtain ⟨rfl, rfl⟩ := hrel
      go_wp2
      go_ret
      exact ⟨by simp, Same.refl _ _ _⟩
  · have hb1 := hR.1.1
    have hb2 := hR.1.2
    have HF : Hid (c = sumTo f n) := hcf
    clear hcf h
    go_enter Tryz.func87, Tryz.ntmps87
    go_wp2
    go_loopw [1, 5] (fun a i wr => ∃ (j : Nat) (q : Int), j ≤ n ∧ i = .int .i64 j ∧ a = .int .i64 q ∧ Hid (q = k + sumTo f j) ∧ Same lo hi w wr) (fun _ i _ => n - (intOf i).toNat)
    case atStart => exact ⟨0, k, Nat.zero_le _, rfl, rfl, by show _ = _; simp [sumTo], Same.refl _ _ _⟩
    case round =>
      obtain ⟨j, q, hj, rfl, rfl, hq, hS⟩ := hrel
      by_cases hlt : j < n
      · have hs1 : sumTo f j + f j ≤ sumTo f n := sumTo_le f (m := j + 1) hlt
        have hq0 : 0 ≤ q := by have := hq.out; omega
        have hq1 : q + f j ≤ 1099511627776 := by have h1 := hq.out; have h2 := HF.out; omega
        have HQ : Hid (q + f j = k + sumTo f (j + 1)) := by have h1 := hq.out; show _ = _; simp only [sumTo]; omega
        have hRw := hR.turn hS (fun _ h => h)
        have hsz := hS.below.size
        clear hs1 hq
        obtain ⟨v0, v1, v2, v3, v4, v5, hf, d0, f0, z0, d1, f1, z1, d2, f2, z2, d3, f3, z3, d4, f4, z4, d5, f5, z5⟩ := elemSh_SkyBlock hRw hlt
        have HG0 : Hid _ := hf
        clear hf
        have hE : Same lo hi w ((((((wr.setCell ⟨b, j * 6, none⟩ (.int .i64 q)).setCell ⟨b, j * 6 + 1, none⟩ (.int .i64 (q + 1))).setCell ⟨b, j * 6 + 2, none⟩ (.int .i64 (q + 1 + 1))).setCell ⟨b, j * 6 + 3, none⟩ (.int .i64 (q + 1 + 1 + 1))).setCell ⟨b, j * 6 + 4, none⟩ (.int .i64 (q + 1 + 1 + 1 + 1))).setCell ⟨b, j * 6 + 5, none⟩ (.int .i64 (q + 1 + 1 + 1 + 1 + 1))) := ((((((hS.set hb1 hb2 d0 z0 rfl).set hb1 hb2 ((set_ne _ _ (by omega)).trans d1) z1 rfl).set hb1 hb2 ((set_ne _ _ (by omega)).trans ((set_ne _ _ (by omega)).trans d2)) z2 rfl).set hb1 hb2 ((set_ne _ _ (by omega)).trans ((set_ne _ _ (by omega)).trans ((set_ne _ _ (by omega)).trans d3))) z3 rfl).set hb1 hb2 ((set_ne _ _ (by omega)).trans ((set_ne _ _ (by omega)).trans ((set_ne _ _ (by omega)).trans ((set_ne _ _ (by omega)).trans d4)))) z4 rfl).set hb1 hb2 ((set_ne _ _ (by omega)).trans ((set_ne _ _ (by omega)).trans ((set_ne _ _ (by omega)).trans ((set_ne _ _ (by omega)).trans ((set_ne _ _ (by omega)).trans d5))))) z5 rfl)
        clear hRw
        go_wp2
        go_roundw
        case rel => exact ⟨j + 1, q + 1 + 1 + 1 + 1 + 1 + 1, by omega, by go_num, by go_num, by have := HQ.out; have := HG0.out; show _ = _; omega, hE⟩
        case measure => simp [intOf]; omega
      · have hje : j = n := by omega
        subst hje
        have HE : Hid (q = k + c) := by have h1 := hq.out; have h2 := HF.out; show _ = _; omega
        clear hq HF
        go_wp2
        go_ret
        exact ⟨by rw [HE.out]; rfl, hS⟩

end Go.Proofs.YtnjkkohhgbgpgaaGreatDoor

/- DERIVED. By gm.py: the shape of SkyAirway; 'to' ends in it; 'mark' over it. -/
namespace Go.Proofs.YtnjkkohhgbgpgaaGreatDoor
open Go.RowKit
set_option linter.unusedSimpArgs false
set_option linter.unusedVariables false

def shSkyAirway : Shape := shPair shFlat (shSlice shString 9)
theorem shSkyAirway_size : shSkyAirway.size = 2 := rfl
def cnSkyAirway (x : DSkyAirway) : Nat := 1 + (cnStringS x.2)
def cnSkyAirwayS (l : List DSkyAirway) : Nat := (l.map cnSkyAirway).sum
theorem cnSkyAirwayS_le (l : List DSkyAirway) : cnSkyAirwayS l ≤ 16 * wSkyAirwayS l := by
  unfold cnSkyAirwayS wSkyAirwayS
  refine cnt_sum cnSkyAirway wSkyAirway (fun x => ?_) l
  unfold cnSkyAirway wSkyAirway
  have h1 := cnStringS_le x.2
  omega

theorem hold_SkyAirway {ok : Nat → Prop} {w : World} {x : DSkyAirway} {ao1 : Option Addr} {cap1 : Nat} (q1 : SlSh shString 9 ok w ao1 x.2.length (cnStringS x.2)) : shSkyAirway.holds ok w [.string x.1, .slice ao1 x.2.length cap1] (cnSkyAirway x) :=
  ⟨[_], _, _, _, rfl, rfl, ⟨_, rfl, rfl, rfl⟩, ⟨_, _, _, rfl, q1⟩⟩

theorem elemSh_SkyAirway {t : TypeId} {ok : Nat → Prop} {w : World} {b n : Nat} {f : Nat → Nat} (h : RowSh shSkyAirway t ok w b n f) {i : Nat} (hi : i < n) :
    ∃ (v0 : Value) (ao1 : Option Addr) (n1 cap1 c1 : Nat), f i = 1 + c1 ∧ w.cell? ⟨b, i * 2, none⟩ = some v0 ∧ w.frozen? ⟨b, i * 2, none⟩ = false ∧ isSl v0 = false ∧ w.cell? ⟨b, i * 2 + 1, none⟩ = some (.slice ao1 n1 cap1) ∧ w.frozen? ⟨b, i * 2 + 1, none⟩ = false ∧ SlSh shString 9 ok w ao1 n1 c1 := by
  obtain ⟨cs, h1, h2⟩ := h.elem hi
  obtain ⟨_, _, n0x, n0y, rfl, e0, ⟨v0, rfl, q0, m0⟩, ⟨ao1, n1, cap1, rfl, q1⟩⟩ := h1
  refine ⟨v0, ao1, n1, cap1, _, by omega, (h2 0 (by decide)).1, (h2 0 (by decide)).2, q0, (h2 1 (by decide)).1, (h2 1 (by decide)).2, q1⟩

set_option maxHeartbeats 1000000 in
theorem toSkyAirway_sh (x : DSkyAirway) (ao1 : Option Addr) (cap1 : Nat) (w : World) (p1 : SliceAt vStr (old w) w ao1 cap1 x.2) (hn : wSkyAirway x ≤ 1048576) :
    Calls Tryz.prog 73 #[.agg #[.string x.1, .slice ao1 x.2.length cap1]] w fun e w' => ∃ ao1' cap1', e = .returned (.agg #[.string x.1, .slice ao1' x.2.length cap1']) ∧ (SliceAt vStr (fresh w w') w' ao1' cap1' x.2 ∧ SlSh shString 9 (fresh w w') w' ao1' x.2.length (cnStringS x.2)) ∧ Below w.heap.size w w' := by
  have s1 : wStringS x.2 ≤ 1048576 := by unfold wSkyAirway at hn; omega
  clear hn
  go_enter Tryz.func73, Tryz.ntmps73
  go_wp2_with fail
  have b1 : Below w.heap.size w (((w.alloc (.cells #[.string x.1, .slice ao1 x.2.length cap1] 104)).alloc (.cells #[.string ByteArray.empty, .slice none 0 0] 118)).alloc (.cells #[.string x.1, .slice none 0 0] 118)) := (((Below.refl w.heap.size w).alloc (Nat.le_refl _) _).alloc (by simp) _).alloc (by simp; try omega) _
  refine (toStringS_sh ao1 cap1 x.2 _ s1 (p1.later b1)).mono ?_
  rintro e w1 ⟨ao1', cap1', rfl, q1, r1, g1⟩
  have b1' := b1.trans (g1.mono b1.size)
  obtain ⟨hc1, hf1⟩ := bcell g1
  have z1 := g1.size
  try simp at z1 hc1 hf1
  have y10 : w.heap.size < w1.heap.size := by omega
  have y11 : w.heap.size + 1 < w1.heap.size := by omega
  have y12 : w.heap.size + 1 + 1 < w1.heap.size := by omega
  go_wp2
  refine bodyPost_ret (v := .agg #[.string x.1, .slice ao1' x.2.length cap1']) (by simp [results, Tryz.results73, go_sem, hc1, hf1, y10, y11, y12]) rfl ⟨ao1', cap1', rfl, ?_, ?_⟩
  · refine ⟨SliceAt.mono (q1.stays ?_) ?_, SlSh.mono (r1.stays ?_) ?_⟩
    · intro b hb
      have hb1 := hb.1
      have hb2 := hb.2
      simp at hb1 hb2
      have hne1 : b ≠ w.heap.size + 1 := by omega
      have hne2 : b ≠ w.heap.size + 1 + 1 := by omega
      simp [Below.heap_setCell, hne1, hne2]
    · intro b hb
      have hb1 := hb.1
      have hb2 := hb.2
      simp at hb1 hb2
      exact ⟨by omega, by simp; omega⟩
    · intro b hb
      have hb1 := hb.1
      have hb2 := hb.2
      simp at hb1 hb2
      have hne1 : b ≠ w.heap.size + 1 := by omega
      have hne2 : b ≠ w.heap.size + 1 + 1 := by omega
      simp [Below.heap_setCell, hne1, hne2]
    · intro b hb
      have hb1 := hb.1
      have hb2 := hb.2
      simp at hb1 hb2
      exact ⟨by omega, by simp; omega⟩
  · repeat (first | refine Below.setCell ?_ (by simp; try omega) _ | exact b1')

theorem vwSkyAirway_size : (vWith vSkyAirway shSkyAirway cnSkyAirway).size = 2 := rfl

set_option maxHeartbeats 1000000 in
theorem toSkyAirwayS_sh (ao : Option Addr) (cap : Nat) (l : List DSkyAirway) (w : World) (hn : wSkyAirwayS l ≤ 1048576) (h : SliceAt vSkyAirway (old w) w ao cap l) :
    Calls Tryz.prog 36 #[.slice ao l.length cap] w fun e w' => ∃ ao' cap', e = .returned (.slice ao' l.length cap') ∧ SliceAt vSkyAirway (fresh w w') w' ao' cap' l ∧ SlSh shSkyAirway 118 (fresh w w') w' ao' l.length (cnSkyAirwayS l) ∧ Below w.heap.size w w' := by
  have hl : l.length ≤ 1048576 := by unfold wSkyAirwayS at hn; omega
  obtain ⟨i0, hi, hz0, hz1, hz2⟩ := info_parts Tryz.info_SkyAirway
  go_enter Tryz.func36, Tryz.ntmps36
  go_wp2_with (at_make; refine wpList_make_full _ rfl _ _ 35 rfl w.heap.size 118 i0 _ 2 Tryz.underlying35 hi hz0 hz1 _ _ _ _ l.length rfl rfl rfl rfl ?c1 ?c2 ?c3 ?_)
  case c1 => rw [hz2]; omega
  case c2 => unfold maxLen; omega
  case c3 => exact Nat.le_refl _
  intro w1 hown hgr
  have hR0 : RowAt (vWith vSkyAirway shSkyAirway cnSkyAirway) w1 w.heap.size 118 0 l := RowAt.start (A := vWith vSkyAirway shSkyAirway cnSkyAirway) rfl hown
  have hB0 : Below w.heap.size w w1 := (Below.refl _ _).grown hgr (Nat.le_refl _) (by intro k hk; cases hk)
  clear hown hgr hi hz0 hz1 hz2
  go_wp2
  go_loopw [4] (fun i wr => ∃ k : Nat, k ≤ l.length ∧ i = .int .i64 k ∧ Below w.heap.size w wr ∧ RowAt (vWith vSkyAirway shSkyAirway cnSkyAirway) wr w.heap.size 118 k l) (fun i _ => l.length - (intOf i).toNat)
  case atStart => exact ⟨0, Nat.zero_le _, rfl, hB0, hR0⟩
  case round =>
    obtain ⟨k, hk, rfl, hbel, hR⟩ := hrel
    by_cases hlt : k < l.length
    · obtain ⟨b, off, ao1, cap1, rfl, hok, c0, c1, p0, p1⟩ := elem_SkyAirway h hlt
      have d0 := (hbel.cell (p := ⟨b, off + k * 2, none⟩) hok).trans c0
      have d1 := (hbel.cell (p := ⟨b, off + k * 2 + 1, none⟩) hok).trans c1
      have t : wSkyAirway l[k] ≤ 1048576 := by have h1 := sum_elem wSkyAirway l k hlt; unfold wSkyAirwayS at hn; omega
      clear c0 c1 hR0 hB0
      go_wp2_with fail
      refine (toSkyAirway_sh _ _ _ _ (p1.later hbel) t).mono ?_
      rintro e w2 ⟨ao1', cap1', rfl, ⟨q1, r1⟩, hb2⟩
      have hR2 := hR.later hb2
      have hB2 := hbel.trans (hb2.mono hbel.size)
      have hR3 := hR2.store hlt (c := [.string l[k].1, .slice ao1' l[k].2.length cap1']) ⟨mk_SkyAirway p0 (q1.mono (fun b hb => ⟨Nat.lt_of_lt_of_le hR.lt hb.1, hb.2⟩)), hold_SkyAirway (r1.mono (fun b hb => ⟨Nat.lt_of_lt_of_le hR.lt hb.1, hb.2⟩))⟩
      have hB3 := put_below w.heap.size w.heap.size (Nat.le_refl _) [.string l[k].1, .slice ao1' l[k].2.length cap1'] _ _ (k * 2) hB2
      obtain ⟨u0, e0⟩ := hR2.cell (i := k * 2) (by rw [vwSkyAirway_size]; omega)
      obtain ⟨u1, e1⟩ := hR2.cell (i := k * 2 + 1) (by rw [vwSkyAirway_size]; omega)
      have f0 := hR2.free (k * 2)
      have f1 := hR2.free (k * 2 + 1)
      clear hR hR2 hB2 hb2
      go_wp2
      go_roundw
      case rel => exact ⟨k + 1, by omega, by go_num, hB3, hR3⟩
      case measure => simp [intOf]; omega
    · have hk2 : k = l.length := by omega
      subst hk2
      have hS := (hR.done (by unfold maxLen; omega)).bare
      have hSh := hR.shape (by unfold maxLen; omega) rfl
      go_wp2
      go_ret
      exact ⟨_, _, rfl, hS, hSh, hbel⟩

set_option maxRecDepth 100000 in
set_option maxHeartbeats 2000000 in
theorem markSkyAirwayS_any (ao : Option Addr) (n cap c : Nat) (k : Int) (lo hi : Nat) (w : World) (h : SlSh shSkyAirway 118 (fun b => lo ≤ b ∧ b < hi) w ao n c) (hlo : lo ≤ hi) (hhi : hi ≤ w.heap.size) (hk : 0 ≤ k) (hc : k + c ≤ 1099511627776) :
    Calls Tryz.prog 49 #[.slice ao n cap, .int .i64 k] w fun e w' => e = .returned (.int .i64 (k + c)) ∧ Same lo hi w w' := by
  have hm : n ≤ 9223372036854775807 := h.1
  rcases h.2 with ⟨rfl, rfl⟩ | ⟨b, f, rfl, hcf, hR⟩
  · go_enter Tryz.func49, Tryz.ntmps49
    go_wp2
    go_loop [1, 5] (fun a i => a = .int .i64 k ∧ i = .int .i64 0) (fun _ _ => 0)
    case atStart => exact ⟨rfl, rfl⟩
    case round =>
      obtain ⟨rfl, rfl⟩ := hrel
      go_wp2
      go_ret
      exact ⟨by simp, Same.refl _ _ _⟩
  · have hb1 := hR.1.1
    have hb2 := hR.1.2
    have HF : Hid (c = sumTo f n) := hcf
    clear hcf h
    go_enter Tryz.func49, Tryz.ntmps49
    go_wp2
    go_loopw [1, 5] (fun a i wr => ∃ (j : Nat) (q : Int), j ≤ n ∧ i = .int .i64 j ∧ a = .int .i64 q ∧ Hid (q = k + sumTo f j) ∧ Same lo hi w wr) (fun _ i _ => n - (intOf i).toNat)
    case atStart => exact ⟨0, k, Nat.zero_le _, rfl, rfl, by show _ = _; simp [sumTo], Same.refl _ _ _⟩
    case round =>
      obtain ⟨j, q, hj, rfl, rfl, hq, hS⟩ := hrel
      by_cases hlt : j < n
      · have hs1 : sumTo f j + f j ≤ sumTo f n := sumTo_le f (m := j + 1) hlt
        have hq0 : 0 ≤ q := by have := hq.out; omega
        have hq1 : q + f j ≤ 1099511627776 := by have h1 := hq.out; have h2 := HF.out; omega
        have HQ : Hid (q + f j = k + sumTo f (j + 1)) := by have h1 := hq.out; show _ = _; simp only [sumTo]; omega
        have hRw := hR.turn hS (fun _ h => h)
        have hsz := hS.below.size
        clear hs1 hq
        obtain ⟨v0, ao1, n1, cap1, c1, hf, d0, f0, z0, d1, f1, s1⟩ := elemSh_SkyAirway hRw hlt
        have HG0 : Hid _ := hf
        clear hf
        have hX1 : Same lo hi w wr := hS
        have hXs1 := hX1.below.size
        clear hRw
        go_wp2_with fail
        refine (markText_ex _ _ (by omega) (by have := HG0.out; omega)).mono ?_
        rintro e w1 ⟨t1, rfl, g1⟩
        have hY1 := hX1.trans (Same.ofBelow (lo := lo) (hi := hi) g1 (by omega) (by omega))
        clear d0 f0 z0 d1 f1 s1 hX1 hXs1 g1 hS
        have hRw := hR.turn hY1 (fun _ h => h)
        have hsz := hY1.below.size
        obtain ⟨v0, ao1, n1, cap1, c1, hf, d0, f0, z0, d1, f1, s1⟩ := elemSh_SkyAirway hRw hlt
        have HG1 : Hid _ := hf
        clear hf
        have hX2 : Same lo hi w (w1.setCell ⟨b, j * 2, none⟩ (.string t1)) := (hY1.set hb1 hb2 d0 z0 rfl)
        have hXs2 := hX2.below.size
        have hT2 : SlSh shString 9 (fun b => lo ≤ b ∧ b < hi) (w1.setCell ⟨b, j * 2, none⟩ (.string t1)) ao1 n1 c1 := s1.turn (lo := lo) (hi := hi) (((Same.refl lo hi _).set hb1 hb2 d0 z0 rfl)) (fun _ h => h)
        clear hRw
        go_wp2_with fail
        refine (markStringS_any _ _ _ c1 _ lo hi _ hT2 hlo (by omega) (by omega) (by have := HG1.out; omega)).mono ?_
        rintro e w2 ⟨rfl, g2⟩
        have hY2 := hX2.trans g2
        clear hT2
        clear d0 f0 z0 d1 f1 s1 hX2 hXs2 g2 hY1
        have hRw := hR.turn hY2 (fun _ h => h)
        have hsz := hY2.below.size
        obtain ⟨v0, ao1', n1', cap1', c1', hf, d0, f0, z0, d1, f1, s1⟩ := elemSh_SkyAirway hRw hlt
        have HG2 : Hid _ := hf
        clear hf
        have hE : Same lo hi w w2 := hY2
        clear hRw
        go_wp2
        go_roundw
        case rel => exact ⟨j + 1, q + 1 + c1, by omega, by go_num, by go_num, by have := HQ.out; have := HG0.out; have := HG1.out; have := HG2.out; show _ = _; omega, hE⟩
        case measure => simp [intOf]; omega
      · have hje : j = n := by omega
        subst hje
        have HE : Hid (q = k + c) := by have h1 := hq.out; have h2 := HF.out; show _ = _; omega
        clear hq HF
        go_wp2
        go_ret
        exact ⟨by rw [HE.out]; rfl, hS⟩

end Go.Proofs.YtnjkkohhgbgpgaaGreatDoor

/- DERIVED. By gm.py: the shape of SkySector; 'to' ends in it; 'mark' over it. -/
namespace Go.Proofs.YtnjkkohhgbgpgaaGreatDoor
open Go.RowKit
set_option linter.unusedSimpArgs false
set_option linter.unusedVariables false

def shSkySector : Shape := shPair shFlat (shSlice shSkyBlock 140)
theorem shSkySector_size : shSkySector.size = 2 := rfl
def cnSkySector (x : DSkySector) : Nat := 1 + (cnSkyBlockS x.2)
def cnSkySectorS (l : List DSkySector) : Nat := (l.map cnSkySector).sum
theorem cnSkySectorS_le (l : List DSkySector) : cnSkySectorS l ≤ 16 * wSkySectorS l := by
  unfold cnSkySectorS wSkySectorS
  refine cnt_sum cnSkySector wSkySector (fun x => ?_) l
  unfold cnSkySector wSkySector
  have h1 := cnSkyBlockS_le x.2
  omega

theorem hold_SkySector {ok : Nat → Prop} {w : World} {x : DSkySector} {ao1 : Option Addr} {cap1 : Nat} (q1 : SlSh shSkyBlock 140 ok w ao1 x.2.length (cnSkyBlockS x.2)) : shSkySector.holds ok w [.string x.1, .slice ao1 x.2.length cap1] (cnSkySector x) :=
  ⟨[_], _, _, _, rfl, rfl, ⟨_, rfl, rfl, rfl⟩, ⟨_, _, _, rfl, q1⟩⟩

theorem elemSh_SkySector {t : TypeId} {ok : Nat → Prop} {w : World} {b n : Nat} {f : Nat → Nat} (h : RowSh shSkySector t ok w b n f) {i : Nat} (hi : i < n) :
    ∃ (v0 : Value) (ao1 : Option Addr) (n1 cap1 c1 : Nat), f i = 1 + c1 ∧ w.cell? ⟨b, i * 2, none⟩ = some v0 ∧ w.frozen? ⟨b, i * 2, none⟩ = false ∧ isSl v0 = false ∧ w.cell? ⟨b, i * 2 + 1, none⟩ = some (.slice ao1 n1 cap1) ∧ w.frozen? ⟨b, i * 2 + 1, none⟩ = false ∧ SlSh shSkyBlock 140 ok w ao1 n1 c1 := by
  obtain ⟨cs, h1, h2⟩ := h.elem hi
  obtain ⟨_, _, n0x, n0y, rfl, e0, ⟨v0, rfl, q0, m0⟩, ⟨ao1, n1, cap1, rfl, q1⟩⟩ := h1
  refine ⟨v0, ao1, n1, cap1, _, by omega, (h2 0 (by decide)).1, (h2 0 (by decide)).2, q0, (h2 1 (by decide)).1, (h2 1 (by decide)).2, q1⟩

set_option maxHeartbeats 1000000 in
theorem toSkySector_sh (x : DSkySector) (ao1 : Option Addr) (cap1 : Nat) (w : World) (p1 : SliceAt vSkyBlock (old w) w ao1 cap1 x.2) (hn : wSkySector x ≤ 1048576) :
    Calls Tryz.prog 74 #[.agg #[.string x.1, .slice ao1 x.2.length cap1]] w fun e w' => ∃ ao1' cap1', e = .returned (.agg #[.string x.1, .slice ao1' x.2.length cap1']) ∧ (SliceAt vSkyBlock (fresh w w') w' ao1' cap1' x.2 ∧ SlSh shSkyBlock 140 (fresh w w') w' ao1' x.2.length (cnSkyBlockS x.2)) ∧ Below w.heap.size w w' := by
  have s1 : wSkyBlockS x.2 ≤ 1048576 := by unfold wSkySector at hn; omega
  clear hn
  go_enter Tryz.func74, Tryz.ntmps74
  go_wp2_with fail
  have b1 : Below w.heap.size w (((w.alloc (.cells #[.string x.1, .slice ao1 x.2.length cap1] 108)).alloc (.cells #[.string ByteArray.empty, .slice none 0 0] 122)).alloc (.cells #[.string x.1, .slice none 0 0] 122)) := (((Below.refl w.heap.size w).alloc (Nat.le_refl _) _).alloc (by simp) _).alloc (by simp; try omega) _
  refine (toSkyBlockS_sh ao1 cap1 x.2 _ s1 (p1.later b1)).mono ?_
  rintro e w1 ⟨ao1', cap1', rfl, q1, r1, g1⟩
  have b1' := b1.trans (g1.mono b1.size)
  obtain ⟨hc1, hf1⟩ := bcell g1
  have z1 := g1.size
  try simp at z1 hc1 hf1
  have y10 : w.heap.size < w1.heap.size := by omega
  have y11 : w.heap.size + 1 < w1.heap.size := by omega
  have y12 : w.heap.size + 1 + 1 < w1.heap.size := by omega
  go_wp2
  refine bodyPost_ret (v := .agg #[.string x.1, .slice ao1' x.2.length cap1']) (by simp [results, Tryz.results74, go_sem, hc1, hf1, y10, y11, y12]) rfl ⟨ao1', cap1', rfl, ?_, ?_⟩
  · refine ⟨SliceAt.mono (q1.stays ?_) ?_, SlSh.mono (r1.stays ?_) ?_⟩
    · intro b hb
      have hb1 := hb.1
      have hb2 := hb.2
      simp at hb1 hb2
      have hne1 : b ≠ w.heap.size + 1 := by omega
      have hne2 : b ≠ w.heap.size + 1 + 1 := by omega
      simp [Below.heap_setCell, hne1, hne2]
    · intro b hb
      have hb1 := hb.1
      have hb2 := hb.2
      simp at hb1 hb2
      exact ⟨by omega, by simp; omega⟩
    · intro b hb
      have hb1 := hb.1
      have hb2 := hb.2
      simp at hb1 hb2
      have hne1 : b ≠ w.heap.size + 1 := by omega
      have hne2 : b ≠ w.heap.size + 1 + 1 := by omega
      simp [Below.heap_setCell, hne1, hne2]
    · intro b hb
      have hb1 := hb.1
      have hb2 := hb.2
      simp at hb1 hb2
      exact ⟨by omega, by simp; omega⟩
  · repeat (first | refine Below.setCell ?_ (by simp; try omega) _ | exact b1')

theorem vwSkySector_size : (vWith vSkySector shSkySector cnSkySector).size = 2 := rfl

set_option maxHeartbeats 1000000 in
theorem toSkySectorS_sh (ao : Option Addr) (cap : Nat) (l : List DSkySector) (w : World) (hn : wSkySectorS l ≤ 1048576) (h : SliceAt vSkySector (old w) w ao cap l) :
    Calls Tryz.prog 37 #[.slice ao l.length cap] w fun e w' => ∃ ao' cap', e = .returned (.slice ao' l.length cap') ∧ SliceAt vSkySector (fresh w w') w' ao' cap' l ∧ SlSh shSkySector 122 (fresh w w') w' ao' l.length (cnSkySectorS l) ∧ Below w.heap.size w w' := by
  have hl : l.length ≤ 1048576 := by unfold wSkySectorS at hn; omega
  obtain ⟨i0, hi, hz0, hz1, hz2⟩ := info_parts Tryz.info_SkySector
  go_enter Tryz.func37, Tryz.ntmps37
  go_wp2_with (at_make; refine wpList_make_full _ rfl _ _ 36 rfl w.heap.size 122 i0 _ 2 Tryz.underlying36 hi hz0 hz1 _ _ _ _ l.length rfl rfl rfl rfl ?c1 ?c2 ?c3 ?_)
  case c1 => rw [hz2]; omega
  case c2 => unfold maxLen; omega
  case c3 => exact Nat.le_refl _
  intro w1 hown hgr
  have hR0 : RowAt (vWith vSkySector shSkySector cnSkySector) w1 w.heap.size 122 0 l := RowAt.start (A := vWith vSkySector shSkySector cnSkySector) rfl hown
  have hB0 : Below w.heap.size w w1 := (Below.refl _ _).grown hgr (Nat.le_refl _) (by intro k hk; cases hk)
  clear hown hgr hi hz0 hz1 hz2
  go_wp2
  go_loopw [4] (fun i wr => ∃ k : Nat, k ≤ l.length ∧ i = .int .i64 k ∧ Below w.heap.size w wr ∧ RowAt (vWith vSkySector shSkySector cnSkySector) wr w.heap.size 122 k l) (fun i _ => l.length - (intOf i).toNat)
  case atStart => exact ⟨0, Nat.zero_le _, rfl, hB0, hR0⟩
  case round =>
    obtain ⟨k, hk, rfl, hbel, hR⟩ := hrel
    by_cases hlt : k < l.length
    · obtain ⟨b, off, ao1, cap1, rfl, hok, c0, c1, p0, p1⟩ := elem_SkySector h hlt
      have d0 := (hbel.cell (p := ⟨b, off + k * 2, none⟩) hok).trans c0
      have d1 := (hbel.cell (p := ⟨b, off + k * 2 + 1, none⟩) hok).trans c1
      have t : wSkySector l[k] ≤ 1048576 := by have h1 := sum_elem wSkySector l k hlt; unfold wSkySectorS at hn; omega
      clear c0 c1 hR0 hB0
      go_wp2_with fail
      refine (toSkySector_sh _ _ _ _ (p1.later hbel) t).mono ?_
      rintro e w2 ⟨ao1', cap1', rfl, ⟨q1, r1⟩, hb2⟩
      have hR2 := hR.later hb2
      have hB2 := hbel.trans (hb2.mono hbel.size)
      have hR3 := hR2.store hlt (c := [.string l[k].1, .slice ao1' l[k].2.length cap1']) ⟨mk_SkySector p0 (q1.mono (fun b hb => ⟨Nat.lt_of_lt_of_le hR.lt hb.1, hb.2⟩)), hold_SkySector (r1.mono (fun b hb => ⟨Nat.lt_of_lt_of_le hR.lt hb.1, hb.2⟩))⟩
      have hB3 := put_below w.heap.size w.heap.size (Nat.le_refl _) [.string l[k].1, .slice ao1' l[k].2.length cap1'] _ _ (k * 2) hB2
      obtain ⟨u0, e0⟩ := hR2.cell (i := k * 2) (by rw [vwSkySector_size]; omega)
      obtain ⟨u1, e1⟩ := hR2.cell (i := k * 2 + 1) (by rw [vwSkySector_size]; omega)
      have f0 := hR2.free (k * 2)
      have f1 := hR2.free (k * 2 + 1)
      clear hR hR2 hB2 hb2
      go_wp2
      go_roundw
      case rel => exact ⟨k + 1, by omega, by go_num, hB3, hR3⟩
      case measure => simp [intOf]; omega
    · have hk2 : k = l.length := by omega
      subst hk2
      have hS := (hR.done (by unfold maxLen; omega)).bare
      have hSh := hR.shape (by unfold maxLen; omega) rfl
      go_wp2
      go_ret
      exact ⟨_, _, rfl, hS, hSh, hbel⟩

set_option maxRecDepth 100000 in
set_option maxHeartbeats 2000000 in
theorem markSkySectorS_any (ao : Option Addr) (n cap c : Nat) (k : Int) (lo hi : Nat) (w : World) (h : SlSh shSkySector 122 (fun b => lo ≤ b ∧ b < hi) w ao n c) (hlo : lo ≤ hi) (hhi : hi ≤ w.heap.size) (hk : 0 ≤ k) (hc : k + c ≤ 1099511627776) :
    Calls Tryz.prog 50 #[.slice ao n cap, .int .i64 k] w fun e w' => e = .returned (.int .i64 (k + c)) ∧ Same lo hi w w' := by
  have hm : n ≤ 9223372036854775807 := h.1
  rcases h.2 with ⟨rfl, rfl⟩ | ⟨b, f, rfl, hcf, hR⟩
  · go_enter Tryz.func50, Tryz.ntmps50
    go_wp2
    go_loop [1, 5] (fun a i => a = .int .i64 k ∧ i = .int .i64 0) (fun _ _ => 0)
    case atStart => exact ⟨rfl, rfl⟩
    case round =>
      obtain ⟨rfl, rfl⟩ := hrel
      go_wp2
      go_ret
      exact ⟨by simp, Same.refl _ _ _⟩
  · have hb1 := hR.1.1
    have hb2 := hR.1.2
    have HF : Hid (c = sumTo f n) := hcf
    clear hcf h
    go_enter Tryz.func50, Tryz.ntmps50
    go_wp2
    go_loopw [1, 5] (fun a i wr => ∃ (j : Nat) (q : Int), j ≤ n ∧ i = .int .i64 j ∧ a = .int .i64 q ∧ Hid (q = k + sumTo f j) ∧ Same lo hi w wr) (fun _ i _ => n - (intOf i).toNat)
    case atStart => exact ⟨0, k, Nat.zero_le _, rfl, rfl, by show _ = _; simp [sumTo], Same.refl _ _ _⟩
    case round =>
      obtain ⟨j, q, hj, rfl, rfl, hq, hS⟩ := hrel
      by_cases hlt : j < n
      · have hs1 : sumTo f j + f j ≤ sumTo f n := sumTo_le f (m := j + 1) hlt
        have hq0 : 0 ≤ q := by have := hq.out; omega
        have hq1 : q + f j ≤ 1099511627776 := by have h1 := hq.out; have h2 := HF.out; omega
        have HQ : Hid (q + f j = k + sumTo f (j + 1)) := by have h1 := hq.out; show _ = _; simp only [sumTo]; omega
        have hRw := hR.turn hS (fun _ h => h)
        have hsz := hS.below.size
        clear hs1 hq
        obtain ⟨v0, ao1, n1, cap1, c1, hf, d0, f0, z0, d1, f1, s1⟩ := elemSh_SkySector hRw hlt
        have HG0 : Hid _ := hf
        clear hf
        have hX1 : Same lo hi w wr := hS
        have hXs1 := hX1.below.size
        clear hRw
        go_wp2_with fail
        refine (markText_ex _ _ (by omega) (by have := HG0.out; omega)).mono ?_
        rintro e w1 ⟨t1, rfl, g1⟩
        have hY1 := hX1.trans (Same.ofBelow (lo := lo) (hi := hi) g1 (by omega) (by omega))
        clear d0 f0 z0 d1 f1 s1 hX1 hXs1 g1 hS
        have hRw := hR.turn hY1 (fun _ h => h)
        have hsz := hY1.below.size
        obtain ⟨v0, ao1, n1, cap1, c1, hf, d0, f0, z0, d1, f1, s1⟩ := elemSh_SkySector hRw hlt
        have HG1 : Hid _ := hf
        clear hf
        have hX2 : Same lo hi w (w1.setCell ⟨b, j * 2, none⟩ (.string t1)) := (hY1.set hb1 hb2 d0 z0 rfl)
        have hXs2 := hX2.below.size
        have hT2 : SlSh shSkyBlock 140 (fun b => lo ≤ b ∧ b < hi) (w1.setCell ⟨b, j * 2, none⟩ (.string t1)) ao1 n1 c1 := s1.turn (lo := lo) (hi := hi) (((Same.refl lo hi _).set hb1 hb2 d0 z0 rfl)) (fun _ h => h)
        clear hRw
        go_wp2_with fail
        refine (markSkyBlockS_any _ _ _ c1 _ lo hi _ hT2 hlo (by omega) (by omega) (by have := HG1.out; omega)).mono ?_
        rintro e w2 ⟨rfl, g2⟩
        have hY2 := hX2.trans g2
        clear hT2
        clear d0 f0 z0 d1 f1 s1 hX2 hXs2 g2 hY1
        have hRw := hR.turn hY2 (fun _ h => h)
        have hsz := hY2.below.size
        obtain ⟨v0, ao1', n1', cap1', c1', hf, d0, f0, z0, d1, f1, s1⟩ := elemSh_SkySector hRw hlt
        have HG2 : Hid _ := hf
        clear hf
        have hE : Same lo hi w w2 := hY2
        clear hRw
        go_wp2
        go_roundw
        case rel => exact ⟨j + 1, q + 1 + c1, by omega, by go_num, by go_num, by have := HQ.out; have := HG0.out; have := HG1.out; have := HG2.out; show _ = _; omega, hE⟩
        case measure => simp [intOf]; omega
      · have hje : j = n := by omega
        subst hje
        have HE : Hid (q = k + c) := by have h1 := hq.out; have h2 := HF.out; show _ = _; omega
        clear hq HF
        go_wp2
        go_ret
        exact ⟨by rw [HE.out]; rfl, hS⟩

end Go.Proofs.YtnjkkohhgbgpgaaGreatDoor

/- DERIVED. By gm.py: the shape of Sky; 'to' ends in it; 'mark' over it. -/
namespace Go.Proofs.YtnjkkohhgbgpgaaGreatDoor
open Go.RowKit
set_option linter.unusedSimpArgs false
set_option linter.unusedVariables false

def shSky : Shape := shPair shFlat (shPair shFlat (shPair shFlat (shPair (shSlice shSkyPoint 113) (shPair (shSlice shSkyAirway 118) (shPair (shSlice shSkySector 122) (shSlice shSkyRunway 124))))))
theorem shSky_size : shSky.size = 7 := rfl
def cnSky (x : DSky) : Nat := 1 + (1 + (1 + (cnSkyPointS x.2.2.2.1 + (cnSkyAirwayS x.2.2.2.2.1 + (cnSkySectorS x.2.2.2.2.2.1 + (cnSkyRunwayS x.2.2.2.2.2.2))))))
def cnSkyS (l : List DSky) : Nat := (l.map cnSky).sum
theorem cnSkyS_le (l : List DSky) : cnSkyS l ≤ 16 * wSkyS l := by
  unfold cnSkyS wSkyS
  refine cnt_sum cnSky wSky (fun x => ?_) l
  unfold cnSky wSky
  have h3 := cnSkyPointS_le x.2.2.2.1
  have h4 := cnSkyAirwayS_le x.2.2.2.2.1
  have h5 := cnSkySectorS_le x.2.2.2.2.2.1
  have h6 := cnSkyRunwayS_le x.2.2.2.2.2.2
  omega

theorem hold_Sky {ok : Nat → Prop} {w : World} {x : DSky} {ao3 : Option Addr} {cap3 : Nat} {ao4 : Option Addr} {cap4 : Nat} {ao5 : Option Addr} {cap5 : Nat} {ao6 : Option Addr} {cap6 : Nat} (q3 : SlSh shSkyPoint 113 ok w ao3 x.2.2.2.1.length (cnSkyPointS x.2.2.2.1)) (q4 : SlSh shSkyAirway 118 ok w ao4 x.2.2.2.2.1.length (cnSkyAirwayS x.2.2.2.2.1)) (q5 : SlSh shSkySector 122 ok w ao5 x.2.2.2.2.2.1.length (cnSkySectorS x.2.2.2.2.2.1)) (q6 : SlSh shSkyRunway 124 ok w ao6 x.2.2.2.2.2.2.length (cnSkyRunwayS x.2.2.2.2.2.2)) : shSky.holds ok w [.int .i64 x.1, .int .i64 x.2.1, .int .i64 x.2.2.1, .slice ao3 x.2.2.2.1.length cap3, .slice ao4 x.2.2.2.2.1.length cap4, .slice ao5 x.2.2.2.2.2.1.length cap5, .slice ao6 x.2.2.2.2.2.2.length cap6] (cnSky x) :=
  ⟨[_], _, _, _, rfl, rfl, ⟨_, rfl, rfl, rfl⟩, ⟨[_], _, _, _, rfl, rfl, ⟨_, rfl, rfl, rfl⟩, ⟨[_], _, _, _, rfl, rfl, ⟨_, rfl, rfl, rfl⟩, ⟨[_], _, _, _, rfl, rfl, ⟨_, _, _, rfl, q3⟩, ⟨[_], _, _, _, rfl, rfl, ⟨_, _, _, rfl, q4⟩, ⟨[_], _, _, _, rfl, rfl, ⟨_, _, _, rfl, q5⟩, ⟨_, _, _, rfl, q6⟩⟩⟩⟩⟩⟩⟩

theorem elemSh_Sky {t : TypeId} {ok : Nat → Prop} {w : World} {b n : Nat} {f : Nat → Nat} (h : RowSh shSky t ok w b n f) {i : Nat} (hi : i < n) :
    ∃ (v0 : Value) (v1 : Value) (v2 : Value) (ao3 : Option Addr) (n3 cap3 c3 : Nat) (ao4 : Option Addr) (n4 cap4 c4 : Nat) (ao5 : Option Addr) (n5 cap5 c5 : Nat) (ao6 : Option Addr) (n6 cap6 c6 : Nat), f i = 1 + (1 + (1 + (c3 + (c4 + (c5 + c6))))) ∧ w.cell? ⟨b, i * 7, none⟩ = some v0 ∧ w.frozen? ⟨b, i * 7, none⟩ = false ∧ isSl v0 = false ∧ w.cell? ⟨b, i * 7 + 1, none⟩ = some v1 ∧ w.frozen? ⟨b, i * 7 + 1, none⟩ = false ∧ isSl v1 = false ∧ w.cell? ⟨b, i * 7 + 2, none⟩ = some v2 ∧ w.frozen? ⟨b, i * 7 + 2, none⟩ = false ∧ isSl v2 = false ∧ w.cell? ⟨b, i * 7 + 3, none⟩ = some (.slice ao3 n3 cap3) ∧ w.frozen? ⟨b, i * 7 + 3, none⟩ = false ∧ SlSh shSkyPoint 113 ok w ao3 n3 c3 ∧ w.cell? ⟨b, i * 7 + 4, none⟩ = some (.slice ao4 n4 cap4) ∧ w.frozen? ⟨b, i * 7 + 4, none⟩ = false ∧ SlSh shSkyAirway 118 ok w ao4 n4 c4 ∧ w.cell? ⟨b, i * 7 + 5, none⟩ = some (.slice ao5 n5 cap5) ∧ w.frozen? ⟨b, i * 7 + 5, none⟩ = false ∧ SlSh shSkySector 122 ok w ao5 n5 c5 ∧ w.cell? ⟨b, i * 7 + 6, none⟩ = some (.slice ao6 n6 cap6) ∧ w.frozen? ⟨b, i * 7 + 6, none⟩ = false ∧ SlSh shSkyRunway 124 ok w ao6 n6 c6 := by
  obtain ⟨cs, h1, h2⟩ := h.elem hi
  obtain ⟨_, _, n0x, n0y, rfl, e0, ⟨v0, rfl, q0, m0⟩, ⟨_, _, n1x, n1y, rfl, e1, ⟨v1, rfl, q1, m1⟩, ⟨_, _, n2x, n2y, rfl, e2, ⟨v2, rfl, q2, m2⟩, ⟨_, _, n3x, n3y, rfl, e3, ⟨ao3, n3, cap3, rfl, q3⟩, ⟨_, _, n4x, n4y, rfl, e4, ⟨ao4, n4, cap4, rfl, q4⟩, ⟨_, _, n5x, n5y, rfl, e5, ⟨ao5, n5, cap5, rfl, q5⟩, ⟨ao6, n6, cap6, rfl, q6⟩⟩⟩⟩⟩⟩⟩ := h1
  refine ⟨v0, v1, v2, ao3, n3, cap3, _, ao4, n4, cap4, _, ao5, n5, cap5, _, ao6, n6, cap6, _, by omega, (h2 0 (by decide)).1, (h2 0 (by decide)).2, q0, (h2 1 (by decide)).1, (h2 1 (by decide)).2, q1, (h2 2 (by decide)).1, (h2 2 (by decide)).2, q2, (h2 3 (by decide)).1, (h2 3 (by decide)).2, q3, (h2 4 (by decide)).1, (h2 4 (by decide)).2, q4, (h2 5 (by decide)).1, (h2 5 (by decide)).2, q5, (h2 6 (by decide)).1, (h2 6 (by decide)).2, q6⟩

set_option maxHeartbeats 1000000 in
theorem toSky_sh (x : DSky) (ao3 : Option Addr) (cap3 : Nat) (ao4 : Option Addr) (cap4 : Nat) (ao5 : Option Addr) (cap5 : Nat) (ao6 : Option Addr) (cap6 : Nat) (w : World) (p3 : SliceAt vSkyPoint (old w) w ao3 cap3 x.2.2.2.1) (p4 : SliceAt vSkyAirway (old w) w ao4 cap4 x.2.2.2.2.1) (p5 : SliceAt vSkySector (old w) w ao5 cap5 x.2.2.2.2.2.1) (p6 : SliceAt vSkyRunway (old w) w ao6 cap6 x.2.2.2.2.2.2) (hn : wSky x ≤ 1048576) :
    Calls Tryz.prog 8 #[.agg #[.int .i64 x.1, .int .i64 x.2.1, .int .i64 x.2.2.1, .slice ao3 x.2.2.2.1.length cap3, .slice ao4 x.2.2.2.2.1.length cap4, .slice ao5 x.2.2.2.2.2.1.length cap5, .slice ao6 x.2.2.2.2.2.2.length cap6]] w fun e w' => ∃ ao3' cap3', ∃ ao4' cap4', ∃ ao5' cap5', ∃ ao6' cap6', e = .returned (.agg #[.int .i64 x.1, .int .i64 x.2.1, .int .i64 x.2.2.1, .slice ao3' x.2.2.2.1.length cap3', .slice ao4' x.2.2.2.2.1.length cap4', .slice ao5' x.2.2.2.2.2.1.length cap5', .slice ao6' x.2.2.2.2.2.2.length cap6']) ∧ (SliceAt vSkyPoint (fresh w w') w' ao3' cap3' x.2.2.2.1 ∧ SlSh shSkyPoint 113 (fresh w w') w' ao3' x.2.2.2.1.length (cnSkyPointS x.2.2.2.1)) ∧ (SliceAt vSkyAirway (fresh w w') w' ao4' cap4' x.2.2.2.2.1 ∧ SlSh shSkyAirway 118 (fresh w w') w' ao4' x.2.2.2.2.1.length (cnSkyAirwayS x.2.2.2.2.1)) ∧ (SliceAt vSkySector (fresh w w') w' ao5' cap5' x.2.2.2.2.2.1 ∧ SlSh shSkySector 122 (fresh w w') w' ao5' x.2.2.2.2.2.1.length (cnSkySectorS x.2.2.2.2.2.1)) ∧ (SliceAt vSkyRunway (fresh w w') w' ao6' cap6' x.2.2.2.2.2.2 ∧ SlSh shSkyRunway 124 (fresh w w') w' ao6' x.2.2.2.2.2.2.length (cnSkyRunwayS x.2.2.2.2.2.2)) ∧ Below w.heap.size w w' := by
  have s3 : wSkyPointS x.2.2.2.1 ≤ 1048576 := by unfold wSky at hn; omega
  have s4 : wSkyAirwayS x.2.2.2.2.1 ≤ 1048576 := by unfold wSky at hn; omega
  have s5 : wSkySectorS x.2.2.2.2.2.1 ≤ 1048576 := by unfold wSky at hn; omega
  have s6 : wSkyRunwayS x.2.2.2.2.2.2 ≤ 1048576 := by unfold wSky at hn; omega
  clear hn
  go_enter Tryz.func8, Tryz.ntmps8
  go_wp2_with fail
  have b3 : Below w.heap.size w (((w.alloc (.cells #[.int .i64 x.1, .int .i64 x.2.1, .int .i64 x.2.2.1, .slice ao3 x.2.2.2.1.length cap3, .slice ao4 x.2.2.2.2.1.length cap4, .slice ao5 x.2.2.2.2.2.1.length cap5, .slice ao6 x.2.2.2.2.2.2.length cap6] 27)).alloc (.cells #[.int .i64 0, .int .i64 0, .int .i64 0, .slice none 0 0, .slice none 0 0, .slice none 0 0, .slice none 0 0] 39)).alloc (.cells #[.int .i64 x.1, .int .i64 x.2.1, .int .i64 x.2.2.1, .slice none 0 0, .slice none 0 0, .slice none 0 0, .slice none 0 0] 39)) := (((Below.refl w.heap.size w).alloc (Nat.le_refl _) _).alloc (by simp) _).alloc (by simp; try omega) _
  refine (toSkyPointS_sh ao3 cap3 x.2.2.2.1 _ s3 (p3.later b3)).mono ?_
  rintro e w3 ⟨ao3', cap3', rfl, q3, r3, g3⟩
  have b3' := b3.trans (g3.mono b3.size)
  obtain ⟨hc3, hf3⟩ := bcell g3
  have z3 := g3.size
  try simp at z3 hc3 hf3
  have y30 : w.heap.size < w3.heap.size := by omega
  have y31 : w.heap.size + 1 < w3.heap.size := by omega
  have y32 : w.heap.size + 1 + 1 < w3.heap.size := by omega
  go_wp2_with fail
  have b4 : Below w.heap.size w (w3.setCell ⟨w.heap.size + 1 + 1, 3, none⟩ (.slice ao3' x.2.2.2.1.length cap3')) := (b3'.setCell (p := ⟨w.heap.size + 1 + 1, 3, none⟩) (by simp; try omega) _)
  refine (toSkyAirwayS_sh ao4 cap4 x.2.2.2.2.1 _ s4 (p4.later b4)).mono ?_
  rintro e w4 ⟨ao4', cap4', rfl, q4, r4, g4⟩
  have b4' := b4.trans (g4.mono b4.size)
  obtain ⟨hc4, hf4⟩ := bcell g4
  have z4 := g4.size
  try simp at z4 hc4 hf4
  have y40 : w.heap.size < w4.heap.size := by omega
  have y41 : w.heap.size + 1 < w4.heap.size := by omega
  have y42 : w.heap.size + 1 + 1 < w4.heap.size := by omega
  go_wp2_with fail
  have b5 : Below w.heap.size w (w4.setCell ⟨w.heap.size + 1 + 1, 4, none⟩ (.slice ao4' x.2.2.2.2.1.length cap4')) := (b4'.setCell (p := ⟨w.heap.size + 1 + 1, 4, none⟩) (by simp; try omega) _)
  refine (toSkySectorS_sh ao5 cap5 x.2.2.2.2.2.1 _ s5 (p5.later b5)).mono ?_
  rintro e w5 ⟨ao5', cap5', rfl, q5, r5, g5⟩
  have b5' := b5.trans (g5.mono b5.size)
  obtain ⟨hc5, hf5⟩ := bcell g5
  have z5 := g5.size
  try simp at z5 hc5 hf5
  have y50 : w.heap.size < w5.heap.size := by omega
  have y51 : w.heap.size + 1 < w5.heap.size := by omega
  have y52 : w.heap.size + 1 + 1 < w5.heap.size := by omega
  go_wp2_with fail
  have b6 : Below w.heap.size w (w5.setCell ⟨w.heap.size + 1 + 1, 5, none⟩ (.slice ao5' x.2.2.2.2.2.1.length cap5')) := (b5'.setCell (p := ⟨w.heap.size + 1 + 1, 5, none⟩) (by simp; try omega) _)
  refine (toSkyRunwayS_sh ao6 cap6 x.2.2.2.2.2.2 _ s6 (p6.later b6)).mono ?_
  rintro e w6 ⟨ao6', cap6', rfl, q6, r6, g6⟩
  have b6' := b6.trans (g6.mono b6.size)
  obtain ⟨hc6, hf6⟩ := bcell g6
  have z6 := g6.size
  try simp at z6 hc6 hf6
  have y60 : w.heap.size < w6.heap.size := by omega
  have y61 : w.heap.size + 1 < w6.heap.size := by omega
  have y62 : w.heap.size + 1 + 1 < w6.heap.size := by omega
  go_wp2
  refine bodyPost_ret (v := .agg #[.int .i64 x.1, .int .i64 x.2.1, .int .i64 x.2.2.1, .slice ao3' x.2.2.2.1.length cap3', .slice ao4' x.2.2.2.2.1.length cap4', .slice ao5' x.2.2.2.2.2.1.length cap5', .slice ao6' x.2.2.2.2.2.2.length cap6']) (by simp [results, Tryz.results8, go_sem, hc3, hf3, y30, y31, y32, hc4, hf4, y40, y41, y42, hc5, hf5, y50, y51, y52, hc6, hf6, y60, y61, y62]) rfl ⟨ao3', cap3', ao4', cap4', ao5', cap5', ao6', cap6', rfl, ?_, ?_, ?_, ?_, ?_⟩
  · refine ⟨SliceAt.mono (q3.stays ?_) ?_, SlSh.mono (r3.stays ?_) ?_⟩
    · intro b hb
      have hb1 := hb.1
      have hb2 := hb.2
      simp at hb1 hb2
      have hne1 : b ≠ w.heap.size + 1 := by omega
      have hne2 : b ≠ w.heap.size + 1 + 1 := by omega
      have hl4 : b < w3.heap.size := by omega
      have hk4 := g4.block b (by simpa using hl4)
      have hl5 : b < w4.heap.size := by omega
      have hk5 := g5.block b (by simpa using hl5)
      have hl6 : b < w5.heap.size := by omega
      have hk6 := g6.block b (by simpa using hl6)
      simp [Below.heap_setCell, hne1, hne2, hk4, hk5, hk6]
    · intro b hb
      have hb1 := hb.1
      have hb2 := hb.2
      simp at hb1 hb2
      exact ⟨by omega, by simp; omega⟩
    · intro b hb
      have hb1 := hb.1
      have hb2 := hb.2
      simp at hb1 hb2
      have hne1 : b ≠ w.heap.size + 1 := by omega
      have hne2 : b ≠ w.heap.size + 1 + 1 := by omega
      have hl4 : b < w3.heap.size := by omega
      have hk4 := g4.block b (by simpa using hl4)
      have hl5 : b < w4.heap.size := by omega
      have hk5 := g5.block b (by simpa using hl5)
      have hl6 : b < w5.heap.size := by omega
      have hk6 := g6.block b (by simpa using hl6)
      simp [Below.heap_setCell, hne1, hne2, hk4, hk5, hk6]
    · intro b hb
      have hb1 := hb.1
      have hb2 := hb.2
      simp at hb1 hb2
      exact ⟨by omega, by simp; omega⟩
  · refine ⟨SliceAt.mono (q4.stays ?_) ?_, SlSh.mono (r4.stays ?_) ?_⟩
    · intro b hb
      have hb1 := hb.1
      have hb2 := hb.2
      simp at hb1 hb2
      have hne1 : b ≠ w.heap.size + 1 := by omega
      have hne2 : b ≠ w.heap.size + 1 + 1 := by omega
      have hl5 : b < w4.heap.size := by omega
      have hk5 := g5.block b (by simpa using hl5)
      have hl6 : b < w5.heap.size := by omega
      have hk6 := g6.block b (by simpa using hl6)
      simp [Below.heap_setCell, hne1, hne2, hk5, hk6]
    · intro b hb
      have hb1 := hb.1
      have hb2 := hb.2
      simp at hb1 hb2
      exact ⟨by omega, by simp; omega⟩
    · intro b hb
      have hb1 := hb.1
      have hb2 := hb.2
      simp at hb1 hb2
      have hne1 : b ≠ w.heap.size + 1 := by omega
      have hne2 : b ≠ w.heap.size + 1 + 1 := by omega
      have hl5 : b < w4.heap.size := by omega
      have hk5 := g5.block b (by simpa using hl5)
      have hl6 : b < w5.heap.size := by omega
      have hk6 := g6.block b (by simpa using hl6)
      simp [Below.heap_setCell, hne1, hne2, hk5, hk6]
    · intro b hb
      have hb1 := hb.1
      have hb2 := hb.2
      simp at hb1 hb2
      exact ⟨by omega, by simp; omega⟩
  · refine ⟨SliceAt.mono (q5.stays ?_) ?_, SlSh.mono (r5.stays ?_) ?_⟩
    · intro b hb
      have hb1 := hb.1
      have hb2 := hb.2
      simp at hb1 hb2
      have hne1 : b ≠ w.heap.size + 1 := by omega
      have hne2 : b ≠ w.heap.size + 1 + 1 := by omega
      have hl6 : b < w5.heap.size := by omega
      have hk6 := g6.block b (by simpa using hl6)
      simp [Below.heap_setCell, hne1, hne2, hk6]
    · intro b hb
      have hb1 := hb.1
      have hb2 := hb.2
      simp at hb1 hb2
      exact ⟨by omega, by simp; omega⟩
    · intro b hb
      have hb1 := hb.1
      have hb2 := hb.2
      simp at hb1 hb2
      have hne1 : b ≠ w.heap.size + 1 := by omega
      have hne2 : b ≠ w.heap.size + 1 + 1 := by omega
      have hl6 : b < w5.heap.size := by omega
      have hk6 := g6.block b (by simpa using hl6)
      simp [Below.heap_setCell, hne1, hne2, hk6]
    · intro b hb
      have hb1 := hb.1
      have hb2 := hb.2
      simp at hb1 hb2
      exact ⟨by omega, by simp; omega⟩
  · refine ⟨SliceAt.mono (q6.stays ?_) ?_, SlSh.mono (r6.stays ?_) ?_⟩
    · intro b hb
      have hb1 := hb.1
      have hb2 := hb.2
      simp at hb1 hb2
      have hne1 : b ≠ w.heap.size + 1 := by omega
      have hne2 : b ≠ w.heap.size + 1 + 1 := by omega
      simp [Below.heap_setCell, hne1, hne2]
    · intro b hb
      have hb1 := hb.1
      have hb2 := hb.2
      simp at hb1 hb2
      exact ⟨by omega, by simp; omega⟩
    · intro b hb
      have hb1 := hb.1
      have hb2 := hb.2
      simp at hb1 hb2
      have hne1 : b ≠ w.heap.size + 1 := by omega
      have hne2 : b ≠ w.heap.size + 1 + 1 := by omega
      simp [Below.heap_setCell, hne1, hne2]
    · intro b hb
      have hb1 := hb.1
      have hb2 := hb.2
      simp at hb1 hb2
      exact ⟨by omega, by simp; omega⟩
  · repeat (first | refine Below.setCell ?_ (by simp; try omega) _ | exact b6')

set_option maxRecDepth 100000 in
set_option maxHeartbeats 1000000 in
theorem markSky_any (u0 : Value) (u1 : Value) (u2 : Value) (ao3 : Option Addr) (n3 cap3 c3 : Nat) (ao4 : Option Addr) (n4 cap4 c4 : Nat) (ao5 : Option Addr) (n5 cap5 c5 : Nat) (ao6 : Option Addr) (n6 cap6 c6 : Nat) (k : Int) (lo hi : Nat) (w : World) (q3 : SlSh shSkyPoint 113 (fun b => lo ≤ b ∧ b < hi) w ao3 n3 c3) (q4 : SlSh shSkyAirway 118 (fun b => lo ≤ b ∧ b < hi) w ao4 n4 c4) (q5 : SlSh shSkySector 122 (fun b => lo ≤ b ∧ b < hi) w ao5 n5 c5) (q6 : SlSh shSkyRunway 124 (fun b => lo ≤ b ∧ b < hi) w ao6 n6 c6) (hlo : lo ≤ hi) (hhi : hi ≤ w.heap.size) (hk : 0 ≤ k) (hc : k + (c3 + c4 + c5 + c6 : Nat) ≤ 1099511627776) :
    Calls Tryz.prog 14 #[.agg #[u0, u1, u2, .slice ao3 n3 cap3, .slice ao4 n4 cap4, .slice ao5 n5 cap5, .slice ao6 n6 cap6], .int .i64 k] w fun e w' => e = .returned (.int .i64 (k + (c3 + c4 + c5 + c6 : Nat))) ∧ Same lo hi w w' := by
  have hB0 : Below w.heap.size w (w.alloc (.cells #[u0, u1, u2, .slice ao3 n3 cap3, .slice ao4 n4 cap4, .slice ao5 n5 cap5, .slice ao6 n6 cap6] 39)) := (Below.refl _ _).alloc (Nat.le_refl _) _
  have hY0 : Same lo hi w (w.alloc (.cells #[u0, u1, u2, .slice ao3 n3 cap3, .slice ao4 n4 cap4, .slice ao5 n5 cap5, .slice ao6 n6 cap6] 39)) := Same.ofBelow hB0 (by omega) hhi
  have hs0 : hi < (w.alloc (.cells #[u0, u1, u2, .slice ao3 n3 cap3, .slice ao4 n4 cap4, .slice ao5 n5 cap5, .slice ao6 n6 cap6] 39)).heap.size := by simp; omega
  have e3 : (w.alloc (.cells #[u0, u1, u2, .slice ao3 n3 cap3, .slice ao4 n4 cap4, .slice ao5 n5 cap5, .slice ao6 n6 cap6] 39)).heap[w.heap.size]? = some (.cells #[u0, u1, u2, .slice ao3 n3 cap3, .slice ao4 n4 cap4, .slice ao5 n5 cap5, .slice ao6 n6 cap6] 39 (0, 0)) := heap_alloc_new _ _
  go_enter Tryz.func14, Tryz.ntmps14
  have hT3 := q3.turn hY0 (fun _ h => h)
  go_wp2_with fail
  refine (markSkyPointS_any _ _ _ c3 _ lo hi _ hT3 hlo (by omega) (by omega) (by omega)).mono ?_
  rintro e w3 ⟨rfl, g3⟩
  have hY4 := hY0.trans g3
  have x3 := (g3.above w.heap.size hhi (by first | omega | (simp; done))).trans e3
  have hs4 : hi < w3.heap.size := by have := g3.below.size; omega
  have ws3 : w.heap.size < w3.heap.size := by have := g3.below.size; first | omega | (simp at this; omega)
  clear g3 hT3
  have hT4 := q4.turn hY4 (fun _ h => h)
  have d4 : w3.cell? ⟨w.heap.size, 4, none⟩ = some (.slice ao4 n4 cap4) := (cell_of_block x3).trans rfl
  go_wp2_with fail
  refine (markSkyAirwayS_any _ _ _ c4 _ lo hi _ hT4 hlo (by omega) (by omega) (by omega)).mono ?_
  rintro e w4 ⟨rfl, g4⟩
  have hY5 := hY4.trans g4
  have x4 := (g4.above w.heap.size hhi (by first | omega | (simp; done))).trans x3
  have hs5 : hi < w4.heap.size := by have := g4.below.size; omega
  have ws4 : w.heap.size < w4.heap.size := by have := g4.below.size; first | omega | (simp at this; omega)
  clear g4 hT4 d4
  have hT5 := q5.turn hY5 (fun _ h => h)
  have d5 : w4.cell? ⟨w.heap.size, 5, none⟩ = some (.slice ao5 n5 cap5) := (cell_of_block x4).trans rfl
  go_wp2_with fail
  refine (markSkySectorS_any _ _ _ c5 _ lo hi _ hT5 hlo (by omega) (by omega) (by omega)).mono ?_
  rintro e w5 ⟨rfl, g5⟩
  have hY6 := hY5.trans g5
  have x5 := (g5.above w.heap.size hhi (by first | omega | (simp; done))).trans x4
  have hs6 : hi < w5.heap.size := by have := g5.below.size; omega
  have ws5 : w.heap.size < w5.heap.size := by have := g5.below.size; first | omega | (simp at this; omega)
  clear g5 hT5 d5
  have hT6 := q6.turn hY6 (fun _ h => h)
  have d6 : w5.cell? ⟨w.heap.size, 6, none⟩ = some (.slice ao6 n6 cap6) := (cell_of_block x5).trans rfl
  go_wp2_with fail
  refine (markSkyRunwayS_any _ _ _ c6 _ lo hi _ hT6 hlo (by omega) (by omega) (by omega)).mono ?_
  rintro e w6 ⟨rfl, g6⟩
  have hY7 := hY6.trans g6
  have x6 := (g6.above w.heap.size hhi (by first | omega | (simp; done))).trans x5
  have hs7 : hi < w6.heap.size := by have := g6.below.size; omega
  have ws6 : w.heap.size < w6.heap.size := by have := g6.below.size; first | omega | (simp at this; omega)
  clear g6 hT6 d6
  have HE : Hid (k + (c3 : Int) + (c4 : Int) + (c5 : Int) + (c6 : Int) = k + ((c3 + c4 + c5 + c6 : Nat) : Int)) := by show _ = _; omega
  go_wp2
  go_ret
  exact ⟨by rw [← HE.out]; rfl, hY7⟩

end Go.Proofs.YtnjkkohhgbgpgaaGreatDoor

/- DERIVED. By gv.py: data, view and the laws' own functions over SkyPlace. -/
namespace Go.Proofs.YtnjkkohhgbgpgaaGreatDoor
open Go.RowKit
set_option linter.unusedSimpArgs false
set_option linter.unusedVariables false

abbrev DSkyPlace := Int × Int × Int
def vSkyPlace : View DSkyPlace := vPair vInt (vPair vInt vInt)
theorem vSkyPlace_size : vSkyPlace.size = 3 := rfl

theorem cells_SkyPlace {ok : Nat → Prop} {w : World} {c : List Value} {x : DSkyPlace} (h : vSkyPlace.rel ok w c x) :
    c = [.int .i64 x.1, .int .i64 x.2.1, .int .i64 x.2.2] ∧ In64 x.1 ∧ In64 x.2.1 ∧ In64 x.2.2 := by
  obtain ⟨c0, r0, rfl, ⟨rfl, p0⟩, c1, r1, rfl, ⟨rfl, p1⟩, rfl, p2⟩ := h
  exact ⟨rfl, p0, p1, p2⟩

theorem mk_SkyPlace {ok : Nat → Prop} {w : World} {x : DSkyPlace} (p0 : In64 x.1) (p1 : In64 x.2.1) (p2 : In64 x.2.2) : vSkyPlace.rel ok w [.int .i64 x.1, .int .i64 x.2.1, .int .i64 x.2.2] x :=
  ⟨[_], _, rfl, ⟨rfl, p0⟩, [_], _, rfl, ⟨rfl, p1⟩, rfl, p2⟩

theorem elem_SkyPlace {ok : Nat → Prop} {w : World} {ao : Option Addr} {cap : Nat} {l : List DSkyPlace} (h : SliceAt vSkyPlace ok w ao cap l) {i : Nat} (hi : i < l.length) :
    ∃ b off, ao = some ⟨b, off, none⟩ ∧ ok b ∧ w.cell? ⟨b, off + i * 3, none⟩ = some (.int .i64 (l[i]'hi).1) ∧ w.cell? ⟨b, off + i * 3 + 1, none⟩ = some (.int .i64 (l[i]'hi).2.1) ∧ w.cell? ⟨b, off + i * 3 + 2, none⟩ = some (.int .i64 (l[i]'hi).2.2) ∧ In64 (l[i]'hi).1 ∧ In64 (l[i]'hi).2.1 ∧ In64 (l[i]'hi).2.2 := by
  obtain ⟨b, off, c, h1, h2, h3, h4⟩ := h.elem hi
  obtain ⟨rfl, p0, p1, p2⟩ := cells_SkyPlace h3
  exact ⟨b, off, h1, h2, h4 0 (by decide), h4 1 (by decide), h4 2 (by decide), p0, p1, p2⟩

def wSkyPlaceS (l : List DSkyPlace) : Nat := l.length

set_option maxHeartbeats 400000 in
theorem szSkyPlaceS_any (ao : Option Addr) (cap : Nat) (l : List DSkyPlace) (L : Int) (w : World) (h0 : 0 ≤ L) (h1 : L ≤ 1048576) (h : SliceAt vSkyPlace (old w) w ao cap l) :
    Calls Tryz.prog 18 #[.slice ao l.length cap, .int .i64 L] w fun e w' => e = .returned (.int .i64 (szR L (wSkyPlaceS l))) ∧ Below w.heap.size w w' := by
  have hcl := h.1
  have hcm : cap ≤ 9223372036854775807 := h.2.1
  by_cases hn : (l.length : Int) ≤ L
  · have HR : Hid (szR L (wSkyPlaceS l) = L - l.length) := szR_yes (by unfold wSkyPlaceS; omega)
    go_enter Tryz.func18, Tryz.ntmps18
    go_wp2
    go_ret
    exact ⟨by rw [HR.out]; rfl, Below.refl _ _⟩
  · have HR : Hid (szR L (wSkyPlaceS l) = -1) := szR_no (by unfold wSkyPlaceS; omega)
    go_enter Tryz.func18, Tryz.ntmps18
    go_wp2
    go_ret
    exact ⟨by rw [HR.out]; rfl, Below.refl _ _⟩

theorem toSkyPlace_any (x : DSkyPlace) (w : World) :
    Calls Tryz.prog 54 #[.agg #[.int .i64 x.1, .int .i64 x.2.1, .int .i64 x.2.2]] w fun e w' => e = .returned (.agg #[.int .i64 x.1, .int .i64 x.2.1, .int .i64 x.2.2]) ∧ Below w.heap.size w w' := by
  go_enter Tryz.func54, Tryz.ntmps54
  go_wp2
  exact bodyPost_ret (v := .agg #[.int .i64 x.1, .int .i64 x.2.1, .int .i64 x.2.2]) (by simp [results, Tryz.results54, go_sem]) rfl ⟨rfl, by repeat (first | exact Below.refl _ _ | refine Below.alloc ?_ (by simp; try omega) _)⟩

theorem Tryz.info_SkyPlace : (Tryz.prog.info? 91).map (fun i => (i.zero, i.size, i.bytes)) = some (some (.agg #[.int .i64 0, .int .i64 0, .int .i64 0]), 3, 24) := by kernel_rfl

set_option maxHeartbeats 1000000 in
theorem toSkyPlaceS_any (ao : Option Addr) (cap : Nat) (l : List DSkyPlace) (w : World) (hn : wSkyPlaceS l ≤ 1048576) (h : SliceAt vSkyPlace (old w) w ao cap l) :
    Calls Tryz.prog 20 #[.slice ao l.length cap] w fun e w' => ∃ ao' cap', e = .returned (.slice ao' l.length cap') ∧ SliceAt vSkyPlace (fresh w w') w' ao' cap' l ∧ Below w.heap.size w w' := by
  have hl : l.length ≤ 1048576 := by unfold wSkyPlaceS at hn; omega
  obtain ⟨i0, hi, hz0, hz1, hz2⟩ := info_parts Tryz.info_SkyPlace
  go_enter Tryz.func20, Tryz.ntmps20
  go_wp2_with (at_make; refine wpList_make_full _ rfl _ _ 53 rfl w.heap.size 91 i0 _ 3 Tryz.underlying53 hi hz0 hz1 _ _ _ _ l.length rfl rfl rfl rfl ?c1 ?c2 ?c3 ?_)
  case c1 => rw [hz2]; omega
  case c2 => unfold maxLen; omega
  case c3 => exact Nat.le_refl _
  intro w1 hown hgr
  have hR0 : RowAt vSkyPlace w1 w.heap.size 91 0 l := RowAt.start rfl hown
  have hB0 : Below w.heap.size w w1 := (Below.refl _ _).grown hgr (Nat.le_refl _) (by intro k hk; cases hk)
  clear hown hgr hi hz0 hz1 hz2
  go_wp2
  go_loopw [4] (fun i wr => ∃ k : Nat, k ≤ l.length ∧ i = .int .i64 k ∧ Below w.heap.size w wr ∧ RowAt vSkyPlace wr w.heap.size 91 k l) (fun i _ => l.length - (intOf i).toNat)
  case atStart => exact ⟨0, Nat.zero_le _, rfl, hB0, hR0⟩
  case round =>
    obtain ⟨k, hk, rfl, hbel, hR⟩ := hrel
    by_cases hlt : k < l.length
    · obtain ⟨b, off, rfl, hok, c0, c1, c2, p0, p1, p2⟩ := elem_SkyPlace h hlt
      have d0 := (hbel.cell (p := ⟨b, off + k * 3, none⟩) hok).trans c0
      have d1 := (hbel.cell (p := ⟨b, off + k * 3 + 1, none⟩) hok).trans c1
      have d2 := (hbel.cell (p := ⟨b, off + k * 3 + 2, none⟩) hok).trans c2
      clear c0 c1 c2 hR0 hB0
      go_wp2_with fail
      refine (toSkyPlace_any _ _).mono ?_
      rintro e w2 ⟨rfl, hb2⟩
      have hR2 := hR.later hb2
      have hB2 := hbel.trans (hb2.mono hbel.size)
      have hR3 := hR2.store hlt (mk_SkyPlace p0 p1 p2)
      have hB3 := put_below w.heap.size w.heap.size (Nat.le_refl _) [.int .i64 l[k].1, .int .i64 l[k].2.1, .int .i64 l[k].2.2] _ _ (k * 3) hB2
      obtain ⟨u0, e0⟩ := hR2.cell (i := k * 3) (by rw [vSkyPlace_size]; omega)
      obtain ⟨u1, e1⟩ := hR2.cell (i := k * 3 + 1) (by rw [vSkyPlace_size]; omega)
      obtain ⟨u2, e2⟩ := hR2.cell (i := k * 3 + 2) (by rw [vSkyPlace_size]; omega)
      have f0 := hR2.free (k * 3)
      have f1 := hR2.free (k * 3 + 1)
      have f2 := hR2.free (k * 3 + 2)
      clear hR hR2 hB2 hb2
      go_wp2
      go_roundw
      case rel => exact ⟨k + 1, by omega, by go_num, hB3, hR3⟩
      case measure => simp [intOf]; omega
    · have hk2 : k = l.length := by omega
      subst hk2
      have hS := hR.done (by unfold maxLen; omega)
      go_wp2
      go_ret
      exact ⟨_, _, rfl, hS, hbel⟩

set_option maxHeartbeats 400000 in
theorem eqSkyPlace_any (x : DSkyPlace) (w : World) :
    Calls Tryz.prog 58 #[.agg #[.int .i64 x.1, .int .i64 x.2.1, .int .i64 x.2.2], .agg #[.int .i64 x.1, .int .i64 x.2.1, .int .i64 x.2.2]] w fun e w' => e = .returned (.bool true) ∧ Below w.heap.size w w' := by
  go_enter Tryz.func58, Tryz.ntmps58
  go_wp2
  go_ret
  exact ⟨rfl, by repeat (first | exact Below.refl _ _ | refine Below.alloc ?_ (by simp; try omega) _)⟩

set_option maxHeartbeats 1000000 in
theorem eqSkyPlaceS_any (ao bo : Option Addr) (ca cb : Nat) (l : List DSkyPlace) (w : World) (hn : wSkyPlaceS l ≤ 1048576) (ha : SliceAt vSkyPlace (old w) w ao ca l) (hb : SliceAt vSkyPlace (old w) w bo cb l) :
    Calls Tryz.prog 23 #[.slice ao l.length ca, .slice bo l.length cb] w fun e w' => e = .returned (.bool true) ∧ Below w.heap.size w w' := by
  have hl : l.length ≤ 1048576 := by unfold wSkyPlaceS at hn; omega
  go_enter Tryz.func23, Tryz.ntmps23
  go_wp2
  go_loopw [5] (fun i wr => ∃ k : Nat, k ≤ l.length ∧ i = .int .i64 k ∧ Below w.heap.size w wr) (fun i _ => l.length - (intOf i).toNat)
  case atStart => exact ⟨0, Nat.zero_le _, rfl, Below.refl _ _⟩
  case round =>
    obtain ⟨k, hk, rfl, hbel⟩ := hrel
    by_cases hlt : k < l.length
    · obtain ⟨b, off, rfl, hok, c0, c1, c2, _, _, _⟩ := elem_SkyPlace ha hlt
      obtain ⟨b', off', rfl, hok', c0', c1', c2', _, _, _⟩ := elem_SkyPlace hb hlt
      have d0 := (hbel.cell (p := ⟨b, off + k * 3, none⟩) hok).trans c0
      have d1 := (hbel.cell (p := ⟨b, off + k * 3 + 1, none⟩) hok).trans c1
      have d2 := (hbel.cell (p := ⟨b, off + k * 3 + 2, none⟩) hok).trans c2
      have d0' := (hbel.cell (p := ⟨b', off' + k * 3, none⟩) hok').trans c0'
      have d1' := (hbel.cell (p := ⟨b', off' + k * 3 + 1, none⟩) hok').trans c1'
      have d2' := (hbel.cell (p := ⟨b', off' + k * 3 + 2, none⟩) hok').trans c2'
      generalize l[k] = x at *
      have hsz := hbel.size
      clear c0 c1 c2 c0' c1' c2' ha hb
      go_wp2
      go_region_with (go_at_call 58; refine (eqSkyPlace_any _ _).mono ?_; rintro e w1 ⟨rfl, hb1⟩)
      all_goals
        go_wp2
        go_roundw
        case rel => exact ⟨k + 1, by omega, by go_num, hbel.trans (Below.trans (below_drewN (Below.refl _ _) 1) (hb1.mono hsz))⟩
        case measure => simp [intOf]; omega
    · go_wp2
      go_ret
      exact ⟨rfl, hbel⟩

end Go.Proofs.YtnjkkohhgbgpgaaGreatDoor

/- DERIVED. By gm.py: the shape of SkyPlace; 'to' ends in it; 'mark' over it. -/
namespace Go.Proofs.YtnjkkohhgbgpgaaGreatDoor
open Go.RowKit
set_option linter.unusedSimpArgs false
set_option linter.unusedVariables false

def shSkyPlace : Shape := shPair shFlat (shPair shFlat shFlat)
theorem shSkyPlace_size : shSkyPlace.size = 3 := rfl
def cnSkyPlace (x : DSkyPlace) : Nat := 1 + (1 + 1)
def cnSkyPlaceS (l : List DSkyPlace) : Nat := (l.map cnSkyPlace).sum
theorem cnSkyPlaceS_le (l : List DSkyPlace) : cnSkyPlaceS l ≤ 16 * wSkyPlaceS l := by
  unfold cnSkyPlaceS wSkyPlaceS
  exact cnt_flat cnSkyPlace (fun x => by unfold cnSkyPlace; omega) l

theorem hold_SkyPlace {ok : Nat → Prop} {w : World} {x : DSkyPlace} : shSkyPlace.holds ok w [.int .i64 x.1, .int .i64 x.2.1, .int .i64 x.2.2] (cnSkyPlace x) :=
  ⟨[_], _, _, _, rfl, rfl, ⟨_, rfl, rfl, rfl⟩, ⟨[_], _, _, _, rfl, rfl, ⟨_, rfl, rfl, rfl⟩, ⟨_, rfl, rfl, rfl⟩⟩⟩

theorem elemSh_SkyPlace {t : TypeId} {ok : Nat → Prop} {w : World} {b n : Nat} {f : Nat → Nat} (h : RowSh shSkyPlace t ok w b n f) {i : Nat} (hi : i < n) :
    ∃ (v0 : Value) (v1 : Value) (v2 : Value), f i = 1 + (1 + 1) ∧ w.cell? ⟨b, i * 3, none⟩ = some v0 ∧ w.frozen? ⟨b, i * 3, none⟩ = false ∧ isSl v0 = false ∧ w.cell? ⟨b, i * 3 + 1, none⟩ = some v1 ∧ w.frozen? ⟨b, i * 3 + 1, none⟩ = false ∧ isSl v1 = false ∧ w.cell? ⟨b, i * 3 + 2, none⟩ = some v2 ∧ w.frozen? ⟨b, i * 3 + 2, none⟩ = false ∧ isSl v2 = false := by
  obtain ⟨cs, h1, h2⟩ := h.elem hi
  obtain ⟨_, _, n0x, n0y, rfl, e0, ⟨v0, rfl, q0, m0⟩, ⟨_, _, n1x, n1y, rfl, e1, ⟨v1, rfl, q1, m1⟩, ⟨v2, rfl, q2, m2⟩⟩⟩ := h1
  refine ⟨v0, v1, v2, by omega, (h2 0 (by decide)).1, (h2 0 (by decide)).2, q0, (h2 1 (by decide)).1, (h2 1 (by decide)).2, q1, (h2 2 (by decide)).1, (h2 2 (by decide)).2, q2⟩

theorem vwSkyPlace_size : (vWith vSkyPlace shSkyPlace cnSkyPlace).size = 3 := rfl

set_option maxHeartbeats 1000000 in
theorem toSkyPlaceS_sh (ao : Option Addr) (cap : Nat) (l : List DSkyPlace) (w : World) (hn : wSkyPlaceS l ≤ 1048576) (h : SliceAt vSkyPlace (old w) w ao cap l) :
    Calls Tryz.prog 20 #[.slice ao l.length cap] w fun e w' => ∃ ao' cap', e = .returned (.slice ao' l.length cap') ∧ SliceAt vSkyPlace (fresh w w') w' ao' cap' l ∧ SlSh shSkyPlace 91 (fresh w w') w' ao' l.length (cnSkyPlaceS l) ∧ Below w.heap.size w w' := by
  have hl : l.length ≤ 1048576 := by unfold wSkyPlaceS at hn; omega
  obtain ⟨i0, hi, hz0, hz1, hz2⟩ := info_parts Tryz.info_SkyPlace
  go_enter Tryz.func20, Tryz.ntmps20
  go_wp2_with (at_make; refine wpList_make_full _ rfl _ _ 53 rfl w.heap.size 91 i0 _ 3 Tryz.underlying53 hi hz0 hz1 _ _ _ _ l.length rfl rfl rfl rfl ?c1 ?c2 ?c3 ?_)
  case c1 => rw [hz2]; omega
  case c2 => unfold maxLen; omega
  case c3 => exact Nat.le_refl _
  intro w1 hown hgr
  have hR0 : RowAt (vWith vSkyPlace shSkyPlace cnSkyPlace) w1 w.heap.size 91 0 l := RowAt.start (A := vWith vSkyPlace shSkyPlace cnSkyPlace) rfl hown
  have hB0 : Below w.heap.size w w1 := (Below.refl _ _).grown hgr (Nat.le_refl _) (by intro k hk; cases hk)
  clear hown hgr hi hz0 hz1 hz2
  go_wp2
  go_loopw [4] (fun i wr => ∃ k : Nat, k ≤ l.length ∧ i = .int .i64 k ∧ Below w.heap.size w wr ∧ RowAt (vWith vSkyPlace shSkyPlace cnSkyPlace) wr w.heap.size 91 k l) (fun i _ => l.length - (intOf i).toNat)
  case atStart => exact ⟨0, Nat.zero_le _, rfl, hB0, hR0⟩
  case round =>
    obtain ⟨k, hk, rfl, hbel, hR⟩ := hrel
    by_cases hlt : k < l.length
    · obtain ⟨b, off, rfl, hok, c0, c1, c2, p0, p1, p2⟩ := elem_SkyPlace h hlt
      have d0 := (hbel.cell (p := ⟨b, off + k * 3, none⟩) hok).trans c0
      have d1 := (hbel.cell (p := ⟨b, off + k * 3 + 1, none⟩) hok).trans c1
      have d2 := (hbel.cell (p := ⟨b, off + k * 3 + 2, none⟩) hok).trans c2
      clear c0 c1 c2 hR0 hB0
      go_wp2_with fail
      refine (toSkyPlace_any _ _).mono ?_
      rintro e w2 ⟨rfl, hb2⟩
      have hR2 := hR.later hb2
      have hB2 := hbel.trans (hb2.mono hbel.size)
      have hR3 := hR2.store hlt (c := [.int .i64 l[k].1, .int .i64 l[k].2.1, .int .i64 l[k].2.2]) ⟨mk_SkyPlace p0 p1 p2, hold_SkyPlace⟩
      have hB3 := put_below w.heap.size w.heap.size (Nat.le_refl _) [.int .i64 l[k].1, .int .i64 l[k].2.1, .int .i64 l[k].2.2] _ _ (k * 3) hB2
      obtain ⟨u0, e0⟩ := hR2.cell (i := k * 3) (by rw [vwSkyPlace_size]; omega)
      obtain ⟨u1, e1⟩ := hR2.cell (i := k * 3 + 1) (by rw [vwSkyPlace_size]; omega)
      obtain ⟨u2, e2⟩ := hR2.cell (i := k * 3 + 2) (by rw [vwSkyPlace_size]; omega)
      have f0 := hR2.free (k * 3)
      have f1 := hR2.free (k * 3 + 1)
      have f2 := hR2.free (k * 3 + 2)
      clear hR hR2 hB2 hb2
      go_wp2
      go_roundw
      case rel => exact ⟨k + 1, by omega, by go_num, hB3, hR3⟩
      case measure => simp [intOf]; omega
    · have hk2 : k = l.length := by omega
      subst hk2
      have hS := (hR.done (by unfold maxLen; omega)).bare
      have hSh := hR.shape (by unfold maxLen; omega) rfl
      go_wp2
      go_ret
      exact ⟨_, _, rfl, hS, hSh, hbel⟩

set_option maxRecDepth 100000 in
set_option maxHeartbeats 2000000 in
theorem markSkyPlaceS_any (ao : Option Addr) (n cap c : Nat) (k : Int) (lo hi : Nat) (w : World) (h : SlSh shSkyPlace 91 (fun b => lo ≤ b ∧ b < hi) w ao n c) (hlo : lo ≤ hi) (hhi : hi ≤ w.heap.size) (hk : 0 ≤ k) (hc : k + c ≤ 1099511627776) :
    Calls Tryz.prog 24 #[.slice ao n cap, .int .i64 k] w fun e w' => e = .returned (.int .i64 (k + c)) ∧ Same lo hi w w' := by
  have hm : n ≤ 9223372036854775807 := h.1
  rcases h.2 with ⟨rfl, rfl⟩ | ⟨b, f, rfl, hcf, hR⟩
  · go_enter Tryz.func24, Tryz.ntmps24
    go_wp2
    go_loop [1, 5] (fun a i => a = .int .i64 k ∧ i = .int .i64 0) (fun _ _ => 0)
    case atStart => exact ⟨rfl, rfl⟩
    case round =>
      obtain ⟨rfl, rfl⟩ := hrel
      go_wp2
      go_ret
      exact ⟨by simp, Same.refl _ _ _⟩
  · have hb1 := hR.1.1
    have hb2 := hR.1.2
    have HF : Hid (c = sumTo f n) := hcf
    clear hcf h
    go_enter Tryz.func24, Tryz.ntmps24
    go_wp2
    go_loopw [1, 5] (fun a i wr => ∃ (j : Nat) (q : Int), j ≤ n ∧ i = .int .i64 j ∧ a = .int .i64 q ∧ Hid (q = k + sumTo f j) ∧ Same lo hi w wr) (fun _ i _ => n - (intOf i).toNat)
    case atStart => exact ⟨0, k, Nat.zero_le _, rfl, rfl, by show _ = _; simp [sumTo], Same.refl _ _ _⟩
    case round =>
      obtain ⟨j, q, hj, rfl, rfl, hq, hS⟩ := hrel
      by_cases hlt : j < n
      · have hs1 : sumTo f j + f j ≤ sumTo f n := sumTo_le f (m := j + 1) hlt
        have hq0 : 0 ≤ q := by have := hq.out; omega
        have hq1 : q + f j ≤ 1099511627776 := by have h1 := hq.out; have h2 := HF.out; omega
        have HQ : Hid (q + f j = k + sumTo f (j + 1)) := by have h1 := hq.out; show _ = _; simp only [sumTo]; omega
        have hRw := hR.turn hS (fun _ h => h)
        have hsz := hS.below.size
        clear hs1 hq
        obtain ⟨v0, v1, v2, hf, d0, f0, z0, d1, f1, z1, d2, f2, z2⟩ := elemSh_SkyPlace hRw hlt
        have HG0 : Hid _ := hf
        clear hf
        have hE : Same lo hi w (((wr.setCell ⟨b, j * 3, none⟩ (.int .i64 q)).setCell ⟨b, j * 3 + 1, none⟩ (.int .i64 (q + 1))).setCell ⟨b, j * 3 + 2, none⟩ (.int .i64 (q + 1 + 1))) := (((hS.set hb1 hb2 d0 z0 rfl).set hb1 hb2 ((set_ne _ _ (by omega)).trans d1) z1 rfl).set hb1 hb2 ((set_ne _ _ (by omega)).trans ((set_ne _ _ (by omega)).trans d2)) z2 rfl)
        clear hRw
        go_wp2
        go_roundw
        case rel => exact ⟨j + 1, q + 1 + 1 + 1, by omega, by go_num, by go_num, by have := HQ.out; have := HG0.out; show _ = _; omega, hE⟩
        case measure => simp [intOf]; omega
      · have hje : j = n := by omega
        subst hje
        have HE : Hid (q = k + c) := by have h1 := hq.out; have h2 := HF.out; show _ = _; omega
        clear hq HF
        go_wp2
        go_ret
        exact ⟨by rw [HE.out]; rfl, hS⟩

end Go.Proofs.YtnjkkohhgbgpgaaGreatDoor
