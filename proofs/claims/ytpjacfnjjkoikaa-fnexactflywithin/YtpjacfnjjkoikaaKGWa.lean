/- DERIVED. VIEWS: what cells hold, as plain data: numbers, texts, lists, pairs; that a view stays where its blocks stay; that whatever the form reads has a view. No program is named here. -/
import Derived.WalkKit
import Derived.WalkSpells
import Derived.WalkLawsBesides
import Derived.ProofKit
import Derived.Deep.Slices
import Derived.Deep.RegionWith
namespace Go.Proofs.Ytpjacfnjjkoikaa
open Go.RowKit Go.WideShapes
set_option linter.unusedSimpArgs false
set_option linter.unusedVariables false

structure View (α : Type) where
  size : Nat
  rel : (Nat → Prop) → World → List Value → α → Prop
  len : ∀ (ok : Nat → Prop) (w : World) (cs : List Value) (x : α), rel ok w cs x → cs.length = size
  stays : ∀ (ok : Nat → Prop) (w w' : World) (cs : List Value) (x : α), rel ok w cs x → (∀ b, ok b → w'.heap[b]? = w.heap[b]?) → rel ok w' cs x
  mono : ∀ (ok ok' : Nat → Prop) (w : World) (cs : List Value) (x : α), rel ok w cs x → (∀ b, ok b → ok' b) → rel ok' w cs x

def In64 (x : Int) : Prop := -9223372036854775808 ≤ x ∧ x ≤ 9223372036854775807

def vInt : View Int where
  size := 1
  rel := fun _ _ cs x => cs = [.int .i64 x] ∧ In64 x
  len := fun _ _ _ _ h => by rw [h.1]; rfl
  stays := fun _ _ _ _ _ h _ => h
  mono := fun _ _ _ _ _ h _ => h

def vBool : View Bool where
  size := 1
  rel := fun _ _ cs x => cs = [.bool x]
  len := fun _ _ _ _ h => by rw [h]; rfl
  stays := fun _ _ _ _ _ h _ => h
  mono := fun _ _ _ _ _ h _ => h

def vStr : View ByteArray where
  size := 1
  rel := fun _ _ cs x => cs = [.string x] ∧ x.size ≤ maxLen
  len := fun _ _ _ _ h => by rw [h.1]; rfl
  stays := fun _ _ _ _ _ h _ => h
  mono := fun _ _ _ _ _ h _ => h

def vPair {α β : Type} (A : View α) (B : View β) : View (α × β) where
  size := A.size + B.size
  rel := fun ok w cs x => ∃ c1 c2, cs = c1 ++ c2 ∧ A.rel ok w c1 x.1 ∧ B.rel ok w c2 x.2
  len := fun ok w cs x ⟨c1, c2, h, h1, h2⟩ => by rw [h, List.length_append, A.len _ _ _ _ h1, B.len _ _ _ _ h2]
  stays := fun ok w w' cs x ⟨c1, c2, h, h1, h2⟩ hb => ⟨c1, c2, h, A.stays _ _ _ _ _ h1 hb, B.stays _ _ _ _ _ h2 hb⟩
  mono := fun ok ok' w cs x ⟨c1, c2, h, h1, h2⟩ hb => ⟨c1, c2, h, A.mono _ _ _ _ _ h1 hb, B.mono _ _ _ _ _ h2 hb⟩

/-- The elements of a slice at an address. -/
def SliceAt {α : Type} (A : View α) (ok : Nat → Prop) (w : World) (ao : Option Addr) (cap : Nat) (l : List α) : Prop :=
  l.length ≤ cap ∧ cap ≤ maxLen ∧ (l = [] ∨ ∃ b off, ao = some ⟨b, off, none⟩ ∧ ok b ∧ ∀ i (h : i < l.length), ∃ c, A.rel ok w c (l[i]'h) ∧ ∀ j, j < A.size → w.cell? ⟨b, off + i * A.size + j, none⟩ = c[j]?)

theorem SliceAt.stays {α : Type} {A : View α} {ok : Nat → Prop} {w w' : World} {ao : Option Addr} {cap : Nat} {l : List α} (h : SliceAt A ok w ao cap l) (hb : ∀ b, ok b → w'.heap[b]? = w.heap[b]?) : SliceAt A ok w' ao cap l := by
  refine ⟨h.1, h.2.1, ?_⟩
  rcases h.2.2 with h0 | ⟨b, off, h1, h2, h3⟩
  · exact .inl h0
  · refine .inr ⟨b, off, h1, h2, fun i hi => ?_⟩
    obtain ⟨c, h4, h5⟩ := h3 i hi
    exact ⟨c, A.stays _ _ _ _ _ h4 hb, fun j hj => (World.cell?_of_block (w := w) (hb b h2)).trans (h5 j hj)⟩

theorem SliceAt.mono {α : Type} {A : View α} {ok ok' : Nat → Prop} {w : World} {ao : Option Addr} {cap : Nat} {l : List α} (h : SliceAt A ok w ao cap l) (hb : ∀ b, ok b → ok' b) : SliceAt A ok' w ao cap l := by
  refine ⟨h.1, h.2.1, ?_⟩
  rcases h.2.2 with h0 | ⟨b, off, h1, h2, h3⟩
  · exact .inl h0
  · refine .inr ⟨b, off, h1, hb b h2, fun i hi => ?_⟩
    obtain ⟨c, h4, h5⟩ := h3 i hi
    exact ⟨c, A.mono _ _ _ _ _ h4 hb, h5⟩

def vSlice {α : Type} (A : View α) : View (List α) where
  size := 1
  rel := fun ok w cs l => ∃ ao cap, cs = [.slice ao l.length cap] ∧ SliceAt A ok w ao cap l
  len := fun ok w cs x ⟨ao, cap, h, _⟩ => by rw [h]; rfl
  stays := fun ok w w' cs x ⟨ao, cap, h, h1⟩ hb => ⟨ao, cap, h, h1.stays hb⟩
  mono := fun ok ok' w cs x ⟨ao, cap, h, h1⟩ hb => ⟨ao, cap, h, h1.mono hb⟩

/-- Blocks that were there when the call began. -/
def old (w : World) : Nat → Prop := fun b => b < w.heap.size

theorem below_old {w w' : World} (h : Below w.heap.size w w') : ∀ b, old w b → w'.heap[b]? = w.heap[b]? := fun b hb => h.block b hb

theorem SliceAt.later {α : Type} {A : View α} {w w' : World} {ao : Option Addr} {cap : Nat} {l : List α} (h : SliceAt A (old w) w ao cap l) (hb : Below w.heap.size w w') : SliceAt A (old w') w' ao cap l :=
  (h.stays (below_old hb)).mono fun b h1 => Nat.lt_of_lt_of_le h1 hb.size

/-- One element's cells. -/
theorem SliceAt.elem {α : Type} {A : View α} {ok : Nat → Prop} {w : World} {ao : Option Addr} {cap : Nat} {l : List α} (h : SliceAt A ok w ao cap l) {i : Nat} (hi : i < l.length) :
    ∃ b off c, ao = some ⟨b, off, none⟩ ∧ ok b ∧ A.rel ok w c (l[i]'hi) ∧ ∀ j, j < A.size → w.cell? ⟨b, off + i * A.size + j, none⟩ = c[j]? := by
  rcases h.2.2 with h0 | ⟨b, off, h1, h2, h3⟩
  · subst h0; simp at hi
  · obtain ⟨c, h4, h5⟩ := h3 i hi
    exact ⟨b, off, c, h1, h2, h4, h5⟩

/-! ### Whatever the form reads has a view -/

def Opens (P : Program) (t : TypeId) {α : Type} (A : View α) : Prop :=
  ∀ (H : Type) (enc : TypeId × Value → H) (w : World) (base : Nat) (spare : Nat → Bool) (held : Bool) (fuel : Nat) (cs : List Value) (y : DataW H × List MemPlace),
    DataW.trod enc P w base spare held fuel t cs = some y → ∃ x, A.rel (old w) w cs x

theorem opens_int {P : Program} {t : TypeId} (ht : P.underlying t = some (.int .i64)) : Opens P t vInt := by
  intro H enc w base spare held fuel cs y h
  obtain ⟨n, h1, _, h2⟩ := DataW.trod_int ht h
  exact ⟨n, h1, by simpa [In64, Lit.wf, IntKind.min, IntKind.max, IntKind.signed, IntKind.bits] using h2⟩

theorem opens_bool {P : Program} {t : TypeId} (ht : P.underlying t = some .bool) : Opens P t vBool := by
  intro H enc w base spare held fuel cs y h
  obtain ⟨n, h1, _⟩ := DataW.trod_bool ht h
  exact ⟨n, h1⟩

theorem opens_str {P : Program} {t : TypeId} (ht : P.underlying t = some .string) : Opens P t vStr := by
  intro H enc w base spare held fuel cs y h
  obtain ⟨n, h1, _, h2⟩ := DataW.trod_string ht h
  exact ⟨n, h1, h2⟩

theorem add_none (b off i : Nat) : (⟨b, off, none⟩ : Addr).add i = ⟨b, off + i, none⟩ := by
  unfold Addr.add
  split
  · simp
  · rfl

theorem list_of {α : Type} {n : Nat} {p : Nat → α → Prop} (h : ∀ i, i < n → ∃ x, p i x) : ∃ l : List α, l.length = n ∧ ∀ i (hi : i < l.length), p i (l[i]'hi) := by
  induction n with
  | zero => exact ⟨[], rfl, fun i hi => by simp at hi⟩
  | succ n ih =>
    obtain ⟨l, h1, h2⟩ := ih (fun i hi => h i (by omega))
    obtain ⟨x, hx⟩ := h n (by omega)
    refine ⟨l ++ [x], by simp [h1], fun i hi => ?_⟩
    by_cases hl : i < l.length
    · rw [List.getElem_append_left hl]; exact h2 i hl
    · have : i = n := by simp at hi; omega
      subst this
      rw [List.getElem_append_right (by omega)]
      simpa using hx

theorem opens_slice {P : Program} {t e : TypeId} {α : Type} {A : View α} (ht : P.underlying t = some (.slice e)) (hc : P.cellsOf e = A.size) (hpos : 0 < A.size) (hA : Opens P e A) : Opens P t (vSlice A) := by
  intro H enc w base spare held fuel cs y h
  rcases Deep.open_slice ht h with ⟨h0, _⟩ | ⟨a, len, cap, m, n, D, Pl, h1, _, h3, h4, h5, _, h7⟩
  · exact ⟨[], none, 0, h0, Nat.le_refl _, Nat.zero_le _, .inl rfl⟩
  · have hlm : len ≤ m := by rw [h5]; split <;> omega
    rw [hc] at h7
    obtain ⟨l, hl, hp⟩ := list_of (n := len) (p := fun i x => ∃ c, A.rel (old w) w c x ∧ c.length = A.size ∧ ∀ j, j < A.size → w.cell? ((a.add (i * A.size)).add j) = c[j]?) (fun i hi => by
      obtain ⟨c, k1, k2⟩ := h7 i (by omega)
      obtain ⟨x, hx⟩ := hA _ _ _ _ _ _ _ _ _ k2
      obtain ⟨_, k3, k4⟩ := World.cells?_some k1
      exact ⟨x, c, hx, k3, k4⟩)
    refine ⟨l, some a, cap, by rw [h1, hl], by omega, h4, ?_⟩
    by_cases he : l = []
    · exact .inl he
    · right
      have hl0 : 0 < l.length := List.length_pos_iff.2 he
      obtain ⟨b, off, spot⟩ := a
      obtain ⟨c, g1, g2, g3⟩ := hp 0 hl0
      have g4 := g3 0 hpos
      have hsome : ∃ v, w.cell? ⟨b, off, spot⟩ = some v := by
        have : (c[0]?) = some c[0] := List.getElem?_eq_getElem (by omega)
        rw [this] at g4
        exact ⟨_, by simpa [Addr.add] using g4⟩
      obtain ⟨v, hv⟩ := hsome
      have hspot : spot = none := World.cell?_spot hv
      subst hspot
      refine ⟨b, off, rfl, World.block_lt_of_cell? w ⟨b, off, none⟩ hv, fun i hi => ?_⟩
      obtain ⟨c, g1, _, g3⟩ := hp i hi
      refine ⟨c, g1, fun j hj => ?_⟩
      have := g3 j hj
      rw [add_none, add_none] at this
      exact this

def OpensFs (P : Program) (fs : List Field) (off : Nat) {α : Type} (A : View α) : Prop :=
  ∀ (H : Type) (enc : TypeId × Value → H) (w : World) (base : Nat) (spare : Nat → Bool) (held : Bool) (n : Nat) (cs : List Value),
    (∀ f ∈ fs, ∃ y, DataW.trod enc P w base spare held n f.type ((cs.drop f.offset).take (P.cellsOf f.type)) = some y) → ∃ x, A.rel (old w) w ((cs.drop off).take A.size) x

theorem opensFs_one {P : Program} {f : Field} {off : Nat} {α : Type} {A : View α} (ho : f.offset = off) (hc : P.cellsOf f.type = A.size) (h : Opens P f.type A) : OpensFs P [f] off A := by
  intro H enc w base spare held n cs hf
  obtain ⟨y, hy⟩ := hf f (by simp)
  rw [ho, hc] at hy
  exact h _ _ _ _ _ _ _ _ _ hy

theorem opensFs_cons {P : Program} {f : Field} {fs : List Field} {off : Nat} {α β : Type} {A : View α} {B : View β} (ho : f.offset = off) (hc : P.cellsOf f.type = A.size) (h : Opens P f.type A) (hr : OpensFs P fs (off + A.size) B) : OpensFs P (f :: fs) off (vPair A B) := by
  intro H enc w base spare held n cs hf
  obtain ⟨y, hy⟩ := hf f (by simp)
  rw [ho, hc] at hy
  obtain ⟨x1, h1⟩ := h _ _ _ _ _ _ _ _ _ hy
  obtain ⟨x2, h2⟩ := hr H enc w base spare held n cs (fun g hg => hf g (by simp [hg]))
  refine ⟨(x1, x2), _, _, ?_, h1, h2⟩
  show (cs.drop off).take (A.size + B.size) = _
  rw [List.take_add, List.drop_drop]

theorem opens_struct {P : Program} {t : TypeId} {fs : Array Field} {α : Type} {A : View α} (ht : P.underlying t = some (.struct fs)) (hc : P.cellsOf t = A.size) (h : OpensFs P fs.toList 0 A) : Opens P t A := by
  intro H enc w base spare held fuel cs y hy
  obtain ⟨xs, n, _, _, hl, hlen, hf⟩ := DataW.trod_struct ht hy
  obtain ⟨x, hx⟩ := h H enc w base spare held n cs (fun f hfm => by
    obtain ⟨i, hi, he⟩ := List.getElem_of_mem hfm
    have h1 : fs[i]? = some f := by
      rw [← he]
      simp at hi
      simp [hi]
    have h2 := hf i f h1
    have hi2 : i < xs.length := by rw [hlen]; simpa using hi
    exact ⟨xs[i], by rw [h2, List.getElem?_eq_getElem hi2]⟩)
  refine ⟨x, ?_⟩
  rw [List.drop_zero, List.take_of_length_le (by rw [hl, hc]; exact Nat.le_refl _)] at hx
  exact hx

/-! ### A row that the call itself makes and fills -/

def put (w : World) (g : Nat) : Nat → List Value → World
  | _, [] => w
  | off, v :: vs => put (w.setCell ⟨g, off, none⟩ v) g (off + 1) vs

theorem put_other (g b : Nat) (hb : b ≠ g) : ∀ (vs : List Value) (w : World) (off : Nat), (put w g off vs).heap[b]? = w.heap[b]?
  | [], _, _ => rfl
  | v :: vs, w, off => by
    rw [put, put_other g b hb vs]
    exact Below.heap_setCell w ⟨g, off, none⟩ v b hb

theorem put_size (g : Nat) : ∀ (vs : List Value) (w : World) (off : Nat), (put w g off vs).heap.size = w.heap.size
  | [], _, _ => rfl
  | v :: vs, w, off => by rw [put, put_size g vs]; simp [World.setCell]

theorem put_below (g B : Nat) (hB : B ≤ g) : ∀ (vs : List Value) (w0 w : World) (off : Nat), Below B w0 w → Below B w0 (put w g off vs)
  | [], _, _, _, h => h
  | v :: vs, w0, w, off, h => put_below g B hB vs w0 _ _ (h.setCell (p := ⟨g, off, none⟩) hB v)

theorem put_block (g : Nat) (e : TypeId) : ∀ (vs : List Value) (w : World) (off : Nat) (cur : Array Value), w.heap[g]? = some (.cells cur e (0, 0)) →
    ∃ cur', (put w g off vs).heap[g]? = some (.cells cur' e (0, 0)) ∧ cur'.size = cur.size ∧ (∀ i, i < off ∨ off + vs.length ≤ i → cur'[i]? = cur[i]?) ∧ ∀ i, i < vs.length → off + i < cur.size → cur'[off + i]? = vs[i]?
  | [], w, off, cur, h => ⟨cur, h, rfl, fun _ _ => rfl, fun i hi => by simp at hi⟩
  | v :: vs, w, off, cur, h => by
    have h1 := heap_setCell_same w g off cur e v h
    obtain ⟨cur', k1, k2, k3, k4⟩ := put_block g e vs _ (off + 1) _ h1
    refine ⟨cur', k1, by rw [k2]; simp, fun i hi => ?_, fun i hi hs => ?_⟩
    · rw [k3 i (by simp at hi; omega), Array.getElem?_setIfInBounds, if_neg (by simp at hi; omega)]
    · cases i with
      | zero =>
        rw [k3 (off + 0) (by omega), Array.getElem?_setIfInBounds, if_pos (by omega), if_pos (by omega)]
        simp
      | succ i =>
        have := k4 i (by simp at hi; omega) (by simp; omega)
        rw [show off + (i + 1) = off + 1 + i by omega, this]
        simp

/-- The first k elements of l lie in the row in block g; what they lead to lies in blocks behind it. -/
def RowAt {α : Type} (A : View α) (w : World) (g : Nat) (e : TypeId) (k : Nat) (l : List α) : Prop :=
  ∃ cur, w.heap[g]? = some (.cells cur e (0, 0)) ∧ cur.size = l.length * A.size ∧ ∀ j (h : j < l.length), j < k → ∃ c, A.rel (fun b => g < b ∧ b < w.heap.size) w c (l[j]'h) ∧ ∀ i, i < A.size → cur[j * A.size + i]? = c[i]?

theorem RowAt.start {α : Type} {A : View α} {w : World} {base g : Nat} {e : TypeId} {n : Nat} {xs : List Value} {l : List α} (hn : n = l.length) (h : w.ownsRow base e A.size (.slice (some ⟨g, 0, none⟩) n n) n xs) : RowAt A w g e 0 l := by
  rcases h.2 with ⟨h0, _⟩ | ⟨g', cap, cur, hv, hg, hh, h1, h2, h3, _⟩
  · cases h0
  · cases hv
    exact ⟨cur, hh, by rw [h3, hn], fun j _ hj => by omega⟩

theorem RowAt.lt {α : Type} {A : View α} {w : World} {g : Nat} {e : TypeId} {k : Nat} {l : List α} (h : RowAt A w g e k l) : g < w.heap.size := by
  obtain ⟨cur, h1, _⟩ := h
  exact (Array.getElem?_eq_some_iff.1 h1).1

theorem RowAt.cell {α : Type} {A : View α} {w : World} {g : Nat} {e : TypeId} {k : Nat} {l : List α} (h : RowAt A w g e k l) {i : Nat} (hi : i < l.length * A.size) : ∃ v, w.cell? ⟨g, i, none⟩ = some v := by
  obtain ⟨cur, h1, h2, _⟩ := h
  have hi2 : i < cur.size := by omega
  exact ⟨cur[i], by simp [World.cell?, h1, hi2]⟩

theorem RowAt.free {α : Type} {A : View α} {w : World} {g : Nat} {e : TypeId} {k : Nat} {l : List α} (h : RowAt A w g e k l) (i : Nat) : w.frozen? ⟨g, i, none⟩ = false := by
  obtain ⟨cur, h1, _⟩ := h
  simp [World.frozen?, h1]

theorem RowAt.later {α : Type} {A : View α} {w w' : World} {g : Nat} {e : TypeId} {k : Nat} {l : List α} (h : RowAt A w g e k l) (hb : Below w.heap.size w w') : RowAt A w' g e k l := by
  have hlt := h.lt
  obtain ⟨cur, h1, h2, h3⟩ := h
  refine ⟨cur, (hb.block g hlt).trans h1, h2, fun j hj hk => ?_⟩
  obtain ⟨c, h4, h5⟩ := h3 j hj hk
  refine ⟨c, A.mono _ _ _ _ _ (A.stays _ _ w' _ _ h4 (fun b hb2 => hb.block b hb2.2)) (fun b hb2 => ⟨hb2.1, Nat.lt_of_lt_of_le hb2.2 hb.size⟩), h5⟩

theorem idx_ne {j k n i : Nat} (hjk : j < k) (hi : i < n) : j * n + i < k * n := by
  have h1 : (j + 1) * n ≤ k * n := Nat.mul_le_mul_right _ hjk
  rw [Nat.add_mul, Nat.one_mul] at h1
  omega

theorem RowAt.store {α : Type} {A : View α} {w : World} {g : Nat} {e : TypeId} {k : Nat} {l : List α} (h : RowAt A w g e k l) (hk : k < l.length) {c : List Value} (hc : A.rel (fun b => g < b ∧ b < w.heap.size) w c (l[k]'hk)) : RowAt A (put w g (k * A.size) c) g e (k + 1) l := by
  obtain ⟨cur, h1, h2, h3⟩ := h
  have hcl := A.len _ _ _ _ hc
  obtain ⟨cur', k1, k2, k3, k4⟩ := put_block g e c w (k * A.size) cur h1
  have hstay : ∀ b, g < b ∧ b < w.heap.size → (put w g (k * A.size) c).heap[b]? = w.heap[b]? := fun b hb => put_other g b (by omega) c w _
  refine ⟨cur', k1, by rw [k2, h2], fun j hj hjk => ?_⟩
  rw [put_size]
  by_cases e1 : j = k
  · subst e1
    refine ⟨c, A.stays _ _ _ _ _ hc hstay, fun i hi => k4 i (by omega) ?_⟩
    rw [h2]
    exact idx_ne hj hi
  · obtain ⟨c', h4, h5⟩ := h3 j hj (by omega)
    refine ⟨c', A.stays _ _ _ _ _ h4 hstay, fun i hi => ?_⟩
    rw [k3 _ (.inl (idx_ne (by omega) hi))]
    exact h5 i hi

/-- Blocks that the call itself has laid. -/
def fresh (w w' : World) : Nat → Prop := fun b => w.heap.size ≤ b ∧ b < w'.heap.size

theorem RowAt.done {α : Type} {A : View α} {w w' : World} {e : TypeId} {l : List α} (h : RowAt A w' w.heap.size e l.length l) (hm : l.length ≤ maxLen) : SliceAt A (fresh w w') w' (some ⟨w.heap.size, 0, none⟩) l.length l := by
  have hlt := h.lt
  obtain ⟨cur, h1, h2, h3⟩ := h
  refine ⟨Nat.le_refl _, hm, .inr ⟨w.heap.size, 0, rfl, ⟨Nat.le_refl _, hlt⟩, fun i hi => ?_⟩⟩
  obtain ⟨c, h4, h5⟩ := h3 i hi hi
  refine ⟨c, A.mono _ _ _ _ _ h4 (fun b hb => ⟨Nat.le_of_lt hb.1, hb.2⟩), fun j hj => ?_⟩
  rw [← h5 j hj, Nat.zero_add]
  simp [World.cell?, h1]

/-- Fresh blocks of a later moment are fresh ones. -/
theorem fresh_mono {w w1 w2 : World} (h : w.heap.size ≤ w1.heap.size) : ∀ b, fresh w1 w2 b → fresh w w2 b := fun b hb => ⟨Nat.le_trans h hb.1, hb.2⟩

theorem fresh_old {w w' : World} : ∀ b, fresh w w' b → old w' b := fun b hb => hb.2

end Go.Proofs.Ytpjacfnjjkoikaa

/- DERIVED. Small helpers of the generated texts. -/
namespace Go.Proofs.Ytpjacfnjjkoikaa
open Go.RowKit
set_option linter.unusedSimpArgs false
set_option linter.unusedVariables false

/-- What is left of L behind a weight; -1 where it is too great. -/
def szR (L : Int) (wt : Nat) : Int := if (wt : Int) ≤ L then L - wt else -1

theorem szR_yes {L : Int} {wt : Nat} (h : (wt : Int) ≤ L) : szR L wt = L - wt := by simp [szR, h]
theorem szR_no {L : Int} {wt : Nat} (h : ¬ (wt : Int) ≤ L) : szR L wt = -1 := by simp only [szR, h, if_false]

theorem sum_take {α : Type} (f : α → Nat) (l : List α) (k : Nat) (h : k < l.length) : ((l.take (k + 1)).map f).sum = ((l.take k).map f).sum + f (l[k]'h) := by
  rw [List.take_succ_eq_append_getElem h, List.map_append, List.sum_append]
  simp only [List.map_cons, List.map_nil, List.sum_cons, List.sum_nil, Nat.add_zero]

theorem sum_le {α : Type} (f : α → Nat) (l : List α) (k : Nat) : ((l.take k).map f).sum ≤ (l.map f).sum := by
  have h : (l.map f).sum = ((l.take k).map f).sum + ((l.drop k).map f).sum := by
    rw [← List.sum_append, ← List.map_append, List.take_append_drop]
  omega

theorem sum_elem {α : Type} (f : α → Nat) (l : List α) (k : Nat) (h : k < l.length) : f (l[k]'h) ≤ (l.map f).sum := by
  have h1 := sum_take f l k h
  have h2 := sum_le f l (k + 1)
  omega

theorem bcell {W w1 : World} (hb : Below W.heap.size W w1) : (∀ b o, b < W.heap.size → w1.cell? ⟨b, o, none⟩ = W.cell? ⟨b, o, none⟩) ∧ (∀ b o, b < W.heap.size → w1.frozen? ⟨b, o, none⟩ = W.frozen? ⟨b, o, none⟩) :=
  ⟨fun b o h => hb.cell (p := ⟨b, o, none⟩) h, fun b o h => hb.frozen (p := ⟨b, o, none⟩) h⟩

end Go.Proofs.Ytpjacfnjjkoikaa
