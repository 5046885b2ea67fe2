/- DERIVED. impl.SkyLeg: its walk. -/
import Derived.Test.YtcamggfmaphcbaaLg2
namespace Go.Proofs.Ytcamggfmaphcbaa
namespace Leg
open Go.RowKit Go.Shelf
set_option linter.unusedSimpArgs false
set_option linter.unusedVariables false
attribute [local go_sem] Oper.semAt_some

def cellVals (l : List DCell) : List Value := l.flatMap fun c => [Value.int .i64 c.1, Value.int .i64 c.2]

set_option maxHeartbeats 1000000 in
theorem cellsFn (f t : DCell) (n s : Int) (w : World) :
    Calls Try.prog 19 #[.agg (lineCells f t n), .int .i64 s] w fun e w' => e = .returned (.func (.func 26) #[] #[.pointer (some ⟨w.heap.size + 1, 0, none⟩), .pointer (some ⟨w.heap.size, 0, none⟩)]) ∧ w' = (w.alloc (.cells (lineCells f t n) 42)).alloc (.cells #[.int .i64 s] 43) := by
  simp only [lineCells]
  go_enter Try.func19, Try.ntmps19
  go_wp2
  go_ret
  exact ⟨rfl, rfl⟩

/-- A box of two cells. -/
def Box2 (W : World) (B : Nat) (c : DCell) : Prop := W.heap[B]? = some (.cells #[.int .i64 c.1, .int .i64 c.2] 24 (0, 0))
theorem box2_own (B : Nat) (c : DCell) : Own (fun (_ : Unit) W => Box2 W B c) := fun s X Y row hs hg hrow =>
  (hg.block B (Array.getElem?_eq_some_iff.1 hs).1 (fun e' => by obtain ⟨o, ho, hc⟩ := hrow B e'.symm; rw [show X.heap[B]? = _ from hs] at ho; cases ho; cases hc)).trans hs

theorem cells_own (B : Nat) (cs : Array Value) (t : TypeId) {β : Type} : Own (fun (_ : β) W => W.heap[B]? = some (.cells cs t (0, 0))) := fun s X Y row hs hg hrow =>
  (hg.block B (Array.getElem?_eq_some_iff.1 hs).1 (fun e' => by obtain ⟨o, ho, hc⟩ := hrow B e'.symm; rw [hs] at ho; cases ho; cases hc)).trans hs
theorem not_row {W : World} {B : Nat} {t e : TypeId} {cs : Array Value} (h : W.heap[B]? = some (.cells cs t (0, 0))) (hte : t ≠ e) {base size k : Nat} {v : Value} {xs : List Value} (hr : W.ownsRow base e size v k xs) : some B ≠ v.ownBlock := by
  rcases hr.2 with ⟨rfl, _⟩ | ⟨g, cap, cur, rfl, _, hgb, _⟩
  · simp [Value.ownBlock]
  · intro e'
    obtain rfl : B = g := by simpa [Value.ownBlock] using e'
    have := h.symm.trans hgb
    simp at this
    exact hte this.2
theorem ownsRow_base {W : World} {b b' : Nat} {e : TypeId} {size k : Nat} {v : Value} {xs : List Value} (h : W.ownsRow b e size v k xs) (hb : b' ≤ b) : W.ownsRow b' e size v k xs := by
  refine ⟨h.1, ?_⟩
  rcases h.2 with h1 | ⟨g, cap, cur, h1, h2, h3⟩
  · exact .inl h1
  · exact .inr ⟨g, cap, cur, h1, Nat.le_trans hb h2, h3⟩
theorem cellVals_snoc (l : List DCell) (c : DCell) : cellVals (l ++ [c]) = cellVals l ++ [Value.int .i64 c.1, Value.int .i64 c.2] := by simp [cellVals]
/-- A block of another type lies as it lay behind an append and the store of its result. -/
theorem kept_append {W w1 : World} {B k : Nat} {t e : TypeId} {cs : Array Value} {base size n : Nat} {v v' : Value} {xs : List Value} {tmp : Obj} (h : W.heap[k]? = some (.cells cs t (0, 0))) (hte : t ≠ e) (hr : W.ownsRow base e size v n xs) (hg : (W.alloc tmp).grownBy w1 v.ownBlock) (hk : k ≠ B) : (w1.setCell ⟨B, 0, none⟩ v').heap[k]? = W.heap[k]? := by
  have hlt := (Array.getElem?_eq_some_iff.1 h).1
  rw [Below.heap_setCell w1 ⟨B, 0, none⟩ v' k hk, hg.block k (by simp; omega) (not_row h hte hr), Below.heap_alloc W tmp k hlt]

theorem kpB_t {Bb Bl : Nat} {A B C : World} (h : KpB Bb Bl A B) (k : KpB Bb Bl B C) : KpB Bb Bl A C := ⟨Nat.le_trans h.1 k.1, k.2.1.trans h.2.1, k.2.2.trans h.2.2⟩
theorem kpB_b {Bb Bl m : Nat} (h1 : Bb < m) (h2 : Bl < m) (W : World) (l : Nat) (o o' : Obj) (hl : m ≤ l) (ho : W.heap[l]? = some o) (hc : o.isCells = false) (hw : o.isWalk = false) : KpB Bb Bl W (W.putObj l o') :=
  ⟨by simp, World.putObj_heap_other (by omega), World.putObj_heap_other (by omega)⟩
theorem kpB_grown {Bb Bl : Nat} {W W' : World} {row : Option Nat} (h : W.grownBy W' row) (h1 : Bb < W.heap.size) (h2 : Bl < W.heap.size) (n1 : some Bb ≠ row) (n2 : some Bl ≠ row) : KpB Bb Bl W W' := ⟨h.size, h.block _ h1 n1, h.block _ h2 n2⟩

theorem infoCell : (Try.prog.info? 24).map (fun i => (i.zero, i.size, i.bytes)) = some (some (.agg #[.int .i64 0, .int .i64 0]), 2, 16) := by kernel_rfl

/-- What the iterator's contract gives, whichever way it goes. -/
def StopsAt (m : Nat) (s : Int) (f t : DCell) (N : Nat) (xs : List DCell) : Prop :=
  ∀ (Bb Bl : Nat) (w : World), w.cell? ⟨Bb, 0, none⟩ = some (.int .i64 s) → LineC Bl f t (N : Int) w → Bb < w.heap.size → Bl < w.heap.size →
    SeqStopsK Fence.wide m Try.prog 26 #[.pointer (some ⟨Bb, 0, none⟩), .pointer (some ⟨Bl, 0, none⟩)] (fun c : DCell => #[vCe c]) (KpB Bb Bl) (fun ys => ys = xs) (fun pre => pre <+: xs) (N + 1) w

set_option maxHeartbeats 2000000 in
set_option maxRecDepth 100000 in
theorem leg_core (a b f t : DCell) (s : Int) (N : Nat) (xs : List DCell) (w : World) (ha : InLeg a) (hb : InLeg b) (hN : N ≤ 15) (hxs : Hid (xs.length = N + 1))
    (HL : ∀ W, CallsIn Fence.wide 5 Try.prog 18 #[vCe a, vCe b] W fun e w' => e = .returned (.tuple #[.agg (lineCells f t (N : Int)), .int .i64 s]) ∧ Below W.heap.size W w') (HS : StopsAt 5 s f t N xs) :
    CallsIn Fence.wide 6 Try.prog 6 #[vCe a, vCe b] w fun e w' => ∃ v, e = .returned v ∧ w'.ownsRow w.heap.size 24 2 v xs.length (cellVals xs) ∧ Below w.heap.size w w' := by
  have HA := fun W => callsIn_wide (n := 5) |>.2 (hasLegs a W)
  have HB := fun W => callsIn_wide (n := 5) |>.2 (hasLegs b W)
  have HC := fun W => callsIn_wide (n := 5) |>.2 (cellsFn f t (N : Int) s W)
  rw [decide_eq_true ha] at HA
  rw [decide_eq_true hb] at HB
  clear ha hb
  obtain ⟨i0, hi, hz0, hz1, hz2⟩ := info_parts infoCell
  obtain ⟨x, y⟩ := a
  obtain ⟨x', y'⟩ := b
  obtain ⟨fx, fy⟩ := f
  obtain ⟨tx, ty⟩ := t
  simp only [vCe, lineCells] at HA HB HC HL ⊢
  refine callsIn_of_wp_marks Try.func6 rfl trivial ?_ rfl
  simp only [Try.ntmps6, List.size_toArray, List.length_cons, List.length_nil, Nat.reduceAdd, Nat.reduceSub, Array.replicate_succ, Array.replicate_zero, List.push_toArray, List.append_toArray, List.nil_append, List.cons_append]
  gi_wp2_with fail
  refine ⟨trivial, (HA _).mono ?_⟩
  rintro e w1 ⟨rfl, hb1⟩
  clear HA
  obtain ⟨bc1, bf1⟩ := bcell hb1
  have z1 := hb1.size
  simp at z1 bc1 bf1
  have y10 : w.heap.size < w1.heap.size := by omega
  have y11 : w.heap.size + 1 < w1.heap.size := by omega
  gi_wp2_with fail
  refine ⟨trivial, (HB _).mono ?_⟩
  rintro e w2 ⟨rfl, hb2⟩
  clear HB
  obtain ⟨bc2, bf2⟩ := bcell hb2
  have z2 := hb2.size
  have y20 : w.heap.size < w2.heap.size := by omega
  have y21 : w.heap.size + 1 < w2.heap.size := by omega
  gi_wp2_with fail
  refine ⟨trivial, (HL _).mono ?_⟩
  rintro e w3 ⟨rfl, hb3⟩
  clear HL
  have hB3 : Below w.heap.size w w3 := ((((Below.refl w.heap.size w).alloc (Nat.le_refl _) _).alloc (by simp) _).trans (hb1.mono (by simp; omega))).trans ((hb2.mono (by omega)).trans (hb3.mono (by omega)))
  have z3 := hB3.size
  clear bc1 bf1 bc2 bf2 hb1 hb2 hb3 z1 z2 y10 y11 y20 y21
  gi_wp2_with fail
  refine ⟨trivial, (HC _).mono ?_⟩
  rintro e w4 ⟨rfl, rfl⟩
  clear HC
  gi_wp2
  have hsz : ((((w3.alloc (.cells #[.int .i64 fx, .int .i64 fy, .int .i64 tx, .int .i64 ty, .int .i64 (N : Int)] 42)).alloc (.cells #[.slice none 0 0] 27)).alloc (.cells #[.int .i64 fx, .int .i64 fy, .int .i64 tx, .int .i64 ty, .int .i64 (N : Int)] 42)).alloc (.cells #[.int .i64 s] 43)).heap.size = w3.heap.size + 4 := by simp
  have bO : Boxed ((((w3.alloc (.cells #[.int .i64 fx, .int .i64 fy, .int .i64 tx, .int .i64 ty, .int .i64 (N : Int)] 42)).alloc (.cells #[.slice none 0 0] 27)).alloc (.cells #[.int .i64 fx, .int .i64 fy, .int .i64 tx, .int .i64 ty, .int .i64 (N : Int)] 42)).alloc (.cells #[.int .i64 s] 43)) (w3.heap.size + 1) 27 (.slice none 0 0) := by
    have h := ((Boxed.new (w3.alloc (.cells #[.int .i64 fx, .int .i64 fy, .int .i64 tx, .int .i64 ty, .int .i64 (N : Int)] 42)) 27 (.slice none 0 0)).alloc (.cells #[.int .i64 fx, .int .i64 fy, .int .i64 tx, .int .i64 ty, .int .i64 (N : Int)] 42)).alloc (.cells #[.int .i64 s] 43)
    rwa [World.size_alloc] at h
  have bL : LineC (w3.heap.size + 1 + 1) (fx, fy) (tx, ty) (N : Int) ((((w3.alloc (.cells #[.int .i64 fx, .int .i64 fy, .int .i64 tx, .int .i64 ty, .int .i64 (N : Int)] 42)).alloc (.cells #[.slice none 0 0] 27)).alloc (.cells #[.int .i64 fx, .int .i64 fy, .int .i64 tx, .int .i64 ty, .int .i64 (N : Int)] 42)).alloc (.cells #[.int .i64 s] 43)) := ⟨by go_simp, by go_simp, by go_simp, by go_simp, by go_simp⟩
  have bS : ((((w3.alloc (.cells #[.int .i64 fx, .int .i64 fy, .int .i64 tx, .int .i64 ty, .int .i64 (N : Int)] 42)).alloc (.cells #[.slice none 0 0] 27)).alloc (.cells #[.int .i64 fx, .int .i64 fy, .int .i64 tx, .int .i64 ty, .int .i64 (N : Int)] 42)).alloc (.cells #[.int .i64 s] 43)).cell? ⟨w3.heap.size + 1 + 1 + 1, 0, none⟩ = some (.int .i64 s) := by go_simp
  have bL2 : ((((w3.alloc (.cells #[.int .i64 fx, .int .i64 fy, .int .i64 tx, .int .i64 ty, .int .i64 (N : Int)] 42)).alloc (.cells #[.slice none 0 0] 27)).alloc (.cells #[.int .i64 fx, .int .i64 fy, .int .i64 tx, .int .i64 ty, .int .i64 (N : Int)] 42)).alloc (.cells #[.int .i64 s] 43)).heap[w3.heap.size + 1 + 1]? = some (.cells #[.int .i64 fx, .int .i64 fy, .int .i64 tx, .int .i64 ty, .int .i64 (N : Int)] 42 (0, 0)) := by
    rw [Below.heap_alloc _ _ _ (by simp)]
    have h := World.alloc_heap_new ((w3.alloc (.cells #[.int .i64 fx, .int .i64 fy, .int .i64 tx, .int .i64 ty, .int .i64 (N : Int)] 42)).alloc (.cells #[.slice none 0 0] 27)) (.cells #[.int .i64 fx, .int .i64 fy, .int .i64 tx, .int .i64 ty, .int .i64 (N : Int)] 42)
    rwa [World.size_alloc, World.size_alloc] at h
  have bS2 : ((((w3.alloc (.cells #[.int .i64 fx, .int .i64 fy, .int .i64 tx, .int .i64 ty, .int .i64 (N : Int)] 42)).alloc (.cells #[.slice none 0 0] 27)).alloc (.cells #[.int .i64 fx, .int .i64 fy, .int .i64 tx, .int .i64 ty, .int .i64 (N : Int)] 42)).alloc (.cells #[.int .i64 s] 43)).heap[w3.heap.size + 1 + 1 + 1]? = some (.cells #[.int .i64 s] 43 (0, 0)) := by
    have h := World.alloc_heap_new (((w3.alloc (.cells #[.int .i64 fx, .int .i64 fy, .int .i64 tx, .int .i64 ty, .int .i64 (N : Int)] 42)).alloc (.cells #[.slice none 0 0] 27)).alloc (.cells #[.int .i64 fx, .int .i64 fy, .int .i64 tx, .int .i64 ty, .int .i64 (N : Int)] 42)) (.cells #[.int .i64 s] 43)
    rwa [World.size_alloc, World.size_alloc, World.size_alloc] at h
  have hB0 : Below w.heap.size w ((((w3.alloc (.cells #[.int .i64 fx, .int .i64 fy, .int .i64 tx, .int .i64 ty, .int .i64 (N : Int)] 42)).alloc (.cells #[.slice none 0 0] 27)).alloc (.cells #[.int .i64 fx, .int .i64 fy, .int .i64 tx, .int .i64 ty, .int .i64 (N : Int)] 42)).alloc (.cells #[.int .i64 s] 43)) := (((hB3.alloc (by omega) _).alloc (by simp; omega) _).alloc (by simp; omega) _).alloc (by simp; omega) _
  obtain ⟨W0, hW0⟩ : ∃ W0, ((((w3.alloc (.cells #[.int .i64 fx, .int .i64 fy, .int .i64 tx, .int .i64 ty, .int .i64 (N : Int)] 42)).alloc (.cells #[.slice none 0 0] 27)).alloc (.cells #[.int .i64 fx, .int .i64 fy, .int .i64 tx, .int .i64 ty, .int .i64 (N : Int)] 42)).alloc (.cells #[.int .i64 s] 43)) = W0 := ⟨_, rfl⟩
  rw [hW0] at hsz bO bL bS bL2 bS2 hB0 ⊢
  clear hW0
  refine wpIn_rangeFunc_ownH rfl (by omega) (gf := 26) (lb := #[.pointer (some ⟨w3.heap.size + 1 + 1 + 1, 0, none⟩), .pointer (some ⟨w3.heap.size + 1 + 1, 0, none⟩)]) rfl trivial (enters_of Try.func26 (by kernel_rfl) rfl)
    (HS (w3.heap.size + 1 + 1 + 1) (w3.heap.size + 1 + 1) W0 bS bL (by omega) (by omega)) kpB_t (kpB_b (by omega) (by omega)) (Below.refl _ _) (fun _ => rfl)
    (fun pre W => (∃ v, Boxed W (w3.heap.size + 1) 27 v ∧ W.ownsRow w3.heap.size 24 2 v pre.length (cellVals pre) ∧ True) ∧ Below w.heap.size w W ∧ w3.heap.size + 4 ≤ W.heap.size ∧ W.heap[w3.heap.size + 1 + 1]? = some (.cells #[.int .i64 fx, .int .i64 fy, .int .i64 tx, .int .i64 ty, .int .i64 (N : Int)] 42 (0, 0)) ∧ W.heap[w3.heap.size + 1 + 1 + 1]? = some (.cells #[.int .i64 s] 43 (0, 0)))
    (fun _ _ _ => False)
    (OwnFrom.and (Own.from (holdsRow_own w3.heap.size (w3.heap.size + 1) 27 24 2 (fun pre => pre.length) (fun pre => cellVals pre) (fun pre v => True)) _) (OwnFrom.and (ownFrom_below (Nat.le_refl _) (by omega)) (OwnFrom.and (fun _ _ _ _ hs hg _ => Nat.le_trans hs hg.size) (OwnFrom.and (Own.from (cells_own _ _ _) _) (Own.from (cells_own _ _ _) _)))))
    (fun _ _ _ _ _ hs _ _ => hs)
    ⟨⟨_, bO, World.ownsRow_nil _ _ _ _, trivial⟩, hB0, by omega, bL2, bS2⟩
    (fun c a' W => ∃ Bx, w3.heap.size + 3 < Bx ∧ Box2 W Bx c ∧ a' = { tmps := #[.agg #[.int .i64 x, .int .i64 y], .agg #[.int .i64 x', .int .i64 y'], .pointer (some ⟨w.heap.size, 0, none⟩), .pointer (some ⟨w.heap.size + 1, 0, none⟩), .slice none 0 0, .pointer (some ⟨w3.heap.size, 0, none⟩), .int .i64 s, .pointer (some ⟨w3.heap.size + 1, 0, none⟩), .pointer (some ⟨Bx, 0, none⟩), .agg #[.int .i64 x, .int .i64 y], .bool true, .bool false, .bool false, .agg #[.int .i64 x', .int .i64 y'], .bool true, .bool false, .bool false, .tuple #[.agg #[.int .i64 fx, .int .i64 fy, .int .i64 tx, .int .i64 ty, .int .i64 (N : Int)], .int .i64 s], .agg #[.int .i64 x, .int .i64 y], .agg #[.int .i64 x', .int .i64 y'], .tuple #[.agg #[.int .i64 fx, .int .i64 fy, .int .i64 tx, .int .i64 ty, .int .i64 (N : Int)], .int .i64 s], .agg #[.int .i64 fx, .int .i64 fy, .int .i64 tx, .int .i64 ty, .int .i64 (N : Int)], .int .i64 s, .agg #[.int .i64 fx, .int .i64 fy, .int .i64 tx, .int .i64 ty, .int .i64 (N : Int)], .int .i64 s, .func (.func 26) #[] #[.pointer (some ⟨w3.heap.size + 1 + 1 + 1, 0, none⟩), .pointer (some ⟨w3.heap.size + 1 + 1, 0, none⟩)], .agg #[.int .i64 c.1, .int .i64 c.2], undef, undef, undef, undef, undef], defers := [] })
    (fun c a' _ X Y row hs hg hr => by obtain ⟨Bx, h1, h2, h3⟩ := hs; exact ⟨Bx, h1, box2_own Bx c () X Y row h2 hg (fun r e => (hr r e).2), h3⟩)
    ?assign ?body ?done ?stop
  case assign =>
    rintro l pre c W K ⟨⟨v, bV, hrow, _⟩, hB1, hs1, hL1, hS1⟩ hK
    obtain ⟨cx, cy⟩ := c
    simp only [vCe]
    gi_wp2
    exact hK _ _ ((KeepsOthers.alloc _ _).from _) (kpB_grown (World.grownBy_alloc W _ none) (by omega) (by omega) (by simp) (by simp)) ⟨⟨v, bV.alloc _, hrow.alloc _, trivial⟩, hB1.alloc hB1.size _, by simp; omega, (Below.heap_alloc W _ _ (by omega)).trans hL1, (Below.heap_alloc W _ _ (by omega)).trans hS1⟩ ⟨W.heap.size, by omega, World.alloc_heap_new W _, rfl⟩
  case body =>
    rintro l pre c a' W hl ⟨r, hr⟩ ⟨⟨v, bV, hrow, _⟩, hB1, hs1, hL1, hS1⟩ ⟨Bx, hBx, bX, rfl⟩ hlt
    obtain ⟨cx, cy⟩ := c
    have hc := bV.cell
    have hx0 : W.cell? ⟨Bx, 0, none⟩ = some (.int .i64 cx) := by simp [World.cell?, show W.heap[Bx]? = _ from bX]
    have hx1 : W.cell? ⟨Bx, 1, none⟩ = some (.int .i64 cy) := by simp [World.cell?, show W.heap[Bx]? = _ from bX]
    have hpl : pre.length ≤ 15 := by omega
    clear HS
    gi_wp2_with (gi_at_builtin; refine wpListIn_append_own _ rfl _ _ 27 rfl w3.heap.size 24 i0 (.agg #[.int .i64 0, .int .i64 0]) 2 16 Try.underlying27 hi hz0 hz1 hz2 rfl (by decide) _ _ _ rfl (hrow.alloc _) ⟨W.heap.size, 0, none⟩ 1 1 [.int .i64 cx, .int .i64 cy] rfl rfl ?c1 ?c2 ?c3 ?c4 ?c5 ?_)
    case c1 =>
      intro j u hj
      match j, hj with
      | 0, hj => simp at hj; subst hj; simp [Addr.add]
      | 1, hj => simp at hj; subst hj; simp [Addr.add]
    case c2 =>
      intro u hu
      simp at hu
      rcases hu with rfl | rfl <;> rfl
    case c3 => unfold maxLen; omega
    case c4 => omega
    case c5 => simp; omega
    intro v' w1 hown' hgrow _
    obtain ⟨g', cap', rfl⟩ := ownsRow_succ hown'
    obtain ⟨hv1, hv2, hr2, hk2, hb2⟩ := bV.appended (by decide) hrow (by omega) (by omega) hown' hgrow
    have k1 := kept_append (B := w3.heap.size + 1) (v' := .slice (some ⟨g', 0, none⟩) (pre.length + 1) cap') hL1 (by decide) hrow hgrow (by omega)
    have k2 := kept_append (B := w3.heap.size + 1) (v' := .slice (some ⟨g', 0, none⟩) (pre.length + 1) cap') hS1 (by decide) hrow hgrow (by omega)
    have hc1 := hv1.cell
    have hf1 := hv1.frozen
    have hsz2 := hb2.size
    gi_wp2
    exact ⟨hk2.from _, ⟨hsz2, k2, k1⟩, ⟨_, hv2, by rw [cellVals_snoc]; simpa using hr2, trivial⟩, hB1.trans (hb2.mono (by omega)), by omega, k1.trans hL1, k2.trans hS1⟩
  case done =>
    rintro D ys W hD rfl ⟨⟨v, bV, hrow, _⟩, hB1, hs1, hL1, hS1⟩ hK
    have hc := bV.cell
    gi_wp2
    refine ⟨by simp, .inl ⟨_, _, rfl, run_takeDeferred hK, ?_⟩⟩
    exact ⟨_, results_tmp rfl _ _ _, v, rfl, ownsRow_base (ownsRow_putObj hrow _ hK rfl) (by omega), hB1.trans (belowK_b (w := w) (Nat.le_refl _) W D _ _ (by omega) hK rfl rfl)⟩
  case stop =>
    rintro D c pre W _ _ h _
    exact h.elim

end Leg
end Go.Proofs.Ytcamggfmaphcbaa
