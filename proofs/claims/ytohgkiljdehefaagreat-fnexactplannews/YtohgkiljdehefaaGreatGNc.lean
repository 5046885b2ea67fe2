/- DERIVED. A loop over an iterator that keeps what it has in cells of its own: the contract names the kind of blocks that it turns; the caller's invariant abides their turn. No program is named here. -/
import Derived.RangeFuncNested
import Derived.RangeFuncBound
import Derived.RangeFuncCalls
import Derived.RangeFuncLeaves
import Derived.Shelf.RegionOpen
import Derived.WalkKit
import Derived.OwnWalkIn
import Derived.TacticsInMore
import Derived.LoopNIn
import Derived.LoopIn
import Derived.Test.YtohgkiljdehefaaGreatNwN
namespace Go.Proofs.YtohgkiljdehefaaGreat
open Go.RowKit
set_option linter.unusedSimpArgs false
set_option linter.unusedVariables false

/-- It abides new blocks, and the turn of a block of a kind, from B on. -/
def AbM (M : Obj → Prop) (B : Nat) {β : Type} (I : β → World → Prop) : Prop :=
  ∀ s W W' row, I s W → W.grownBy W' row → (∀ r, row = some r → B ≤ r ∧ ∃ o, W.heap[r]? = some o ∧ M o) → I s W'
theorem AbM.alloc {M : Obj → Prop} {B : Nat} {β : Type} {I : β → World → Prop} (h : AbM M B I) {s : β} {W : World} (o : Obj) (hs : I s W) : I s (W.alloc o) :=
  h s W _ none hs (World.grownBy_alloc W o none) (fun r e => by cases e)
theorem AbM.turn {M : Obj → Prop} {B : Nat} {β : Type} {I : β → World → Prop} (h : AbM M B I) {s : β} {W : World} {l : Nat} {o : Obj} (o' : Obj) (hs : I s W) (hB : B ≤ l) (hl : W.heap[l]? = some o) (ho : M o) : I s (W.putObj l o') :=
  h s W _ (some l) hs (grownBy_putObj' W l o') (fun r e => by cases e; exact ⟨hB, o, hl, ho⟩)

/-- The contract: called in whatever later world, at whatever loop, the elements come one by one. -/
def SeqM {α : Type} (n : Nat) (P : Program) (g : Nat) (lb : Array Value) (encs : α → Array Value) (M : Obj → Prop) (Kp : World → World → Prop) (xs : List α) (w : World) : Prop :=
  ∀ (l : Nat) (J : List α → World → Prop) (W : World), Below w.heap.size w W → AbM M W.heap.size J →
    (∀ pre x W1, J pre W1 → pre ++ [x] <+: xs → YieldAt Fence.wide (n - 1) P l (encs x) W1 fun e W' => e = .returned (.bool true) ∧ J (pre ++ [x]) W' ∧ Kp W1 W') →
    J [] W → CallsIn Fence.wide n P g (#[.func (.yield l) #[] #[]] ++ lb) W fun e W' => (∃ v, e = .returned v) ∧ J xs W'

/-- Off its end: what a round's body has kept. -/
def endOnly (R : World → Prop) : Exit → Act → World → Prop
  | .normal, _, W' => R W'
  | _, _, _ => False

theorem rangeM {n : Nat} {P : Program} {α : Type} {g : Operand} {ps : Array Tmp} {assign body : Code} {Q : Exit → Act → World → Prop} {a : Act} {w : World} (h1 : 1 ≤ n)
    {gf : Nat} {lb : Array Value} (hg : a.eval g = .func (.func gf) #[] lb) (eg : ∀ args w, (callFunc gf args).run P w = .ok (.enter gf args) w)
    {encs : α → Array Value} {M : Obj → Prop} {Kp : World → World → Prop} {xs : List α} (hseq : SeqM (n - 1) P gf lb encs M Kp xs w)
    (hKt : ∀ {A B C : World}, Kp A B → Kp B C → Kp A C) (hKb : ∀ (W : World) (l : Nat) (o o' : Obj), w.heap.size ≤ l → W.heap[l]? = some o → o.isCells = false → Kp W (W.putObj l o')) (hps : ∀ x, (encs x).size = ps.size)
    (I : List α → World → Prop) (hI : AbM (fun o => o.isCells = false ∨ M o) w.heap.size I) (h0 : I [] w) (Ax : α → Act → World → Prop) (hAx : ∀ x a', AbM (fun o => o.isCells = false) w.heap.size (fun (_ : Unit) W => Ax x a' W))
    (hassign : ∀ (l : Nat) (pre : List α) (x : α) (W : World) (K : Act → World → Prop), I pre W → (∀ a' W', KeepsFrom w.heap.size W W' → Kp W W' → I pre W' → Ax x a' W' → K a' W') →
      assign.wpIn (Fence.wide.inRound l) (n - 1 - 1) P (Exit.then K (fun _ _ _ => False)) { tmps := (ps.zip (encs x)).foldl (fun t (p, v) => t.setIfInBounds p v) a.tmps, defers := [] } W)
    (hbody : ∀ (l : Nat) (pre : List α) (x : α) (a' : Act) (W : World), I pre W → Ax x a' W → pre ++ [x] <+: xs →
      body.wpIn (Fence.wide.inRound l) (n - 1 - 1) P (endOnly fun W' => KeepsFrom w.heap.size W W' ∧ Kp W W' ∧ I (pre ++ [x]) W') a' W)
    (hdone : ∀ (D : Nat) (W : World), w.heap.size ≤ D → I xs W → W.heap[D]? = some (.deferred (some [])) → Q .normal { a with defers := { target := .collected D, args := #[] } :: a.defers } W) :
    (Code.rangeFunc g ps assign body).wpIn Fence.wide n P Q a w := by
  refine wpIn_rangeFunc fun fn hfn => ?_
  have hro : Fence.wide.round = none := rfl
  rw [hro]
  -- the loop's record by its state and the jump that is pending; the two blocks that the statement lays
  let rec' : LoopState → Option Code → Loop := fun st pe => { state := st, pending := pe, fn, tmps := a.tmps, params := ps, assign, body, defers := w.heap.size }
  obtain ⟨rec, hrec⟩ : ∃ r, r = rec' := ⟨_, rfl⟩
  obtain ⟨V, hV⟩ : ∃ V, V = (w.alloc (.deferred (some []))).alloc (.loop (rec .ready none)) := ⟨_, rfl⟩
  have hz : V.heap.size = w.heap.size + 2 := by rw [hV]; simp
  have hL : V.heap[w.heap.size + 1]? = some (.loop (rec .ready none)) := by
    rw [hV]; have := World.alloc_heap_new (w.alloc (.deferred (some []))) (.loop (rec .ready none)); rwa [World.size_alloc] at this
  have hD : V.heap[w.heap.size]? = some (.deferred (some [])) := by
    rw [hV]; exact (Below.heap_alloc _ _ _ (by simp)).trans (World.alloc_heap_new w _)
  have hIV : I [] V := by rw [hV]; exact hI.alloc _ (hI.alloc _ h0)
  have hwV : Below w.heap.size w V := by rw [hV]; exact ((Below.refl _ w).alloc (Nat.le_refl _) _).alloc (by simp) _
  refine ⟨w.heap.size + 1, [{ target := .collected w.heap.size, args := #[] }], V, { target := .fn (.func gf) lb, args := #[.func (.yield (w.heap.size + 1)) #[] #[]] }, V, gf,
    #[.func (.yield (w.heap.size + 1)) #[] #[]] ++ lb, V, ?_, ?_, fun _ _ => trivial, ?_, fun _ => h1, ?_⟩
  · rw [hV, hrec]; exact run_enterLoop_outer _ _ _ _ _
  · simp only [resolve, hg]; simp [go_sem]
  · simp [invoke, go_sem, eg]
  -- what lies at the two blocks goes with the caller's invariant
  have keep : ∀ {A B : World} {row : Option Nat} {b : Nat} {o : Obj}, b < V.heap.size → A.grownBy B row → (∀ r, row = some r → V.heap.size ≤ r ∧ ∃ o, A.heap[r]? = some o ∧ M o) → A.heap[b]? = some o → B.heap[b]? = some o := fun hb hg' hr ho =>
    (hg'.block _ (Array.getElem?_eq_some_iff.1 ho).1 (fun e => by have := (hr _ e.symm).1; omega)).trans ho
  refine (hseq (w.heap.size + 1) (fun pre W => I pre W ∧ W.heap[w.heap.size + 1]? = some (.loop (rec .ready none)) ∧ W.heap[w.heap.size]? = some (.deferred (some []))) V hwV
    (fun s A B row hs hg' hr => ⟨hI s A B row hs.1 hg' (fun r e => ⟨by have := (hr r e).1; omega, (hr r e).2.imp fun o ho => ⟨ho.1, .inr ho.2⟩⟩), keep (by omega) hg' hr hs.2.1, keep (by omega) hg' hr hs.2.2⟩) ?_ ⟨hIV, hL, hD⟩).mono ?_
  · rintro pre x W ⟨hi, hl, hd⟩ hpre
    have hy := run_yield (P := P) (args := encs x) hl (by rw [hrec]; exact hps x)
    rw [hrec] at hy
    refine ⟨fn, _, assign, body, hy, roundIn_of_wpIn hfn (hassign _ pre x W _ hi fun a' X hk1 hp1 hi1 hax => ?_)⟩
    clear hy
    have hl1 := hk1.same _ _ (by omega) hl rfl
    have hd1 := hk1.same _ _ (Nat.le_refl _) hd rfl
    refine ⟨_, run_beginRound hl1 (by rw [hrec]), ?_⟩
    have hlt : w.heap.size + 1 < X.heap.size := (Array.getElem?_eq_some_iff.1 hl1).1
    have hl2 : (X.putObj (w.heap.size + 1) (.loop { rec .ready none with state := .busy })).heap[w.heap.size + 1]? = some (.loop { rec .ready none with state := .busy }) := World.putObj_heap_same hlt
    have hd2 : (X.putObj (w.heap.size + 1) (.loop { rec .ready none with state := .busy })).heap[w.heap.size]? = some (.deferred (some [])) := (World.putObj_heap_other (by omega)).trans hd1
    have hp2 : Kp X (X.putObj (w.heap.size + 1) (.loop { rec .ready none with state := .busy })) := hKb _ _ _ _ (by omega) hl1 rfl
    refine wpIn_mono (hbody _ pre x a' _ (hI.turn _ hi1 (by omega) hl1 (.inl rfl)) ((hAx x a').turn (s := ()) _ hax (by omega) hl1 rfl) hpre) ?_
    intro e b3 Y hq
    cases e <;> first | exact hq.elim | skip
    obtain ⟨hk3, hp3, hi3⟩ := hq
    have hl3 := hk3.same _ _ (by omega) hl2 rfl
    have hd3 := hk3.same _ _ (Nat.le_refl _) hd2 rfl
    have hend := run_endRound (P := P) none hl3
    rw [hrec] at hend hl3
    refine ⟨_, _, hend, rfl, ⟨hI.turn _ hi3 (by omega) hl3 (.inl rfl), ?_, (World.putObj_heap_other (by omega)).trans hd3⟩, hKt hp1 (hKt (hKt hp2 hp3) (hKb _ _ _ _ (by omega) hl3 rfl))⟩
    rw [hrec]
    exact World.putObj_heap_same (Array.getElem?_eq_some_iff.1 hl3).1
  · rintro e Z ⟨⟨v, rfl⟩, hi, hl, hd⟩
    refine ⟨none, _, by have := run_endLoop (P := P) hl (by rw [hrec]; simp [rec']); rw [hrec] at this; exact this, hdone _ _ (Nat.le_refl _) (hI.turn _ hi (by omega) hl (.inl rfl)) ((World.putObj_heap_other (by omega)).trans hd)⟩

end Go.Proofs.YtohgkiljdehefaaGreat

/- DERIVED. The iterator of impl.planSideBySide: its contract (written by wip/tools/mk_nwk.py). -/
namespace Go.Proofs.YtohgkiljdehefaaGreat
open Go.RowKit
set_option linter.unusedSimpArgs false
set_option linter.unusedVariables false

/-- What the iterator turns: the rests and things that it has laid. -/
def RestM (o : Obj) : Prop := ∃ cs, o = .cells cs 84 (0, 0) ∨ o = .cells cs 86 (0, 0)
/-- What a round keeps. -/
def NwKp (n₀ Bn : Nat) (W W' : World) : Prop := W.heap.size ≤ W'.heap.size ∧ (∀ k : Nat, k < n₀ → k ≠ Bn → W'.heap[k]? = W.heap[k]?) ∧ (∀ (k : Nat) (o : Obj), W.heap[k]? = some o → RestM o → W'.heap[k]? = some o)
def sbsE (x : DChange × DChange) : Array Value := #[.agg (chCells x.1), .agg (chCells x.2)]
def restLen (W : World) (b : Nat) : Nat := match W.cell? ⟨b, 0, none⟩ with
  | some (.slice _ n _) => n
  | _ => 0
theorem restLen_eq {W : World} {b g : Nat} {v : Value} {l : List DChange} (h : W.heap[b]? = some (.cells #[v] 84 (0, 0))) (hV : RestV W g v l) : restLen W b = l.length := by
  obtain ⟨ao, cap, rfl, _⟩ := hV
  have := cell_of_heapN h 0
  simp at this
  unfold restLen
  rw [this]

theorem iNext (A B : List DChange) (v1 v2 : Value) (g1 g2 : Nat) (w : World) (h1 : RestV w g1 v1 A) (h2 : RestV w g2 v2 B) (hg1 : g1 < w.heap.size) (hg2 : g2 < w.heap.size) :
    Calls Tryz.prog 43 #[.agg #[v1], .agg #[v2]] w fun e w' => e = .returned (.tuple #[.agg #[.string (nextV A B).1, .int .i64 (nextV A B).2], .bool (nextT A B).isSome]) ∧ Below w.heap.size w w' := by
  obtain ⟨ao, ca, rfl, p2, p3, p4⟩ := h1
  obtain ⟨bo, cb, rfl, q2, q3, q4⟩ := h2
  cases A with
  | nil =>
    cases B with
    | nil => exact iNext_none ao bo ca cb w
    | cons b B =>
      obtain ⟨off, rfl, h6⟩ := q4 (by simp)
      obtain ⟨c0, c1, c2, c3⟩ := h6 0 (by simp)
      simp at c0 c1 c2 c3
      exact iNext_right b g2 off B.length cb ca ao w hg2 c0 c1 c2 c3 (by simp at q2; omega)
  | cons a A =>
    obtain ⟨off, rfl, h6⟩ := p4 (by simp)
    obtain ⟨c0, c1, c2, c3⟩ := h6 0 (by simp)
    simp at c0 c1 c2 c3
    cases B with
    | nil => exact iNext_left a g1 off A.length ca cb bo w hg1 c0 c1 c2 c3 (by simp at p2; omega)
    | cons b B =>
      obtain ⟨off', rfl, k6⟩ := q4 (by simp)
      obtain ⟨d0, d1, d2, d3⟩ := k6 0 (by simp)
      simp at d0 d1 d2 d3
      exact iNext_both a b g1 off A.length ca g2 off' B.length cb w hg1 hg2 c0 c1 c2 c3 d0 d1 d2 d3 (by simp at p2; omega) (by simp at q2; omega) _ rfl

/-- A region's state inside the fence, behind a structure. -/
structure RI (n : Nat) (P : Program) (ops : Array Oper) (Q : Exit → Act → World → Prop) (fuel : Nat) (listed : Array Bool) (a : Act) (w : World) : Prop where
  out : wpAnyIn Fence.wide n P .any ops Q fuel listed a w
section
variable {n : Nat} {P : Program} {ops : Array Oper} {Q : Exit → Act → World → Prop} {fuel : Nat} {listed : Array Bool} {a : Act} {w : World}
theorem RI.start {id : Nat} (hm : P.follows .mixedOrders = true) (h : RI n P ops Q ops.size (Array.replicate ops.size false) a w.drew) : (Code.region id ops true).wpIn Fence.wide n P Q a w := wpIn_region_any hm h.out
theorem RI.done (hr : Region.ready .any ops listed = []) (h : Q .normal a w) : RI n P ops Q fuel listed a w := ⟨wpAnyIn_done hr h fuel⟩
theorem RI.take {i : Nat} {oi : Oper} {v : Value} (hi : ops[i]? = some oi) (hs : Region.noSelect ops = true) (hf : Region.free .any ops listed i = true) (hr : (Region.ready .any ops listed).contains i = true)
    (hQ : ∀ c a w, Q (.panic c) (a.put oi.dst v) w → Q (.panic c) a w) (hy : YieldsFenced P ops oi v a) (h : RI n P ops Q fuel (listed.setIfInBounds i true) (a.put oi.dst v) w) : RI n P ops Q (fuel + 1) listed a w :=
  ⟨wpAnyIn_take rfl hi hs hf hr hQ hy h.out⟩
theorem RI.one {i : Nat} {o : Oper} (hr : Region.ready .any ops listed = [i]) (ho : ops[i]? = some o) (hw : Region.wanted o (yielded ops a.tmps) = true)
    (h : ∀ K' : Act → World → Prop, (∀ a w, RI n P ops Q fuel (listed.setIfInBounds i true) a w → K' a w) → Oper.wpIn Fence.wide n P o a w K' Q) : RI n P ops Q (fuel + 1) listed a w :=
  ⟨wpAnyIn_ready hr (by simp) (AllReadyIn.cons ho (fun K hK => by rw [if_pos hw]; exact h K (fun a w h => hK a w h.out)) AllReadyIn.nil)⟩
theorem RI.two {i k : Nat} {o p : Oper} (hr : Region.ready .any ops listed = [i, k]) (ho : ops[i]? = some o) (hp : ops[k]? = some p) (hw : Region.wanted o (yielded ops a.tmps) = true) (hw' : Region.wanted p (yielded ops a.tmps) = true)
    (h : ∀ K' : Act → World → Prop, (∀ a w, RI n P ops Q fuel (listed.setIfInBounds i true) a w → K' a w) → Oper.wpIn Fence.wide n P o a w K' Q)
    (h' : ∀ K' : Act → World → Prop, (∀ a w, RI n P ops Q fuel (listed.setIfInBounds k true) a w → K' a w) → Oper.wpIn Fence.wide n P p a w K' Q) : RI n P ops Q (fuel + 1) listed a w :=
  ⟨wpAnyIn_ready hr (by simp) (AllReadyIn.cons ho (fun K hK => by rw [if_pos hw]; exact h K (fun a w h => hK a w h.out)) (AllReadyIn.cons hp (fun K hK => by rw [if_pos hw']; exact h' K (fun a w h => hK a w h.out)) AllReadyIn.nil))⟩
end
theorem wpIn_cut {n : Nat} {P : Program} {c : Code} {Q : Exit → Act → World → Prop} {a : Act} {w : World} (R : Act → World → Prop) (h : c.wpIn Fence.wide n P (Exit.then R (fun _ _ _ => False)) a w) (h' : ∀ a w, R a w → Q .normal a w) : c.wpIn Fence.wide n P Q a w :=
  wpIn_mono h (fun e a w q => by cases e <;> first | exact h' _ _ q | exact q.elim)

set_option maxRecDepth 100000 in
set_option maxHeartbeats 8000000 in
theorem side_seq (n₀ Bn Ba Bb g1 g2 : Nat) (ao : Option Addr) (ca : Nat) (bo : Option Addr) (cb : Nat) (A B : List DChange) (N : Nat) (w : World) (hn : n₀ ≤ w.heap.size) (hBa : Ba < n₀ ∧ Ba ≠ Bn) (hBb : Bb < n₀ ∧ Bb ≠ Bn) (hg1 : g1 < n₀ ∧ g1 ≠ Bn) (hg2 : g2 < n₀ ∧ g2 ≠ Bn)
    (hXa : w.heap[Ba]? = some (.cells #[.slice ao A.length ca] 30 (0, 0))) (hXb : w.heap[Bb]? = some (.cells #[.slice bo B.length cb] 30 (0, 0))) (hA : RestV w g1 (.slice ao A.length ca) A) (hB : RestV w g2 (.slice bo B.length cb) B) (hN : A.length + B.length ≤ N) :
    SeqM 5 Tryz.prog 42 #[.pointer (some ⟨Ba, 0, none⟩), .pointer (some ⟨Bb, 0, none⟩)] sbsE RestM (NwKp n₀ Bn) (sbsF N A B) w := by
  intro l J W hW hJ hY h0
  have hBaW : Ba < W.heap.size := by have := hW.size; omega
  have hBbW : Bb < W.heap.size := by have := hW.size; omega
  have hXa := (hW.block Ba (by omega)).trans hXa
  have hXb := (hW.block Bb (by omega)).trans hXb
  have hA := hA.kept (hW.block g1 (by omega))
  have hB := hB.kept (hW.block g2 (by omega))
  have hnW := Nat.le_trans hn hW.size
  clear hW hn
  have g4 := cell_of_heapN hXa 0
  have g5 := cell_of_heapN hXb 0
  simp at g4 g5
  clear hXa hXb
  refine callsIn_of_wp Tryz.func42 rfl trivial ?_ rfl
  simp only [Tryz.ntmps42, List.size_toArray, List.length_cons, List.length_nil, Nat.reduceAdd, Nat.reduceSub, Array.replicate_succ, Array.replicate_zero, List.push_toArray, List.append_toArray, List.nil_append, List.cons_append]
  gi_wp2_with fail
  refine wpIn_cut (fun a' W' => ∃ b4 b5, a' = { tmps := #[.func (.yield l) #[] #[], .pointer (some ⟨Ba, 0, none⟩), .pointer (some ⟨Bb, 0, none⟩), undef, .pointer (some ⟨b4, 0, none⟩), .pointer (some ⟨b5, 0, none⟩), undef, undef, .slice ao A.length ca, .agg #[.slice ao A.length ca], .slice bo B.length cb, .agg #[.slice bo B.length cb], undef, undef, undef, undef, undef, undef, undef, undef, undef, undef, undef, undef, undef, undef, undef, undef, undef, undef, undef, undef, undef], defers := [] } ∧ W'.heap[b4]? = some (.cells #[.slice ao A.length ca] 84 (0, 0)) ∧ W'.heap[b5]? = some (.cells #[.slice bo B.length cb] 84 (0, 0)) ∧ b4 ≠ b5 ∧ W.heap.size ≤ b4 ∧ W.heap.size ≤ b5 ∧ Below W.heap.size W W') ?_ ?_
  · refine wpIn_wide.2 ?_
    refine wp_region_RC (fun W' => W'.cell? ⟨Ba, 0, none⟩ = some (.slice ao A.length ca) ∧ W'.cell? ⟨Bb, 0, none⟩ = some (.slice bo B.length cb)) mixedF2 ?_
    have HC0 : W.drew.cell? ⟨Ba, 0, none⟩ = some (.slice ao A.length ca) ∧ W.drew.cell? ⟨Bb, 0, none⟩ = some (.slice bo B.length cb) := ⟨g4, g5⟩
    have HB0 : Below W.heap.size W W.drew := (Below.refl _ _).drew
    generalize W.drew = X0 at *
    refine RC.take (i := 0) (v := .slice ao A.length ca) rfl (by kernel_rfl) (by kernel_rfl) (by kernel_rfl) (fun _ _ _ h => h) HC0 (by kernel_rfl) ?y0 ?_
    case y0 => (intro W hW; clear HC0; obtain ⟨h4, h5⟩ := hW; go_simp; try with_reducible rfl)
    refine RC.take (i := 1) (v := .agg #[.slice ao A.length ca]) rfl (by kernel_rfl) (by kernel_rfl) (by kernel_rfl) (fun _ _ _ h => h) HC0 (by kernel_rfl) ?y1 ?_
    case y1 => (intro W hW; clear HC0; obtain ⟨h4, h5⟩ := hW; go_simp; try with_reducible rfl)
    refine RC.take (i := 2) (v := .slice bo B.length cb) rfl (by kernel_rfl) (by kernel_rfl) (by kernel_rfl) (fun _ _ _ h => h) HC0 (by kernel_rfl) ?y2 ?_
    case y2 => (intro W hW; clear HC0; obtain ⟨h4, h5⟩ := hW; go_simp; try with_reducible rfl)
    refine RC.take (i := 3) (v := .agg #[.slice bo B.length cb]) rfl (by kernel_rfl) (by kernel_rfl) (by kernel_rfl) (fun _ _ _ h => h) HC0 (by kernel_rfl) ?y3 ?_
    case y3 => (intro W hW; clear HC0; obtain ⟨h4, h5⟩ := hW; go_simp; try with_reducible rfl)
    have hz0 := HB0.size
    refine RC.two (i := 4) (k := 5) (by kernel_rfl) rfl rfl (fun K hK => ?_) (fun K hK => ?_)
    · rw [if_pos (by kernel_rfl)]
      go_simp
      obtain ⟨X1, hX1⟩ : ∃ W, W = X0.alloc (.cells #[.slice none 0 0] 84) := ⟨_, rfl⟩
      rw [← hX1]
      have hb1 : Below X0.heap.size X0 X1 := by rw [hX1]; exact (Below.refl _ _).alloc (Nat.le_refl _) _
      have Q4 : X1.heap[X0.heap.size]? = some (.cells #[.slice none 0 0] 84 (0, 0)) := by rw [hX1]; exact heap_alloc_new _ _
      have HC1 : X1.cell? ⟨Ba, 0, none⟩ = some (.slice ao A.length ca) ∧ X1.cell? ⟨Bb, 0, none⟩ = some (.slice bo B.length cb) := ⟨(hb1.cell (p := ⟨Ba, 0, none⟩) (Nat.lt_of_lt_of_le hBaW hz0)).trans HC0.1, (hb1.cell (p := ⟨Bb, 0, none⟩) (Nat.lt_of_lt_of_le hBbW hz0)).trans HC0.2⟩
      have HB1 := HB0.trans (hb1.mono hz0)
      have hz1 := HB1.size
      have hge4 := hz0
      refine hK _ _ HC1 ?_
      clear hK K hX1 hb1
      generalize X0.heap.size = b4 at *
      refine RC.want (i := 5) (by kernel_rfl) rfl (by kernel_rfl) (fun K hK => ?_)
      go_simp
      obtain ⟨X2, hX2⟩ : ∃ W, W = X1.alloc (.cells #[.slice none 0 0] 84) := ⟨_, rfl⟩
      rw [← hX2]
      have hb2 : Below X1.heap.size X1 X2 := by rw [hX2]; exact (Below.refl _ _).alloc (Nat.le_refl _) _
      have hl := (Array.getElem?_eq_some_iff.1 Q4).1
      have Q4 := (hb2.block _ hl).trans Q4
      have Q5 : X2.heap[X1.heap.size]? = some (.cells #[.slice none 0 0] 84 (0, 0)) := by rw [hX2]; exact heap_alloc_new _ _
      have HC2 : X2.cell? ⟨Ba, 0, none⟩ = some (.slice ao A.length ca) ∧ X2.cell? ⟨Bb, 0, none⟩ = some (.slice bo B.length cb) := ⟨(hb2.cell (p := ⟨Ba, 0, none⟩) (Nat.lt_of_lt_of_le hBaW hz1)).trans HC1.1, (hb2.cell (p := ⟨Bb, 0, none⟩) (Nat.lt_of_lt_of_le hBbW hz1)).trans HC1.2⟩
      have HB2 := HB1.trans (hb2.mono hz1)
      have hz2 := HB2.size
      have hge5 := hz1
      refine hK _ _ HC2 ?_
      clear hK K hX2 hb2
      generalize X1.heap.size = b5 at *
      have hne : b4 ≠ b5 := by omega
      have z0 := cell_of_heapN Q4 0
      have f0 := free_of_heapN Q4 0
      simp at z0
      refine RC.want (i := 6) (by kernel_rfl) rfl (by kernel_rfl) (fun K hK => ?_)
      go_simp
      obtain ⟨Z1, hZ1⟩ : ∃ W, W = X2.setCell ⟨b4, 0, none⟩ (.slice ao A.length ca) := ⟨_, rfl⟩
      rw [← hZ1]
      have R4 : Z1.heap[b4]? = some (.cells #[.slice ao A.length ca] 84 (0, 0)) := by rw [hZ1]; exact heap_set_one Q4
      have R5 : Z1.heap[b5]? = some (.cells #[.slice none 0 0] 84 (0, 0)) := by rw [hZ1]; exact (Below.heap_setCell _ ⟨b4, 0, none⟩ _ _ (Ne.symm hne)).trans Q5
      have HBz := HB2.setCell (p := ⟨b4, 0, none⟩) hge4 (.slice ao A.length ca)
      rw [← hZ1] at HBz
      refine hK _ _ ⟨(HBz.cell (p := ⟨Ba, 0, none⟩) hBaW).trans g4, (HBz.cell (p := ⟨Bb, 0, none⟩) hBbW).trans g5⟩ ?_
      clear hK K hZ1 z0 f0
      have z0 := cell_of_heapN R5 0
      have f0 := free_of_heapN R5 0
      simp at z0
      refine RC.want (i := 7) (by kernel_rfl) rfl (by kernel_rfl) (fun K hK => ?_)
      go_simp
      obtain ⟨Z2, hZ2⟩ : ∃ W, W = Z1.setCell ⟨b5, 0, none⟩ (.slice bo B.length cb) := ⟨_, rfl⟩
      rw [← hZ2]
      have S5 : Z2.heap[b5]? = some (.cells #[.slice bo B.length cb] 84 (0, 0)) := by rw [hZ2]; exact heap_set_one R5
      have S4 : Z2.heap[b4]? = some (.cells #[.slice ao A.length ca] 84 (0, 0)) := by rw [hZ2]; exact (Below.heap_setCell _ ⟨b5, 0, none⟩ _ _ hne).trans R4
      have HBy := HBz.setCell (p := ⟨b5, 0, none⟩) hge5 (.slice bo B.length cb)
      rw [← hZ2] at HBy
      refine hK _ _ ⟨(HBy.cell (p := ⟨Ba, 0, none⟩) hBaW).trans g4, (HBy.cell (p := ⟨Bb, 0, none⟩) hBbW).trans g5⟩ ?_
      clear hK K hZ2 z0 f0
      refine RC.done (by kernel_rfl) ?_
      exact ⟨b4, b5, rfl, S4, S5, hne, hge4, hge5, HBy⟩
    · rw [if_pos (by kernel_rfl)]
      go_simp
      obtain ⟨X1, hX1⟩ : ∃ W, W = X0.alloc (.cells #[.slice none 0 0] 84) := ⟨_, rfl⟩
      rw [← hX1]
      have hb1 : Below X0.heap.size X0 X1 := by rw [hX1]; exact (Below.refl _ _).alloc (Nat.le_refl _) _
      have Q5 : X1.heap[X0.heap.size]? = some (.cells #[.slice none 0 0] 84 (0, 0)) := by rw [hX1]; exact heap_alloc_new _ _
      have HC1 : X1.cell? ⟨Ba, 0, none⟩ = some (.slice ao A.length ca) ∧ X1.cell? ⟨Bb, 0, none⟩ = some (.slice bo B.length cb) := ⟨(hb1.cell (p := ⟨Ba, 0, none⟩) (Nat.lt_of_lt_of_le hBaW hz0)).trans HC0.1, (hb1.cell (p := ⟨Bb, 0, none⟩) (Nat.lt_of_lt_of_le hBbW hz0)).trans HC0.2⟩
      have HB1 := HB0.trans (hb1.mono hz0)
      have hz1 := HB1.size
      have hge5 := hz0
      refine hK _ _ HC1 ?_
      clear hK K hX1 hb1
      generalize X0.heap.size = b5 at *
      refine RC.want (i := 4) (by kernel_rfl) rfl (by kernel_rfl) (fun K hK => ?_)
      go_simp
      obtain ⟨X2, hX2⟩ : ∃ W, W = X1.alloc (.cells #[.slice none 0 0] 84) := ⟨_, rfl⟩
      rw [← hX2]
      have hb2 : Below X1.heap.size X1 X2 := by rw [hX2]; exact (Below.refl _ _).alloc (Nat.le_refl _) _
      have hl := (Array.getElem?_eq_some_iff.1 Q5).1
      have Q5 := (hb2.block _ hl).trans Q5
      have Q4 : X2.heap[X1.heap.size]? = some (.cells #[.slice none 0 0] 84 (0, 0)) := by rw [hX2]; exact heap_alloc_new _ _
      have HC2 : X2.cell? ⟨Ba, 0, none⟩ = some (.slice ao A.length ca) ∧ X2.cell? ⟨Bb, 0, none⟩ = some (.slice bo B.length cb) := ⟨(hb2.cell (p := ⟨Ba, 0, none⟩) (Nat.lt_of_lt_of_le hBaW hz1)).trans HC1.1, (hb2.cell (p := ⟨Bb, 0, none⟩) (Nat.lt_of_lt_of_le hBbW hz1)).trans HC1.2⟩
      have HB2 := HB1.trans (hb2.mono hz1)
      have hz2 := HB2.size
      have hge4 := hz1
      refine hK _ _ HC2 ?_
      clear hK K hX2 hb2
      generalize X1.heap.size = b4 at *
      have hne : b4 ≠ b5 := by omega
      have z0 := cell_of_heapN Q4 0
      have f0 := free_of_heapN Q4 0
      simp at z0
      refine RC.want (i := 6) (by kernel_rfl) rfl (by kernel_rfl) (fun K hK => ?_)
      go_simp
      obtain ⟨Z1, hZ1⟩ : ∃ W, W = X2.setCell ⟨b4, 0, none⟩ (.slice ao A.length ca) := ⟨_, rfl⟩
      rw [← hZ1]
      have R4 : Z1.heap[b4]? = some (.cells #[.slice ao A.length ca] 84 (0, 0)) := by rw [hZ1]; exact heap_set_one Q4
      have R5 : Z1.heap[b5]? = some (.cells #[.slice none 0 0] 84 (0, 0)) := by rw [hZ1]; exact (Below.heap_setCell _ ⟨b4, 0, none⟩ _ _ (Ne.symm hne)).trans Q5
      have HBz := HB2.setCell (p := ⟨b4, 0, none⟩) hge4 (.slice ao A.length ca)
      rw [← hZ1] at HBz
      refine hK _ _ ⟨(HBz.cell (p := ⟨Ba, 0, none⟩) hBaW).trans g4, (HBz.cell (p := ⟨Bb, 0, none⟩) hBbW).trans g5⟩ ?_
      clear hK K hZ1 z0 f0
      have z0 := cell_of_heapN R5 0
      have f0 := free_of_heapN R5 0
      simp at z0
      refine RC.want (i := 7) (by kernel_rfl) rfl (by kernel_rfl) (fun K hK => ?_)
      go_simp
      obtain ⟨Z2, hZ2⟩ : ∃ W, W = Z1.setCell ⟨b5, 0, none⟩ (.slice bo B.length cb) := ⟨_, rfl⟩
      rw [← hZ2]
      have S5 : Z2.heap[b5]? = some (.cells #[.slice bo B.length cb] 84 (0, 0)) := by rw [hZ2]; exact heap_set_one R5
      have S4 : Z2.heap[b4]? = some (.cells #[.slice ao A.length ca] 84 (0, 0)) := by rw [hZ2]; exact (Below.heap_setCell _ ⟨b5, 0, none⟩ _ _ hne).trans R4
      have HBy := HBz.setCell (p := ⟨b5, 0, none⟩) hge5 (.slice bo B.length cb)
      rw [← hZ2] at HBy
      refine hK _ _ ⟨(HBy.cell (p := ⟨Ba, 0, none⟩) hBaW).trans g4, (HBy.cell (p := ⟨Bb, 0, none⟩) hBbW).trans g5⟩ ?_
      clear hK K hZ2 z0 f0
      refine RC.done (by kernel_rfl) ?_
      exact ⟨b4, b5, rfl, S4, S5, hne, hge4, hge5, HBy⟩
  · rintro a' W1 ⟨b4, b5, rfl, hQ4, hQ5, hne, hge4, hge5, hBW⟩
    clear g4 g5 hBaW hBbW hBa hBb
    have hA1 := hA.kept (hBW.block g1 (by omega))
    have hB1 := hB.kept (hBW.block g2 (by omega))
    have hJ1 := hJ [] W W1 none h0 (grown_of_below hBW) (by simp)
    have hz1 := hBW.size
    have q4 := cell_of_heapN hQ4 0
    have q5 := cell_of_heapN hQ5 0
    simp at q4 q5
    clear hA hB h0
    gi_wp2_with fail
    refine ⟨trivial, (callsIn_wide.2 (iNext A B _ _ g1 g2 _ hA1 hB1 (by omega) (by omega))).mono ?_⟩
    rintro e W2 ⟨rfl, hb2⟩
    have hl4 := (Array.getElem?_eq_some_iff.1 hQ4).1
    have hl5 := (Array.getElem?_eq_some_iff.1 hQ5).1
    have hQ4 := (hb2.block b4 hl4).trans hQ4
    have hQ5 := (hb2.block b5 hl5).trans hQ5
    have hA2 := hA1.kept (hb2.block g1 (by omega))
    have hB2 := hB1.kept (hb2.block g2 (by omega))
    have hJ2 := hJ [] W1 W2 none hJ1 (grown_of_below hb2) (by simp)
    have hz2 := hb2.size
    clear hA1 hB1 hJ1 q4 q5 hBW hb2
    gi_wp2_with fail
    have hgrow : Below W2.heap.size W2 (W2.alloc (.cells #[.string (nextV A B).1, .int .i64 (nextV A B).2] 86)) := (Below.refl _ _).alloc (Nat.le_refl _) _
    have hl4 : b4 < W2.heap.size := by omega
    have hl5 : b5 < W2.heap.size := by omega
    gi_loopw [6, 7] (fun p ok wr => ∃ (pre : List (DChange × DChange)) (A' B' : List DChange) (v1 v2 : Value) (m b6 : Nat), p = .pointer (some ⟨b6, 0, none⟩) ∧ ok = .bool (nextT A' B').isSome ∧ Hid (pre ++ sbsF m A' B' = sbsF N A B) ∧ A'.length + B'.length ≤ m ∧ W1.heap.size ≤ b6 ∧ Hid (wr.heap[b4]? = some (.cells #[v1] 84 (0, 0))) ∧ Hid (wr.heap[b5]? = some (.cells #[v2] 84 (0, 0))) ∧ Hid (wr.heap[b6]? = some (.cells #[.string (nextV A' B').1, .int .i64 (nextV A' B').2] 86 (0, 0))) ∧ RestV wr g1 v1 A' ∧ RestV wr g2 v2 B' ∧ J pre wr ∧ W1.heap.size ≤ wr.heap.size) (fun p ok wr => restLen wr b4 + restLen wr b5)
    case atStart => exact ⟨[], A, B, _, _, N, _, rfl, rfl, rfl, hN, hz2, (hgrow.block b4 hl4).trans hQ4, (hgrow.block b5 hl5).trans hQ5, heap_alloc_new _ _, hA2.kept (hgrow.block g1 (by omega)), hB2.kept (hgrow.block g2 (by omega)), hJ [] W2 _ none hJ2 (grown_of_below hgrow) (by simp), by simp; omega⟩
    case round =>
      clear hgrow hQ4 hQ5 hA2 hB2 hJ2 hN
      obtain ⟨pre, A', B', v1, v2, m, b6, rfl, rfl, hxs, hm, hge6, H4, H5, H6, hA', hB', hJp, hzr⟩ := hrel
      cases hnt : nextT A' B' with
      | none =>
        have hem : sbsF m A' B' = [] := by cases m <;> simp [sbsF, hnt]
        have hxs := hxs.out
        rw [hem, List.append_nil] at hxs
        clear hem
        gi_wp2
        go_end0
        exact ⟨⟨_, rfl⟩, hxs ▸ hJp⟩
      | some t =>
        have hnv : nextV A' B' = t := by unfold nextV; rw [hnt]; rfl
        have hdec := nextT_len hnt
        obtain ⟨m, rfl⟩ : ∃ k, m = k + 1 := ⟨m - 1, by omega⟩
        have hx : sbsF (m + 1) A' B' = (passV t A', passV t B') :: sbsF m (passR t A') (passR t B') := by simp only [sbsF, hnt]
        rw [hnv] at H6
        gi_wp2_with fail
        refine wpIn_cut (fun a' W' => ∃ v1' v2', a' = { tmps := #[.func (.yield l) #[] #[], .pointer (some ⟨Ba, 0, none⟩), .pointer (some ⟨Bb, 0, none⟩), undef, .pointer (some ⟨b4, 0, none⟩), .pointer (some ⟨b5, 0, none⟩), .pointer (some ⟨b6, 0, none⟩), .bool (some t).isSome, .slice ao A.length ca, .agg #[.slice ao A.length ca], .slice bo B.length cb, .agg #[.slice bo B.length cb], .tuple #[.agg #[.string (nextV A B).1, .int .i64 (nextV A B).2], .bool (nextT A B).isSome], .agg #[.slice ao A.length ca], .agg #[.slice bo B.length cb], .tuple #[.agg #[.string (nextV A B).1, .int .i64 (nextV A B).2], .bool (nextT A B).isSome], .agg #[.string (nextV A B).1, .int .i64 (nextV A B).2], .bool (nextT A B).isSome, .bool (some t).isSome, u19, u20, u21, u22, u23, u24, .func (.yield l) #[] #[], .agg #[.string t.1, .int .i64 t.2], .agg (chCells (passV t A')), .agg #[.string t.1, .int .i64 t.2], .agg (chCells (passV t B')), .bool true, .bool false, u32], defers := [] } ∧ W'.heap[b4]? = some (.cells #[v1'] 84 (0, 0)) ∧ W'.heap[b5]? = some (.cells #[v2'] 84 (0, 0)) ∧ W'.heap[b6]? = some (.cells #[.string t.1, .int .i64 t.2] 86 (0, 0)) ∧ RestV W' g1 v1' (passR t A') ∧ RestV W' g2 v2' (passR t B') ∧ J (pre ++ [(passV t A', passV t B')]) W' ∧ W1.heap.size ≤ W'.heap.size) ?_ ?_
        · have hD := (Below.refl wr.heap.size wr).drew
          have hl4' := (Array.getElem?_eq_some_iff.1 H4.out).1
          have hl5' := (Array.getElem?_eq_some_iff.1 H5.out).1
          have hl6' := (Array.getElem?_eq_some_iff.1 H6.out).1
          have Q4_0 := (hD.block b4 hl4').trans H4.out
          have Q5_0 := (hD.block b5 hl5').trans H5.out
          have Q6_0 := (hD.block b6 hl6').trans H6.out
          have A_0 := hA'.kept (hD.block g1 (by omega))
          have B_0 := hB'.kept (hD.block g2 (by omega))
          have J_0 := hJ pre wr _ none hJp (grown_of_below hD) (by simp)
          have hz_0 : W1.heap.size ≤ wr.drew.heap.size := hzr
          have hpre : pre ++ [(passV t A', passV t B')] <+: sbsF N A B := ⟨sbsF m (passR t A') (passR t B'), by rw [← hxs.out, hx, List.append_assoc]; rfl⟩
          refine RI.start mixedF2 ?_
          clear hl4' hl5' hl6' H4 H5 H6 hA' hB' hJp hzr hD hxs hx
          generalize wr.drew = Y0 at *
          refine RI.take (i := 0) (v := .func (.yield l) #[] #[]) rfl (by kernel_rfl) (by kernel_rfl) (by kernel_rfl) (fun _ _ _ h => h) ⟨.inl ⟨by rfl, ?y0⟩, fun _ => rfl⟩ ?_
          case y0 => (intro w; go_simp; try with_reducible rfl)
          refine RI.two (i := 1) (k := 3) (by kernel_rfl) rfl rfl (by kernel_rfl) (by kernel_rfl) (fun K hK => ?_) (fun K hK => ?_)
          · have z0 := cell_of_heapN Q6_0 0
            have z1 := cell_of_heapN Q6_0 1
            simp at z0 z1
            go_simp
            refine hK _ _ ?_
            clear hK K z0 z1
            refine RI.two (i := 2) (k := 3) (by kernel_rfl) rfl rfl (by kernel_rfl) (by kernel_rfl) (fun K hK => ?_) (fun K hK => ?_)
            · have hl4' := (Array.getElem?_eq_some_iff.1 Q4_0).1
              have hl5' := (Array.getElem?_eq_some_iff.1 Q5_0).1
              have hl6' := (Array.getElem?_eq_some_iff.1 Q6_0).1
              have HP := callsIn_wide (n := 4).2 (iPass t A' b4 g1 _ Y0 Q4_0 A_0 (fun _ => by omega) (by omega))
              go_simp
              refine ⟨trivial, HP.mono ?_⟩
              rintro e Y1 ⟨rfl, v1', Q4_1, A_1, hG⟩
              have Q5_1 := (hG.block b5 hl5' (fun e => by simp at e; omega)).trans Q5_0
              have Q6_1 := (hG.block b6 hl6' (fun e => by simp at e; omega)).trans Q6_0
              have B_1 := B_0.kept (hG.block g2 (by omega) (fun e => by simp at e; omega))
              have J_1 := hJ pre Y0 Y1 (some b4) J_0 hG (fun r e => by cases e; exact ⟨by omega, _, Q4_0, _, .inl rfl⟩)
              have hz_1 := Nat.le_trans hz_0 hG.size
              simp only
              refine hK _ _ ?_
              clear hK K HP hG hl4' hl5' hl6' Q4_0 Q5_0 Q6_0 A_0 B_0 J_0 hz_0
              refine RI.one (i := 3) (by kernel_rfl) rfl (by kernel_rfl) (fun K hK => ?_)
              have z0 := cell_of_heapN Q6_1 0
              have z1 := cell_of_heapN Q6_1 1
              simp at z0 z1
              go_simp
              refine hK _ _ ?_
              clear hK K z0 z1
              refine RI.one (i := 4) (by kernel_rfl) rfl (by kernel_rfl) (fun K hK => ?_)
              have hl4' := (Array.getElem?_eq_some_iff.1 Q4_1).1
              have hl5' := (Array.getElem?_eq_some_iff.1 Q5_1).1
              have hl6' := (Array.getElem?_eq_some_iff.1 Q6_1).1
              have HP := callsIn_wide (n := 4).2 (iPass t B' b5 g2 _ Y1 Q5_1 B_1 (fun _ => by omega) (by omega))
              go_simp
              refine ⟨trivial, HP.mono ?_⟩
              rintro e Y2 ⟨rfl, v2', Q5_2, B_2, hG⟩
              have Q4_2 := (hG.block b4 hl4' (fun e => by simp at e; omega)).trans Q4_1
              have Q6_2 := (hG.block b6 hl6' (fun e => by simp at e; omega)).trans Q6_1
              have A_2 := A_1.kept (hG.block g1 (by omega) (fun e => by simp at e; omega))
              have J_2 := hJ pre Y1 Y2 (some b5) J_1 hG (fun r e => by cases e; exact ⟨by omega, _, Q5_1, _, .inl rfl⟩)
              have hz_2 := Nat.le_trans hz_1 hG.size
              simp only
              refine hK _ _ ?_
              clear hK K HP hG hl4' hl5' hl6' Q4_1 Q5_1 Q6_1 A_1 B_1 J_1 hz_1
              obtain ⟨fn, tmps, assign, body, hy, hR⟩ := hY pre (passV t A', passV t B') Y2 J_2 hpre
              dsimp only [sbsE, chCells] at hy
              refine RI.one (i := 5) (by kernel_rfl) rfl (by kernel_rfl) (fun K hK => ?_)
              go_simp
              refine hR.mono ?_
              rintro e Y3 ⟨rfl, hJ', hK1, hK2, hK3⟩
              simp only
              refine hK _ _ ?_
              clear hK K hR hy
              refine RI.one (i := 6) (by kernel_rfl) rfl (by kernel_rfl) (fun K hK => ?_)
              go_simp
              refine hK _ _ ?_
              clear hK K
              refine RI.done (by kernel_rfl) ?_
              exact ⟨v1', v2', rfl, hK3 _ _ Q4_2 ⟨_, .inl rfl⟩, hK3 _ _ Q5_2 ⟨_, .inl rfl⟩, hK3 _ _ Q6_2 ⟨_, .inr rfl⟩, A_2.kept (hK2 g1 hg1.1 hg1.2), B_2.kept (hK2 g2 hg2.1 hg2.2), hJ', Nat.le_trans hz_2 hK1⟩
            · have z0 := cell_of_heapN Q6_0 0
              have z1 := cell_of_heapN Q6_0 1
              simp at z0 z1
              go_simp
              refine hK _ _ ?_
              clear hK K z0 z1
              refine RI.one (i := 2) (by kernel_rfl) rfl (by kernel_rfl) (fun K hK => ?_)
              have hl4' := (Array.getElem?_eq_some_iff.1 Q4_0).1
              have hl5' := (Array.getElem?_eq_some_iff.1 Q5_0).1
              have hl6' := (Array.getElem?_eq_some_iff.1 Q6_0).1
              have HP := callsIn_wide (n := 4).2 (iPass t A' b4 g1 _ Y0 Q4_0 A_0 (fun _ => by omega) (by omega))
              go_simp
              refine ⟨trivial, HP.mono ?_⟩
              rintro e Y1 ⟨rfl, v1', Q4_1, A_1, hG⟩
              have Q5_1 := (hG.block b5 hl5' (fun e => by simp at e; omega)).trans Q5_0
              have Q6_1 := (hG.block b6 hl6' (fun e => by simp at e; omega)).trans Q6_0
              have B_1 := B_0.kept (hG.block g2 (by omega) (fun e => by simp at e; omega))
              have J_1 := hJ pre Y0 Y1 (some b4) J_0 hG (fun r e => by cases e; exact ⟨by omega, _, Q4_0, _, .inl rfl⟩)
              have hz_1 := Nat.le_trans hz_0 hG.size
              simp only
              refine hK _ _ ?_
              clear hK K HP hG hl4' hl5' hl6' Q4_0 Q5_0 Q6_0 A_0 B_0 J_0 hz_0
              refine RI.one (i := 4) (by kernel_rfl) rfl (by kernel_rfl) (fun K hK => ?_)
              have hl4' := (Array.getElem?_eq_some_iff.1 Q4_1).1
              have hl5' := (Array.getElem?_eq_some_iff.1 Q5_1).1
              have hl6' := (Array.getElem?_eq_some_iff.1 Q6_1).1
              have HP := callsIn_wide (n := 4).2 (iPass t B' b5 g2 _ Y1 Q5_1 B_1 (fun _ => by omega) (by omega))
              go_simp
              refine ⟨trivial, HP.mono ?_⟩
              rintro e Y2 ⟨rfl, v2', Q5_2, B_2, hG⟩
              have Q4_2 := (hG.block b4 hl4' (fun e => by simp at e; omega)).trans Q4_1
              have Q6_2 := (hG.block b6 hl6' (fun e => by simp at e; omega)).trans Q6_1
              have A_2 := A_1.kept (hG.block g1 (by omega) (fun e => by simp at e; omega))
              have J_2 := hJ pre Y1 Y2 (some b5) J_1 hG (fun r e => by cases e; exact ⟨by omega, _, Q5_1, _, .inl rfl⟩)
              have hz_2 := Nat.le_trans hz_1 hG.size
              simp only
              refine hK _ _ ?_
              clear hK K HP hG hl4' hl5' hl6' Q4_1 Q5_1 Q6_1 A_1 B_1 J_1 hz_1
              obtain ⟨fn, tmps, assign, body, hy, hR⟩ := hY pre (passV t A', passV t B') Y2 J_2 hpre
              dsimp only [sbsE, chCells] at hy
              refine RI.one (i := 5) (by kernel_rfl) rfl (by kernel_rfl) (fun K hK => ?_)
              go_simp
              refine hR.mono ?_
              rintro e Y3 ⟨rfl, hJ', hK1, hK2, hK3⟩
              simp only
              refine hK _ _ ?_
              clear hK K hR hy
              refine RI.one (i := 6) (by kernel_rfl) rfl (by kernel_rfl) (fun K hK => ?_)
              go_simp
              refine hK _ _ ?_
              clear hK K
              refine RI.done (by kernel_rfl) ?_
              exact ⟨v1', v2', rfl, hK3 _ _ Q4_2 ⟨_, .inl rfl⟩, hK3 _ _ Q5_2 ⟨_, .inl rfl⟩, hK3 _ _ Q6_2 ⟨_, .inr rfl⟩, A_2.kept (hK2 g1 hg1.1 hg1.2), B_2.kept (hK2 g2 hg2.1 hg2.2), hJ', Nat.le_trans hz_2 hK1⟩
          · have z0 := cell_of_heapN Q6_0 0
            have z1 := cell_of_heapN Q6_0 1
            simp at z0 z1
            go_simp
            refine hK _ _ ?_
            clear hK K z0 z1
            refine RI.one (i := 1) (by kernel_rfl) rfl (by kernel_rfl) (fun K hK => ?_)
            have z0 := cell_of_heapN Q6_0 0
            have z1 := cell_of_heapN Q6_0 1
            simp at z0 z1
            go_simp
            refine hK _ _ ?_
            clear hK K z0 z1
            refine RI.one (i := 2) (by kernel_rfl) rfl (by kernel_rfl) (fun K hK => ?_)
            have hl4' := (Array.getElem?_eq_some_iff.1 Q4_0).1
            have hl5' := (Array.getElem?_eq_some_iff.1 Q5_0).1
            have hl6' := (Array.getElem?_eq_some_iff.1 Q6_0).1
            have HP := callsIn_wide (n := 4).2 (iPass t A' b4 g1 _ Y0 Q4_0 A_0 (fun _ => by omega) (by omega))
            go_simp
            refine ⟨trivial, HP.mono ?_⟩
            rintro e Y1 ⟨rfl, v1', Q4_1, A_1, hG⟩
            have Q5_1 := (hG.block b5 hl5' (fun e => by simp at e; omega)).trans Q5_0
            have Q6_1 := (hG.block b6 hl6' (fun e => by simp at e; omega)).trans Q6_0
            have B_1 := B_0.kept (hG.block g2 (by omega) (fun e => by simp at e; omega))
            have J_1 := hJ pre Y0 Y1 (some b4) J_0 hG (fun r e => by cases e; exact ⟨by omega, _, Q4_0, _, .inl rfl⟩)
            have hz_1 := Nat.le_trans hz_0 hG.size
            simp only
            refine hK _ _ ?_
            clear hK K HP hG hl4' hl5' hl6' Q4_0 Q5_0 Q6_0 A_0 B_0 J_0 hz_0
            refine RI.one (i := 4) (by kernel_rfl) rfl (by kernel_rfl) (fun K hK => ?_)
            have hl4' := (Array.getElem?_eq_some_iff.1 Q4_1).1
            have hl5' := (Array.getElem?_eq_some_iff.1 Q5_1).1
            have hl6' := (Array.getElem?_eq_some_iff.1 Q6_1).1
            have HP := callsIn_wide (n := 4).2 (iPass t B' b5 g2 _ Y1 Q5_1 B_1 (fun _ => by omega) (by omega))
            go_simp
            refine ⟨trivial, HP.mono ?_⟩
            rintro e Y2 ⟨rfl, v2', Q5_2, B_2, hG⟩
            have Q4_2 := (hG.block b4 hl4' (fun e => by simp at e; omega)).trans Q4_1
            have Q6_2 := (hG.block b6 hl6' (fun e => by simp at e; omega)).trans Q6_1
            have A_2 := A_1.kept (hG.block g1 (by omega) (fun e => by simp at e; omega))
            have J_2 := hJ pre Y1 Y2 (some b5) J_1 hG (fun r e => by cases e; exact ⟨by omega, _, Q5_1, _, .inl rfl⟩)
            have hz_2 := Nat.le_trans hz_1 hG.size
            simp only
            refine hK _ _ ?_
            clear hK K HP hG hl4' hl5' hl6' Q4_1 Q5_1 Q6_1 A_1 B_1 J_1 hz_1
            obtain ⟨fn, tmps, assign, body, hy, hR⟩ := hY pre (passV t A', passV t B') Y2 J_2 hpre
            dsimp only [sbsE, chCells] at hy
            refine RI.one (i := 5) (by kernel_rfl) rfl (by kernel_rfl) (fun K hK => ?_)
            go_simp
            refine hR.mono ?_
            rintro e Y3 ⟨rfl, hJ', hK1, hK2, hK3⟩
            simp only
            refine hK _ _ ?_
            clear hK K hR hy
            refine RI.one (i := 6) (by kernel_rfl) rfl (by kernel_rfl) (fun K hK => ?_)
            go_simp
            refine hK _ _ ?_
            clear hK K
            refine RI.done (by kernel_rfl) ?_
            exact ⟨v1', v2', rfl, hK3 _ _ Q4_2 ⟨_, .inl rfl⟩, hK3 _ _ Q5_2 ⟨_, .inl rfl⟩, hK3 _ _ Q6_2 ⟨_, .inr rfl⟩, A_2.kept (hK2 g1 hg1.1 hg1.2), B_2.kept (hK2 g2 hg2.1 hg2.2), hJ', Nat.le_trans hz_2 hK1⟩
        · rintro a' W5 ⟨v1', v2', rfl, hQ4, hQ5, hQ6, hA5, hB5, hJ5, hz5⟩
          have hl4 := (Array.getElem?_eq_some_iff.1 hQ4).1
          have hl5 := (Array.getElem?_eq_some_iff.1 hQ5).1
          have hl6 := (Array.getElem?_eq_some_iff.1 hQ6).1
          have L4 : Hid (restLen wr b4 = A'.length) := restLen_eq H4.out hA'
          have L5 : Hid (restLen wr b5 = B'.length) := restLen_eq H5.out hB'
          have HX : Hid ((pre ++ [(passV t A', passV t B')]) ++ sbsF m (passR t A') (passR t B') = sbsF N A B) := by
            show _ = _
            rw [← hxs.out, hx, List.append_assoc]; rfl
          have hg : Below W5.heap.size W5 (W5.alloc (.cells #[.string t.1, .int .i64 t.2] 86)) := (Below.refl _ _).alloc (Nat.le_refl _) _
          have hT6 : (W5.alloc (.cells #[.string t.1, .int .i64 t.2] 86)).heap[W5.heap.size]? = some (.cells #[.string t.1, .int .i64 t.2] 86 (0, 0)) := heap_alloc_new _ _
          have HN := callsIn_wide (n := 4).2 (iNext (passR t A') (passR t B') v1' v2' g1 g2 _ (hA5.kept (hg.block g1 (by omega))) (hB5.kept (hg.block g2 (by omega))) (by simp; omega) (by simp; omega))
          have q4 := cell_of_heapN hQ4 0
          have q5 := cell_of_heapN hQ5 0
          have q6 := cell_of_heapN hQ6 0
          have q7 := cell_of_heapN hQ6 1
          simp at q4 q5 q6 q7
          clear hxs hx H4 H5 H6 hA' hB' hJp hnt hnv
          gi_wp2_with fail
          refine ⟨trivial, HN.mono ?_⟩
          rintro e W6 ⟨rfl, hb6⟩
          have hbW := hg.trans (hb6.mono (by simp))
          have hlT : W5.heap.size < W6.heap.size := by have := hb6.size; simp at this; omega
          have hT := (hb6.block W5.heap.size (by simp)).trans hT6
          have hbF := putT_below hbW (Nat.le_refl _) (.string (nextV (passR t A') (passR t B')).1) (.int .i64 (nextV (passR t A') (passR t B')).2)
          have z0 := cell_of_heapN hT 0
          have z1 := cell_of_heapN hT 1
          have f0 := free_of_heapN hT 0
          have f1 := free_of_heapN hT 1
          simp at z0 z1
          clear HN hg hT6 hb6 q4 q5 q6 q7
          have F4 : Hid _ := (hbF.block b4 hl4).trans hQ4
          have F5 : Hid _ := (hbF.block b5 hl5).trans hQ5
          have F6 : Hid _ := putT_same hT (.string (nextV (passR t A') (passR t B')).1) (.int .i64 (nextV (passR t A') (passR t B')).2)
          have FA := hA5.kept (hbF.block g1 (by omega))
          have FB := hB5.kept (hbF.block g2 (by omega))
          have FJ := hJ _ W5 _ none hJ5 (grown_of_below hbF) (by simp)
          have Fz := Nat.le_trans hz5 hbF.size
          clear hQ4 hQ5 hQ6 hA5 hB5 hJ5 hbF hbW hT
          gi_wp2
          go_roundw
          case rel => exact ⟨pre ++ [(passV t A', passV t B')], passR t A', passR t B', v1', v2', m, W5.heap.size, rfl, rfl, HX, by omega, hz5, F4, F5, F6, FA, FB, FJ, Fz⟩
          case measure =>
            have e4 := restLen_eq F4.out FA
            have e5 := restLen_eq F5.out FB
            unfold putT at e4 e5
            rw [L4.out, L5.out, e4, e5]
            exact hdec

end Go.Proofs.YtohgkiljdehefaaGreat
