/- DERIVED. (impl.skyChecker).blocksOk: its walk (written by wip/tools/mk_ib0.py). -/
import Derived.Test.YthkpjljhjdjbfaaDoorIM3
import Derived.Test.YthkpjljhjdjbfaaDoorIS2
import Derived.Test.YthkpjljhjdjbfaaDoorIS3
import Derived.Lib.QuietBelow
namespace Go.Proofs.YthkpjljhjdjbfaaDoor
open Go.RowKit Go.Sort
set_option linter.unusedSimpArgs false
set_option linter.unusedVariables false

/-- wpQuiet behind a structure: 'whnf' does not run down it. -/
structure IQ (P : Program) (ops : Array Oper) (C : World → Prop) (Q : Act → Prop) (l : List Oper) (a : Act) : Prop where
  out : wpQuiet P ops C Q l a

theorem IQ.want {P : Program} {ops : Array Oper} {C : World → Prop} {Q : Act → Prop} {a : Act} {o : Oper} {rest : List Oper} (hw : Region.wanted o (yielded ops a.tmps) = true) (h : ∀ K : Act → Prop, (∀ a, IQ P ops C Q rest a → K a) → o.quiet P a C K) : IQ P ops C Q (o :: rest) a := by
  refine ⟨?_⟩
  unfold wpQuiet
  rw [if_pos hw]
  exact Oper.quiet_mono (fun a h => h.out) (h (fun a => IQ P ops C Q rest a) (fun _ h => h))

theorem IQ.skip {P : Program} {ops : Array Oper} {C : World → Prop} {Q : Act → Prop} {a : Act} {o : Oper} {rest : List Oper} (hw : Region.wanted o (yielded ops a.tmps) = false) (h : IQ P ops C Q rest (a.put o.dst undef)) : IQ P ops C Q (o :: rest) a := by
  refine ⟨?_⟩
  unfold wpQuiet
  rw [if_neg (by rw [hw]; decide)]
  exact h.out

theorem IQ.nil {P : Program} {ops : Array Oper} {C : World → Prop} {Q : Act → Prop} {a : Act} (h : Q a) : IQ P ops C Q [] a := ⟨wpQuiet_nil h⟩

theorem wp_region_iq {P : Program} {id : Nat} {Q : Exit → Act → World → Prop} {a : Act} {w : World} {l : List Oper} (hm : P.follows .mixedOrders = true) (hB : Region.lexB .any l.toArray = true)
    (h : IQ P l.toArray (fun w' => ∃ p : Regrown, w' = grow (redrawn w p.d) p.os) (fun a' => ∀ w', (∃ p : Regrown, w' = grow (redrawn w p.d) p.os) → Q .normal a' w') l a) : (Code.region id l.toArray true).wp P Q a w :=
  wp_region_quiet_below hm hB h.out

theorem box_cellI {w wr : World} {cs : Array Value} {t : TypeId} (h : Below (w.heap.size + 1) (w.alloc (.cells cs t)) wr) (i : Nat) : wr.cell? ⟨w.heap.size, i, none⟩ = cs[i]? := by
  rw [h.cell (p := ⟨w.heap.size, i, none⟩) (by show w.heap.size < w.heap.size + 1; omega)]
  have : (w.alloc (.cells cs t)).heap[w.heap.size]? = some (.cells cs t (0, 0)) := heap_alloc_new w _
  unfold World.cell?
  simp only [this]
  rfl

theorem box_belowI {w wr : World} {o : Obj} (h : Below (w.heap.size + 1) (w.alloc o) wr) : Below w.heap.size w wr :=
  ((Below.refl w.heap.size w).alloc (Nat.le_refl _) o).trans (h.mono (by omega))

theorem grown_of_below {w w' : World} {row : Option Nat} (h : Below w.heap.size w w') : w.grownBy w' row :=
  ⟨h.os, h.tape, h.output, h.size, fun i hi _ => h.block i hi⟩

/-- A cell stays where only a map's block is written. -/
theorem grown_cell {w w' : World} {B n : Nat} {S : Spot → Prop} (hg : w.grownBy w' (some B)) (hT : Taken w B S n) {b o : Nat} {v : Value} (h : w.cell? ⟨b, o, none⟩ = some v) : w'.cell? ⟨b, o, none⟩ = some v := by
  obtain ⟨D, ⟨es, clock, hB, _⟩, _⟩ := hT
  have hne : b ≠ B := by
    intro e; subst e
    simp [World.cell?, hB] at h
  have hlt := World.block_lt_of_cell? w ⟨b, o, none⟩ h
  have := hg.block b hlt (by simp; exact hne)
  unfold World.cell? at h ⊢
  simp only [this]
  exact h

/-- No place of a block is one of S, nor of a block ahead of it. -/
def NewTo (S : Spot → Prop) (bs : List DSkyBlock) (k : Nat) : Prop := ∀ j (h : j < bs.length), j < k → FreeB (fun s => S s ∨ SomeB (bs.take j) s) (bs[j]'h)
def BlocksTo (W H L : Int) (bs : List DSkyBlock) (k : Nat) : Prop := ∀ j (h : j < bs.length), j < k → BlockOk W H L (bs[j]'h) ∧ ∀ h0 : 0 < j, BlockLess (bs[j - 1]'(by omega)) (bs[j]'h)

theorem someB_take {bs : List DSkyBlock} {k : Nat} (h : k < bs.length) (s : Spot) : SomeB (bs.take (k + 1)) s ↔ SomeB (bs.take k) s ∨ InB s (bs[k]'h) := by
  rw [take_snoc' bs k h, someB_snoc]

theorem vols_take {bs : List DSkyBlock} {k : Nat} (h : k < bs.length) : ((bs.take (k + 1)).map vol).sum = ((bs.take k).map vol).sum + vol (bs[k]'h) := by
  rw [take_snoc' bs k h, vol_snoc]

theorem small_of {W H L : Int} {b : DSkyBlock} (h : BlockOk W H L b) (hW : W ≤ 16) (hH : H ≤ 16) (hL : L ≤ 6) : Small b := by
  obtain ⟨X0, Y0, X1, Y1, l, u⟩ := b
  simp only [BlockOk] at h
  simp only [Small]
  omega

theorem vols_bd {W H L : Int} (hW : W ≤ 16) (hH : H ≤ 16) (hL : L ≤ 6) : ∀ (bs : List DSkyBlock), (∀ b ∈ bs, BlockOk W H L b) → 0 ≤ (bs.map vol).sum ∧ (bs.map vol).sum ≤ 1536 * bs.length
  | [], _ => by simp
  | b :: bs, h => by
    have h1 := vol_pos (h b (by simp)) hW hH hL
    have h2 := vols_bd hW hH hL bs (fun c hc => h c (by simp [hc]))
    simp only [List.map_cons, List.sum_cons, List.length_cons]
    omega

set_option maxRecDepth 100000 in
set_option maxHeartbeats 4000000 in
theorem blocksOk_t (W H L : Int) (a b c d : Value) (ao : Option Addr) (cap : Nat) (bs : List DSkyBlock) (B n : Nat) (S : Spot → Prop) (w : World) (hW : 1 ≤ W ∧ W ≤ 16) (hH : 1 ≤ H ∧ H ≤ 16) (hL : 1 ≤ L ∧ L ≤ 6)
    (h : SliceAt vSkyBlock (old w) w ao cap bs) (hT : Taken w B S n) (hn : n ≤ 800000) (hl : InR (bs.length : Int) 1 4) :
    Calls Tryd.prog 75 #[.agg #[.int .i64 W, .int .i64 H, .int .i64 L, a, b, c, d], .slice ao bs.length cap, .map (some B)] w fun e w' =>
      ((e = .returned (.bool true) ∧ BlocksTo W H L bs bs.length ∧ NewTo S bs bs.length ∧ ∃ m : Nat, Taken w' B (fun s => S s ∨ SomeB bs s) m ∧ (m : Int) = n + (bs.map vol).sum) ∨ (e = .returned (.bool false) ∧ ¬ (BlocksTo W H L bs bs.length ∧ NewTo S bs bs.length))) ∧ w.grownBy w' (some B) := by
  have hBlt := hT.lt
  obtain ⟨hl1, hl2⟩ := hl
  have hl4 : bs.length ≤ 4 := by omega
  have HGO : Hid (∀ W' : World, (w.alloc (.cells #[.int .i64 W, .int .i64 H, .int .i64 L, a, b, c, d] 86)).grownBy W' (some B) → w.grownBy W' (some B)) := fun W' hW' => (World.grownBy_alloc w _ _).trans hW'
  have hT0 : Taken (w.alloc (.cells #[.int .i64 W, .int .i64 H, .int .i64 L, a, b, c, d] 86)) B (fun s => S s ∨ SomeB (bs.take 0) s) n := (hT.alloc _).same (fun s => ⟨.inl, fun h => h.resolve_right (fun ⟨b, hb, _⟩ => by simp at hb)⟩)
  have hbox : ∀ W' : World, (w.alloc (.cells #[.int .i64 W, .int .i64 H, .int .i64 L, a, b, c, d] 86)).grownBy W' (some B) → ∀ i, W'.cell? ⟨w.heap.size, i, none⟩ = (#[.int .i64 W, .int .i64 H, .int .i64 L, a, b, c, d] : Array Value)[i]? := by
    intro W' hg i
    have hb : W'.heap[w.heap.size]? = some (.cells #[.int .i64 W, .int .i64 H, .int .i64 L, a, b, c, d] 86 (0, 0)) := (hg.block w.heap.size (by simp) (by simp; omega)).trans (heap_alloc_new w _)
    unfold World.cell?
    simp only [hb]
    rfl
  have HBX : Hid (∀ W' : World, (w.alloc (.cells #[.int .i64 W, .int .i64 H, .int .i64 L, a, b, c, d] 86)).grownBy W' (some B) → ∀ i, W'.cell? ⟨w.heap.size, i, none⟩ = (#[.int .i64 W, .int .i64 H, .int .i64 L, a, b, c, d] : Array Value)[i]?) := hbox
  have HEL : Hid (∀ W' : World, (w.alloc (.cells #[.int .i64 W, .int .i64 H, .int .i64 L, a, b, c, d] 86)).grownBy W' (some B) → ∀ (p o : Nat) (v : Value), w.cell? ⟨p, o, none⟩ = some v → W'.cell? ⟨p, o, none⟩ = some v) := fun W' hg p o v hv =>
    grown_cell (HGO.out W' hg) hT hv
  have hrefl : (w.alloc (.cells #[.int .i64 W, .int .i64 H, .int .i64 L, a, b, c, d] 86)).grownBy (w.alloc (.cells #[.int .i64 W, .int .i64 H, .int .i64 L, a, b, c, d] 86)) (some B) := ⟨rfl, rfl, rfl, Nat.le_refl _, fun _ _ _ => rfl⟩
  clear hbox hT
  go_enter Tryd.func75, Tryd.ntmps75
  go_wp2_with (go_at_call 65; refine (from_yes _ _ _ _ ⟨hl1, hl2⟩).mono ?_; rintro e w' ⟨rfl, rfl⟩)
  go_loopw [15] (fun i wr => ∃ (k m : Nat), k ≤ bs.length ∧ i = .int .i64 k ∧ Hid (BlocksTo W H L bs k) ∧ Hid (NewTo S bs k) ∧ Taken wr B (fun s => S s ∨ SomeB (bs.take k) s) m ∧ Hid ((m : Int) = n + ((bs.take k).map vol).sum) ∧ (w.alloc (.cells #[.int .i64 W, .int .i64 H, .int .i64 L, a, b, c, d] 86)).grownBy wr (some B)) (fun i _ => bs.length - (intOf i).toNat)
  case atStart => exact ⟨0, n, Nat.zero_le _, rfl, fun j _ hj => by omega, fun j _ hj => by omega, hT0, by show _ = _; simp, hrefl⟩
  case round =>
    obtain ⟨k, m, hk, rfl, hpre, hnew, htk, hm, hg⟩ := hrel
    have z0 := HBX.out wr hg 0
    have z1 := HBX.out wr hg 1
    have z2 := HBX.out wr hg 2
    have z3 := HBX.out wr hg 3
    have z4 := HBX.out wr hg 4
    have z5 := HBX.out wr hg 5
    have z6 := HBX.out wr hg 6
    simp at z0 z1 z2 z3 z4 z5 z6
    have hwz : w.heap.size < wr.heap.size := by have := hg.size; simp at this; omega
    by_cases hlt : k < bs.length
    · have hk1 : k - 1 < bs.length := by omega
      obtain ⟨b0, off, rfl, hok, c0, c1, c2, c3, c4, c5, _⟩ := elem_SkyBlock h hlt
      have f0 := HEL.out wr hg _ _ _ c0
      have f1 := HEL.out wr hg _ _ _ c1
      have f2 := HEL.out wr hg _ _ _ c2
      have f3 := HEL.out wr hg _ _ _ c3
      have f4 := HEL.out wr hg _ _ _ c4
      have f5 := HEL.out wr hg _ _ _ c5
      have hb0 : b0 < wr.heap.size := Nat.lt_of_lt_of_le hok (by omega)
      have hkI : (k : Int) < (bs.length : Int) := by omega
      clear c0 c1 c2 c3 c4 c5
      have HK : Hid (∀ w3 : World, Below (wr.heap.size + 1) (wr.alloc (.cells #[.int .i64 (bs[k]'hlt).1, .int .i64 (bs[k]'hlt).2.1, .int .i64 (bs[k]'hlt).2.2.1, .int .i64 (bs[k]'hlt).2.2.2.1, .int .i64 (bs[k]'hlt).2.2.2.2.1, .int .i64 (bs[k]'hlt).2.2.2.2.2] 77)) w3 → (∀ i, w3.cell? ⟨wr.heap.size, i, none⟩ = (#[.int .i64 (bs[k]'hlt).1, .int .i64 (bs[k]'hlt).2.1, .int .i64 (bs[k]'hlt).2.2.1, .int .i64 (bs[k]'hlt).2.2.2.1, .int .i64 (bs[k]'hlt).2.2.2.2.1, .int .i64 (bs[k]'hlt).2.2.2.2.2] : Array Value)[i]?) ∧ (∀ i v, wr.cell? ⟨w.heap.size, i, none⟩ = some v → w3.cell? ⟨w.heap.size, i, none⟩ = some v) ∧ Taken w3 B (fun s => S s ∨ SomeB (bs.take k) s) m ∧ (w.alloc (.cells #[.int .i64 W, .int .i64 H, .int .i64 L, a, b, c, d] 86)).grownBy w3 (some B)) := fun w3 hb3 =>
        ⟨fun i => box_cellI hb3 i, fun i v hv => ((box_belowI hb3).cell (p := ⟨w.heap.size, i, none⟩) hwz).trans hv, htk.below (box_belowI hb3) htk.lt, hg.trans (grown_of_below (box_belowI hb3))⟩
      have HPRE : Hid (BlocksTo W H L bs k) := hpre
      have HNEW : Hid (NewTo S bs k) := hnew
      have HM : Hid ((m : Int) = n + ((bs.take k).map vol).sum) := hm
      clear hpre hnew hm
      by_cases hk0 : 0 < k
      · obtain ⟨b', off', hbo, _, d0, d1, d2, d3, d4, d5, _⟩ := elem_SkyBlock h hk1
        cases hbo
        have p0 := HEL.out wr hg _ _ _ d0
        have p1 := HEL.out wr hg _ _ _ d1
        have p2 := HEL.out wr hg _ _ _ d2
        have p3 := HEL.out wr hg _ _ _ d3
        have p4 := HEL.out wr hg _ _ _ d4
        have p5 := HEL.out wr hg _ _ _ d5
        clear d0 d1 d2 d3 d4 d5
        have hd0 : decide ((0 : Int) < (k : Int)) = true := by simp; omega
        have hkI1 : (k : Int) - 1 < (bs.length : Int) := by omega
        have hkN : ((k : Int) - 1).toNat = k - 1 := by omega
        have hk1I : (1 : Int) ≤ (k : Int) := by omega
        have hkW : IntKind.i64.wrap ((k : Int) - 1) = (k : Int) - 1 := by
          rw [IntKind.wrap]; simp [IntKind.signed, IntKind.bits]; omega
        by_cases hls : BlockLess (bs[k - 1]'hk1) (bs[k]'hlt)
        · have HLS : Hid (∀ h0 : 0 < k, BlockLess (bs[k - 1]'hk1) (bs[k]'hlt)) := fun _ => hls
          have hc1 : cmpB (bs[k - 1]'hk1) (bs[k]'hlt) < 0 := (cmpB_less _ _).2 hls
          have hc2 : ¬ 0 ≤ cmpB (bs[k - 1]'hk1) (bs[k]'hlt) := by omega
          clear hls
          go_wp2
          have v0 : (wr.alloc (.cells #[.int .i64 (bs[k]'hlt).1, .int .i64 (bs[k]'hlt).2.1, .int .i64 (bs[k]'hlt).2.2.1, .int .i64 (bs[k]'hlt).2.2.2.1, .int .i64 (bs[k]'hlt).2.2.2.2.1, .int .i64 (bs[k]'hlt).2.2.2.2.2] 77)).cell? ⟨wr.heap.size, 0, none⟩ = some (.int .i64 (bs[k]'hlt).1) := box_cellI (Below.refl _ (wr.alloc (.cells #[.int .i64 (bs[k]'hlt).1, .int .i64 (bs[k]'hlt).2.1, .int .i64 (bs[k]'hlt).2.2.1, .int .i64 (bs[k]'hlt).2.2.2.1, .int .i64 (bs[k]'hlt).2.2.2.2.1, .int .i64 (bs[k]'hlt).2.2.2.2.2] 77))) 0
          have v1 : (wr.alloc (.cells #[.int .i64 (bs[k]'hlt).1, .int .i64 (bs[k]'hlt).2.1, .int .i64 (bs[k]'hlt).2.2.1, .int .i64 (bs[k]'hlt).2.2.2.1, .int .i64 (bs[k]'hlt).2.2.2.2.1, .int .i64 (bs[k]'hlt).2.2.2.2.2] 77)).cell? ⟨wr.heap.size, 1, none⟩ = some (.int .i64 (bs[k]'hlt).2.1) := box_cellI (Below.refl _ (wr.alloc (.cells #[.int .i64 (bs[k]'hlt).1, .int .i64 (bs[k]'hlt).2.1, .int .i64 (bs[k]'hlt).2.2.1, .int .i64 (bs[k]'hlt).2.2.2.1, .int .i64 (bs[k]'hlt).2.2.2.2.1, .int .i64 (bs[k]'hlt).2.2.2.2.2] 77))) 1
          have v2 : (wr.alloc (.cells #[.int .i64 (bs[k]'hlt).1, .int .i64 (bs[k]'hlt).2.1, .int .i64 (bs[k]'hlt).2.2.1, .int .i64 (bs[k]'hlt).2.2.2.1, .int .i64 (bs[k]'hlt).2.2.2.2.1, .int .i64 (bs[k]'hlt).2.2.2.2.2] 77)).cell? ⟨wr.heap.size, 2, none⟩ = some (.int .i64 (bs[k]'hlt).2.2.1) := box_cellI (Below.refl _ (wr.alloc (.cells #[.int .i64 (bs[k]'hlt).1, .int .i64 (bs[k]'hlt).2.1, .int .i64 (bs[k]'hlt).2.2.1, .int .i64 (bs[k]'hlt).2.2.2.1, .int .i64 (bs[k]'hlt).2.2.2.2.1, .int .i64 (bs[k]'hlt).2.2.2.2.2] 77))) 2
          have v3 : (wr.alloc (.cells #[.int .i64 (bs[k]'hlt).1, .int .i64 (bs[k]'hlt).2.1, .int .i64 (bs[k]'hlt).2.2.1, .int .i64 (bs[k]'hlt).2.2.2.1, .int .i64 (bs[k]'hlt).2.2.2.2.1, .int .i64 (bs[k]'hlt).2.2.2.2.2] 77)).cell? ⟨wr.heap.size, 3, none⟩ = some (.int .i64 (bs[k]'hlt).2.2.2.1) := box_cellI (Below.refl _ (wr.alloc (.cells #[.int .i64 (bs[k]'hlt).1, .int .i64 (bs[k]'hlt).2.1, .int .i64 (bs[k]'hlt).2.2.1, .int .i64 (bs[k]'hlt).2.2.2.1, .int .i64 (bs[k]'hlt).2.2.2.2.1, .int .i64 (bs[k]'hlt).2.2.2.2.2] 77))) 3
          have v4 : (wr.alloc (.cells #[.int .i64 (bs[k]'hlt).1, .int .i64 (bs[k]'hlt).2.1, .int .i64 (bs[k]'hlt).2.2.1, .int .i64 (bs[k]'hlt).2.2.2.1, .int .i64 (bs[k]'hlt).2.2.2.2.1, .int .i64 (bs[k]'hlt).2.2.2.2.2] 77)).cell? ⟨wr.heap.size, 4, none⟩ = some (.int .i64 (bs[k]'hlt).2.2.2.2.1) := box_cellI (Below.refl _ (wr.alloc (.cells #[.int .i64 (bs[k]'hlt).1, .int .i64 (bs[k]'hlt).2.1, .int .i64 (bs[k]'hlt).2.2.1, .int .i64 (bs[k]'hlt).2.2.2.1, .int .i64 (bs[k]'hlt).2.2.2.2.1, .int .i64 (bs[k]'hlt).2.2.2.2.2] 77))) 4
          have v5 : (wr.alloc (.cells #[.int .i64 (bs[k]'hlt).1, .int .i64 (bs[k]'hlt).2.1, .int .i64 (bs[k]'hlt).2.2.1, .int .i64 (bs[k]'hlt).2.2.2.1, .int .i64 (bs[k]'hlt).2.2.2.2.1, .int .i64 (bs[k]'hlt).2.2.2.2.2] 77)).cell? ⟨wr.heap.size, 5, none⟩ = some (.int .i64 (bs[k]'hlt).2.2.2.2.2) := box_cellI (Below.refl _ (wr.alloc (.cells #[.int .i64 (bs[k]'hlt).1, .int .i64 (bs[k]'hlt).2.1, .int .i64 (bs[k]'hlt).2.2.1, .int .i64 (bs[k]'hlt).2.2.2.1, .int .i64 (bs[k]'hlt).2.2.2.2.1, .int .i64 (bs[k]'hlt).2.2.2.2.2] 77))) 5
          have hbW : Below wr.heap.size wr (wr.alloc (.cells #[.int .i64 (bs[k]'hlt).1, .int .i64 (bs[k]'hlt).2.1, .int .i64 (bs[k]'hlt).2.2.1, .int .i64 (bs[k]'hlt).2.2.2.1, .int .i64 (bs[k]'hlt).2.2.2.2.1, .int .i64 (bs[k]'hlt).2.2.2.2.2] 77)) := (Below.refl _ _).alloc (Nat.le_refl _) _
          have r0 := (hbW.cell (p := ⟨b0, off + (k - 1) * 6, none⟩) hb0).trans p0
          have r1 := (hbW.cell (p := ⟨b0, off + (k - 1) * 6 + 1, none⟩) hb0).trans p1
          have r2 := (hbW.cell (p := ⟨b0, off + (k - 1) * 6 + 2, none⟩) hb0).trans p2
          have r3 := (hbW.cell (p := ⟨b0, off + (k - 1) * 6 + 3, none⟩) hb0).trans p3
          have r4 := (hbW.cell (p := ⟨b0, off + (k - 1) * 6 + 4, none⟩) hb0).trans p4
          have r5 := (hbW.cell (p := ⟨b0, off + (k - 1) * 6 + 5, none⟩) hb0).trans p5
          clear p0 p1 p2 p3 p4 p5 hbW
          have cC : ∀ dd os, Calls Tryd.prog 85 #[.agg #[.int .i64 (bs[k - 1]'hk1).1, .int .i64 (bs[k - 1]'hk1).2.1, .int .i64 (bs[k - 1]'hk1).2.2.1, .int .i64 (bs[k - 1]'hk1).2.2.2.1, .int .i64 (bs[k - 1]'hk1).2.2.2.2.1, .int .i64 (bs[k - 1]'hk1).2.2.2.2.2], .agg #[.int .i64 (bs[k]'hlt).1, .int .i64 (bs[k]'hlt).2.1, .int .i64 (bs[k]'hlt).2.2.1, .int .i64 (bs[k]'hlt).2.2.2.1, .int .i64 (bs[k]'hlt).2.2.2.2.1, .int .i64 (bs[k]'hlt).2.2.2.2.2]] (grow (redrawn (wr.alloc (.cells #[.int .i64 (bs[k]'hlt).1, .int .i64 (bs[k]'hlt).2.1, .int .i64 (bs[k]'hlt).2.2.1, .int .i64 (bs[k]'hlt).2.2.2.1, .int .i64 (bs[k]'hlt).2.2.2.2.1, .int .i64 (bs[k]'hlt).2.2.2.2.2] 77)) dd) os) (fun e w'' => e = .returned (.int .i64 (cmpB (bs[k - 1]'hk1) (bs[k]'hlt))) ∧ ∃ p : Regrown, w'' = grow (redrawn (wr.alloc (.cells #[.int .i64 (bs[k]'hlt).1, .int .i64 (bs[k]'hlt).2.1, .int .i64 (bs[k]'hlt).2.2.1, .int .i64 (bs[k]'hlt).2.2.2.1, .int .i64 (bs[k]'hlt).2.2.2.2.1, .int .i64 (bs[k]'hlt).2.2.2.2.2] 77)) p.d) p.os) := fun dd os => Calls.regrown_of (cmpBlocks_any (bs[k - 1]'hk1) (bs[k]'hlt) _)
          have hb1 : Below (wr.heap.size + 1) (wr.alloc (.cells #[.int .i64 (bs[k]'hlt).1, .int .i64 (bs[k]'hlt).2.1, .int .i64 (bs[k]'hlt).2.2.1, .int .i64 (bs[k]'hlt).2.2.2.1, .int .i64 (bs[k]'hlt).2.2.2.2.1, .int .i64 (bs[k]'hlt).2.2.2.2.2] 77)) (wr.alloc (.cells #[.int .i64 (bs[k]'hlt).1, .int .i64 (bs[k]'hlt).2.1, .int .i64 (bs[k]'hlt).2.2.1, .int .i64 (bs[k]'hlt).2.2.2.1, .int .i64 (bs[k]'hlt).2.2.2.2.1, .int .i64 (bs[k]'hlt).2.2.2.2.2] 77)) := Below.refl _ _
          have hsz1 : (wr.alloc (.cells #[.int .i64 (bs[k]'hlt).1, .int .i64 (bs[k]'hlt).2.1, .int .i64 (bs[k]'hlt).2.2.1, .int .i64 (bs[k]'hlt).2.2.2.1, .int .i64 (bs[k]'hlt).2.2.2.2.1, .int .i64 (bs[k]'hlt).2.2.2.2.2] 77)).heap.size = wr.heap.size + 1 := by simp
          generalize (wr.alloc (.cells #[.int .i64 (bs[k]'hlt).1, .int .i64 (bs[k]'hlt).2.1, .int .i64 (bs[k]'hlt).2.2.1, .int .i64 (bs[k]'hlt).2.2.2.1, .int .i64 (bs[k]'hlt).2.2.2.2.1, .int .i64 (bs[k]'hlt).2.2.2.2.2] 77)) = wr1 at *
          have g0 := cell_regrown v0
          have g1 := cell_regrown v1
          have g2 := cell_regrown v2
          have g3 := cell_regrown v3
          have g4 := cell_regrown v4
          have g5 := cell_regrown v5
          have t0 := cell_regrown r0
          have t1 := cell_regrown r1
          have t2 := cell_regrown r2
          have t3 := cell_regrown r3
          have t4 := cell_regrown r4
          have t5 := cell_regrown r5
          clear v0 v1 v2 v3 v4 v5 r0 r1 r2 r3 r4 r5
          refine wp_region_iq (by kernel_rfl) (by kernel_rfl) ?_
          refine IQ.want (by kernel_rfl) (fun K hK => ?_)
          go_simp
          refine hK _ ?_
          clear hK K
          refine IQ.want (by kernel_rfl) (fun K hK => ?_)
          go_simp
          refine hK _ ?_
          clear hK K
          refine IQ.want (by kernel_rfl) (fun K hK => ?_)
          go_simp
          refine hK _ ?_
          clear hK K
          refine IQ.want (by kernel_rfl) (fun K hK => ?_)
          go_simp
          refine hK _ ?_
          clear hK K
          refine IQ.want (by kernel_rfl) (fun K hK => ?_)
          go_simp
          refine hK _ ?_
          clear hK K
          refine IQ.want (by kernel_rfl) (fun K hK => ?_)
          go_simp
          refine hK _ ?_
          clear hK K
          refine IQ.want (by kernel_rfl) (fun K hK => ?_)
          go_simp
          refine hK _ ?_
          clear hK K
          refine IQ.want (by kernel_rfl) (fun K hK => ?_)
          go_simp
          refine hK _ ?_
          clear hK K
          refine IQ.want (by kernel_rfl) (fun K hK => ?_)
          go_simp
          refine hK _ ?_
          clear hK K
          refine IQ.want (by kernel_rfl) (fun K hK => ?_)
          go_simp
          refine ⟨_, fun _ => cC _ _, hK _ ?_⟩
          clear hK K
          refine IQ.want (by kernel_rfl) (fun K hK => ?_)
          go_simp
          refine hK _ ?_
          clear hK K
          refine IQ.want (by kernel_rfl) (fun K hK => ?_)
          go_simp
          refine hK _ ?_
          clear hK K
          refine IQ.nil ?_
          intro _ hw'
          obtain ⟨⟨dq, osq⟩, hw''⟩ := hw'
          subst hw''
          have hb3 : Below (wr.heap.size + 1) wr1 (grow (redrawn wr1 dq) osq) := (below_regrown wr1 dq osq).mono (by rw [hsz1]; exact Nat.le_refl _)
          clear g0 g1 g2 g3 g4 g5 t0 t1 t2 t3 t4 t5 cC
          have hw3 : wr.heap.size < (grow (redrawn wr1 dq) osq).heap.size := by have := hb3.size; omega
          generalize grow (redrawn wr1 dq) osq = w3 at hb3 hw3 ⊢
          obtain ⟨y, z, htk3, hg3⟩ := HK.out w3 hb3
          have y0 := y 0
          have y1 := y 1
          have y2 := y 2
          have y3 := y 3
          have y4 := y 4
          have y5 := y 5
          simp at y0 y1 y2 y3 y4 y5
          have x0 := z 0 _ z0
          have x1 := z 1 _ z1
          have x2 := z 2 _ z2
          have x3 := z 3 _ z3
          have x4 := z 4 _ z4
          have x5 := z 5 _ z5
          have x6 := z 6 _ z6
          clear y z z0 z1 z2 z3 z4 z5 z6
          have hbd := vols_bd hW.2 hH.2 hL.2 (bs.take k) (fun c hc => by
            obtain ⟨i, hi, rfl⟩ := List.getElem_of_mem hc
            rw [List.getElem_take]
            exact (HPRE.out i (by simp at hi; omega) (by simp at hi; omega)).1)
          have hm8 : m ≤ 900000 := by
            have e1 := HM.out
            have e2 : (bs.take k).length ≤ 4 := by simp; omega
            omega
          by_cases hbk : BlockOk W H L (bs[k]'hlt)
          · have hsm := small_of hbk hW.2 hH.2 hL.2
            have HPB : Hid (BlockOk W H L (bs[k]'hlt)) := hbk
            go_wp2_with fail
            refine (hasBlock_any W H L a b c d (bs[k]'hlt) _ hW hH).mono ?_
            rintro e w4 ⟨he, hb4⟩
            have he : e = .returned (.bool true) := by rcases he with ⟨_, h⟩ | ⟨h, _⟩; exact h; exact absurd HPB.out h
            subst he
            have htk4 := htk3.below hb4 htk3.lt
            have hg4 := hg3.trans (grown_of_below hb4)
            obtain ⟨hc4, hf4⟩ := bcell hb4
            have u0 := (hc4 wr.heap.size 0 hw3).trans y0
            have u1 := (hc4 wr.heap.size 1 hw3).trans y1
            have u2 := (hc4 wr.heap.size 2 hw3).trans y2
            have u3 := (hc4 wr.heap.size 3 hw3).trans y3
            have u4 := (hc4 wr.heap.size 4 hw3).trans y4
            have u5 := (hc4 wr.heap.size 5 hw3).trans y5
            clear hc4 hf4 hb4 hbk x0 x1 x2 x3 x4 x5 x6 y0 y1 y2 y3 y4 y5
            go_wp2_with fail
            refine (takeBlock_any (bs[k]'hlt) B m _ w4 htk4 hm8 hsm).mono ?_
            rintro e w5 ⟨⟨rfl, hfree, m', htk5, hm5⟩ | ⟨rfl, hhit⟩, hg5⟩
            · have HN1 : Hid (NewTo S bs (k + 1)) := fun j hj h1 => by
                by_cases e : j = k
                · subst e; exact hfree
                · exact HNEW.out j hj (by omega)
              have HB1 : Hid (BlocksTo W H L bs (k + 1)) := fun j hj h1 => by
                by_cases e : j = k
                · subst e; exact ⟨HPB.out, HLS.out⟩
                · exact HPRE.out j hj (by omega)
              have HT1 : Hid (Taken w5 B (fun s => S s ∨ SomeB (bs.take (k + 1)) s) m') := htk5.same (fun s => by rw [someB_take hlt s, or_assoc])
              have HM1 : Hid ((m' : Int) = n + ((bs.take (k + 1)).map vol).sum) := by
                show _ = _
                rw [vols_take hlt, hm5, HM.out]; omega
              have hg6 := hg4.trans hg5
              clear hfree htk5 hm5 hg5 htk4 htk3 htk
              go_wp2
              go_roundw
              case rel => exact ⟨k + 1, m', by omega, by go_num, HB1, HN1, HT1.out, HM1, hg6⟩
              case measure => simp [intOf]; omega
            · have HF : Hid (¬ (BlocksTo W H L bs bs.length ∧ NewTo S bs bs.length)) := fun h => by
                obtain ⟨s, h1, h2⟩ := hhit
                exact h.2 k hlt hlt s h1 h2
              have hg6 := HGO.out _ (hg4.trans hg5)
              clear hhit hg5 htk4 htk3 htk
              go_wp2
              go_ret
              exact ⟨.inr ⟨rfl, HF.out⟩, hg6⟩
          · have HF : Hid (¬ (BlocksTo W H L bs bs.length ∧ NewTo S bs bs.length)) := fun h => hbk (h.1 k hlt hlt).1
            have HNB : Hid (¬ BlockOk W H L (bs[k]'hlt)) := hbk
            go_wp2_with fail
            refine (hasBlock_any W H L a b c d (bs[k]'hlt) _ hW hH).mono ?_
            rintro e w4 ⟨he, hb4⟩
            have he : e = .returned (.bool false) := by rcases he with ⟨h, _⟩ | ⟨_, h⟩; exact absurd h HNB.out; exact h
            subst he
            have hg4 := HGO.out _ (hg3.trans (grown_of_below hb4))
            clear hbk hb4
            go_wp2
            go_ret
            exact ⟨.inr ⟨rfl, HF.out⟩, hg4⟩
        · have HF : Hid (¬ (BlocksTo W H L bs bs.length ∧ NewTo S bs bs.length)) := fun h => hls ((h.1 k hlt hlt).2 hk0)
          have hc2 : 0 ≤ cmpB (bs[k - 1]'hk1) (bs[k]'hlt) := Int.not_lt.1 (fun h => hls ((cmpB_less _ _).1 h))
          clear hls
          go_wp2
          have v0 : (wr.alloc (.cells #[.int .i64 (bs[k]'hlt).1, .int .i64 (bs[k]'hlt).2.1, .int .i64 (bs[k]'hlt).2.2.1, .int .i64 (bs[k]'hlt).2.2.2.1, .int .i64 (bs[k]'hlt).2.2.2.2.1, .int .i64 (bs[k]'hlt).2.2.2.2.2] 77)).cell? ⟨wr.heap.size, 0, none⟩ = some (.int .i64 (bs[k]'hlt).1) := box_cellI (Below.refl _ (wr.alloc (.cells #[.int .i64 (bs[k]'hlt).1, .int .i64 (bs[k]'hlt).2.1, .int .i64 (bs[k]'hlt).2.2.1, .int .i64 (bs[k]'hlt).2.2.2.1, .int .i64 (bs[k]'hlt).2.2.2.2.1, .int .i64 (bs[k]'hlt).2.2.2.2.2] 77))) 0
          have v1 : (wr.alloc (.cells #[.int .i64 (bs[k]'hlt).1, .int .i64 (bs[k]'hlt).2.1, .int .i64 (bs[k]'hlt).2.2.1, .int .i64 (bs[k]'hlt).2.2.2.1, .int .i64 (bs[k]'hlt).2.2.2.2.1, .int .i64 (bs[k]'hlt).2.2.2.2.2] 77)).cell? ⟨wr.heap.size, 1, none⟩ = some (.int .i64 (bs[k]'hlt).2.1) := box_cellI (Below.refl _ (wr.alloc (.cells #[.int .i64 (bs[k]'hlt).1, .int .i64 (bs[k]'hlt).2.1, .int .i64 (bs[k]'hlt).2.2.1, .int .i64 (bs[k]'hlt).2.2.2.1, .int .i64 (bs[k]'hlt).2.2.2.2.1, .int .i64 (bs[k]'hlt).2.2.2.2.2] 77))) 1
          have v2 : (wr.alloc (.cells #[.int .i64 (bs[k]'hlt).1, .int .i64 (bs[k]'hlt).2.1, .int .i64 (bs[k]'hlt).2.2.1, .int .i64 (bs[k]'hlt).2.2.2.1, .int .i64 (bs[k]'hlt).2.2.2.2.1, .int .i64 (bs[k]'hlt).2.2.2.2.2] 77)).cell? ⟨wr.heap.size, 2, none⟩ = some (.int .i64 (bs[k]'hlt).2.2.1) := box_cellI (Below.refl _ (wr.alloc (.cells #[.int .i64 (bs[k]'hlt).1, .int .i64 (bs[k]'hlt).2.1, .int .i64 (bs[k]'hlt).2.2.1, .int .i64 (bs[k]'hlt).2.2.2.1, .int .i64 (bs[k]'hlt).2.2.2.2.1, .int .i64 (bs[k]'hlt).2.2.2.2.2] 77))) 2
          have v3 : (wr.alloc (.cells #[.int .i64 (bs[k]'hlt).1, .int .i64 (bs[k]'hlt).2.1, .int .i64 (bs[k]'hlt).2.2.1, .int .i64 (bs[k]'hlt).2.2.2.1, .int .i64 (bs[k]'hlt).2.2.2.2.1, .int .i64 (bs[k]'hlt).2.2.2.2.2] 77)).cell? ⟨wr.heap.size, 3, none⟩ = some (.int .i64 (bs[k]'hlt).2.2.2.1) := box_cellI (Below.refl _ (wr.alloc (.cells #[.int .i64 (bs[k]'hlt).1, .int .i64 (bs[k]'hlt).2.1, .int .i64 (bs[k]'hlt).2.2.1, .int .i64 (bs[k]'hlt).2.2.2.1, .int .i64 (bs[k]'hlt).2.2.2.2.1, .int .i64 (bs[k]'hlt).2.2.2.2.2] 77))) 3
          have v4 : (wr.alloc (.cells #[.int .i64 (bs[k]'hlt).1, .int .i64 (bs[k]'hlt).2.1, .int .i64 (bs[k]'hlt).2.2.1, .int .i64 (bs[k]'hlt).2.2.2.1, .int .i64 (bs[k]'hlt).2.2.2.2.1, .int .i64 (bs[k]'hlt).2.2.2.2.2] 77)).cell? ⟨wr.heap.size, 4, none⟩ = some (.int .i64 (bs[k]'hlt).2.2.2.2.1) := box_cellI (Below.refl _ (wr.alloc (.cells #[.int .i64 (bs[k]'hlt).1, .int .i64 (bs[k]'hlt).2.1, .int .i64 (bs[k]'hlt).2.2.1, .int .i64 (bs[k]'hlt).2.2.2.1, .int .i64 (bs[k]'hlt).2.2.2.2.1, .int .i64 (bs[k]'hlt).2.2.2.2.2] 77))) 4
          have v5 : (wr.alloc (.cells #[.int .i64 (bs[k]'hlt).1, .int .i64 (bs[k]'hlt).2.1, .int .i64 (bs[k]'hlt).2.2.1, .int .i64 (bs[k]'hlt).2.2.2.1, .int .i64 (bs[k]'hlt).2.2.2.2.1, .int .i64 (bs[k]'hlt).2.2.2.2.2] 77)).cell? ⟨wr.heap.size, 5, none⟩ = some (.int .i64 (bs[k]'hlt).2.2.2.2.2) := box_cellI (Below.refl _ (wr.alloc (.cells #[.int .i64 (bs[k]'hlt).1, .int .i64 (bs[k]'hlt).2.1, .int .i64 (bs[k]'hlt).2.2.1, .int .i64 (bs[k]'hlt).2.2.2.1, .int .i64 (bs[k]'hlt).2.2.2.2.1, .int .i64 (bs[k]'hlt).2.2.2.2.2] 77))) 5
          have hbW : Below wr.heap.size wr (wr.alloc (.cells #[.int .i64 (bs[k]'hlt).1, .int .i64 (bs[k]'hlt).2.1, .int .i64 (bs[k]'hlt).2.2.1, .int .i64 (bs[k]'hlt).2.2.2.1, .int .i64 (bs[k]'hlt).2.2.2.2.1, .int .i64 (bs[k]'hlt).2.2.2.2.2] 77)) := (Below.refl _ _).alloc (Nat.le_refl _) _
          have r0 := (hbW.cell (p := ⟨b0, off + (k - 1) * 6, none⟩) hb0).trans p0
          have r1 := (hbW.cell (p := ⟨b0, off + (k - 1) * 6 + 1, none⟩) hb0).trans p1
          have r2 := (hbW.cell (p := ⟨b0, off + (k - 1) * 6 + 2, none⟩) hb0).trans p2
          have r3 := (hbW.cell (p := ⟨b0, off + (k - 1) * 6 + 3, none⟩) hb0).trans p3
          have r4 := (hbW.cell (p := ⟨b0, off + (k - 1) * 6 + 4, none⟩) hb0).trans p4
          have r5 := (hbW.cell (p := ⟨b0, off + (k - 1) * 6 + 5, none⟩) hb0).trans p5
          clear p0 p1 p2 p3 p4 p5 hbW
          have cC : ∀ dd os, Calls Tryd.prog 85 #[.agg #[.int .i64 (bs[k - 1]'hk1).1, .int .i64 (bs[k - 1]'hk1).2.1, .int .i64 (bs[k - 1]'hk1).2.2.1, .int .i64 (bs[k - 1]'hk1).2.2.2.1, .int .i64 (bs[k - 1]'hk1).2.2.2.2.1, .int .i64 (bs[k - 1]'hk1).2.2.2.2.2], .agg #[.int .i64 (bs[k]'hlt).1, .int .i64 (bs[k]'hlt).2.1, .int .i64 (bs[k]'hlt).2.2.1, .int .i64 (bs[k]'hlt).2.2.2.1, .int .i64 (bs[k]'hlt).2.2.2.2.1, .int .i64 (bs[k]'hlt).2.2.2.2.2]] (grow (redrawn (wr.alloc (.cells #[.int .i64 (bs[k]'hlt).1, .int .i64 (bs[k]'hlt).2.1, .int .i64 (bs[k]'hlt).2.2.1, .int .i64 (bs[k]'hlt).2.2.2.1, .int .i64 (bs[k]'hlt).2.2.2.2.1, .int .i64 (bs[k]'hlt).2.2.2.2.2] 77)) dd) os) (fun e w'' => e = .returned (.int .i64 (cmpB (bs[k - 1]'hk1) (bs[k]'hlt))) ∧ ∃ p : Regrown, w'' = grow (redrawn (wr.alloc (.cells #[.int .i64 (bs[k]'hlt).1, .int .i64 (bs[k]'hlt).2.1, .int .i64 (bs[k]'hlt).2.2.1, .int .i64 (bs[k]'hlt).2.2.2.1, .int .i64 (bs[k]'hlt).2.2.2.2.1, .int .i64 (bs[k]'hlt).2.2.2.2.2] 77)) p.d) p.os) := fun dd os => Calls.regrown_of (cmpBlocks_any (bs[k - 1]'hk1) (bs[k]'hlt) _)
          have hb1 : Below (wr.heap.size + 1) (wr.alloc (.cells #[.int .i64 (bs[k]'hlt).1, .int .i64 (bs[k]'hlt).2.1, .int .i64 (bs[k]'hlt).2.2.1, .int .i64 (bs[k]'hlt).2.2.2.1, .int .i64 (bs[k]'hlt).2.2.2.2.1, .int .i64 (bs[k]'hlt).2.2.2.2.2] 77)) (wr.alloc (.cells #[.int .i64 (bs[k]'hlt).1, .int .i64 (bs[k]'hlt).2.1, .int .i64 (bs[k]'hlt).2.2.1, .int .i64 (bs[k]'hlt).2.2.2.1, .int .i64 (bs[k]'hlt).2.2.2.2.1, .int .i64 (bs[k]'hlt).2.2.2.2.2] 77)) := Below.refl _ _
          have hsz1 : (wr.alloc (.cells #[.int .i64 (bs[k]'hlt).1, .int .i64 (bs[k]'hlt).2.1, .int .i64 (bs[k]'hlt).2.2.1, .int .i64 (bs[k]'hlt).2.2.2.1, .int .i64 (bs[k]'hlt).2.2.2.2.1, .int .i64 (bs[k]'hlt).2.2.2.2.2] 77)).heap.size = wr.heap.size + 1 := by simp
          generalize (wr.alloc (.cells #[.int .i64 (bs[k]'hlt).1, .int .i64 (bs[k]'hlt).2.1, .int .i64 (bs[k]'hlt).2.2.1, .int .i64 (bs[k]'hlt).2.2.2.1, .int .i64 (bs[k]'hlt).2.2.2.2.1, .int .i64 (bs[k]'hlt).2.2.2.2.2] 77)) = wr1 at *
          have g0 := cell_regrown v0
          have g1 := cell_regrown v1
          have g2 := cell_regrown v2
          have g3 := cell_regrown v3
          have g4 := cell_regrown v4
          have g5 := cell_regrown v5
          have t0 := cell_regrown r0
          have t1 := cell_regrown r1
          have t2 := cell_regrown r2
          have t3 := cell_regrown r3
          have t4 := cell_regrown r4
          have t5 := cell_regrown r5
          clear v0 v1 v2 v3 v4 v5 r0 r1 r2 r3 r4 r5
          refine wp_region_iq (by kernel_rfl) (by kernel_rfl) ?_
          refine IQ.want (by kernel_rfl) (fun K hK => ?_)
          go_simp
          refine hK _ ?_
          clear hK K
          refine IQ.want (by kernel_rfl) (fun K hK => ?_)
          go_simp
          refine hK _ ?_
          clear hK K
          refine IQ.want (by kernel_rfl) (fun K hK => ?_)
          go_simp
          refine hK _ ?_
          clear hK K
          refine IQ.want (by kernel_rfl) (fun K hK => ?_)
          go_simp
          refine hK _ ?_
          clear hK K
          refine IQ.want (by kernel_rfl) (fun K hK => ?_)
          go_simp
          refine hK _ ?_
          clear hK K
          refine IQ.want (by kernel_rfl) (fun K hK => ?_)
          go_simp
          refine hK _ ?_
          clear hK K
          refine IQ.want (by kernel_rfl) (fun K hK => ?_)
          go_simp
          refine hK _ ?_
          clear hK K
          refine IQ.want (by kernel_rfl) (fun K hK => ?_)
          go_simp
          refine hK _ ?_
          clear hK K
          refine IQ.want (by kernel_rfl) (fun K hK => ?_)
          go_simp
          refine hK _ ?_
          clear hK K
          refine IQ.want (by kernel_rfl) (fun K hK => ?_)
          go_simp
          refine ⟨_, fun _ => cC _ _, hK _ ?_⟩
          clear hK K
          refine IQ.want (by kernel_rfl) (fun K hK => ?_)
          go_simp
          refine hK _ ?_
          clear hK K
          refine IQ.want (by kernel_rfl) (fun K hK => ?_)
          go_simp
          refine hK _ ?_
          clear hK K
          refine IQ.nil ?_
          intro _ hw'
          obtain ⟨⟨dq, osq⟩, hw''⟩ := hw'
          subst hw''
          have hb3 : Below (wr.heap.size + 1) wr1 (grow (redrawn wr1 dq) osq) := (below_regrown wr1 dq osq).mono (by rw [hsz1]; exact Nat.le_refl _)
          clear g0 g1 g2 g3 g4 g5 t0 t1 t2 t3 t4 t5 cC
          have hw3 : wr.heap.size < (grow (redrawn wr1 dq) osq).heap.size := by have := hb3.size; omega
          generalize grow (redrawn wr1 dq) osq = w3 at hb3 hw3 ⊢
          have hg3 := HGO.out _ (HK.out w3 hb3).2.2.2
          go_wp2
          go_ret
          exact ⟨.inr ⟨rfl, HF.out⟩, hg3⟩
      · have HLS : Hid (∀ h0 : 0 < k, BlockLess (bs[k - 1]'hk1) (bs[k]'hlt)) := fun h0 => absurd h0 hk0
        have hd0 : decide ((0 : Int) < (k : Int)) = false := by simp; omega
        have hb1 : Below (wr.heap.size + 1) (wr.alloc (.cells #[.int .i64 (bs[k]'hlt).1, .int .i64 (bs[k]'hlt).2.1, .int .i64 (bs[k]'hlt).2.2.1, .int .i64 (bs[k]'hlt).2.2.2.1, .int .i64 (bs[k]'hlt).2.2.2.2.1, .int .i64 (bs[k]'hlt).2.2.2.2.2] 77)) (wr.alloc (.cells #[.int .i64 (bs[k]'hlt).1, .int .i64 (bs[k]'hlt).2.1, .int .i64 (bs[k]'hlt).2.2.1, .int .i64 (bs[k]'hlt).2.2.2.1, .int .i64 (bs[k]'hlt).2.2.2.2.1, .int .i64 (bs[k]'hlt).2.2.2.2.2] 77)) := Below.refl _ _
        go_wp2
        go_quiet (fail)
        have hb3 : Below (wr.heap.size + 1) (wr.alloc (.cells #[.int .i64 (bs[k]'hlt).1, .int .i64 (bs[k]'hlt).2.1, .int .i64 (bs[k]'hlt).2.2.1, .int .i64 (bs[k]'hlt).2.2.2.1, .int .i64 (bs[k]'hlt).2.2.2.2.1, .int .i64 (bs[k]'hlt).2.2.2.2.2] 77)) ((wr.alloc (.cells #[.int .i64 (bs[k]'hlt).1, .int .i64 (bs[k]'hlt).2.1, .int .i64 (bs[k]'hlt).2.2.1, .int .i64 (bs[k]'hlt).2.2.2.1, .int .i64 (bs[k]'hlt).2.2.2.2.1, .int .i64 (bs[k]'hlt).2.2.2.2.2] 77)).drewN nq) := below_drewN (Below.refl _ _) _
        have hw3 : wr.heap.size < ((wr.alloc (.cells #[.int .i64 (bs[k]'hlt).1, .int .i64 (bs[k]'hlt).2.1, .int .i64 (bs[k]'hlt).2.2.1, .int .i64 (bs[k]'hlt).2.2.2.1, .int .i64 (bs[k]'hlt).2.2.2.2.1, .int .i64 (bs[k]'hlt).2.2.2.2.2] 77)).drewN nq).heap.size := by have := hb3.size; simp at this ⊢
        generalize (wr.alloc (.cells #[.int .i64 (bs[k]'hlt).1, .int .i64 (bs[k]'hlt).2.1, .int .i64 (bs[k]'hlt).2.2.1, .int .i64 (bs[k]'hlt).2.2.2.1, .int .i64 (bs[k]'hlt).2.2.2.2.1, .int .i64 (bs[k]'hlt).2.2.2.2.2] 77)).drewN nq = w3 at hb3 hw3 ⊢
        obtain ⟨y, z, htk3, hg3⟩ := HK.out w3 hb3
        have y0 := y 0
        have y1 := y 1
        have y2 := y 2
        have y3 := y 3
        have y4 := y 4
        have y5 := y 5
        simp at y0 y1 y2 y3 y4 y5
        have x0 := z 0 _ z0
        have x1 := z 1 _ z1
        have x2 := z 2 _ z2
        have x3 := z 3 _ z3
        have x4 := z 4 _ z4
        have x5 := z 5 _ z5
        have x6 := z 6 _ z6
        clear y z z0 z1 z2 z3 z4 z5 z6
        have hbd := vols_bd hW.2 hH.2 hL.2 (bs.take k) (fun c hc => by
          obtain ⟨i, hi, rfl⟩ := List.getElem_of_mem hc
          rw [List.getElem_take]
          exact (HPRE.out i (by simp at hi; omega) (by simp at hi; omega)).1)
        have hm8 : m ≤ 900000 := by
          have e1 := HM.out
          have e2 : (bs.take k).length ≤ 4 := by simp; omega
          omega
        by_cases hbk : BlockOk W H L (bs[k]'hlt)
        · have hsm := small_of hbk hW.2 hH.2 hL.2
          have HPB : Hid (BlockOk W H L (bs[k]'hlt)) := hbk
          go_wp2_with fail
          refine (hasBlock_any W H L a b c d (bs[k]'hlt) _ hW hH).mono ?_
          rintro e w4 ⟨he, hb4⟩
          have he : e = .returned (.bool true) := by rcases he with ⟨_, h⟩ | ⟨h, _⟩; exact h; exact absurd HPB.out h
          subst he
          have htk4 := htk3.below hb4 htk3.lt
          have hg4 := hg3.trans (grown_of_below hb4)
          obtain ⟨hc4, hf4⟩ := bcell hb4
          have u0 := (hc4 wr.heap.size 0 hw3).trans y0
          have u1 := (hc4 wr.heap.size 1 hw3).trans y1
          have u2 := (hc4 wr.heap.size 2 hw3).trans y2
          have u3 := (hc4 wr.heap.size 3 hw3).trans y3
          have u4 := (hc4 wr.heap.size 4 hw3).trans y4
          have u5 := (hc4 wr.heap.size 5 hw3).trans y5
          clear hc4 hf4 hb4 hbk x0 x1 x2 x3 x4 x5 x6 y0 y1 y2 y3 y4 y5
          go_wp2_with fail
          refine (takeBlock_any (bs[k]'hlt) B m _ w4 htk4 hm8 hsm).mono ?_
          rintro e w5 ⟨⟨rfl, hfree, m', htk5, hm5⟩ | ⟨rfl, hhit⟩, hg5⟩
          · have HN1 : Hid (NewTo S bs (k + 1)) := fun j hj h1 => by
              by_cases e : j = k
              · subst e; exact hfree
              · exact HNEW.out j hj (by omega)
            have HB1 : Hid (BlocksTo W H L bs (k + 1)) := fun j hj h1 => by
              by_cases e : j = k
              · subst e; exact ⟨HPB.out, HLS.out⟩
              · exact HPRE.out j hj (by omega)
            have HT1 : Hid (Taken w5 B (fun s => S s ∨ SomeB (bs.take (k + 1)) s) m') := htk5.same (fun s => by rw [someB_take hlt s, or_assoc])
            have HM1 : Hid ((m' : Int) = n + ((bs.take (k + 1)).map vol).sum) := by
              show _ = _
              rw [vols_take hlt, hm5, HM.out]; omega
            have hg6 := hg4.trans hg5
            clear hfree htk5 hm5 hg5 htk4 htk3 htk
            go_wp2
            go_roundw
            case rel => exact ⟨k + 1, m', by omega, by go_num, HB1, HN1, HT1.out, HM1, hg6⟩
            case measure => simp [intOf]; omega
          · have HF : Hid (¬ (BlocksTo W H L bs bs.length ∧ NewTo S bs bs.length)) := fun h => by
              obtain ⟨s, h1, h2⟩ := hhit
              exact h.2 k hlt hlt s h1 h2
            have hg6 := HGO.out _ (hg4.trans hg5)
            clear hhit hg5 htk4 htk3 htk
            go_wp2
            go_ret
            exact ⟨.inr ⟨rfl, HF.out⟩, hg6⟩
        · have HF : Hid (¬ (BlocksTo W H L bs bs.length ∧ NewTo S bs bs.length)) := fun h => hbk (h.1 k hlt hlt).1
          have HNB : Hid (¬ BlockOk W H L (bs[k]'hlt)) := hbk
          go_wp2_with fail
          refine (hasBlock_any W H L a b c d (bs[k]'hlt) _ hW hH).mono ?_
          rintro e w4 ⟨he, hb4⟩
          have he : e = .returned (.bool false) := by rcases he with ⟨h, _⟩ | ⟨_, h⟩; exact absurd h HNB.out; exact h
          subst he
          have hg4 := HGO.out _ (hg3.trans (grown_of_below hb4))
          clear hbk hb4
          go_wp2
          go_ret
          exact ⟨.inr ⟨rfl, HF.out⟩, hg4⟩
    · have hke : k = bs.length := by omega
      subst hke
      have HB1 : Hid (BlocksTo W H L bs bs.length) := hpre
      have HN1 : Hid (NewTo S bs bs.length) := hnew
      have HT1 : Hid (Taken wr B (fun s => S s ∨ SomeB bs s) m) := htk.same (fun s => by rw [List.take_length])
      have HM1 : Hid ((m : Int) = n + (bs.map vol).sum) := by
        have := hm.out
        rw [List.take_length] at this
        exact this
      have hg3 := HGO.out _ hg
      clear hpre hnew htk hm
      go_wp2
      go_ret
      exact ⟨.inl ⟨rfl, HB1.out, HN1.out, m, HT1.out, HM1.out⟩, hg3⟩

end Go.Proofs.YthkpjljhjdjbfaaDoor
