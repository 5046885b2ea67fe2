/- DERIVED. impl.planCellsApart, impl.PlanBaseOk: their walks. -/
import Derived.Test.YtgnjkpmbppmoeaaGreatKGIm
import Derived.Test.YtgnjkpmbppmoeaaGreatKPlI1
import Derived.Test.YtgnjkpmbppmoeaaGreatKPlI2
import Derived.Test.YtgnjkpmbppmoeaaGreatKGVa
import Derived.Test.YtgnjkpmbppmoeaaGreatKGXa
namespace Go.Proofs.YtgnjkpmbppmoeaaGreat
open Go.RowKit Go.Maps
set_option linter.unusedSimpArgs false
set_option linter.unusedVariables false

theorem grown_alloc {w w' : World} {o : Obj} {b : Nat} (h : (w.alloc o).drew.grownBy w' (some b)) (hb : b < w.heap.size) : w.grownBy w' (some b) := by
  refine ⟨h.os, h.tape, h.output, ?_, fun i hi hne => ?_⟩
  · have := h.size
    simp at this
    omega
  · rw [h.block i (by simp; omega) hne]
    exact heap_alloc_old w o hi

set_option maxRecDepth 100000 in
set_option maxHeartbeats 2000000 in
theorem apart_any (ao : Option Addr) (cap : Nat) (ps : List DPlanPoint) (w : World) (h : SliceAt vPlanPoint (old w) w ao cap ps) (hn : ps.length ≤ 1000) :
    Calls Tryz.prog 100 #[.slice ao ps.length cap] w fun e w' => e = .returned (.bool (pb (ApartTo ps ps.length))) ∧ Below w.heap.size w w' := by
  have hmm := @run_makeMap Tryz.prog
  go_enter Tryz.func100, Tryz.ntmps100
  go_wp2
  go_loopw [9] (fun i wr => ∃ k : Nat, ∃ D : DataW Unit, k ≤ ps.length ∧ i = .int .i64 k ∧ wr.ownsMap Tryz.prog 84 (plainElem Tryz.prog 3) w.heap.size k D ∧ Hid (Pm.Has D ps k) ∧ Below w.heap.size w wr) (fun i _ => ps.length - (intOf i).toNat)
  case atStart => exact ⟨0, .map [], Nat.zero_le _, rfl, World.ownsMap_made w _ _ _, Pm.Has.zero, (Below.refl _ _).alloc (Nat.le_refl _) _⟩
  case round =>
    obtain ⟨k, D, hk, rfl, hown, hHas, hB⟩ := hrel
    have hBlt := hown.lt
    by_cases hlt : k < ps.length
    · obtain ⟨b1, off, rfl, hok, c0, c1, c2, q0, q1, q2⟩ := elem_PlanPoint h hlt
      have f0 := (hB.cell (p := ⟨b1, off + k * 3, none⟩) hok).trans c0
      have f1 := (hB.cell (p := ⟨b1, off + k * 3 + 1, none⟩) hok).trans c1
      have f2 := (hB.cell (p := ⟨b1, off + k * 3 + 2, none⟩) hok).trans c2
      have hkI : (k : Int) < (ps.length : Int) := by omega
      clear c0 c1 c2
      have hC : Pm.InC (ps[k]'hlt).2 := ⟨q1, q2⟩
      have HNX : Hid (∀ c : Int, D.atKey (Pm.cellLit (ps[k]'hlt).2) (.lit (.int .i64 0)) = .lit (.int .i64 c) → Pm.Has (D.put (Pm.cellLit (ps[k]'hlt).2) (.lit (.int .i64 (c + 1)))) ps (k + 1)) := fun c hc => hHas.out.next hlt hC (hown.tidy (Keyed.of_law Pm.cellLaw)) hown.isMap hc
      obtain ⟨c, hc, hc0, hck⟩ := hHas.out.2.1 _ hC
      have HN1 := HNX.out c hc
      clear HNX hHas
      obtain ⟨n, x, y, hcur⟩ : ∃ n q s, ps[k]'hlt = (n, q, s) := ⟨_, _, _, rfl⟩
      rw [hcur] at f0 f1 f2 hC hc HN1
      simp only at f0 f1 f2 hC hc HN1
      clear hcur q0 q1 q2
      have HN : Hid (Pm.Has (D.put (Pm.cellLit (x, y)) (.lit (.int .i64 (c + 1)))) ps (k + 1)) := HN1
      clear HN1
      have hkey := Pm.cellKey (x, y) hC
      have HSTEP : Hid (∀ w1 : World, Below (wr.alloc (.cells #[.string n, .int .i64 x, .int .i64 y] 93)).drew.heap.size (wr.alloc (.cells #[.string n, .int .i64 x, .int .i64 y] 93)).drew w1 → ∃ (st : Nat) (w2 w3 : World), (Instr.lookup 182 (.map (some w.heap.size)) (.agg #[.int .i64 x, .int .i64 y]) false).run Tryz.prog w1 = .ok (.int .i64 c) w1 ∧
          (Instr.mapEntry 182 (.map (some w.heap.size)) (.agg #[.int .i64 x, .int .i64 y])).run Tryz.prog w1 = .ok (.tuple #[.int .i64 c, .int .i64 st]) w2 ∧ (Instr.lookup 182 (.map (some w.heap.size)) (.agg #[.int .i64 x, .int .i64 y]) false).run Tryz.prog w2 = .ok (.int .i64 c) w2 ∧
          (Instr.entryStore 182 (.map (some w.heap.size)) (.int .i64 st) (.int .i64 (c + 1))).run Tryz.prog w2 = .ok () w3 ∧ w3.ownsMap Tryz.prog 84 (plainElem Tryz.prog 3) w.heap.size (k + 1) (D.put (Pm.cellLit (x, y)) (.lit (.int .i64 (c + 1)))) ∧ Hid (Below w.heap.size w w3)) := by
        intro w1 hb1
        have hown1 := ((hown.alloc (.cells #[.string n, .int .i64 x, .int .i64 y] 93)).drew).kept (row := none) ⟨hb1.os, hb1.tape, hb1.output, hb1.size, fun k hk _ => hb1.block k hk⟩ (by simp)
        obtain ⟨c', st, w2, hat, hl, hE, hl2, hg2, hS⟩ := own_incr (w := w1) Pm.cellLaw Pm.mapT Pm.intT Pm.intZ hown1 (by unfold maxLen; omega) hkey
        rw [hc] at hat
        cases hat
        obtain ⟨w3, hst, hown3, hg3⟩ := hS (c + 1) (Pm.wf64 ⟨by omega, by omega⟩)
        have hB1 : Below w.heap.size w w1 := ((hB.alloc hB.size _).drew).trans (hb1.mono (by have := hB.size; simp; omega))
        exact ⟨st, w2, w3, hl, hE, hl2, hst, hown3, hB1.grown hg3 hB1.size (fun j hj => by cases hj; exact Nat.le_refl _)⟩
      have hc1 : -9223372036854775808 ≤ c + 1 ∧ c + 1 ≤ 9223372036854775807 := ⟨by omega, by omega⟩
      have hcw : IntKind.i64.wrap (c + 1) = c + 1 := by rw [IntKind.wrap_i64] <;> omega
      clear hc1
      clear hkey h hB hown hc hC
      go_wp2
      go_region_with (go_at_call 51; refine (ptCell n x y _).mono ?_; rintro e w1 ⟨rfl, hb1⟩; obtain ⟨st, w2, w3, hl, hE, hl2, hst, hown3, HB3⟩ := HSTEP.out w1 hb1; clear HSTEP hb1)
      all_goals
        go_wp2
        go_roundw
        case rel => exact ⟨k + 1, _, by omega, by go_num, hown3, HN, HB3.out⟩
        case measure => simp [intOf]; omega
    · have hke : k = ps.length := by omega
      subst hke
      have hlen := fun ty => hown.len Pm.mapT ty
      have hsz := hHas.out.2.2.1
      by_cases he : Maps.size D = ps.length
      · have HR : Hid (pb (ApartTo ps ps.length) = true) := pb_yes (hHas.out.2.2.2.1 he)
        have heI : (((Maps.size D : Nat) : Int) == (ps.length : Int)) = true := by simp [he]
        clear hHas hown h
        go_wp2
        go_ret
        exact ⟨by rw [HR.out]; simp [he], hB⟩
      · have HR : Hid (pb (ApartTo ps ps.length) = false) := pb_no (fun h1 => he (hHas.out.2.2.2.2 h1))
        have heI : (((Maps.size D : Nat) : Int) == (ps.length : Int)) = false := by simp; omega
        clear hHas hown h
        go_wp2
        go_ret
        exact ⟨by rw [HR.out]; simp, hB⟩

set_option maxRecDepth 100000 in
set_option maxHeartbeats 2000000 in
theorem iBase (x : DPlanBase) (ao0 : Option Addr) (cap0 : Nat) (ao1 : Option Addr) (cap1 : Nat) (w : World) (h0 : SliceAt vPlanKind (old w) w ao0 cap0 x.1) (h1 : SliceAt vPlanPoint (old w) w ao1 cap1 x.2) :
    Calls Tryz.prog 65 #[.agg #[.slice ao0 x.1.length cap0, .slice ao1 x.2.length cap1]] w fun e w' => e = .returned (.bool (pb (BaseOk x))) ∧ Below w.heap.size w w' := by
  obtain ⟨ks, ps⟩ := x
  simp only at *
  have hb0 : Below w.heap.size w (w.alloc (.cells #[.slice ao0 ks.length cap0, .slice ao1 ps.length cap1] 40)) := (Below.refl _ _).alloc (Nat.le_refl _) _
  go_enter Tryz.func65, Tryz.ntmps65
  go_wp2_with fail
  refine (list_PlanKind ao0 cap0 ks 6 _ (h0.later hb0) (by omega)).mono ?_
  rintro e w1 ⟨rfl, hb1⟩
  have hB1 := hb0.trans (hb1.mono hb0.size)
  have x1 := box_in hb1 1
  simp at x1
  have hz1 : w.heap.size < w1.heap.size := by have := hb1.size; simp at this; omega
  by_cases g1 : ks.length ≤ 6 ∧ RowTo KindOk (fun x : DPlanKind => x.1) ks ks.length
  · rw [pb_yes g1]
    have G1 : Hid (ks.length ≤ 6 ∧ RowTo KindOk (fun x : DPlanKind => x.1) ks ks.length) := g1
    clear g1
    go_wp2_with fail
    refine (list_PlanPoint ao1 cap1 ps 16 _ (h1.later hB1) (by omega)).mono ?_
    rintro e w2 ⟨rfl, hb2⟩
    have hB2 := hB1.trans (hb2.mono hB1.size)
    have x2 := (hb2.cell (p := ⟨w.heap.size, 1, none⟩) hz1).trans x1
    have hz2 : w.heap.size < w2.heap.size := by have := hb2.size; omega
    by_cases g2 : ps.length ≤ 16 ∧ RowTo PtOk (fun x : DPlanPoint => x.1) ps ps.length
    · rw [pb_yes g2]
      have G2 : Hid (ps.length ≤ 16 ∧ RowTo PtOk (fun x : DPlanPoint => x.1) ps ps.length) := g2
      clear g2 x1 hz1 hb1 hb2
      go_wp2_with fail
      refine (apart_any ao1 cap1 ps _ (h1.later hB2) (by have := G2.out.1; omega)).mono ?_
      rintro e w3 ⟨rfl, hb3⟩
      have hB3 := hB2.trans (hb3.mono hB2.size)
      have HR : Hid (pb (BaseOk (ks, ps)) = pb (ApartTo ps ps.length)) := pb_same ⟨fun h => h.2.2.2, fun h => ⟨⟨G1.out.1, G2.out.1⟩, G1.out.2, G2.out.2, h⟩⟩
      clear hb3 G1 G2
      go_wp2
      go_ret
      exact ⟨by rw [HR.out]; rfl, hB3⟩
    · rw [pb_no g2]
      have HR : Hid (pb (BaseOk (ks, ps)) = false) := pb_no (fun h => g2 ⟨h.1.2, h.2.2.1⟩)
      clear g2 G1 hb1 hb2
      go_wp2_with fail
      go_ret
      exact ⟨by rw [HR.out]; rfl, hB2⟩
  · rw [pb_no g1]
    have HR : Hid (pb (BaseOk (ks, ps)) = false) := pb_no (fun h => g1 ⟨h.1.1, h.2.1⟩)
    clear g1 hb1
    go_wp2_with fail
    go_ret
    exact ⟨by rw [HR.out]; rfl, hB1⟩

end Go.Proofs.YtgnjkpmbppmoeaaGreat

/- DERIVED. The two lists of a base of plans, as a law holds them. -/
namespace Go.Proofs.YtgnjkpmbppmoeaaGreat
open Go.RowKit
set_option linter.unusedSimpArgs false
set_option linter.unusedVariables false

structure BaseAt (w : World) (x : DPlanBase) (ao0 : Option Addr) (cap0 : Nat) (ao1 : Option Addr) (cap1 : Nat) : Prop where
  p0 : SliceAt vPlanKind (old w) w ao0 cap0 x.1
  p1 : SliceAt vPlanPoint (old w) w ao1 cap1 x.2
theorem BaseAt.later {w w' : World} {x : DPlanBase} {ao0 : Option Addr} {cap0 : Nat} {ao1 : Option Addr} {cap1 : Nat} (h : BaseAt w x ao0 cap0 ao1 cap1) (hb : Below w.heap.size w w') : BaseAt w' x ao0 cap0 ao1 cap1 := ⟨h.p0.later hb, h.p1.later hb⟩
theorem baseAt_of {w w' : World} {x : DPlanBase} {ao0 : Option Addr} {cap0 : Nat} {ao1 : Option Addr} {cap1 : Nat} (p0 : SliceAt vPlanKind (fresh w w') w' ao0 cap0 x.1) (p1 : SliceAt vPlanPoint (fresh w w') w' ao1 cap1 x.2) : BaseAt w' x ao0 cap0 ao1 cap1 :=
  ⟨p0.mono fresh_old, p1.mono fresh_old⟩

end Go.Proofs.YtgnjkpmbppmoeaaGreat
