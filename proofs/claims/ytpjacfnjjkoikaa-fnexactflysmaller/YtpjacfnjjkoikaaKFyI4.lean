/- DERIVED. (impl.FlyPath).stepsFollow: its walk. -/
import Derived.Test.YtpjacfnjjkoikaaKGIa
import Derived.Test.YtpjacfnjjkoikaaKFyI3
import Derived.Shelf.Abstract
import Derived.Maps.AppendAt
namespace Go.Proofs.Ytpjacfnjjkoikaa
namespace Fly
open Go.RowKit Go.Shelf
set_option linter.unusedSimpArgs false
set_option linter.unusedVariables false
attribute [local go_sem] Oper.semAt_some

theorem prs_mem {l : List DFlyStep} {x : DFlyStep × DFlyStep} (h : x ∈ prs l) : ∃ j, ∃ hj : j + 1 < l.length, x = (l[j], l[j + 1]) := by
  obtain ⟨j, hj, rfl⟩ := List.getElem_of_mem h
  rw [prs_len] at hj
  exact ⟨j, by omega, prs_at l j (by omega)⟩
theorem prs_all {l : List DFlyStep} (h : ∀ x ∈ prs l, StepBy x.1 x.2) : AllBy l := fun j hj => by
  have h1 : (l[j], l[j + 1]) ∈ prs l := by
    rw [← prs_at l j hj]
    exact List.getElem_mem _
  exact h _ h1
theorem pre_mem {α : Type} {pre xs : List α} {x : α} (h : pre ++ [x] <+: xs) : x ∈ xs := h.subset (by simp)

theorem twoFn (ao : Option Addr) (cap n : Nat) (w : World) :
    Calls Try.prog 92 #[.slice ao n cap] w fun e w' => e = .returned (.func (.func 96) #[] #[.pointer (some ⟨w.heap.size, 0, none⟩)]) ∧ w' = w.alloc (.cells #[.slice ao n cap] 32) := by
  go_enter Try.func92, Try.ntmps92
  go_wp2
  go_ret
  exact ⟨rfl, rfl⟩

/-- A box of a step's seven cells. -/
def BoxS (W : World) (B : Nat) (s : DFlyStep) : Prop := W.heap[B]? = some (.cells (cSt s) 76 (0, 0))
theorem cells_own (B : Nat) (cs : Array Value) (t : TypeId) {β : Type} : Own (fun (_ : β) W => W.heap[B]? = some (.cells cs t (0, 0))) := fun s X Y row hs hg hrow =>
  (hg.block B (Array.getElem?_eq_some_iff.1 hs).1 (fun e' => by obtain ⟨o, ho, hc⟩ := hrow B e'.symm; rw [hs] at ho; cases ho; cases hc)).trans hs
theorem BoxS.cell {W : World} {B : Nat} {s : DFlyStep} (h : BoxS W B s) (i : Nat) : W.cell? ⟨B, i, none⟩ = (cSt s)[i]? := by simp [World.cell?, show W.heap[B]? = _ from h]

set_option maxRecDepth 100000 in
set_option maxHeartbeats 4000000 in
theorem iStepsFollow (ao : Option Addr) (cap : Nat) (l : List DFlyStep) (a b c d : Value) (w : World) (h : SliceAt vFlyStep (old w) w ao cap l) (hok : AllOk l) :
    Calls Try.prog 79 #[.agg #[a, b, .slice ao l.length cap, c, d]] w fun e w' => e = .returned (.bool (pb (AllBy l))) ∧ Below w.heap.size w w' := by
  refine (callsIn_wide (n := 6)).1 ?_
  have HC := fun W => callsIn_wide (n := 5) |>.2 (twoFn ao cap l.length W)
  refine callsIn_of_wp_marks Try.func79 rfl trivial ?_ rfl
  simp only [Try.ntmps79, List.size_toArray, List.length_cons, List.length_nil, Nat.reduceAdd, Nat.reduceSub, Array.replicate_succ, Array.replicate_zero, List.push_toArray, List.append_toArray, List.nil_append, List.cons_append]
  gi_wp2_with fail
  refine ⟨trivial, (HC _).mono ?_⟩
  rintro e w4 ⟨rfl, rfl⟩
  clear HC
  gi_wp2
  obtain ⟨W0, hW0⟩ : ∃ W0, (((w.alloc (.cells #[a, b, .slice ao l.length cap, c, d] 34)).alloc (.cells #[.bool false] 4)).alloc (.cells #[.slice ao l.length cap] 32)) = W0 := ⟨_, rfl⟩
  have hsz : W0.heap.size = w.heap.size + 3 := by rw [← hW0]; simp
  have hB0 : Below w.heap.size w W0 := by rw [← hW0]; exact (((Below.refl _ w).alloc (Nat.le_refl _) _).alloc (by simp) _).alloc (by simp; omega) _
  have bR : Boxed W0 (w.heap.size + 1) 4 (.bool false) := by
    have h := ((Boxed.new (w.alloc (.cells #[a, b, .slice ao l.length cap, c, d] 34)) 4 (.bool false)).alloc (.cells #[.slice ao l.length cap] 32))
    rw [World.size_alloc] at h
    rwa [hW0] at h
  have bS : W0.cell? ⟨w.heap.size + 2, 0, none⟩ = some (.slice ao l.length cap) := by
    have h := Boxed.new ((w.alloc (.cells #[a, b, .slice ao l.length cap, c, d] 34)).alloc (.cells #[.bool false] 4)) 32 (.slice ao l.length cap)
    rw [World.size_alloc, World.size_alloc, hW0] at h
    exact h.cell
  rw [hW0]
  clear hW0
  have hS0 : SliceAt vFlyStep (fun b => b < w.heap.size + 3 ∧ b ≠ w.heap.size + 1) W0 ao cap l := (h.stays (fun b hb => hB0.block b hb)).mono (fun b (hb : b < w.heap.size) => ⟨by omega, by omega⟩)
  refine rangeK rfl (by omega) (gf := 96) (lb := #[.pointer (some ⟨w.heap.size + 2, 0, none⟩)]) rfl trivial (enters_of Try.func96 (by kernel_rfl) rfl)
    (two_seq 5 (w.heap.size + 2) (fun b => b < w.heap.size + 3 ∧ b ≠ w.heap.size + 1) ao cap l W0 (by omega) (fun b hb => by have := hb.1; omega) ⟨by omega, by omega⟩ bS hS0) KpX.trans (KpX.put _ (fun b hb => by have := hb.1; omega)) (Below.refl _ _) (fun _ => rfl)
    (fun pre W => Boxed W (w.heap.size + 1) 4 (.bool false) ∧ Below w.heap.size w W ∧ w.heap.size + 3 ≤ W.heap.size ∧ ∀ x ∈ pre, StepBy x.1 x.2)
    (fun c pre W => Boxed W (w.heap.size + 1) 4 (.bool false) ∧ Below w.heap.size w W ∧ w.heap.size + 3 ≤ W.heap.size ∧ c = .ret ∧ ∃ x ∈ pre, ¬ StepBy x.1 x.2)
    (OwnFrom.and (Own.from (cells_own _ _ _) _) (OwnFrom.and (ownFrom_below (Nat.le_refl _) (by omega)) (OwnFrom.and (fun _ _ _ _ hs hg _ => Nat.le_trans hs hg.size) (fun _ _ _ _ hs _ _ => hs))))
    (fun c => OwnFrom.and (Own.from (cells_own _ _ _) _) (OwnFrom.and (ownFrom_below (Nat.le_refl _) (by omega)) (OwnFrom.and (fun _ _ _ _ hs hg _ => Nat.le_trans hs hg.size) (fun _ _ _ _ hs _ _ => hs))))
    ⟨bR, hB0, by omega, by simp⟩
    (fun x a' W => ∃ B1 B2, w.heap.size + 3 ≤ B1 ∧ w.heap.size + 3 ≤ B2 ∧ BoxS W B1 x.1 ∧ BoxS W B2 x.2 ∧ a' = { tmps := #[.agg #[a, b, .slice ao l.length cap, c, d], .pointer (some ⟨w.heap.size, 0, none⟩), .pointer (some ⟨w.heap.size + 1, 0, none⟩), .pointer (some ⟨B1, 0, none⟩), .pointer (some ⟨B2, 0, none⟩), .pointer (some ⟨w.heap.size, 2, none⟩), .slice ao l.length cap, .func (.func 96) #[] #[.pointer (some ⟨w.heap.size + 2, 0, none⟩)], vSt x.1, vSt x.2, undef, undef, undef, undef], defers := [] })
    (fun x a' _ X Y row hs hg hr => by obtain ⟨B1, B2, h1, h2, h3, h4, h5⟩ := hs; exact ⟨B1, B2, h1, h2, cells_own B1 _ _ () X Y row h3 hg (fun r e => (hr r e).2), cells_own B2 _ _ () X Y row h4 hg (fun r e => (hr r e).2), h5⟩)
    ?assign ?body ?done ?stop
  case assign =>
    rintro lp pre ⟨s, s'⟩ W K ⟨bV, hB1, hs1, hall⟩ hK
    obtain ⟨x, y, lo, hi, fr, up, hd⟩ := s
    obtain ⟨x', y', lo', hi', fr', up', hd'⟩ := s'
    simp only [prE, vSt, cSt]
    gi_wp2
    refine hK _ _ (((KeepsOthers.alloc _ _).trans (KeepsOthers.alloc _ _)).from _) (KpX.of_below (((Below.refl W.heap.size W).alloc (Nat.le_refl _) _).alloc (by simp) _) (fun b hb => by have := hb.1; omega))
      ⟨(bV.alloc _).alloc _, (hB1.alloc hB1.size _).alloc (by simp; omega) _, by simp; omega, hall⟩ ⟨W.heap.size, W.heap.size + 1, by omega, by omega, (Below.heap_alloc _ _ _ (by simp)).trans (World.alloc_heap_new W _), ?_, rfl⟩
    have h := World.alloc_heap_new (W.alloc (.cells #[.int .i64 x, .int .i64 y, .int .i64 lo, .int .i64 hi, .int .i64 fr, .int .i64 up, .bool hd] 76)) (.cells #[.int .i64 x', .int .i64 y', .int .i64 lo', .int .i64 hi', .int .i64 fr', .int .i64 up', .bool hd'] 76)
    rwa [World.size_alloc] at h
  case body =>
    rintro lp pre ⟨s, s'⟩ a' W hl ⟨r, hr⟩ ⟨bV, hB1, hs1, hall⟩ ⟨B1, B2, hB1n, hB2n, b1, b2, rfl⟩ hpre
    obtain ⟨j, hj, hx⟩ := prs_mem (pre_mem hpre)
    have hs1k : StepOk s := by
      have h1 := hok j (by omega)
      have : s = l[j] := congrArg Prod.fst hx
      rw [this]; exact h1
    have hs2k : StepOk s' := by
      have h1 := hok (j + 1) hj
      have : s' = l[j + 1] := congrArg Prod.snd hx
      rw [this]; exact h1
    have HF := fun W => iFollows s s' W hs1k hs2k
    simp only at b1 b2
    have p0 := b1.cell 0
    have p1 := b1.cell 1
    have p2 := b1.cell 2
    have p3 := b1.cell 3
    have p4 := b1.cell 4
    have p5 := b1.cell 5
    have p6 := b1.cell 6
    have q0 := b2.cell 0
    have q1 := b2.cell 1
    have q2 := b2.cell 2
    have q3 := b2.cell 3
    have q4 := b2.cell 4
    have q5 := b2.cell 5
    have q6 := b2.cell 6
    clear hx hj hs1k hs2k h hS0
    have HV : Hid (pb (StepBy s s') = true ↔ StepBy s s') := pb_iff
    generalize pb (StepBy s s') = v at *
    obtain ⟨x, y, lo, hi, fr, up, hd⟩ := s
    obtain ⟨x', y', lo', hi', fr', up', hd'⟩ := s'
    simp [cSt] at p0 p1 p2 p3 p4 p5 p6 q0 q1 q2 q3 q4 q5 q6
    simp only [vSt, cSt] at HF ⊢
    gi_wp2_with fail
    refine ⟨trivial, (CallsIn.inRound lp (callsIn_wide.2 (HF _))).mono ?_⟩
    rintro e w1 ⟨rfl, hb1⟩
    have hG := grown_of_below hb1
    have bV1 := bV.kept hG (by simp)
    have hK1 : KeepsFrom W0.heap.size W w1 := KeepsFrom.of_grownBy hG (fun j e => by cases e)
    have hX1 : KpX (fun b => b < w.heap.size + 3 ∧ b ≠ w.heap.size + 1) W w1 := KpX.of_below hb1 (fun b hb => by have := hb.1; omega)
    have hB2 : Below w.heap.size w w1 := hB1.trans (hb1.mono hB1.size)
    have hs2 : w.heap.size + 3 ≤ w1.heap.size := Nat.le_trans hs1 hb1.size
    have hc := bV1.cell
    have hf := bV1.frozen
    clear hb1 hG bV hB1 p0 p1 p2 p3 p4 p5 p6 q0 q1 q2 q3 q4 q5 q6 b1 b2
    cases v
    · have HN : Hid (¬ StepBy (x, y, lo, hi, fr, up, hd) (x', y', lo', hi', fr', up', hd')) := fun h => by have := HV.out.2 h; cases this
      clear HV
      gi_wp2
      exact ⟨hK1.trans ((KeepsOthers.setCell _ _ _).from _), hX1.trans ⟨by simp, fun b hb => Below.heap_setCell w1 ⟨w.heap.size + 1, 0, none⟩ _ b hb.2⟩, bV1.set _, hB2.setCell (p := ⟨w.heap.size + 1, 0, none⟩) (by simp) _, by simpa using hs2, rfl, _, List.mem_append_right _ (List.mem_singleton.2 rfl), HN.out⟩
    · have HN : Hid (StepBy (x, y, lo, hi, fr, up, hd) (x', y', lo', hi', fr', up', hd')) := HV.out.1 rfl
      clear HV
      gi_wp2
      refine ⟨hK1, hX1, bV1, hB2, hs2, fun z hz => ?_⟩
      rcases List.mem_append.1 hz with hz | hz
      · exact hall z hz
      · obtain rfl := List.mem_singleton.1 hz
        exact HN.out
  case done =>
    rintro D W hD ⟨bV, hB1, hs1, hall⟩ hK
    have HR : Hid (pb (AllBy l) = true) := pb_yes (prs_all hall)
    have hc := bV.cell
    have hf := bV.frozen
    have hK2 := (KeepsOthers.setCell W ⟨w.heap.size + 1, 0, none⟩ (.bool true)).same D _ hK rfl
    have bV2 := bV.set (.bool true)
    have hB2 : Below w.heap.size w (W.setCell ⟨w.heap.size + 1, 0, none⟩ (.bool true)) := hB1.setCell (p := ⟨w.heap.size + 1, 0, none⟩) (by simp) _
    clear hall hK bV hB1 h hS0
    gi_wp2
    refine ⟨by simp, .inl ⟨_, _, rfl, run_takeDeferred hK2, ?_⟩⟩
    have bV3 : Boxed ((W.setCell ⟨w.heap.size + 1, 0, none⟩ (.bool true)).putObj D (.deferred none)) (w.heap.size + 1) 4 (.bool true) := (World.putObj_heap_other (by omega)).trans bV2
    have hc4 := bV3.cell
    refine ⟨.bool true, ?_, by rw [HR.out], hB2.trans (belowK_b (w := w) (Nat.le_refl _) _ D _ _ (by omega) hK2 rfl rfl)⟩
    simp [results, Try.results79, go_sem, hc4]
  case stop =>
    rintro D c pre W hD hpre ⟨bV, hB1, hs1, rfl, x, hx, hnx⟩ hK
    have HR : Hid (pb (AllBy l) = false) := pb_no (fun h => by
      obtain ⟨j, hj, e⟩ := prs_mem (hpre.subset hx)
      apply hnx
      rw [e]
      exact h j hj)
    clear h hS0
    gi_wp2
    refine ⟨by simp, .inl ⟨_, _, rfl, run_takeDeferred hK, ?_⟩⟩
    have bV3 : Boxed (W.putObj D (.deferred none)) (w.heap.size + 1) 4 (.bool false) := (World.putObj_heap_other (by omega)).trans bV
    have hc4 := bV3.cell
    refine ⟨.bool false, ?_, by rw [HR.out], hB1.trans (belowK_b (w := w) (Nat.le_refl _) _ D _ _ (by omega) hK rfl rfl)⟩
    simp [results, Try.results79, go_sem, hc4]

end Fly
end Go.Proofs.Ytpjacfnjjkoikaa
