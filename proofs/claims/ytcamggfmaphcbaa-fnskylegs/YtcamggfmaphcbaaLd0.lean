/- DERIVED. spec.DrawSkyLeg: it draws two cells (as far as the law needs it). -/
import Derived.Test.YtcamggfmaphcbaaRq1
import Derived.Test.YtcamggfmaphcbaaLw0
namespace Go.Proofs.Ytcamggfmaphcbaa
namespace Leg
open Go.RowKit
set_option linter.unusedSimpArgs false
set_option linter.unusedVariables false

theorem cell_of_heap8 {w : World} {b : Nat} {cs : Array Value} {t : TypeId} (h : w.heap[b]? = some (.cells cs t (0, 0))) (i : Nat) : w.cell? ⟨b, i, none⟩ = cs[i]? := by
  unfold World.cell?
  simp only [h]
  rfl
theorem free_of_heap8 {w : World} {b : Nat} {cs : Array Value} {t : TypeId} (h : w.heap[b]? = some (.cells cs t (0, 0))) (i : Nat) : w.frozen? ⟨b, i, none⟩ = false := by
  simp [World.frozen?, h]

set_option maxRecDepth 100000 in
set_option maxHeartbeats 2000000 in
theorem drawLeg (ao : Option Addr) (len cap : Nat) (w : World) (h : Code8 w ao len cap) :
    Calls Try.prog 5 #[.slice ao len cap] w fun e w' => ∃ a b : DCell, e = .returned (.tuple #[vCe a, vCe b]) ∧ Below w.heap.size w w' := by
  have hb0 : Below w.heap.size w ((w.alloc (.cells #[.int .i64 0, .int .i64 0] 24)).alloc (.cells #[.int .i64 0, .int .i64 0] 24)) := ((Below.refl _ _).alloc (Nat.le_refl _) _).alloc (by simp) _
  have h0 : Code8 ((w.alloc (.cells #[.int .i64 0, .int .i64 0] 24)).alloc (.cells #[.int .i64 0, .int .i64 0] 24)) ao len cap := ⟨h.1, h.2.1, fun i hi => by
    obtain ⟨b, off, z, h3, h4, h5⟩ := h.2.2 i hi
    have hlt : b < w.heap.size := World.block_lt_of_cell? w ⟨b, off + i, none⟩ h5
    exact ⟨b, off, z, h3, h4, (hb0.cell (p := ⟨b, off + i, none⟩) hlt).trans h5⟩⟩
  go_enter Try.func5, Try.ntmps5
  go_wp2_with fail
  refine (open_any ao len cap _ h0).mono ?_
  rintro e w1 ⟨rfl, hb1, hs1, m, hR1⟩
  simp only [World.size_alloc] at hR1 hs1 ⊢
  have hB1 := hb0.trans (hb1.mono (by simp; omega))
  have a1 : w1.heap[w.heap.size]? = some (.cells #[.int .i64 0, .int .i64 0] 24 (0, 0)) := (hb1.block _ (by simp; omega)).trans ((Below.heap_alloc _ _ _ (by simp)).trans (heap_alloc_new w _))
  have b1 : w1.heap[w.heap.size + 1]? = some (.cells #[.int .i64 0, .int .i64 0] 24 (0, 0)) := (hb1.block _ (by simp)).trans (by
    have h := heap_alloc_new (w.alloc (.cells #[.int .i64 0, .int .i64 0] 24)) (.cells #[.int .i64 0, .int .i64 0] 24)
    rwa [World.size_alloc] at h)
  clear h h0 hb0 hb1
  obtain ⟨rb, hrb⟩ : ∃ rb, rb = w.heap.size + 1 + 1 := ⟨_, rfl⟩
  rw [← hrb] at hR1 ⊢
  have n1 : w.heap.size ≠ rb := by omega
  have n2 : w.heap.size + 1 ≠ rb := by omega
  have hrbw : w.heap.size ≤ rb := by omega
  have hr1 : rb < w1.heap.size := by omega
  clear hrb hs1
  go_wp2_with fail
  refine (pick_any rb cap m 0 ao 16 _ hR1 (by omega) (by omega) (by omega)).mono ?_
  rintro e w2 ⟨q1, rfl, hq1, hR2, hg2⟩
  have a2 := (hg2.block _ (Array.getElem?_eq_some_iff.1 a1).1 (by simp; omega)).trans a1
  have b2 := (hg2.block _ (Array.getElem?_eq_some_iff.1 b1).1 (by simp; omega)).trans b1
  have hB2 := hB1.grown hg2 hB1.size (by intro k hk; cases hk; exact hrbw)
  have hr2 := Nat.lt_of_lt_of_le hr1 hg2.size
  clear hR1 hg2 hB1 a1 b1 hr1
  go_wp2_with fail
  refine (pick_any rb cap m 1 ao 16 _ hR2 (by omega) (by omega) (by omega)).mono ?_
  rintro e w3 ⟨q2, rfl, hq2, hR3, hg3⟩
  have a3 := (hg3.block _ (Array.getElem?_eq_some_iff.1 a2).1 (by simp; omega)).trans a2
  have b3 := (hg3.block _ (Array.getElem?_eq_some_iff.1 b2).1 (by simp; omega)).trans b2
  have hB3 := hB2.grown hg3 hB2.size (by intro k hk; cases hk; exact hrbw)
  have hr3 := Nat.lt_of_lt_of_le hr2 hg3.size
  clear hR2 hg3 hB2 a2 b2 hr2
  obtain ⟨w4, hw4⟩ : ∃ w4, w4 = w3.alloc (.cells #[.int .i64 q1, .int .i64 q2] 24) := ⟨_, rfl⟩
  have hb4 : Below w3.heap.size w3 w4 := by rw [hw4]; exact (Below.refl _ _).alloc (Nat.le_refl _) _
  have a4 := (hb4.block _ (Array.getElem?_eq_some_iff.1 a3).1).trans a3
  have b4 := (hb4.block _ (Array.getElem?_eq_some_iff.1 b3).1).trans b3
  have c4 : w4.heap[w3.heap.size]? = some (.cells #[.int .i64 q1, .int .i64 q2] 24 (0, 0)) := by rw [hw4]; exact heap_alloc_new w3 _
  have hR4 := hR3.other hb4
  have hB4 := hB3.trans (hb4.mono hB3.size)
  have hr4 := Nat.lt_of_lt_of_le hr3 hb4.size
  have n3 : w3.heap.size ≠ rb := by omega
  have m1 : w.heap.size ≠ w3.heap.size := by have := (Array.getElem?_eq_some_iff.1 a3).1; omega
  have m2 : w.heap.size + 1 ≠ w3.heap.size := by have := (Array.getElem?_eq_some_iff.1 b3).1; omega
  have m0 : w.heap.size ≤ w3.heap.size := hB3.size
  clear a3 b3 hR3 hB3 hb4 hr3
  go_wp2_with fail
  rw [← hw4]
  clear hw4
  refine (pick_any rb cap m 2 ao 16 _ hR4 (by omega) (by omega) (by omega)).mono ?_
  rintro e w5 ⟨q3, rfl, hq3, hR5, hg5⟩
  have a5 := (hg5.block _ (Array.getElem?_eq_some_iff.1 a4).1 (by simp; omega)).trans a4
  have b5 := (hg5.block _ (Array.getElem?_eq_some_iff.1 b4).1 (by simp; omega)).trans b4
  have c5 := (hg5.block _ (Array.getElem?_eq_some_iff.1 c4).1 (by simp; omega)).trans c4
  have hB5 := hB4.grown hg5 hB4.size (by intro k hk; cases hk; exact hrbw)
  have hr5 := Nat.lt_of_lt_of_le hr4 hg5.size
  clear hR4 hg5 hB4 a4 b4 c4 hr4
  go_wp2_with fail
  refine (pick_any rb cap m 3 ao 16 _ hR5 (by omega) (by omega) (by omega)).mono ?_
  rintro e w6 ⟨q4, rfl, hq4, hR6, hg6⟩
  have a6 := (hg6.block _ (Array.getElem?_eq_some_iff.1 a5).1 (by simp; omega)).trans a5
  have b6 := (hg6.block _ (Array.getElem?_eq_some_iff.1 b5).1 (by simp; omega)).trans b5
  have c6 := (hg6.block _ (Array.getElem?_eq_some_iff.1 c5).1 (by simp; omega)).trans c5
  have hB6 := hB5.grown hg6 hB5.size (by intro k hk; cases hk; exact hrbw)
  have hr6 := Nat.lt_of_lt_of_le hr5 hg6.size
  clear hR5 hg6 hB5 a5 b5 c5 hr5
  obtain ⟨w7, hw7⟩ : ∃ w7, w7 = w6.alloc (.cells #[.int .i64 q3, .int .i64 q4] 24) := ⟨_, rfl⟩
  have hb7 : Below w6.heap.size w6 w7 := by rw [hw7]; exact (Below.refl _ _).alloc (Nat.le_refl _) _
  have a7 := (hb7.block _ (Array.getElem?_eq_some_iff.1 a6).1).trans a6
  have b7 := (hb7.block _ (Array.getElem?_eq_some_iff.1 b6).1).trans b6
  have c7 := (hb7.block _ (Array.getElem?_eq_some_iff.1 c6).1).trans c6
  have d7 : w7.heap[w6.heap.size]? = some (.cells #[.int .i64 q3, .int .i64 q4] 24 (0, 0)) := by rw [hw7]; exact heap_alloc_new w6 _
  have hR7 := hR6.other hb7
  have hB7 := hB6.trans (hb7.mono hB6.size)
  have hr7 := Nat.lt_of_lt_of_le hr6 hb7.size
  have n4 : w6.heap.size ≠ rb := by omega
  have m3 : w.heap.size ≠ w6.heap.size := by have := (Array.getElem?_eq_some_iff.1 a6).1; omega
  have m4 : w.heap.size + 1 ≠ w6.heap.size := by have := (Array.getElem?_eq_some_iff.1 b6).1; omega
  have m5 : w3.heap.size ≠ w6.heap.size := by have := (Array.getElem?_eq_some_iff.1 c6).1; omega
  have m6 : w.heap.size ≤ w6.heap.size := hB6.size
  clear a6 b6 c6 hR6 hB6 hb7 hr6
  go_wp2_with fail
  rw [← hw7]
  clear hw7
  refine (pick_any rb cap m 4 ao 12 _ hR7 (by omega) (by omega) (by omega)).mono ?_
  rintro e w8 ⟨q5, rfl, hq5, hR8, hg8⟩
  have a8 := (hg8.block _ (Array.getElem?_eq_some_iff.1 a7).1 (by simp; omega)).trans a7
  have b8 := (hg8.block _ (Array.getElem?_eq_some_iff.1 b7).1 (by simp; omega)).trans b7
  have c8 := (hg8.block _ (Array.getElem?_eq_some_iff.1 c7).1 (by simp; omega)).trans c7
  have d8 := (hg8.block _ (Array.getElem?_eq_some_iff.1 d7).1 (by simp; omega)).trans d7
  have hB8 := hB7.grown hg8 hB7.size (by intro k hk; cases hk; exact hrbw)
  have hr8 := Nat.lt_of_lt_of_le hr7 hg8.size
  clear hR7 hg8 hB7 a7 b7 c7 d7 hr7
  by_cases h0 : q5 = 0
  · subst h0
    obtain ⟨w9, hw9⟩ : ∃ w9, w9 = w8.alloc (.cells #[.int .i64 (-1), .int .i64 16] 3) := ⟨_, rfl⟩
    have hb9 : Below w8.heap.size w8 w9 := by rw [hw9]; exact (Below.refl _ _).alloc (Nat.le_refl _) _
    have a9 := (hb9.block _ (Array.getElem?_eq_some_iff.1 a8).1).trans a8
    have b9 := (hb9.block _ (Array.getElem?_eq_some_iff.1 b8).1).trans b8
    have c9 := (hb9.block _ (Array.getElem?_eq_some_iff.1 c8).1).trans c8
    have d9 := (hb9.block _ (Array.getElem?_eq_some_iff.1 d8).1).trans d8
    have e9 : w9.heap[w8.heap.size]? = some (.cells #[.int .i64 (-1), .int .i64 16] 3 (0, 0)) := by rw [hw9]; exact heap_alloc_new w8 _
    have hR9 := hR8.other hb9
    have hB9 := hB8.trans (hb9.mono hB8.size)
    have hr9 := Nat.lt_of_lt_of_le hr8 hb9.size
    have n5 : w8.heap.size ≠ rb := by omega
    have l3 : w8.heap.size ≠ w6.heap.size := by have := (Array.getElem?_eq_some_iff.1 d8).1; omega
    clear a8 b8 c8 d8 hR8 hB8 hb9 hr8
    go_wp2_with fail
    rw [← hw9]
    clear hw9
    refine (pick_any rb cap m 5 ao 2 _ hR9 (by omega) (by omega) (by omega)).mono ?_
    rintro e w10 ⟨q6, rfl, hq6, hR10, hg10⟩
    have a10 := (hg10.block _ (Array.getElem?_eq_some_iff.1 a9).1 (by simp; omega)).trans a9
    have b10 := (hg10.block _ (Array.getElem?_eq_some_iff.1 b9).1 (by simp; omega)).trans b9
    have c10 := (hg10.block _ (Array.getElem?_eq_some_iff.1 c9).1 (by simp; omega)).trans c9
    have d10 := (hg10.block _ (Array.getElem?_eq_some_iff.1 d9).1 (by simp; omega)).trans d9
    have e10 := (hg10.block _ (Array.getElem?_eq_some_iff.1 e9).1 (by simp; omega)).trans e9
    have hB10 := hB9.grown hg10 hB9.size (by intro k hk; cases hk; exact hrbw)
    clear hR9 hg10 hB9 a9 b9 c9 d9 e9 hr9 hR10
    have y0 := cell_of_heap8 e10 0
    have y1 := cell_of_heap8 e10 1
    have x0 := cell_of_heap8 d10 0
    have f0 := free_of_heap8 d10 0
    simp at y0 y1 x0
    obtain ⟨vx, yv⟩ : ∃ vx : Int, w10.cell? ⟨w8.heap.size, q6, none⟩ = some (.int .i64 vx) := by
      have hq : q6 = 0 ∨ q6 = 1 := by omega
      rcases hq with rfl | rfl
      · exact ⟨_, y0⟩
      · exact ⟨_, y1⟩
    have hq6I : (q6 : Int) < 2 := by omega
    have a11 := (Below.heap_setCell w10 ⟨w6.heap.size, 0, none⟩ (.int .i64 vx) w.heap.size m3).trans a10
    have b11 := (Below.heap_setCell w10 ⟨w6.heap.size, 0, none⟩ (.int .i64 vx) (w.heap.size + 1) m4).trans b10
    have c11 := (Below.heap_setCell w10 ⟨w6.heap.size, 0, none⟩ (.int .i64 vx) w3.heap.size m5).trans c10
    have d11 := heap_setCell_same w10 w6.heap.size 0 _ 24 (.int .i64 vx) d10
    have hB11 := hB10.setCell (p := ⟨w6.heap.size, 0, none⟩) m6 (.int .i64 vx)
    simp at d11
    clear y0 y1 e10 a10 b10 c10 d10
    go_wp2_with fail
    obtain ⟨w11, hw11⟩ : ∃ w11, w11 = w10.setCell ⟨w6.heap.size, 0, none⟩ (.int .i64 vx) := ⟨_, rfl⟩
    rw [← hw11] at a11 b11 c11 d11 hB11 ⊢
    clear hw11 yv x0 f0 hB10
    have u0 := cell_of_heap8 c11 0
    have u1 := cell_of_heap8 c11 1
    have v0 := cell_of_heap8 d11 0
    have v1 := cell_of_heap8 d11 1
    have s0 := cell_of_heap8 a11 0
    have s1 := cell_of_heap8 a11 1
    have t0 := cell_of_heap8 b11 0
    have t1 := cell_of_heap8 b11 1
    have fs0 := free_of_heap8 a11 0
    have fs1 := free_of_heap8 a11 1
    have ft0 := free_of_heap8 b11 0
    have ft1 := free_of_heap8 b11 1
    simp at u0 u1 v0 v1 s0 s1 t0 t1
    clear a11 b11 c11 d11
    go_wp2_with fail
    go_region
    all_goals
      go_wp2
      refine bodyPost_ret (v := .tuple #[.agg #[.int .i64 q1, .int .i64 q2], .agg #[.int .i64 vx, .int .i64 q4]]) (by simp [results, Try.results5, go_sem, s0, s1, t0, t1]) rfl ⟨((q1 : Int), (q2 : Int)), (vx, (q4 : Int)), rfl, ?_⟩
      repeat (first | refine Below.setCell ?_ (by simp; try omega) _ | refine Below.drew ?_ | exact hB11)
  · have h0b : ((q5 : Int) == 0) = false := by simp; omega
    clear hR8
    have u0 := cell_of_heap8 c8 0
    have u1 := cell_of_heap8 c8 1
    have v0 := cell_of_heap8 d8 0
    have v1 := cell_of_heap8 d8 1
    have s0 := cell_of_heap8 a8 0
    have s1 := cell_of_heap8 a8 1
    have t0 := cell_of_heap8 b8 0
    have t1 := cell_of_heap8 b8 1
    have fs0 := free_of_heap8 a8 0
    have fs1 := free_of_heap8 a8 1
    have ft0 := free_of_heap8 b8 0
    have ft1 := free_of_heap8 b8 1
    simp at u0 u1 v0 v1 s0 s1 t0 t1
    clear a8 b8 c8 d8
    go_wp2_with fail
    go_region
    all_goals
      go_wp2
      refine bodyPost_ret (v := .tuple #[.agg #[.int .i64 q1, .int .i64 q2], .agg #[.int .i64 (q3 : Int), .int .i64 q4]]) (by simp [results, Try.results5, go_sem, s0, s1, t0, t1]) rfl ⟨((q1 : Int), (q2 : Int)), ((q3 : Int), (q4 : Int)), rfl, ?_⟩
      repeat (first | refine Below.setCell ?_ (by simp; try omega) _ | refine Below.drew ?_ | exact hB8)

end Leg
end Go.Proofs.Ytcamggfmaphcbaa
