/-
  For every two cells, laws.FnExactSkyLeg returns true, and both read behind the call as they read before: impl.SkyLeg answers as the specification's SkyLeg does, its answer is new memory, and a second call does not write into it.
  No condition of ours: the statement as given (Rows.FnExactSkyLegSaid).
-/
import Derived.Test.YtcamggfmaphcbaaLw0
import Derived.ProofKit
import Derived.OpenShut
import Derived.ChangeOld
namespace Go.Proofs.Ytcamggfmaphcbaa
namespace Leg
open Go.ChangeShapes Go.WideShapes Go.ChangeAt Go.RowKit
set_option linter.unusedVariables false
set_option linter.unusedSimpArgs false

theorem markAny (B : Nat) (ao : Option Addr) (cap : Nat) (l : List DCell) (w : World) (hn : l.length ≤ 1000000000000) (hB : B ≤ w.heap.size) (h : w.ownsRow B 24 2 (.slice ao l.length cap) l.length (cellVals l)) :
    Calls Try.prog 13 #[.slice ao l.length cap, .int .i64 1] w fun e w' => e = .returned (.int .i64 (1 + 2 * (l.length : Int))) ∧ Below B w w' ∧ w'.ownsRow B 24 2 (.slice ao l.length cap) l.length (cellVals (marksC 1 l.length)) := by
  rcases h.2 with ⟨h1, h0⟩ | ⟨g, c, cur, h1, _⟩
  · obtain rfl : l = [] := List.eq_nil_of_length_eq_zero h0
    refine (markCells_none ao cap 1 w).mono ?_
    rintro e w' ⟨rfl, rfl⟩
    exact ⟨rfl, Below.refl _ _, h⟩
  · obtain ⟨rfl, rfl⟩ : ao = some ⟨g, 0, none⟩ ∧ cap = c := by
      injection h1 with a b c
      exact ⟨a, c⟩
    refine (markCells g cap B 1 l w hn (by omega) hB h).mono ?_
    rintro e w' ⟨rfl, h2, h3⟩
    exact ⟨by simp, h2, h3⟩
theorem heldAny (B : Nat) (ao : Option Addr) (cap n : Nat) (w : World) (hn : n ≤ 1000000000000) (h : w.ownsRow B 24 2 (.slice ao n cap) n (cellVals (marksC 1 n))) :
    Calls Try.prog 14 #[.slice ao n cap, .int .i64 1] w fun e w' => e = .returned (.int .i64 (1 + 2 * (n : Int))) ∧ w = w' := by
  rcases h.2 with ⟨h1, h0⟩ | ⟨g, c, cur, h1, _⟩
  · subst h0
    refine (heldCells_none ao cap 1 w).mono ?_
    rintro e w' ⟨rfl, rfl⟩
    exact ⟨rfl, rfl⟩
  · obtain ⟨rfl, rfl⟩ : ao = some ⟨g, 0, none⟩ ∧ cap = c := by
      injection h1 with a b c
      exact ⟨a, c⟩
    refine (heldCells g cap 1 n w hn (by omega) (fun i hi => ?_)).mono ?_
    · have hl : i < (marksC 1 n).length := by rw [marksC_len]; exact hi
      obtain ⟨e1, e2⟩ := owned_cell h i hl
      have e3 : (marksC 1 n)[i]'hl = (((1 + 2 * i : Nat) : Int), ((1 + 2 * i + 1 : Nat) : Int)) := by simp [marksC]
      rw [e3] at e1 e2
      exact ⟨e1, e2⟩
    · rintro e w' ⟨rfl, rfl⟩
      exact ⟨by simp, rfl⟩

set_option maxHeartbeats 2000000 in
set_option maxRecDepth 100000 in
theorem law_any (a b : DCell) (w : World) :
    Calls Try.prog 4 #[vCe a, vCe b] w fun e w' => e = .returned (.bool true) ∧ Below w.heap.size w w' := by
  have hlen : (legOf a b).length ≤ 16 := by
    unfold legOf
    split
    · rename_i h
      have h1 := steps_le h.1 h.2
      have h2 := steps_comm a b
      split
      · rw [legUp_len]; omega
      · rw [List.length_reverse, legUp_len]; omega
    · simp
  have HP := fun W => toCell a W
  have HQ := fun W => toCell b W
  have HS := fun W => sLeg a b W
  have HI := fun W => iLeg a b W
  generalize legOf a b = L at *
  obtain ⟨x, y⟩ := a
  obtain ⟨x', y'⟩ := b
  simp only [vCe] at *
  obtain ⟨w0, hw0⟩ : ∃ w0, w0 = ((w.alloc (.cells #[.int .i64 x, .int .i64 y] 33)).alloc (.cells #[.int .i64 x', .int .i64 y'] 33)) := ⟨_, rfl⟩
  have hb0 : Below w.heap.size w w0 := by rw [hw0]; exact ((Below.refl _ _).alloc (Nat.le_refl _) _).alloc (by simp) _
  have hsz : Hid (w0.heap.size = w.heap.size + 2) := by rw [hw0]; show _ = _; simp
  have HC0 : BoxL w.heap.size (x, y) (x', y') w0.drew := by rw [hw0]; exact ⟨by go_simp, by go_simp, by go_simp, by go_simp⟩
  go_enter Try.func4, Try.ntmps4
  go_wp2_with fail
  rw [← hw0]
  clear hw0
  have hbd := hb0.drew
  have hle : w.heap.size + 2 ≤ w0.drew.heap.size := by have := hsz.out; simp; omega
  clear hb0 hsz
  refine wp_region_RC (BoxL w.heap.size (x, y) (x', y')) mixedS ?_
  refine RC.take (i := 0) (v := ?v00) rfl (by kernel_rfl) (by kernel_rfl) (by kernel_rfl) (fun _ _ _ h => h) HC0 (by rfl) ?y00 ?r00
  case y00 => (intro W hW; obtain ⟨c0, c1, c2, c3⟩ := hW; go_simp; try with_reducible rfl)
  refine RC.take (i := 2) (v := ?v02) rfl (by kernel_rfl) (by kernel_rfl) (by kernel_rfl) (fun _ _ _ h => h) HC0 (by rfl) ?y02 ?r02
  case y02 => (intro W hW; obtain ⟨c0, c1, c2, c3⟩ := hW; go_simp; try with_reducible rfl)
  refine RC.want (i := 1) (by kernel_rfl) rfl (by rfl) (fun K hK => ?_)
  go_simp
  refine (HP _).mono ?_
  rintro e w00 ⟨rfl, hc⟩
  simp only
  have HC1 := HC0.below hc hle
  have hle1 : w.heap.size + 2 ≤ w00.heap.size := Nat.le_trans hle hc.size
  have hbe := hbd.trans (hc.mono (by omega))
  clear hc HC0 hle hbd
  refine hK _ _ HC1 ?_
  clear hK K
  have HC0 := HC1
  have hle := hle1
  have hbd := hbe
  clear HC1 hle1 hbe
  refine RC.want (i := 3) (by kernel_rfl) rfl (by rfl) (fun K hK => ?_)
  go_simp
  refine (HQ _).mono ?_
  rintro e w01 ⟨rfl, hc⟩
  simp only
  have HC1 := HC0.below hc hle
  have hle1 : w.heap.size + 2 ≤ w01.heap.size := Nat.le_trans hle hc.size
  have hbe := hbd.trans (hc.mono (by omega))
  clear hc HC0 hle hbd
  refine hK _ _ HC1 ?_
  clear hK K
  have HC0 := HC1
  have hle := hle1
  have hbd := hbe
  clear HC1 hle1 hbe
  refine RC.want (i := 4) (by kernel_rfl) rfl (by rfl) (fun K hK => ?_)
  go_simp
  refine (HS _).mono ?_
  rintro e w02 ⟨v0, rfl, hO0, hc⟩
  simp only
  have HC1 := HC0.below hc hle
  have hle1 : w.heap.size + 2 ≤ w02.heap.size := Nat.le_trans hle hc.size
  have hbe := hbd.trans (hc.mono (by omega))
  have hbs0 : w01.heap.size ≤ w02.heap.size := hc.size
  clear hc HC0 hle hbd
  refine hK _ _ HC1 ?_
  clear hK K
  have HC0 := HC1
  have hle := hle1
  have hbd := hbe
  clear HC1 hle1 hbe
  refine RC.take (i := 5) (v := ?v05) rfl (by kernel_rfl) (by kernel_rfl) (by kernel_rfl) (fun _ _ _ h => h) HC0 (by rfl) ?y05 ?r05
  case y05 => (intro W hW; go_simp; try with_reducible rfl)
  refine RC.done (by kernel_rfl) ?_
  obtain ⟨ao0, cap0, rfl, hA0, hm0, hg0, _⟩ := cells_of_owned hO0
  go_wp2_with fail
  have HC1 := HC0.below ((Below.refl (w.heap.size + 2) _).drew) (Nat.le_refl _)
  have hbe := hbd.drew
  have hle1 : w.heap.size + 2 ≤ (w02).drew.heap.size := hle
  have hA0 := hA0.later ((Below.refl _ _).drew)
  clear HC0 hbd hle
  have HC0 := HC1
  have hle := hle1
  have hbd := hbe
  clear HC1 hle1 hbe
  refine wp_region_RC (BoxL w.heap.size (x, y) (x', y')) mixedS ?_
  refine RC.take (i := 0) (v := ?v10) rfl (by kernel_rfl) (by kernel_rfl) (by kernel_rfl) (fun _ _ _ h => h) HC0 (by rfl) ?y10 ?r10
  case y10 => (intro W hW; obtain ⟨c0, c1, c2, c3⟩ := hW; go_simp; try with_reducible rfl)
  refine RC.take (i := 2) (v := ?v12) rfl (by kernel_rfl) (by kernel_rfl) (by kernel_rfl) (fun _ _ _ h => h) HC0 (by rfl) ?y12 ?r12
  case y12 => (intro W hW; obtain ⟨c0, c1, c2, c3⟩ := hW; go_simp; try with_reducible rfl)
  refine RC.want (i := 1) (by kernel_rfl) rfl (by rfl) (fun K hK => ?_)
  go_simp
  refine (HP _).mono ?_
  rintro e w10 ⟨rfl, hc⟩
  simp only
  have hs10 : w02.heap.size ≤ w10.heap.size := hc.size
  have HC1 := HC0.below hc hle
  have hle1 : w.heap.size + 2 ≤ w10.heap.size := Nat.le_trans hle hc.size
  have hbe := hbd.trans (hc.mono (by omega))
  have hA0 := hA0.later hc
  clear hc HC0 hle hbd
  refine hK _ _ HC1 ?_
  clear hK K
  have HC0 := HC1
  have hle := hle1
  have hbd := hbe
  clear HC1 hle1 hbe
  refine RC.want (i := 3) (by kernel_rfl) rfl (by rfl) (fun K hK => ?_)
  go_simp
  refine (HQ _).mono ?_
  rintro e w11 ⟨rfl, hc⟩
  simp only
  have hs11 : w10.heap.size ≤ w11.heap.size := hc.size
  have HC1 := HC0.below hc hle
  have hle1 : w.heap.size + 2 ≤ w11.heap.size := Nat.le_trans hle hc.size
  have hbe := hbd.trans (hc.mono (by omega))
  have hA0 := hA0.later hc
  clear hc HC0 hle hbd
  refine hK _ _ HC1 ?_
  clear hK K
  have HC0 := HC1
  have hle := hle1
  have hbd := hbe
  clear HC1 hle1 hbe
  refine RC.want (i := 4) (by kernel_rfl) rfl (by rfl) (fun K hK => ?_)
  go_simp
  refine (HI _).mono ?_
  rintro e w12 ⟨v1, rfl, hO1, hc⟩
  simp only
  have hz11a := hle
  have HC1 := HC0.below hc hle
  have hle1 : w.heap.size + 2 ≤ w12.heap.size := Nat.le_trans hle hc.size
  have hbe := hbd.trans (hc.mono (by omega))
  have hbs1 : w11.heap.size ≤ w12.heap.size := hc.size
  have hA0 := hA0.later hc
  clear hc HC0 hle hbd
  refine hK _ _ HC1 ?_
  clear hK K
  have HC0 := HC1
  have hle := hle1
  have hbd := hbe
  clear HC1 hle1 hbe
  refine RC.take (i := 5) (v := ?v15) rfl (by kernel_rfl) (by kernel_rfl) (by kernel_rfl) (fun _ _ _ h => h) HC0 (by rfl) ?y15 ?r15
  case y15 => (intro W hW; go_simp; try with_reducible rfl)
  refine RC.done (by kernel_rfl) ?_
  have hz11 : w.heap.size + 2 ≤ w11.heap.size := hz11a
  obtain ⟨ao1, cap1, rfl, hA1, hm1, hg1, _⟩ := cells_of_owned hO1
  have hlt0 : ∀ g, ao0 = some ⟨g, 0, none⟩ → g < w11.heap.size := fun g hg => by
    have h1 := (hg0 g hg).2
    have h2 : w02.heap.size ≤ w11.heap.size := by omega
    omega
  go_wp2_with fail
  refine (eqCells ao1 ao0 cap1 cap0 L _ hm0 hA1 hA0).mono ?_
  rintro e w3 ⟨rfl, hb3⟩
  have HC3 := HC0.below hb3 hle
  have hA3 := hA0.later hb3
  have hO3 := hO1.kept (grown_of_below hb3) (by cases ao1 with | none => exact .inl rfl | some a => exact .inr (by simp [Value.ownBlock]))
  have z3 := hb3.size
  have hbd3 := hbd.trans (hb3.mono (by omega))
  clear hb3 hA0 hA1 hO1 HC0 hbd
  go_wp2_with fail
  refine (markAny w11.heap.size ao1 cap1 L _ (by omega) (by omega) hO3).mono ?_
  rintro e w4 ⟨rfl, hb4, hO4⟩
  have HC4 := HC3.below hb4 hz11
  have hA4 := hA3.kept (fun g hg _ => hb4.block g (hlt0 g hg)) hb4.size
  have z4 := hb4.size
  have hbd4 := hbd3.trans (hb4.mono (by omega))
  clear hb4 hA3 hO3 HC3 hbd3
  have hq1 : ¬ (1 + 2 * (L.length : Int)) < 0 := by omega
  go_wp2_with fail
  refine (heldAny w11.heap.size ao1 cap1 L.length _ (by omega) hO4).mono ?_
  rintro e w5 ⟨rfl, rfl⟩
  go_wp2_with fail
  have HC0 := HC4.below ((Below.refl (w.heap.size + 2) _).drew) (Nat.le_refl _)
  have hbd := hbd4.drew
  have hle : w.heap.size + 2 ≤ w4.drew.heap.size := by show w.heap.size + 2 ≤ w4.heap.size; omega
  have hA0 := hA4.later ((Below.refl _ _).drew)
  have hO5 := hO4.drew
  clear HC4 hbd4 hA4 hO4
  refine wp_region_RC (BoxL w.heap.size (x, y) (x', y')) mixedS ?_
  refine RC.take (i := 0) (v := ?v20) rfl (by kernel_rfl) (by kernel_rfl) (by kernel_rfl) (fun _ _ _ h => h) HC0 (by rfl) ?y20 ?r20
  case y20 => (intro W hW; obtain ⟨c0, c1, c2, c3⟩ := hW; go_simp; try with_reducible rfl)
  refine RC.take (i := 2) (v := ?v22) rfl (by kernel_rfl) (by kernel_rfl) (by kernel_rfl) (fun _ _ _ h => h) HC0 (by rfl) ?y22 ?r22
  case y22 => (intro W hW; obtain ⟨c0, c1, c2, c3⟩ := hW; go_simp; try with_reducible rfl)
  refine RC.want (i := 1) (by kernel_rfl) rfl (by rfl) (fun K hK => ?_)
  go_simp
  refine (HP _).mono ?_
  rintro e w20 ⟨rfl, hc⟩
  simp only
  have HC1 := HC0.below hc hle
  have hle1 : w.heap.size + 2 ≤ w20.heap.size := Nat.le_trans hle hc.size
  have hbe := hbd.trans (hc.mono (by omega))
  have hA0 := hA0.later hc
  have hO5 := hO5.kept (grown_of_below hc) (by cases ao1 with | none => exact .inl rfl | some a => exact .inr (by simp [Value.ownBlock]))
  clear hc HC0 hle hbd
  refine hK _ _ HC1 ?_
  clear hK K
  have HC0 := HC1
  have hle := hle1
  have hbd := hbe
  clear HC1 hle1 hbe
  refine RC.want (i := 3) (by kernel_rfl) rfl (by rfl) (fun K hK => ?_)
  go_simp
  refine (HQ _).mono ?_
  rintro e w21 ⟨rfl, hc⟩
  simp only
  have HC1 := HC0.below hc hle
  have hle1 : w.heap.size + 2 ≤ w21.heap.size := Nat.le_trans hle hc.size
  have hbe := hbd.trans (hc.mono (by omega))
  have hA0 := hA0.later hc
  have hO5 := hO5.kept (grown_of_below hc) (by cases ao1 with | none => exact .inl rfl | some a => exact .inr (by simp [Value.ownBlock]))
  clear hc HC0 hle hbd
  refine hK _ _ HC1 ?_
  clear hK K
  have HC0 := HC1
  have hle := hle1
  have hbd := hbe
  clear HC1 hle1 hbe
  refine RC.want (i := 4) (by kernel_rfl) rfl (by rfl) (fun K hK => ?_)
  go_simp
  refine (HI _).mono ?_
  rintro e w22 ⟨v2, rfl, hO2, hc⟩
  simp only
  have HC1 := HC0.below hc hle
  have hle1 : w.heap.size + 2 ≤ w22.heap.size := Nat.le_trans hle hc.size
  have hbe := hbd.trans (hc.mono (by omega))
  have hbs2 : w21.heap.size ≤ w22.heap.size := hc.size
  have hA0 := hA0.later hc
  have hO5 := hO5.kept (grown_of_below hc) (by cases ao1 with | none => exact .inl rfl | some a => exact .inr (by simp [Value.ownBlock]))
  clear hc HC0 hle hbd
  refine hK _ _ HC1 ?_
  clear hK K
  have HC0 := HC1
  have hle := hle1
  have hbd := hbe
  clear HC1 hle1 hbe
  refine RC.take (i := 5) (v := ?v25) rfl (by kernel_rfl) (by kernel_rfl) (by kernel_rfl) (fun _ _ _ h => h) HC0 (by rfl) ?y25 ?r25
  case y25 => (intro W hW; go_simp; try with_reducible rfl)
  refine RC.done (by kernel_rfl) ?_
  obtain ⟨ao2, cap2, rfl, hA2, hm2, hg2, _⟩ := cells_of_owned hO2
  go_wp2_with fail
  refine (eqCells ao2 ao0 cap2 cap0 L _ hm0 hA2 hA0).mono ?_
  rintro e w6 ⟨rfl, hb6⟩
  have hO6 := hO5.kept (grown_of_below hb6) (by cases ao1 with | none => exact .inl rfl | some a => exact .inr (by simp [Value.ownBlock]))
  have hbd6 := hbd.trans (hb6.mono (by omega))
  clear hb6 hA0 hA2 hO2 HC0 hbd hO5
  go_wp2_with fail
  refine (heldAny w11.heap.size ao1 cap1 L.length _ (by omega) hO6).mono ?_
  rintro e w7 ⟨rfl, rfl⟩
  go_wp2
  go_ret
  exact ⟨rfl, hbd6⟩

end Leg
end Go.Proofs.Ytcamggfmaphcbaa
