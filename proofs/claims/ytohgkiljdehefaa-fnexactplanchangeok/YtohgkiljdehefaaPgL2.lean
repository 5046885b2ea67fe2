/- DERIVED. laws.FnExactPlanChangeOk: its walk (written by wip/tools/mk_bl3.py). -/
import Derived.Test.YtohgkiljdehefaaPgI4
import Derived.Test.YtohgkiljdehefaaPfS4
import Derived.Test.YtohgkiljdehefaaVPlanChange1
import Derived.Test.YtohgkiljdehefaaPQ0
import Derived.Deep.RegionWith
namespace Go.Proofs.Ytohgkiljdehefaa
open Go.RowKit
set_option linter.unusedSimpArgs false
set_option linter.unusedVariables false

theorem mixedF : Try.prog.follows .mixedOrders = true := by kernel_rfl

set_option maxRecDepth 100000 in
set_option maxHeartbeats 4000000 in
theorem changeLaw_small (x : DPlanBase) (ao0 : Option Addr) (cap0 : Nat) (ao1 : Option Addr) (cap1 : Nat) (f : ByteArray) (wh n : Int) (v : ByteArray) (w : World) (h : BaseAt w x ao0 cap0 ao1 cap1) (q0 : f.size ≤ maxLen) (q1 : In64 wh) (q3 : v.size ≤ maxLen) (hnn0 : wPlanBase x + wPlanChange (f, wh, n, v) ≤ 1048576) :
    Calls Try.prog 5 #[.agg #[.slice ao0 x.1.length cap0, .slice ao1 x.2.length cap1], .agg #[.string f, .int .i64 wh, .int .i64 n, .string v]] w fun e w' => e = .returned (.bool true) ∧ Below w.heap.size w w' := by
  have hsz : szR 1048576 (wPlanBase x) = 1048576 - (wPlanBase x : Int) := szR_yes (by omega)
  have hsz2 : szR (1048576 - (wPlanBase x : Int)) (wPlanChange (f, wh, n, v)) = 1048576 - (wPlanBase x : Int) - (wPlanChange (f, wh, n, v) : Int) := szR_yes (by omega)
  have hn : wPlanBase x ≤ 1048576 := by omega
  have hv : v.size ≤ 1048576 := by unfold wPlanChange at hnn0; simp only at hnn0; omega
  have HP := fun W => toPlanChange_any (f, wh, n, v) W
  have HTO := fun W (hh : BaseAt W x ao0 cap0 ao1 cap1) => toPlanBase_any x ao0 cap0 ao1 cap1 W hh.p0 hh.p1 hn
  have HSW := fun ao0 cap0 ao1 cap1 W (hh : BaseAt W x ao0 cap0 ao1 cap1) => sChange x ao0 cap0 ao1 cap1 (f, wh, n, v) W hh q0 q1 hv
  have HIW := fun ao0 cap0 ao1 cap1 W (hh : BaseAt W x ao0 cap0 ao1 cap1) => iChange x ao0 cap0 ao1 cap1 (f, wh, n, v) W hh q0 q1 hv
  have HSC := fun W => szPlanChange_any (f, wh, n, v) (1048576 - (wPlanBase x : Int)) W (by omega) (by omega) q0 q3
  rw [hsz2] at HSC
  simp only at HSC HP HSW HIW
  generalize pb (ChangeOk x (f, wh, n, v)) = rv at *
  generalize wPlanChange (f, wh, n, v) = wc at *
  obtain ⟨w0, hw0⟩ : ∃ w0, w0 = (w.alloc (.cells #[.slice ao0 x.1.length cap0, .slice ao1 x.2.length cap1] 25)).alloc (.cells #[.string f, .int .i64 wh, .int .i64 n, .string v] 38) := ⟨_, rfl⟩
  have hb0 : Below w.heap.size w w0 := by rw [hw0]; exact ((Below.refl _ _).alloc (Nat.le_refl _) _).alloc (by simp) _
  have HS0 : BxC w.heap.size #[.slice ao0 x.1.length cap0, .slice ao1 x.2.length cap1] w0 := by rw [hw0]; exact (BxC.new w _ _).below ((Below.refl (w.heap.size + 1) _).alloc (by simp) _) (by omega)
  have HP0 : BxC (w.heap.size + 1) #[.string f, .int .i64 wh, .int .i64 n, .string v] w0 := by
    rw [hw0]
    have h := BxC.new (w.alloc (.cells #[.slice ao0 x.1.length cap0, .slice ao1 x.2.length cap1] 25)) #[.string f, .int .i64 wh, .int .i64 n, .string v] 38
    rwa [World.size_alloc] at h
  have hz0 : w0.heap.size = w.heap.size + 2 := by rw [hw0]; simp
  have hA := h.later hb0
  have HSZ := szPlanBase_any x ao0 cap0 ao1 cap1 1048576 w0 (by omega) (by omega) hA.p0 hA.p1
  rw [hw0, hsz] at HSZ
  have hwb : (wPlanBase x : Int) + (wc : Int) ≤ 1048576 := by omega
  have HNB : Hid (wPlanBase x ≤ 1048576) := hn
  obtain ⟨wb, hwbe⟩ : ∃ k, k = wPlanBase x := ⟨_, rfl⟩
  rw [← hwbe] at HSZ HSC hwb
  clear hn hnn0 hwbe
  clear hsz hsz2 hA
  go_enter Try.func5, Try.ntmps5
  go_wp2_with fail
  refine HSZ.mono ?_
  rw [← hw0]
  rintro e w01 ⟨rfl, hb01⟩
  clear hw0 HSZ
  have hz01 : w.heap.size + 2 ≤ w01.heap.size := by have := hb01.size; omega
  have hB01 : Below w.heap.size w w01 := hb0.trans (hb01.mono (by omega))
  have HS01 := HS0.below hb01 (by omega)
  have HP01 := HP0.below hb01 (by omega)
  have b0 := HP01 0
  have b1 := HP01 1
  have b2 := HP01 2
  have b3 := HP01 3
  simp at b0 b1 b2 b3
  have hz01' : w.heap.size + 1 < w01.heap.size := by omega
  clear hb01 hb0 HS0 HP0
  go_wp2_with fail
  refine (HSC _).mono ?_
  rintro e w1 ⟨rfl, hb1⟩
  have hz1 : w.heap.size + 2 ≤ w1.heap.size := by have := hb1.size; omega
  have hB1 : Below w.heap.size w w1 := hB01.trans (hb1.mono (by omega))
  have HS1 := HS01.below hb1 (by omega)
  have HP1 := HP01.below hb1 (by omega)
  clear hb1 hB01 HS01 HP01 b0 b1 b2 b3 hz01 hz01' HSC
  go_wp2_with fail
  have HC0 : BxC w.heap.size #[.slice ao0 x.1.length cap0, .slice ao1 x.2.length cap1] w1.drew ∧ BxC (w.heap.size + 1) #[.string f, .int .i64 wh, .int .i64 n, .string v] w1.drew := ⟨HS1.below ((Below.refl (w.heap.size + 2) _).drew) (by omega), HP1.below ((Below.refl (w.heap.size + 2) _).drew) (by omega)⟩
  have hBd := hB1.drew
  have hle : w.heap.size + 2 ≤ w1.drew.heap.size := hz1
  clear HS1 HP1 hB1 hz1
  refine wp_region_RC (fun W => BxC w.heap.size #[.slice ao0 x.1.length cap0, .slice ao1 x.2.length cap1] W ∧ BxC (w.heap.size + 1) #[.string f, .int .i64 wh, .int .i64 n, .string v] W) mixedF ?_
  refine RC.take (i := 0) (v := ?va0) rfl (by kernel_rfl) (by kernel_rfl) (by kernel_rfl) (fun _ _ _ h => h) HC0 (by rfl) ?ya0 ?ra0
  case ya0 => (intro W hW; obtain ⟨h1, h2⟩ := hW; have a0 := h1 0; have a1 := h1 1; simp at a0 a1; have b0 := h2 0; have b1 := h2 1; have b2 := h2 2; have b3 := h2 3; simp at b0 b1 b2 b3; go_simp; try with_reducible rfl)
  refine RC.take (i := 2) (v := ?va2) rfl (by kernel_rfl) (by kernel_rfl) (by kernel_rfl) (fun _ _ _ h => h) HC0 (by rfl) ?ya2 ?ra2
  case ya2 => (intro W hW; obtain ⟨h1, h2⟩ := hW; have a0 := h1 0; have a1 := h1 1; simp at a0 a1; have b0 := h2 0; have b1 := h2 1; have b2 := h2 2; have b3 := h2 3; simp at b0 b1 b2 b3; go_simp; try with_reducible rfl)
  refine RC.want (i := 1) (by kernel_rfl) rfl (by rfl) (fun K hK => ?_)
  go_simp
  refine (HTO _ (h.later hBd)).mono ?_
  rintro e w2 ⟨ao0', cap0', ao1', cap1', rfl, p0, p1, hc⟩
  simp only
  have HC1 := (⟨HC0.1.below hc (by omega), HC0.2.below hc (by omega)⟩ : BxC w.heap.size #[.slice ao0 x.1.length cap0, .slice ao1 x.2.length cap1] w2 ∧ BxC (w.heap.size + 1) #[.string f, .int .i64 wh, .int .i64 n, .string v] w2)
  have hle1 : w.heap.size + 2 ≤ w2.heap.size := Nat.le_trans hle hc.size
  have hBe := hBd.trans (hc.mono (by omega))
  have hS2 := baseAt_of p0 p1
  clear p0 p1
  clear hc HC0 hle hBd
  refine hK _ _ HC1 ?_
  clear hK K
  have HC0 := HC1
  have hle := hle1
  have hBd := hBe
  clear HC1 hle1 hBe
  refine RC.want (i := 3) (by kernel_rfl) rfl (by rfl) (fun K hK => ?_)
  go_simp
  refine (HP _).mono ?_
  rintro e w3 ⟨rfl, hc⟩
  simp only
  have HC1 := (⟨HC0.1.below hc (by omega), HC0.2.below hc (by omega)⟩ : BxC w.heap.size #[.slice ao0 x.1.length cap0, .slice ao1 x.2.length cap1] w3 ∧ BxC (w.heap.size + 1) #[.string f, .int .i64 wh, .int .i64 n, .string v] w3)
  have hle1 : w.heap.size + 2 ≤ w3.heap.size := Nat.le_trans hle hc.size
  have hBe := hBd.trans (hc.mono (by omega))
  have hS3 := hS2.later hc
  clear hc HC0 hle hBd
  refine hK _ _ HC1 ?_
  clear hK K
  have HC0 := HC1
  have hle := hle1
  have hBd := hBe
  clear HC1 hle1 hBe
  refine RC.want (i := 4) (by kernel_rfl) rfl (by rfl) (fun K hK => ?_)
  go_simp
  refine (HSW _ _ _ _ _ hS3).mono ?_
  rintro e w4 ⟨rfl, hc⟩
  simp only
  have HC1 := (⟨HC0.1.below hc (by omega), HC0.2.below hc (by omega)⟩ : BxC w.heap.size #[.slice ao0 x.1.length cap0, .slice ao1 x.2.length cap1] w4 ∧ BxC (w.heap.size + 1) #[.string f, .int .i64 wh, .int .i64 n, .string v] w4)
  have hle1 : w.heap.size + 2 ≤ w4.heap.size := Nat.le_trans hle hc.size
  have hBe := hBd.trans (hc.mono (by omega))
  clear hc HC0 hle hBd
  refine hK _ _ HC1 ?_
  clear hK K
  have HC0 := HC1
  have hle := hle1
  have hBd := hBe
  clear HC1 hle1 hBe
  refine RC.take (i := 5) (v := ?va5) rfl (by kernel_rfl) (by kernel_rfl) (by kernel_rfl) (fun _ _ _ h => h) HC0 (by rfl) ?ya5 ?ra5
  case ya5 => (intro W hW; go_simp; try with_reducible rfl)
  refine RC.done (by kernel_rfl) ?_
  have a0 := HC0.1 0
  have a1 := HC0.1 1
  simp at a0 a1
  have HTO4 := HTO w4 (h.later hBd)
  clear hS2 hS3 HSW
  go_wp2_with fail
  refine HTO4.mono ?_
  rintro e w5 ⟨ao0q, cap0q, ao1q, cap1q, rfl, p0, p1, hb5⟩
  have hS5 := baseAt_of p0 p1
  have HS5 := HC0.1.below hb5 (by omega)
  have HP5 := HC0.2.below hb5 (by omega)
  have hB5 := hBd.trans (hb5.mono (by omega))
  have hz5 : w.heap.size + 2 ≤ w5.heap.size := Nat.le_trans hle hb5.size
  clear a0 a1 HTO4 hb5 p0 p1 HC0 hBd hle
  go_wp2_with fail
  obtain ⟨w6, hw6⟩ : ∃ w6, w6 = w5.alloc (.cells #[.slice ao0q x.1.length cap0q, .slice ao1q x.2.length cap1q] 31) := ⟨_, rfl⟩
  have hb6 : Below w5.heap.size w5 w6 := by rw [hw6]; exact (Below.refl _ _).alloc (Nat.le_refl _) _
  have HX6 : BxC w5.heap.size #[.slice ao0q x.1.length cap0q, .slice ao1q x.2.length cap1q] w6 := by rw [hw6]; exact BxC.new w5 _ _
  have hz6 : w6.heap.size = w5.heap.size + 1 := by rw [hw6]; simp
  rw [← hw6]
  clear hw6
  have hbd6 : Below w5.heap.size w5 w6.drew := hb6.drew
  have HC0 : BxC w.heap.size #[.slice ao0 x.1.length cap0, .slice ao1 x.2.length cap1] w6.drew ∧ BxC (w.heap.size + 1) #[.string f, .int .i64 wh, .int .i64 n, .string v] w6.drew ∧ BxC w5.heap.size #[.slice ao0q x.1.length cap0q, .slice ao1q x.2.length cap1q] w6.drew := ⟨HS5.below hbd6 (by omega), HP5.below hbd6 (by omega), HX6.below ((Below.refl (w5.heap.size + 1) _).drew) (by omega)⟩
  have hBd := hB5.trans (hbd6.mono (by omega))
  have hle : w5.heap.size + 1 ≤ w6.drew.heap.size := by show _ ≤ w6.heap.size; omega
  have hS6 := hS5.later hbd6
  clear HS5 HP5 HX6 hb6 hbd6 hB5 hS5 hz6
  refine wp_region_RC (fun W => BxC w.heap.size #[.slice ao0 x.1.length cap0, .slice ao1 x.2.length cap1] W ∧ BxC (w.heap.size + 1) #[.string f, .int .i64 wh, .int .i64 n, .string v] W ∧ BxC w5.heap.size #[.slice ao0q x.1.length cap0q, .slice ao1q x.2.length cap1q] W) mixedF ?_
  refine RC.take (i := 0) (v := ?vb0) rfl (by kernel_rfl) (by kernel_rfl) (by kernel_rfl) (fun _ _ _ h => h) HC0 (by rfl) ?yb0 ?rb0
  case yb0 => (intro W hW; obtain ⟨h1, h2, h3⟩ := hW; have a0 := h1 0; have a1 := h1 1; simp at a0 a1; have b0 := h2 0; have b1 := h2 1; have b2 := h2 2; have b3 := h2 3; simp at b0 b1 b2 b3; have d0 := h3 0; have d1 := h3 1; simp at d0 d1; go_simp; try with_reducible rfl)
  refine RC.take (i := 1) (v := ?vb1) rfl (by kernel_rfl) (by kernel_rfl) (by kernel_rfl) (fun _ _ _ h => h) HC0 (by rfl) ?yb1 ?rb1
  case yb1 => (intro W hW; obtain ⟨h1, h2, h3⟩ := hW; have a0 := h1 0; have a1 := h1 1; simp at a0 a1; have b0 := h2 0; have b1 := h2 1; have b2 := h2 2; have b3 := h2 3; simp at b0 b1 b2 b3; have d0 := h3 0; have d1 := h3 1; simp at d0 d1; go_simp; try with_reducible rfl)
  refine RC.want (i := 2) (by kernel_rfl) rfl (by rfl) (fun K hK => ?_)
  go_simp
  refine (HP _).mono ?_
  rintro e w7 ⟨rfl, hc⟩
  simp only
  have HC1 := (⟨HC0.1.below hc (by omega), HC0.2.1.below hc (by omega), HC0.2.2.below hc (by omega)⟩ : BxC w.heap.size #[.slice ao0 x.1.length cap0, .slice ao1 x.2.length cap1] w7 ∧ BxC (w.heap.size + 1) #[.string f, .int .i64 wh, .int .i64 n, .string v] w7 ∧ BxC w5.heap.size #[.slice ao0q x.1.length cap0q, .slice ao1q x.2.length cap1q] w7)
  have hle1 : w5.heap.size + 1 ≤ w7.heap.size := Nat.le_trans hle hc.size
  have hBe := hBd.trans (hc.mono (by omega))
  have hS7 := hS6.later hc
  clear hc HC0 hle hBd
  refine hK _ _ HC1 ?_
  clear hK K
  have HC0 := HC1
  have hle := hle1
  have hBd := hBe
  clear HC1 hle1 hBe
  refine RC.want (i := 3) (by kernel_rfl) rfl (by rfl) (fun K hK => ?_)
  go_simp
  refine (HIW _ _ _ _ _ hS7).mono ?_
  rintro e w8 ⟨rfl, hc⟩
  simp only
  have HC1 := (⟨HC0.1.below hc (by omega), HC0.2.1.below hc (by omega), HC0.2.2.below hc (by omega)⟩ : BxC w.heap.size #[.slice ao0 x.1.length cap0, .slice ao1 x.2.length cap1] w8 ∧ BxC (w.heap.size + 1) #[.string f, .int .i64 wh, .int .i64 n, .string v] w8 ∧ BxC w5.heap.size #[.slice ao0q x.1.length cap0q, .slice ao1q x.2.length cap1q] w8)
  have hle1 : w5.heap.size + 1 ≤ w8.heap.size := Nat.le_trans hle hc.size
  have hBe := hBd.trans (hc.mono (by omega))
  have hS8 := hS7.later hc
  clear hc HC0 hle hBd
  refine hK _ _ HC1 ?_
  clear hK K
  have HC0 := HC1
  have hle := hle1
  have hBd := hBe
  clear HC1 hle1 hBe
  refine RC.take (i := 4) (v := ?vb4) rfl (by kernel_rfl) (by kernel_rfl) (by kernel_rfl) (fun _ _ _ h => h) HC0 (by rfl) ?yb4 ?rb4
  case yb4 => (intro W hW; go_simp; try with_reducible rfl)
  refine RC.done (by kernel_rfl) ?_
  have hA8 := h.later hBd
  have a0 := HC0.1 0
  have a1 := HC0.1 1
  simp at a0 a1
  have d0 := HC0.2.2 0
  have d1 := HC0.2.2 1
  simp at d0 d1
  have hs2 : (rv != rv) = false := by simp
  have hw58 : w5.heap.size < w8.heap.size := by omega
  have hw8 : w.heap.size ≤ w8.heap.size := by omega
  clear HC0 HP HIW hS6 hS7 hle
  go_wp2_with fail
  have hbd : Below w8.heap.size w8 w8.drew := (Below.refl _ _).drew
  have hA8d := hA8.later hbd
  have hS8d := hS8.later hbd
  have HTO8 := HTO w8.drew hA8d
  clear HTO hA8 hS8 hA8d
  go_region_with (first | (go_at_call 10; refine HTO8.mono ?_; rintro e w9 ⟨ao0r, cap0r, ao1r, cap1r, rfl, p0, p1, hb9⟩; have k0 := (hb9.cell (p := ⟨w5.heap.size, 0, none⟩) hw58).trans d0; have k1 := (hb9.cell (p := ⟨w5.heap.size, 1, none⟩) hw58).trans d1) | (go_at_call 12; refine (eqPlanBase_any x ao0q cap0q ao1q cap1q ao0r cap0r ao1r cap1r _ (hS8d.p0.later hb9) (p0.mono fresh_old) (hS8d.p1.later hb9) (p1.mono fresh_old) HNB.out).mono ?_; rintro e w10 ⟨rfl, hb10⟩))
  all_goals
    go_wp2
    go_ret
    exact ⟨rfl, ((hBd.trans (hbd.mono hw8)).trans (hb9.mono (show w.heap.size ≤ w8.heap.size from hw8))).trans (hb10.mono (by have h1 : w8.heap.size ≤ w9.heap.size := hb9.size; omega))⟩

set_option maxRecDepth 100000 in
set_option maxHeartbeats 1000000 in
theorem changeLaw (x : DPlanBase) (ao0 : Option Addr) (cap0 : Nat) (ao1 : Option Addr) (cap1 : Nat) (c : DPlanChange) (w : World) (h : BaseAt w x ao0 cap0 ao1 cap1) (q0 : c.1.size ≤ maxLen) (q1 : In64 c.2.1) (q2 : In64 c.2.2.1) (q3 : c.2.2.2.size ≤ maxLen) :
    Calls Try.prog 5 #[.agg #[.slice ao0 x.1.length cap0, .slice ao1 x.2.length cap1], .agg #[.string c.1, .int .i64 c.2.1, .int .i64 c.2.2.1, .string c.2.2.2]] w fun e w' => e = .returned (.bool true) ∧ Below w.heap.size w w' := by
  obtain ⟨f, wh, n, v⟩ := c
  simp only at *
  by_cases hn : wPlanBase x + wPlanChange (f, wh, n, v) ≤ 1048576
  · exact changeLaw_small x ao0 cap0 ao1 cap1 f wh n v w h q0 q1 q3 hn
  · have hb0 : Below w.heap.size w ((w.alloc (.cells #[.slice ao0 x.1.length cap0, .slice ao1 x.2.length cap1] 25)).alloc (.cells #[.string f, .int .i64 wh, .int .i64 n, .string v] 38)) := ((Below.refl _ _).alloc (Nat.le_refl _) _).alloc (by simp) _
    have HP0 := BxC.new (w.alloc (.cells #[.slice ao0 x.1.length cap0, .slice ao1 x.2.length cap1] 25)) #[.string f, .int .i64 wh, .int .i64 n, .string v] 38
    rw [World.size_alloc] at HP0
    have hA := h.later hb0
    have HSZ := szPlanBase_any x ao0 cap0 ao1 cap1 1048576 _ (by omega) (by omega) hA.p0 hA.p1
    by_cases h1 : wPlanBase x ≤ 1048576
    · have hsz : szR 1048576 (wPlanBase x) = 1048576 - (wPlanBase x : Int) := szR_yes (by omega)
      have HSC := fun W => szPlanChange_any (f, wh, n, v) (1048576 - (wPlanBase x : Int)) W (by omega) (by omega) q0 q3
      have hsz2 : szR (1048576 - (wPlanBase x : Int)) (wPlanChange (f, wh, n, v)) = -1 := szR_no (by omega)
      rw [hsz2] at HSC
      rw [hsz] at HSZ
      simp only at HSC
      generalize wPlanBase x = wb at *
      clear hsz hsz2 hA
      go_enter Try.func5, Try.ntmps5
      go_wp2_with fail
      refine HSZ.mono ?_
      rintro e w1 ⟨rfl, hb1⟩
      have hb2 := hb0.trans (hb1.mono hb0.size)
      have HP1 := HP0.below hb1 (by simp)
      have b0 := HP1 0
      have b1 := HP1 1
      have b2 := HP1 2
      have b3 := HP1 3
      simp at b0 b1 b2 b3
      have hz1 : w.heap.size + 1 < w1.heap.size := by have := hb1.size; simp at this; omega
      clear hb1 HSZ HP0 HP1
      go_wp2_with fail
      refine (HSC _).mono ?_
      rintro e w2 ⟨rfl, hb3⟩
      have hb4 := hb2.trans (hb3.mono hb2.size)
      clear hb3 HSC b0 b1 b2 b3
      go_wp2
      go_ret
      exact ⟨rfl, hb4⟩
    · have hsz : szR 1048576 (wPlanBase x) = -1 := szR_no (by omega)
      rw [hsz] at HSZ
      clear hsz hA
      go_enter Try.func5, Try.ntmps5
      go_wp2_with fail
      refine HSZ.mono ?_
      rintro e w1 ⟨rfl, hb1⟩
      have hb2 := hb0.trans (hb1.mono hb0.size)
      clear hb1 HSZ
      go_wp2
      go_ret
      exact ⟨rfl, hb2⟩

end Go.Proofs.Ytohgkiljdehefaa
