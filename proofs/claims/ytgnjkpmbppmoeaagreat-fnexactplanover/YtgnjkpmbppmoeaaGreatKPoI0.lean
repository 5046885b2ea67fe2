/- DERIVED. (impl.PlanStep).cell, (impl.PlanPath).window, impl.PlanOver: their walks (written by wip/tools/mk_po.py). -/
import Derived.Test.YtgnjkpmbppmoeaaGreatKGPd
import Derived.Test.YtgnjkpmbppmoeaaGreatKPpI1
import Derived.Test.YtgnjkpmbppmoeaaGreatKGIm
import Derived.Test.YtgnjkpmbppmoeaaGreatKWq0
import Derived.Test.YtgnjkpmbppmoeaaGreatKPQ0
namespace Go.Proofs.YtgnjkpmbppmoeaaGreat
namespace Pth
open Go.RowKit Go.Sort Leg Pcl Go.Proofs.YtgnjkpmbppmoeaaGreat.Std Lev
set_option linter.unusedSimpArgs false
set_option linter.unusedVariables false

set_option maxHeartbeats 1000000 in
theorem stepCell (x y a b c d : Int) (w : World) :
    Calls Tryz.prog 50 #[.agg #[.int .i64 x, .int .i64 y, .int .i64 a, .int .i64 b, .int .i64 c, .int .i64 d]] w fun e w' => e = .returned (.agg #[.int .i64 x, .int .i64 y]) ∧ Below w.heap.size w w' := by
  go_enter Tryz.func50, Tryz.ntmps50
  go_wp2
  refine bodyPost_ret (v := .agg #[.int .i64 x, .int .i64 y]) (by simp [results, Tryz.results50, go_sem]) rfl ⟨rfl, ?_⟩
  repeat (first | exact Below.refl _ _ | refine Below.setCell ?_ (by simp; try omega) _ | refine Below.alloc ?_ (by simp; try omega) _)

def CW (B g o : Nat) (v : Value) (fr by_ : Int) (W : World) : Prop := W.cell? ⟨B, 0, none⟩ = some v ∧ W.cell? ⟨g, o + 4, none⟩ = some (.int .i64 fr) ∧ W.cell? ⟨g, o + 5, none⟩ = some (.int .i64 by_)
theorem CW.kept {B g o : Nat} {v : Value} {fr by_ : Int} {W W' : World} (h : CW B g o v fr by_ W) (h1 : W'.heap[B]? = W.heap[B]?) (h2 : W'.heap[g]? = W.heap[g]?) : CW B g o v fr by_ W' :=
  ⟨(World.cell?_of_block (w := W) h1).trans h.1, (World.cell?_of_block (w := W) h2).trans h.2.1, (World.cell?_of_block (w := W) h2).trans h.2.2⟩

set_option maxRecDepth 100000 in
set_option maxHeartbeats 4000000 in
theorem pathWindow (so : Option Addr) (sc : Nat) (L : List RPlanStep) (lo up : Int) (k : Nat) (w : World) (h : AtPlanStep w so L) (hL : L.length ≤ 1000) (hk : k ≤ L.length) :
    Calls Tryz.prog 52 #[.agg #[.slice so L.length sc, .int .i64 lo, .int .i64 up], .int .i64 (k : Int)] w fun e w' => e = .returned (.agg #[.int .i64 (fromAt L lo k), .int .i64 (byAt L up k)]) ∧ Below w.heap.size w w' := by
  obtain ⟨w0, hw0⟩ : ∃ w0 : World, w0 = ((w.alloc (.cells #[.slice so L.length sc, .int .i64 lo, .int .i64 up] 52)).alloc (.cells #[.int .i64 0, .int .i64 0] 98)) := ⟨_, rfl⟩
  have hb0 : Below w.heap.size w w0 := by rw [hw0]; exact ((Below.refl _ _).alloc (Nat.le_refl _) _).alloc (by simp) _
  have hPB : BxC w.heap.size #[.slice so L.length sc, .int .i64 lo, .int .i64 up] w0 := by rw [hw0]; exact (BxC.new w _ _).below ((Below.refl (w.heap.size + 1) _).alloc (by simp) _) (by omega)
  have hWB : Dr w0 (w.heap.size + 1) [.int .i64 0, .int .i64 0] := by
    have hd := Dr.new (w.alloc (.cells #[.slice so L.length sc, .int .i64 lo, .int .i64 up] 52)) #[.int .i64 0, .int .i64 0] 98
    rw [World.size_alloc] at hd
    rw [hw0]; exact hd
  have hz0 : w0.heap.size = w.heap.size + 2 := by rw [hw0]; simp
  have hA := h.later hb0
  have z0 := hPB 0
  have z1 := hPB 1
  have z2 := hPB 2
  have d0 := hWB.c 0
  have d1 := hWB.c 1
  have f0 := hWB.f 0
  have f1 := hWB.f 1
  have dl := hWB.lt
  simp at z0 z1 z2 d0 d1
  by_cases hlt : k < L.length
  · have hkI : ¬ (k : Int) = (L.length : Int) := by omega
    have hkb : ((k : Int) == (L.length : Int)) = false := by simp; omega
    have hkI2 : (k : Int) < (L.length : Int) := by omega
    have hnk : (L.length ≤ k) = False := by simp; omega
    obtain ⟨g, rfl, hg, c0, c1, c2, c3, c4, c5⟩ := hA.elem hlt
    have hgw : g < w.heap.size := by
      obtain ⟨g', h1, h2, _⟩ := h.elem hlt
      cases h1
      exact h2
    have hby := byAt_lt (up := up) hlt
    have hfr := fromAt_lt (lo := lo) hlt
    rw [hby, hfr]
    generalize (L[k]'hlt).2.2.2.2.2 = by_ at *
    generalize (L[k]'hlt).2.2.2.2.1 = fr at *
    clear hby hfr hA h c0 c1 c2 c3
    rw [hw0] at z0 z1 z2 d0 d1 f0 f1 dl c4 c5
    go_enter Tryz.func52, Tryz.ntmps52
    go_wp2_with fail
    rw [← hw0] at z0 z1 z2 d0 d1 f0 f1 dl c4 c5
    try rw [← hw0]
    have HC0 : CW w.heap.size g (k * 6) (.slice (some ⟨g, 0, none⟩) L.length sc) fr by_ w0.drew := ⟨z0, c4, c5⟩
    refine wp_region_RC (CW w.heap.size g (k * 6) (.slice (some ⟨g, 0, none⟩) L.length sc) fr by_) mixedP ?_
    have hb1 : Below w.heap.size w w0.drew := hb0.drew
    have hWd : Dr w0.drew (w.heap.size + 1) [.int .i64 0, .int .i64 0] := hWB.kept rfl (Nat.le_refl _)
    clear z0 z1 z2 c4 c5 d0 d1 f0 f1 dl hPB hWB hb0 hw0 hz0
    generalize w0.drew = wd at *
    refine RC.take (i := 0) (v := .pointer (some ⟨w.heap.size, 0, none⟩)) rfl (by kernel_rfl) (by kernel_rfl) (by kernel_rfl) (fun _ _ _ h => h) HC0 (by kernel_rfl) ?y1 ?r1
    case y1 => (intro W hW; clear hW; clear HC0 hb1 hWd; go_simp)
    refine RC.take (i := 1) (v := .slice (some ⟨g, 0, none⟩) L.length sc) rfl (by kernel_rfl) (by kernel_rfl) (by kernel_rfl) (fun _ _ _ h => h) HC0 (by kernel_rfl) ?y2 ?r2
    case y2 => (intro W hW; obtain ⟨u0, u1, u2⟩ := hW; clear HC0 hb1 hWd; go_simp)
    refine RC.take (i := 2) (v := .int .i64 (k : Int)) rfl (by kernel_rfl) (by kernel_rfl) (by kernel_rfl) (fun _ _ _ h => h) HC0 (by kernel_rfl) ?y3 ?r3
    case y3 => (intro W hW; clear hW; clear HC0 hb1 hWd; go_simp)
    refine RC.take (i := 3) (v := .pointer (some ⟨g, k * 6, none⟩)) rfl (by kernel_rfl) (by kernel_rfl) (by kernel_rfl) (fun _ _ _ h => h) HC0 (by kernel_rfl) ?y4 ?r4
    case y4 => (intro W hW; clear hW; clear HC0 hb1 hWd; go_simp)
    refine RC.take (i := 4) (v := .pointer (some ⟨g, k * 6 + 4, none⟩)) rfl (by kernel_rfl) (by kernel_rfl) (by kernel_rfl) (fun _ _ _ h => h) HC0 (by kernel_rfl) ?y5 ?r5
    case y5 => (intro W hW; clear hW; clear HC0 hb1 hWd; go_simp)
    refine RC.take (i := 5) (v := .int .i64 fr) rfl (by kernel_rfl) (by kernel_rfl) (by kernel_rfl) (fun _ _ _ h => h) HC0 (by kernel_rfl) ?y6 ?r6
    case y6 => (intro W hW; obtain ⟨u0, u1, u2⟩ := hW; clear HC0 hb1 hWd; go_simp)
    refine RC.take (i := 6) (v := .pointer (some ⟨w.heap.size, 0, none⟩)) rfl (by kernel_rfl) (by kernel_rfl) (by kernel_rfl) (fun _ _ _ h => h) HC0 (by kernel_rfl) ?y7 ?r7
    case y7 => (intro W hW; clear hW; clear HC0 hb1 hWd; go_simp)
    refine RC.take (i := 7) (v := .slice (some ⟨g, 0, none⟩) L.length sc) rfl (by kernel_rfl) (by kernel_rfl) (by kernel_rfl) (fun _ _ _ h => h) HC0 (by kernel_rfl) ?y8 ?r8
    case y8 => (intro W hW; obtain ⟨u0, u1, u2⟩ := hW; clear HC0 hb1 hWd; go_simp)
    refine RC.take (i := 8) (v := .int .i64 (k : Int)) rfl (by kernel_rfl) (by kernel_rfl) (by kernel_rfl) (fun _ _ _ h => h) HC0 (by kernel_rfl) ?y9 ?r9
    case y9 => (intro W hW; clear hW; clear HC0 hb1 hWd; go_simp)
    refine RC.take (i := 9) (v := .pointer (some ⟨g, k * 6, none⟩)) rfl (by kernel_rfl) (by kernel_rfl) (by kernel_rfl) (fun _ _ _ h => h) HC0 (by kernel_rfl) ?y10 ?r10
    case y10 => (intro W hW; clear hW; clear HC0 hb1 hWd; go_simp)
    refine RC.take (i := 10) (v := .pointer (some ⟨g, k * 6 + 5, none⟩)) rfl (by kernel_rfl) (by kernel_rfl) (by kernel_rfl) (fun _ _ _ h => h) HC0 (by kernel_rfl) ?y11 ?r11
    case y11 => (intro W hW; clear hW; clear HC0 hb1 hWd; go_simp)
    refine RC.take (i := 11) (v := .int .i64 by_) rfl (by kernel_rfl) (by kernel_rfl) (by kernel_rfl) (fun _ _ _ h => h) HC0 (by kernel_rfl) ?y12 ?r12
    case y12 => (intro W hW; obtain ⟨u0, u1, u2⟩ := hW; clear HC0 hb1 hWd; go_simp)
    refine RC.take (i := 12) (v := .agg #[.int .i64 fr, .int .i64 by_]) rfl (by kernel_rfl) (by kernel_rfl) (by kernel_rfl) (fun _ _ _ h => h) HC0 (by kernel_rfl) ?y13 ?r13
    case y13 => (intro W hW; clear hW; clear HC0 hb1 hWd; go_simp)
    have d0 := hWd.c 0
    have d1 := hWd.c 1
    have f0 := hWd.f 0
    have f1 := hWd.f 1
    have dl := hWd.lt
    simp at d0 d1
    have n1 : w.heap.size ≠ w.heap.size + 1 := by omega
    have n2 : g ≠ w.heap.size + 1 := by omega
    refine RC.want (i := 13) (by kernel_rfl) rfl (by kernel_rfl) (fun K hK => ?_)
    go_simp
    refine hK _ _ (HC0.kept (by rw [Below.heap_setCell _ _ _ _ n1, Below.heap_setCell _ _ _ _ n1]) (by rw [Below.heap_setCell _ _ _ _ n2, Below.heap_setCell _ _ _ _ n2])) ?_
    clear hK K HC0
    refine RC.done (by kernel_rfl) ?_
    go_wp2
    refine bodyPost_ret (v := .agg #[.int .i64 fr, .int .i64 by_]) (by simp [results, Tryz.results52, go_sem, d0, d1, dl]) rfl ⟨rfl, ?_⟩
    exact (hb1.setCell (by show _ ≤ w.heap.size + 1; omega) _).setCell (by show _ ≤ w.heap.size + 1; omega) _
  · have e : k = L.length := by omega
    subst e
    rw [byAt_end, fromAt_end]
    rw [hw0] at z0 z1 z2 d0 d1 f0 f1 dl
    go_enter Tryz.func52, Tryz.ntmps52
    go_wp2
    refine bodyPost_ret (v := .agg #[.int .i64 lo, .int .i64 up]) (by simp [results, Tryz.results52, go_sem]) rfl ⟨rfl, ?_⟩
    repeat (first | exact Below.refl _ _ | refine Below.setCell ?_ (by simp; try omega) _ | refine Below.alloc ?_ (by simp; try omega) _)

set_option maxRecDepth 100000 in
set_option maxHeartbeats 8000000 in
theorem iOver (bk : DPlanBook) (nm pt : ByteArray) (ao0 : Option Addr) (cap0 : Nat) (ao1 : Option Addr) (cap1 : Nat) (ao2 : Option Addr) (cap2 : Nat) (w : World) (p0 : SliceAt vPlanKind (old w) w ao0 cap0 bk.1.1) (p1 : SliceAt vPlanPoint (old w) w ao1 cap1 bk.1.2) (p2 : SliceAt vPlanEntry (old w) w ao2 cap2 bk.2) (hs : wPlanEntryS bk.2 ≤ 1048576) :
    Calls Tryz.prog 21 #[.agg #[.slice ao0 bk.1.1.length cap0, .slice ao1 bk.1.2.length cap1, .slice ao2 bk.2.length cap2], .string nm, .string pt] w fun r w' => r = .returned (.tuple #[.int .i64 (overF bk nm pt).1, .int .i64 (overF bk nm pt).2.1, .bool (overF bk nm pt).2.2]) ∧ Below w.heap.size w w' := by
  obtain ⟨w0, hw0⟩ : ∃ w0 : World, w0 = w.alloc (.cells #[.slice ao0 bk.1.1.length cap0, .slice ao1 bk.1.2.length cap1, .slice ao2 bk.2.length cap2] 43) := ⟨_, rfl⟩
  have hb0 : Below w.heap.size w w0 := by rw [hw0]; exact (Below.refl _ _).alloc (Nat.le_refl _) _
  have hBB : BxC w.heap.size #[.slice ao0 bk.1.1.length cap0, .slice ao1 bk.1.2.length cap1, .slice ao2 bk.2.length cap2] w0 := by rw [hw0]; exact BxC.new _ _ _
  have hz0 : w0.heap.size = w.heap.size + 1 := by rw [hw0]; simp
  have HT := iPathOf bk nm ao0 cap0 ao1 cap1 ao2 cap2 w0 (p0.later hb0) (p1.later hb0) (p2.later hb0) hs
  have HYES : Hid ((pathF bk nm).2 = 0 → HasNm nmP bk.1.2 pt → overF bk nm pt = overL (findD nmP zP bk.1.2 pt).2.1 (findD nmP zP bk.1.2 pt).2.2 (pathF bk nm).1.2.2 (pathF bk nm).1.1) := over_yes
  have HNO : Hid (¬ ((pathF bk nm).2 = 0 ∧ HasNm nmP bk.1.2 pt) → overF bk nm pt = (0, 0, false)) := over_no
  have HLEN := pathF_len bk nm
  have HRNG := pathF_rng bk nm
  generalize pathF bk nm = PF at HT HYES HNO HLEN HRNG
  obtain ⟨⟨L, lo, up⟩, code⟩ := PF
  simp only at HT HYES HNO HLEN HRNG
  obtain ⟨HR1, HR2⟩ := HRNG
  rw [hw0] at HT
  go_enter Tryz.func21, Tryz.ntmps21
  go_wp2_with fail
  refine HT.mono ?_
  rw [← hw0]
  rintro e w1 ⟨so, sc, rfl, hO1, hb1⟩
  have hA1 := atPlanStep_owns hO1
  have hscl : L.length ≤ sc ∧ sc ≤ maxLen := by
    rcases hO1.2 with ⟨h1, _⟩ | ⟨_, c3, _, h1, _, _, h2, h3, _⟩
    · injection h1 with _ e2 e3
      unfold maxLen; omega
    · injection h1 with _ _ e3
      subst e3
      exact ⟨h2, h3⟩
  have hscm : sc ≤ 9223372036854775807 := hscl.2
  have hscl := hscl.1
  have B1 := hb0.trans (hb1.mono (by omega))
  have hBB1 := hBB.below hb1 (by omega)
  have hz1 : w.heap.size < w1.heap.size := by have := hb1.size; omega
  clear HT hO1 hb1 hBB hb0 hw0 hz0
  obtain ⟨w2, hw2⟩ : ∃ w2 : World, w2 = w1.alloc (.cells #[.slice so L.length sc, .int .i64 lo, .int .i64 up] 52) := ⟨_, rfl⟩
  have hb2 : Below w1.heap.size w1 w2 := by rw [hw2]; exact (Below.refl _ _).alloc (Nat.le_refl _) _
  have hz2 : w2.heap.size = w1.heap.size + 1 := by rw [hw2]; simp
  have HP2 : BxC w1.heap.size #[.slice so L.length sc, .int .i64 lo, .int .i64 up] w2 := by rw [hw2]; exact BxC.new _ _ _
  have B2 := B1.trans (hb2.mono (by omega))
  have hA2 := hA1.later hb2
  have HF := find_PlanPoint ao1 cap1 bk.1.2 pt w2 (p1.later B2)
  have y0 := hBB1 0
  have y1 := hBB1 1
  have y2 := hBB1 2
  simp at y0 y1 y2
  obtain ⟨⟨dn, x, y⟩, hD⟩ : ∃ D, D = findD nmP zP bk.1.2 pt := ⟨_, rfl⟩
  simp only [← hD] at HF HYES
  clear hD
  rw [hw2] at HF
  clear hA1 hBB1
  go_wp2_with fail
  refine HF.mono ?_
  rw [← hw2]
  rintro e w3 ⟨rfl, hb3⟩
  have B3 := B2.trans (hb3.mono (by omega))
  have HP3 := HP2.below hb3 (by omega)
  have hA3 := hA2.later hb3
  have hz3 : w1.heap.size < w3.heap.size := by have := hb3.size; omega
  clear HF y0 y1 y2 hw2 hb2 HP2 hA2 hb3 B1 B2
  obtain ⟨w4, hw4⟩ : ∃ w4 : World, w4 = w3.alloc (.cells #[.string dn, .int .i64 x, .int .i64 y] 93) := ⟨_, rfl⟩
  have hb4 : Below w3.heap.size w3 w4 := by rw [hw4]; exact (Below.refl _ _).alloc (Nat.le_refl _) _
  have hz4 : w4.heap.size = w3.heap.size + 1 := by rw [hw4]; simp
  have HQB4 : BxC w3.heap.size #[.string dn, .int .i64 x, .int .i64 y] w4 := by rw [hw4]; exact BxC.new _ _ _
  have B4 := B3.trans (hb4.mono (by omega))
  have HPB4 := HP3.below hb4 (by omega)
  have HA4 := hA3.later hb4
  have HB4 : Hid _ := B4
  by_cases hc : code = 0
  · by_cases hh : HasNm nmP bk.1.2 pt
    · rw [pb_yes hh]
      have HOV : Hid (overF bk nm pt = overL x y up L) := HYES.out hc hh
      have hc0 : (code != 0) = false := by simp [hc]
      clear HYES HNO hh
      have s0 := HP3 0
      simp at s0
      subst hc
      clear HP3 hA3 B3
      go_wp2_with fail
      rw [← hw4]
      have HPl : w1.heap.size < w4.heap.size := by omega
      have HQl : w3.heap.size < w4.heap.size := by omega
      clear hw4 hb4 s0 hz4
      go_loopw [38] (fun i wr => ∃ k : Nat, k ≤ L.length ∧ i = .int .i64 k ∧ Hid (overL x y up L = overL x y up (L.drop k)) ∧ Below w4.heap.size w4 wr) (fun i _ => L.length - (intOf i).toNat)
      case atStart => exact ⟨0, Nat.zero_le _, rfl, rfl, Below.refl _ _⟩
      case round =>
        obtain ⟨k, hk, rfl, hpre, hB⟩ := hrel
        by_cases hlt : k < L.length
        · have hkI : (k : Int) < (L.length : Int) := by omega
          have hnk : (L.length ≤ k) = False := by simp; omega
          obtain ⟨g, rfl, hg, c0, c1, c2, c3, c4, c5⟩ := HA4.elem hlt
          have d0 := (hB.cell (p := ⟨g, k * 6, none⟩) hg).trans c0
          have d1 := (hB.cell (p := ⟨g, k * 6 + 1, none⟩) hg).trans c1
          have d2 := (hB.cell (p := ⟨g, k * 6 + 2, none⟩) hg).trans c2
          have d3 := (hB.cell (p := ⟨g, k * 6 + 3, none⟩) hg).trans c3
          have d4 := (hB.cell (p := ⟨g, k * 6 + 4, none⟩) hg).trans c4
          have d5 := (hB.cell (p := ⟨g, k * 6 + 5, none⟩) hg).trans c5
          have HHIT : Hid ((L[k]'hlt).1 = x ∧ (L[k]'hlt).2.1 = y → overF bk nm pt = ((L[k]'hlt).2.2.2.2.1, byAt L up (k + 1) - 1, true)) := fun h => HOV.out.trans (hpre.out.trans (overL_hit hlt h))
          have HMISS : Hid (¬ ((L[k]'hlt).1 = x ∧ (L[k]'hlt).2.1 = y) → overL x y up L = overL x y up (L.drop (k + 1))) := fun h => hpre.out.trans (overL_miss hlt h)
          have HBY := byAt_rng HR1 HR2 (show k + 1 ≤ L.length by omega)
          have hbyw : IntKind.i64.wrap (byAt L up (k + 1) - 1) = byAt L up (k + 1) - 1 := by rw [IntKind.wrap_i64] <;> omega
          have hk1w : IntKind.i64.wrap ((k : Int) + 1) = (k : Int) + 1 := by rw [IntKind.wrap_i64] <;> omega
          clear c0 c1 c2 c3 c4 c5 hpre HR1 HR2 HOV
          generalize L[k]'hlt = S at *
          obtain ⟨sx, sy, sl, sh, sf, sb⟩ := S
          simp only at d0 d1 d2 d3 d4 d5 HHIT HMISS
          have HA := HA4
          have HQB := HQB4
          have HPB := HPB4
          clear HA4 HQB4 HPB4
          by_cases hit : sx = x ∧ sy = y
          · have HM : Hid (overF bk nm pt = (sf, byAt L up (k + 1) - 1, true)) := HHIT.out hit
            clear HMISS HHIT
            obtain ⟨rfl, rfl⟩ := hit
            go_wp2_with fail
            obtain ⟨wx, hwx⟩ : ∃ wx : World, wx = wr.alloc (.cells #[.int .i64 sx, .int .i64 sy, .int .i64 sl, .int .i64 sh, .int .i64 sf, .int .i64 sb] 86) := ⟨_, rfl⟩
            rw [← hwx]
            have hbx : Below wr.heap.size wr wx := by rw [hwx]; exact (Below.refl _ _).alloc (Nat.le_refl _) _
            have hSB : BxC wr.heap.size #[.int .i64 sx, .int .i64 sy, .int .i64 sl, .int .i64 sh, .int .i64 sf, .int .i64 sb] wx := by rw [hwx]; exact BxC.new _ _ _
            have hBx := hB.trans (hbx.mono hB.size)
            have hsl : wr.heap.size < wx.heap.size := by rw [hwx]; simp
            have a0 := hSB 0
            have a1 := hSB 1
            have a2 := hSB 2
            have a3 := hSB 3
            have a4 := hSB 4
            have a5 := hSB 5
            have b0 := (HQB.below hBx HQl) 0
            have b1 := (HQB.below hBx HQl) 1
            have b2 := (HQB.below hBx HQl) 2
            simp at a0 a1 a2 a3 a4 a5 b0 b1 b2
            clear hwx hbx
            have cS : ∀ dd os, Calls Tryz.prog 50 #[.agg #[.int .i64 sx, .int .i64 sy, .int .i64 sl, .int .i64 sh, .int .i64 sf, .int .i64 sb]] (grow (redrawn wx dd) os) (fun e w'' => e = .returned (.agg #[.int .i64 sx, .int .i64 sy]) ∧ ∃ p : Regrown, w'' = grow (redrawn wx p.d) p.os) := fun dd os => Calls.regrown_of (stepCell sx sy sl sh sf sb _)
            have cP : ∀ dd os, Calls Tryz.prog 51 #[.agg #[.string dn, .int .i64 sx, .int .i64 sy]] (grow (redrawn wx dd) os) (fun e w'' => e = .returned (.agg #[.int .i64 sx, .int .i64 sy]) ∧ ∃ p : Regrown, w'' = grow (redrawn wx p.d) p.os) := fun dd os => Calls.regrown_of (ptCell dn sx sy _)
            have ga0 := cell_regrown a0
            have ga1 := cell_regrown a1
            have ga2 := cell_regrown a2
            have ga3 := cell_regrown a3
            have ga4 := cell_regrown a4
            have ga5 := cell_regrown a5
            have gb0 := cell_regrown b0
            have gb1 := cell_regrown b1
            have gb2 := cell_regrown b2
            clear a0 a1 a2 a3 a4 a5 b0 b1 b2
            refine Leg.wp_region_qw (by kernel_rfl) (by kernel_rfl) ?_
            refine Leg.QW.want (by kernel_rfl) (fun K hK => ?_)
            go_big_quiet_op
            refine hK _ ?_
            clear hK K
            refine Leg.QW.want (by kernel_rfl) (fun K hK => ?_)
            go_big_quiet_op
            refine ⟨_, fun _ => cS _ _, hK _ ?_⟩
            clear hK K
            refine Leg.QW.want (by kernel_rfl) (fun K hK => ?_)
            go_big_quiet_op
            refine hK _ ?_
            clear hK K
            refine Leg.QW.want (by kernel_rfl) (fun K hK => ?_)
            go_big_quiet_op
            refine ⟨_, fun _ => cP _ _, hK _ ?_⟩
            clear hK K
            refine Leg.QW.want (by kernel_rfl) (fun K hK => ?_)
            go_big_quiet_op
            refine hK _ ?_
            clear hK K
            refine Leg.QW.nil ?_
            clear cS cP ga0 ga1 ga2 ga3 ga4 ga5 gb0 gb1 gb2
            intro _ hw'
            obtain ⟨⟨dq, osq⟩, hw''⟩ := hw'
            subst hw''
            have hw8 := hBx.trans ((below_regrown wx dq osq).mono hBx.size)
            have hx8 : Below wx.heap.size wx (grow (redrawn wx dq) osq) := below_regrown wx dq osq
            generalize grow (redrawn wx dq) osq = w8 at hw8 hx8 ⊢
            go_wp2_with fail
            have a4 := (hSB.below hx8 hsl) 4
            have b0 := (HPB.below hw8 HPl) 0
            have b1 := (HPB.below hw8 HPl) 1
            have b2 := (HPB.below hw8 HPl) 2
            simp at a4 b0 b1 b2
            have HA8 := HA.later hw8
            have cW : ∀ dd os, Calls Tryz.prog 52 #[.agg #[.slice (some ⟨g, 0, none⟩) L.length sc, .int .i64 lo, .int .i64 up], .int .i64 ((k : Int) + 1)] (grow (redrawn w8 dd) os) (fun e w'' => e = .returned (.agg #[.int .i64 (fromAt L lo (k + 1)), .int .i64 (byAt L up (k + 1))]) ∧ ∃ p : Regrown, w'' = grow (redrawn w8 p.d) p.os) := fun dd os => Calls.regrown_of (by have := pathWindow (some ⟨g, 0, none⟩) sc L lo up (k + 1) (grow (redrawn w8 dd) os) (HA8.later (below_regrown w8 dd os)) (by omega) (by omega); rw [show ((k + 1 : Nat) : Int) = (k : Int) + 1 by omega] at this; exact this)
            generalize byAt L up (k + 1) = bya at *
            generalize fromAt L lo (k + 1) = fra at *
            have ga4 := cell_regrown a4
            have gb0 := cell_regrown b0
            have gb1 := cell_regrown b1
            have gb2 := cell_regrown b2
            clear a4 b0 b1 b2
            clear hSB hBx HPB HA HQB HA8 hx8
            refine Leg.wp_region_qw (by kernel_rfl) (by kernel_rfl) ?_
            refine Leg.QW.want (by kernel_rfl) (fun K hK => ?_)
            go_big_quiet_op
            refine hK _ ?_
            clear hK K
            refine Leg.QW.want (by kernel_rfl) (fun K hK => ?_)
            go_big_quiet_op
            refine hK _ ?_
            clear hK K
            refine Leg.QW.want (by kernel_rfl) (fun K hK => ?_)
            go_big_quiet_op
            refine hK _ ?_
            clear hK K
            refine Leg.QW.want (by kernel_rfl) (fun K hK => ?_)
            go_big_quiet_op
            refine hK _ ?_
            clear hK K
            refine Leg.QW.want (by kernel_rfl) (fun K hK => ?_)
            go_big_quiet_op
            refine hK _ ?_
            clear hK K
            refine Leg.QW.want (by kernel_rfl) (fun K hK => ?_)
            go_big_quiet_op
            refine ⟨_, fun _ => cW _ _, hK _ ?_⟩
            clear hK K
            refine Leg.QW.want (by kernel_rfl) (fun K hK => ?_)
            go_big_quiet_op
            refine ⟨.int .i64 bya, fun r => by first | exact ⟨rfl, rfl⟩ | (go_simp; done) | (go_simp; exact ⟨rfl, rfl⟩), hK _ ?_⟩
            clear hK K
            refine Leg.QW.want (by kernel_rfl) (fun K hK => ?_)
            go_big_quiet_op
            refine hK _ ?_
            clear hK K
            refine Leg.QW.want (by kernel_rfl) (fun K hK => ?_)
            go_big_quiet_op
            refine hK _ ?_
            clear hK K
            refine Leg.QW.want (by kernel_rfl) (fun K hK => ?_)
            go_big_quiet_op
            refine hK _ ?_
            clear hK K
            refine Leg.QW.want (by kernel_rfl) (fun K hK => ?_)
            go_big_quiet_op
            refine hK _ ?_
            clear hK K
            refine Leg.QW.nil ?_
            clear cW ga4 gb0 gb1 gb2
            intro _ hw'
            obtain ⟨⟨dq, osq⟩, hw''⟩ := hw'
            subst hw''
            have hw9 := hw8.trans ((below_regrown w8 dq osq).mono hw8.size)
            generalize grow (redrawn w8 dq) osq = w9 at hw9 ⊢
            go_wp2
            refine bodyPost_ret (v := .tuple #[.int .i64 sf, .int .i64 (bya - 1), .bool true]) (by simp [results, Tryz.results21, go_sem]) rfl ⟨by rw [HM.out], B4.trans (hw9.mono B4.size)⟩
          · have HM : Hid (overL x y up L = overL x y up (L.drop (k + 1))) := HMISS.out hit
            clear HMISS HHIT HBY hbyw
            by_cases hx : sx = x
            · have hy : ¬ sy = y := fun h => hit ⟨hx, h⟩
              have hyb : (sy == y) = false := by simp [hy]
              subst hx
              clear hit
              go_wp2_with fail
              obtain ⟨wx, hwx⟩ : ∃ wx : World, wx = wr.alloc (.cells #[.int .i64 sx, .int .i64 sy, .int .i64 sl, .int .i64 sh, .int .i64 sf, .int .i64 sb] 86) := ⟨_, rfl⟩
              rw [← hwx]
              have hbx : Below wr.heap.size wr wx := by rw [hwx]; exact (Below.refl _ _).alloc (Nat.le_refl _) _
              have hSB : BxC wr.heap.size #[.int .i64 sx, .int .i64 sy, .int .i64 sl, .int .i64 sh, .int .i64 sf, .int .i64 sb] wx := by rw [hwx]; exact BxC.new _ _ _
              have hBx := hB.trans (hbx.mono hB.size)
              have hsl : wr.heap.size < wx.heap.size := by rw [hwx]; simp
              have a0 := hSB 0
              have a1 := hSB 1
              have a2 := hSB 2
              have a3 := hSB 3
              have a4 := hSB 4
              have a5 := hSB 5
              have b0 := (HQB.below hBx HQl) 0
              have b1 := (HQB.below hBx HQl) 1
              have b2 := (HQB.below hBx HQl) 2
              simp at a0 a1 a2 a3 a4 a5 b0 b1 b2
              clear hwx hbx
              have cS : ∀ dd os, Calls Tryz.prog 50 #[.agg #[.int .i64 sx, .int .i64 sy, .int .i64 sl, .int .i64 sh, .int .i64 sf, .int .i64 sb]] (grow (redrawn wx dd) os) (fun e w'' => e = .returned (.agg #[.int .i64 sx, .int .i64 sy]) ∧ ∃ p : Regrown, w'' = grow (redrawn wx p.d) p.os) := fun dd os => Calls.regrown_of (stepCell sx sy sl sh sf sb _)
              have cP : ∀ dd os, Calls Tryz.prog 51 #[.agg #[.string dn, .int .i64 sx, .int .i64 y]] (grow (redrawn wx dd) os) (fun e w'' => e = .returned (.agg #[.int .i64 sx, .int .i64 y]) ∧ ∃ p : Regrown, w'' = grow (redrawn wx p.d) p.os) := fun dd os => Calls.regrown_of (ptCell dn sx y _)
              have ga0 := cell_regrown a0
              have ga1 := cell_regrown a1
              have ga2 := cell_regrown a2
              have ga3 := cell_regrown a3
              have ga4 := cell_regrown a4
              have ga5 := cell_regrown a5
              have gb0 := cell_regrown b0
              have gb1 := cell_regrown b1
              have gb2 := cell_regrown b2
              clear a0 a1 a2 a3 a4 a5 b0 b1 b2
              refine Leg.wp_region_qw (by kernel_rfl) (by kernel_rfl) ?_
              refine Leg.QW.want (by kernel_rfl) (fun K hK => ?_)
              go_big_quiet_op
              refine hK _ ?_
              clear hK K
              refine Leg.QW.want (by kernel_rfl) (fun K hK => ?_)
              go_big_quiet_op
              refine ⟨_, fun _ => cS _ _, hK _ ?_⟩
              clear hK K
              refine Leg.QW.want (by kernel_rfl) (fun K hK => ?_)
              go_big_quiet_op
              refine hK _ ?_
              clear hK K
              refine Leg.QW.want (by kernel_rfl) (fun K hK => ?_)
              go_big_quiet_op
              refine ⟨_, fun _ => cP _ _, hK _ ?_⟩
              clear hK K
              refine Leg.QW.want (by kernel_rfl) (fun K hK => ?_)
              go_big_quiet_op
              refine hK _ ?_
              clear hK K
              refine Leg.QW.nil ?_
              clear cS cP ga0 ga1 ga2 ga3 ga4 ga5 gb0 gb1 gb2
              intro _ hw'
              obtain ⟨⟨dq, osq⟩, hw''⟩ := hw'
              subst hw''
              have hw8 := hBx.trans ((below_regrown wx dq osq).mono hBx.size)
              generalize grow (redrawn wx dq) osq = w8 at hw8 ⊢
              clear hSB hBx hsl HPB HA HQB
              go_wp2
              go_roundw
              case rel => exact ⟨k + 1, by omega, by go_num, HM, hw8⟩
              case measure => simp [intOf]; omega
            · have hxb : (sx == x) = false := by simp [hx]
              clear hit
              go_wp2_with fail
              obtain ⟨wx, hwx⟩ : ∃ wx : World, wx = wr.alloc (.cells #[.int .i64 sx, .int .i64 sy, .int .i64 sl, .int .i64 sh, .int .i64 sf, .int .i64 sb] 86) := ⟨_, rfl⟩
              rw [← hwx]
              have hbx : Below wr.heap.size wr wx := by rw [hwx]; exact (Below.refl _ _).alloc (Nat.le_refl _) _
              have hSB : BxC wr.heap.size #[.int .i64 sx, .int .i64 sy, .int .i64 sl, .int .i64 sh, .int .i64 sf, .int .i64 sb] wx := by rw [hwx]; exact BxC.new _ _ _
              have hBx := hB.trans (hbx.mono hB.size)
              have hsl : wr.heap.size < wx.heap.size := by rw [hwx]; simp
              have a0 := hSB 0
              have a1 := hSB 1
              have a2 := hSB 2
              have a3 := hSB 3
              have a4 := hSB 4
              have a5 := hSB 5
              have b0 := (HQB.below hBx HQl) 0
              have b1 := (HQB.below hBx HQl) 1
              have b2 := (HQB.below hBx HQl) 2
              simp at a0 a1 a2 a3 a4 a5 b0 b1 b2
              clear hwx hbx
              have cS : ∀ dd os, Calls Tryz.prog 50 #[.agg #[.int .i64 sx, .int .i64 sy, .int .i64 sl, .int .i64 sh, .int .i64 sf, .int .i64 sb]] (grow (redrawn wx dd) os) (fun e w'' => e = .returned (.agg #[.int .i64 sx, .int .i64 sy]) ∧ ∃ p : Regrown, w'' = grow (redrawn wx p.d) p.os) := fun dd os => Calls.regrown_of (stepCell sx sy sl sh sf sb _)
              have cP : ∀ dd os, Calls Tryz.prog 51 #[.agg #[.string dn, .int .i64 x, .int .i64 y]] (grow (redrawn wx dd) os) (fun e w'' => e = .returned (.agg #[.int .i64 x, .int .i64 y]) ∧ ∃ p : Regrown, w'' = grow (redrawn wx p.d) p.os) := fun dd os => Calls.regrown_of (ptCell dn x y _)
              have ga0 := cell_regrown a0
              have ga1 := cell_regrown a1
              have ga2 := cell_regrown a2
              have ga3 := cell_regrown a3
              have ga4 := cell_regrown a4
              have ga5 := cell_regrown a5
              have gb0 := cell_regrown b0
              have gb1 := cell_regrown b1
              have gb2 := cell_regrown b2
              clear a0 a1 a2 a3 a4 a5 b0 b1 b2
              refine Leg.wp_region_qw (by kernel_rfl) (by kernel_rfl) ?_
              refine Leg.QW.want (by kernel_rfl) (fun K hK => ?_)
              go_big_quiet_op
              refine hK _ ?_
              clear hK K
              refine Leg.QW.want (by kernel_rfl) (fun K hK => ?_)
              go_big_quiet_op
              refine ⟨_, fun _ => cS _ _, hK _ ?_⟩
              clear hK K
              refine Leg.QW.want (by kernel_rfl) (fun K hK => ?_)
              go_big_quiet_op
              refine hK _ ?_
              clear hK K
              refine Leg.QW.want (by kernel_rfl) (fun K hK => ?_)
              go_big_quiet_op
              refine ⟨_, fun _ => cP _ _, hK _ ?_⟩
              clear hK K
              refine Leg.QW.want (by kernel_rfl) (fun K hK => ?_)
              go_big_quiet_op
              refine hK _ ?_
              clear hK K
              refine Leg.QW.nil ?_
              clear cS cP ga0 ga1 ga2 ga3 ga4 ga5 gb0 gb1 gb2
              intro _ hw'
              obtain ⟨⟨dq, osq⟩, hw''⟩ := hw'
              subst hw''
              have hw8 := hBx.trans ((below_regrown wx dq osq).mono hBx.size)
              generalize grow (redrawn wx dq) osq = w8 at hw8 ⊢
              clear hSB hBx hsl HPB HA HQB
              go_wp2
              go_roundw
              case rel => exact ⟨k + 1, by omega, by go_num, HM, hw8⟩
              case measure => simp [intOf]; omega
        · have e : k = L.length := by omega
          subst e
          have HF : Hid (overF bk nm pt = (0, 0, false)) := HOV.out.trans (hpre.out.trans (overL_end x y up L))
          have hBL := HB4.out.trans (hB.mono HB4.out.size)
          clear hpre hB HA4 HQB4 HPB4 HOV HR1 HR2
          go_wp2
          refine bodyPost_ret (v := .tuple #[.int .i64 0, .int .i64 0, .bool false]) (by simp [results, Tryz.results21, go_sem]) rfl ⟨by rw [HF.out], hBL⟩
    · rw [pb_no hh]
      have HF : Hid (overF bk nm pt = (0, 0, false)) := HNO.out (fun h => hh h.2)
      have hc0 : (code != 0) = false := by simp [hc]
      clear HYES HNO HR1 HR2 HP3 HPB4 HQB4 HA4 hA3
      rw [hw4] at B4
      subst hc
      go_wp2
      refine bodyPost_ret (v := .tuple #[.int .i64 0, .int .i64 0, .bool false]) (by simp [results, Tryz.results21, go_sem]) rfl ⟨by rw [HF.out], B4⟩
  · have HF : Hid (overF bk nm pt = (0, 0, false)) := HNO.out (fun h => hc h.1)
    have hc0 : (code != 0) = true := by simp [hc]
    clear HYES HNO HR1 HR2 HP3 HPB4 HQB4 HA4 hA3
    rw [hw4] at B4
    go_wp2
    refine bodyPost_ret (v := .tuple #[.int .i64 0, .int .i64 0, .bool false]) (by simp [results, Tryz.results21, go_sem]) rfl ⟨by rw [HF.out], B4⟩

end Pth
end Go.Proofs.YtgnjkpmbppmoeaaGreat
