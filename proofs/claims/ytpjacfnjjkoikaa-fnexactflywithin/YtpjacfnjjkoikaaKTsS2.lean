/- DERIVED. spec.FlyTube: its walk, for whatever spec.FlySpans gives (written by wip/tools/mk_tss2.py). -/
import Derived.Test.YtpjacfnjjkoikaaKTsS1
import Derived.Test.YtpjacfnjjkoikaaKRFlyBox
import Derived.Test.YtpjacfnjjkoikaaKPQ0
import Derived.Test.YtpjacfnjjkoikaaKAp0
namespace Go.Proofs.Ytpjacfnjjkoikaa
namespace Fly
open Go.RowKit
set_option linter.unusedSimpArgs false
set_option linter.unusedVariables false

theorem infoBox : (Try.prog.info? 78).map (fun i => (i.zero, i.size, i.bytes)) = some (some (.agg #[.int .i64 0, .int .i64 0, .int .i64 0, .int .i64 0, .int .i64 0, .int .i64 0]), 6, 48) := by kernel_rfl
theorem mixedT : Try.prog.follows .mixedOrders = true := by kernel_rfl
def boxAt (x : DFlyPath) (L : List RFlySpan) (k : Nat) : RFlyBox :=
  let s := x.2.1.getD k (0, 0, 0, 0, 0, 0, false)
  (s.1, s.2.1, s.2.2.1, s.2.2.2.1, (L.getD k (0, 0)).1, (L.getD (k + 1) (0, 0)).2 - 1)
def tubeL (x : DFlyPath) (L : List RFlySpan) (k : Nat) : List RFlyBox := (List.range k).map (boxAt x L)
theorem tubeL_len (x : DFlyPath) (L : List RFlySpan) (k : Nat) : (tubeL x L k).length = k := by simp [tubeL]
theorem tubeL_succ (x : DFlyPath) (L : List RFlySpan) (k : Nat) : tubeL x L (k + 1) = tubeL x L k ++ [boxAt x L k] := by simp [tubeL, List.range_succ]
def tubeOf (x : DFlyPath) (L : List RFlySpan) (ok : Bool) : List RFlyBox := if ok then tubeL x L x.2.1.length else []
theorem emptyB (w : World) (e : TypeId) (B : Nat) (hB : B ≤ w.heap.size) : (w.alloc (.cells #[] e)).ownsRow B e 6 (.slice (some ⟨w.heap.size, 0, none⟩) 0 0) 0 [] :=
  World.ownsRow_made w #[] 0 hB (Nat.zero_le _) rfl
theorem new6b (W : World) (t : TypeId) (a b c d e f : Int) : ∀ j u, [Value.int .i64 a, .int .i64 b, .int .i64 c, .int .i64 d, .int .i64 e, .int .i64 f][j]? = some u → (W.alloc (.cells #[.int .i64 a, .int .i64 b, .int .i64 c, .int .i64 d, .int .i64 e, .int .i64 f] t)).cell? ((⟨W.heap.size, 0, none⟩ : Addr).add j) = some u := by
  intro j u hj
  match j, hj with
  | 0, hj => simp at hj; subst hj; simp [Addr.add]
  | 1, hj => simp at hj; subst hj; simp [Addr.add]
  | 2, hj => simp at hj; subst hj; simp [Addr.add]
  | 3, hj => simp at hj; subst hj; simp [Addr.add]
  | 4, hj => simp at hj; subst hj; simp [Addr.add]
  | 5, hj => simp at hj; subst hj; simp [Addr.add]
theorem one6b (a b c d e f : Int) : ∀ u ∈ [Value.int .i64 a, .int .i64 b, .int .i64 c, .int .i64 d, .int .i64 e, .int .i64 f], u.oneCell' = true := by
  intro u hu
  simp at hu
  rcases hu with rfl | rfl | rfl | rfl | rfl | rfl <;> rfl
def CT (sb g k : Nat) (sx sy sl sh l0 l1 : Int) (W : World) : Prop :=
  W.cell? ⟨sb, 0, none⟩ = some (.int .i64 sx) ∧ W.cell? ⟨sb, 1, none⟩ = some (.int .i64 sy) ∧ W.cell? ⟨sb, 2, none⟩ = some (.int .i64 sl) ∧ W.cell? ⟨sb, 3, none⟩ = some (.int .i64 sh) ∧ W.cell? ⟨g, k * 2, none⟩ = some (.int .i64 l0) ∧ W.cell? ⟨g, (k + 1) * 2 + 1, none⟩ = some (.int .i64 l1)
theorem CT.kept {sb g k : Nat} {sx sy sl sh l0 l1 : Int} {W W' : World} (h : CT sb g k sx sy sl sh l0 l1 W) (h1 : W'.heap[sb]? = W.heap[sb]?) (h2 : W'.heap[g]? = W.heap[g]?) : CT sb g k sx sy sl sh l0 l1 W' := by
  obtain ⟨q0, q1, q2, q3, q4, q5⟩ := h
  exact ⟨(World.cell?_of_block (w := W) h1).trans q0, (World.cell?_of_block (w := W) h1).trans q1, (World.cell?_of_block (w := W) h1).trans q2, (World.cell?_of_block (w := W) h1).trans q3, (World.cell?_of_block (w := W) h2).trans q4, (World.cell?_of_block (w := W) h2).trans q5⟩

set_option maxRecDepth 100000 in
set_option maxHeartbeats 8000000 in
theorem sTube (L : List RFlySpan) (ok : Bool) (x : DFlyPath) (ao : Option Addr) (cap : Nat) (w : World) (h : PathAt w x ao cap) (hL : ok = true → L.length = x.2.1.length + 1) (hR : ∀ k (h : k < L.length), 0 ≤ (L[k]'h).2 ∧ (L[k]'h).2 ≤ 10000) (hn : ok = true → x.2.1.length ≤ 1000)
    (HS : ∀ W, PathAt W x ao cap → Calls Try.prog 10 #[.agg #[.int .i64 x.1.1, .int .i64 x.1.2, .slice ao x.2.1.length cap, .int .i64 x.2.2.1, .int .i64 x.2.2.2]] W (GivesSp L ok W)) :
    Calls Try.prog 25 #[.agg #[.int .i64 x.1.1, .int .i64 x.1.2, .slice ao x.2.1.length cap, .int .i64 x.2.2.1, .int .i64 x.2.2.2]] w fun e w' => ∃ bo bc, e = .returned (.slice bo (tubeOf x L ok).length bc) ∧ w'.ownsRow w.heap.size 78 6 (.slice bo (tubeOf x L ok).length bc) (tubeOf x L ok).length (valsFlyBox (tubeOf x L ok)) ∧ Below w.heap.size w w' := by
  obtain ⟨i0, hi, hz0, hz1, hz2⟩ := info_parts infoBox
  have hcl := h.1
  have hcm : cap ≤ 9223372036854775807 := h.2.1
  obtain ⟨w0, hw0⟩ : ∃ w0 : World, w0 = (w.alloc (.cells #[.int .i64 x.1.1, .int .i64 x.1.2, .slice ao x.2.1.length cap, .int .i64 x.2.2.1, .int .i64 x.2.2.2] 34)).alloc (.cells #[] 78) := ⟨_, rfl⟩
  have hb0 : Below w.heap.size w w0 := by rw [hw0]; exact ((Below.refl _ _).alloc (Nat.le_refl _) _).alloc (by simp) _
  have HX0 : BxC w.heap.size #[.int .i64 x.1.1, .int .i64 x.1.2, .slice ao x.2.1.length cap, .int .i64 x.2.2.1, .int .i64 x.2.2.2] w0 := by rw [hw0]; exact (BxC.new w _ _).below ((Below.refl (w.heap.size + 1) _).alloc (by simp) _) (by omega)
  have hz0' : w0.heap.size = w.heap.size + 2 := by rw [hw0]; simp
  have HT := HS w0 (h.later hb0)
  unfold GivesSp at HT
  have hO0 : w0.ownsRow (w.heap.size + 1) 78 6 (.slice (some ⟨w.heap.size + 1, 0, none⟩) 0 0) 0 [] := by
    rw [hw0]
    have hx := emptyB (w.alloc (.cells #[.int .i64 x.1.1, .int .i64 x.1.2, .slice ao x.2.1.length cap, .int .i64 x.2.2.1, .int .i64 x.2.2.2] 34)) 78 (w.heap.size + 1) (by simp)
    simpa using hx
  rw [hw0] at HT
  go_enter Try.func25, Try.ntmps25
  go_wp2_with fail
  refine HT.mono ?_
  rw [← hw0]
  rintro e w1 ⟨so, sc, rfl, hO1, hb1⟩
  have hA1 := atFlySpan_owns hO1
  have hscm : L.length ≤ sc ∧ sc ≤ 9223372036854775807 := by
    rcases hO1.2 with ⟨h1, _⟩ | ⟨_, c3, _, h1, _, _, h2, h3, _⟩
    · injection h1 with _ e2 e3
      omega
    · injection h1 with _ _ e3
      subst e3
      exact ⟨h2, h3⟩
  obtain ⟨hsc1, hsc2⟩ := hscm
  have hO2 := owns_below hO0 (hb1.mono (Nat.le_refl _))
  have hB1 := hb0.trans (hb1.mono hb0.size)
  have HX1 := HX0.below hb1 (by omega)
  have hz1' : w.heap.size + 2 ≤ w1.heap.size := by have := hb1.size; omega
  have hNB : ∀ g, so = some ⟨g, 0, none⟩ → (Value.slice (some ⟨w.heap.size + 1, 0, none⟩) 0 0).ownBlock ≠ some g ∧ w.heap.size ≠ g := fun g e => by
    subst e
    have h1 := own_ge hO1 g rfl
    refine ⟨fun h => ?_, by omega⟩
    simp [Value.ownBlock] at h
    omega
  have hlt0 : w.heap.size < w1.heap.size := by omega
  clear HT HS hO1 hO0 hb1 hb0 hw0 hz0' HX0
  cases ok
  · have y2 := HX1 2
    simp at y2
    have HO : Hid (w1.ownsRow (w.heap.size + 1) 78 6 (.slice (some ⟨w.heap.size + 1, 0, none⟩) 0 0) 0 []) := hO2
    clear hO2 hA1 hL HX1
    go_wp2
    go_loopw [3, 6] (fun v i wr => i = .int .i64 0 ∧ v = .slice (some ⟨w.heap.size + 1, 0, none⟩) 0 0 ∧ wr = w1) (fun _ i _ => 0)
    case atStart => exact ⟨rfl, rfl, rfl⟩
    case round =>
      obtain ⟨rfl, rfl, rfl⟩ := hrel
      go_wp2
      go_ret
      exact ⟨some ⟨w.heap.size + 1, 0, none⟩, 0, rfl, by have hq := HO.out; exact own_lo1' hq, hB1⟩
  · have hLL : Hid (L.length = x.2.1.length + 1) := hL rfl
    have hn := hn rfl
    clear hL
    go_wp2
    go_loopw [3, 6] (fun v i wr => ∃ (k : Nat) (bo : Option Addr) (bc : Nat), k ≤ x.2.1.length ∧ i = .int .i64 k ∧ v = .slice bo k bc ∧ wr.ownsRow (w.heap.size + 1) 78 6 (.slice bo k bc) k (valsFlyBox (tubeL x L k)) ∧ Below w.heap.size w wr ∧ AtFlySpan wr so L ∧ w.heap.size + 2 ≤ wr.heap.size ∧ (∀ g, so = some ⟨g, 0, none⟩ → (Value.slice bo k bc).ownBlock ≠ some g) ∧ BxC w.heap.size #[.int .i64 x.1.1, .int .i64 x.1.2, .slice ao x.2.1.length cap, .int .i64 x.2.2.1, .int .i64 x.2.2.2] wr) (fun _ i _ => x.2.1.length - (intOf i).toNat)
    case atStart => exact ⟨0, _, 0, Nat.zero_le _, rfl, rfl, hO2, hB1, hA1, hz1', fun g e => (hNB g e).1, HX1⟩
    case round =>
      have hNW : ∀ g, so = some ⟨g, 0, none⟩ → w.heap.size ≠ g := fun g e => (hNB g e).2
      clear hO2 hB1 hA1 hNB HX1
      obtain ⟨k, bo, bc, hk, rfl, rfl, hO, hB, hA, hzr, hNB, HX⟩ := hrel
      have y2 := HX 2
      simp at y2
      have hxl : w.heap.size < wr.heap.size := by omega
      by_cases hlt : k < x.2.1.length
      · have hkL : k < L.length := by have := hLL.out; omega
        have hkL1 : k + 1 < L.length := by have := hLL.out; omega
        obtain ⟨g, rfl, hg, c0, _⟩ := hA.elem hkL
        obtain ⟨g', e', _, _, c1⟩ := hA.elem hkL1
        cases e'
        have hNg := hNB g rfl
        have hNw := hNW g rfl
        have hkI : (k : Int) < (x.2.1.length : Int) := by omega
        have hkI2 : (k : Int) < (L.length : Int) := by omega
        have hkI3 : (k : Int) + 1 < (L.length : Int) := by omega
        have hk1N : ((k : Int) + 1).toNat = k + 1 := by omega
        have hk1p : ¬ (k : Int) + 1 < 0 := by omega
        have hk1w : IntKind.i64.wrap ((k : Int) + 1) = (k : Int) + 1 := by rw [IntKind.wrap_i64] <;> omega
        have hnk : (L.length ≤ k) = False := by simp; omega
        have hnk1 : (L.length ≤ k + 1) = False := by simp; omega
        have hRk := hR (k + 1) hkL1
        have HST : Hid (tubeL x L (k + 1) = tubeL x L k ++ [((x.2.1[k]'hlt).1, (x.2.1[k]'hlt).2.1, (x.2.1[k]'hlt).2.2.1, (x.2.1[k]'hlt).2.2.2.1, (L[k]'hkL).1, (L[k + 1]'hkL1).2 - 1)]) := by
          have h1 := tubeL_succ x L k
          unfold boxAt at h1
          rw [List.getD_eq_getElem?_getD, List.getElem?_eq_getElem hlt, List.getD_eq_getElem?_getD, List.getElem?_eq_getElem hkL, List.getD_eq_getElem?_getD, List.getElem?_eq_getElem hkL1] at h1
          exact h1
        obtain ⟨b, off, rfl, hok, a0, a1, a2, a3, a4, a5, a6, _⟩ := elem_FlyStep h hlt
        have d0 := (hB.cell (p := ⟨b, off + k * 7, none⟩) hok).trans a0
        have d1 := (hB.cell (p := ⟨b, off + k * 7 + 1, none⟩) hok).trans a1
        have d2 := (hB.cell (p := ⟨b, off + k * 7 + 2, none⟩) hok).trans a2
        have d3 := (hB.cell (p := ⟨b, off + k * 7 + 3, none⟩) hok).trans a3
        have d4 := (hB.cell (p := ⟨b, off + k * 7 + 4, none⟩) hok).trans a4
        have d5 := (hB.cell (p := ⟨b, off + k * 7 + 5, none⟩) hok).trans a5
        have d6 := (hB.cell (p := ⟨b, off + k * 7 + 6, none⟩) hok).trans a6
        have hA' : Hid _ := hA
        have hOwn : ∀ j, (Value.slice bo k bc).ownBlock = some j → w.heap.size + 1 ≤ j ∧ j < wr.heap.size := fun j hj => hO.lt j hj
        generalize L[k]'hkL = S0 at *
        generalize L[k + 1]'hkL1 = S1 at *
        obtain ⟨l0, l0'⟩ := S0
        obtain ⟨l1', l1⟩ := S1
        simp only at c0 c1 HST hRk
        generalize x.2.1[k]'hlt = ST at *
        obtain ⟨sx, sy, sl, sh, sf, st, sm⟩ := ST
        simp only at d0 d1 d2 d3 d4 d5 d6 HST
        have hl1w : IntKind.i64.wrap (l1 - 1) = l1 - 1 := by rw [IntKind.wrap_i64] <;> omega
        clear a0 a1 a2 a3 a4 a5 a6 hR hNB hNW hA h
        go_wp2_with fail
        obtain ⟨wa, hwa⟩ : ∃ wa : World, wa = wr.alloc (.cells #[.int .i64 sx, .int .i64 sy, .int .i64 sl, .int .i64 sh, .int .i64 sf, .int .i64 st, .bool sm] 76) := ⟨_, rfl⟩
        rw [← hwa]
        have hba : Below wr.heap.size wr wa := by rw [hwa]; exact (Below.refl _ _).alloc (Nat.le_refl _) _
        have hSB : BxC wr.heap.size #[.int .i64 sx, .int .i64 sy, .int .i64 sl, .int .i64 sh, .int .i64 sf, .int .i64 st, .bool sm] wa := by rw [hwa]; exact BxC.new _ _ _
        have hza : wa.heap.size = wr.heap.size + 1 := by rw [hwa]; simp
        obtain ⟨sb, hsb⟩ : ∃ sb, wr.heap.size = sb := ⟨_, rfl⟩
        have e0 := hSB 0
        have e1 := hSB 1
        have e2 := hSB 2
        have e3 := hSB 3
        simp at e0 e1 e2 e3
        have f0 := (hba.cell (p := ⟨g, k * 2, none⟩) hg).trans c0
        have f1 := (hba.cell (p := ⟨g, (k + 1) * 2 + 1, none⟩) hg).trans c1
        have hOa := owns_below hO hba
        have hBa := hB.trans (hba.mono hB.size)
        have HXa := HX.below hba hxl
        have hAa := AtFlySpan.later hA'.out hba
        simp only [hsb] at *
        have HC0 : CT sb g k sx sy sl sh l0 l1 wa.drew := ⟨e0, e1, e2, e3, f0, f1⟩
        have hOd := hOa.drew
        have hBd : Below w.heap.size w wa.drew := hBa.drew
        have HXd : BxC w.heap.size _ wa.drew := HXa
        have hAd : Hid (AtFlySpan wa.drew (some ⟨g, 0, none⟩) L) := AtFlySpan.kept hAa (fun _ _ _ => rfl) (Nat.le_refl _)
        have hzd : sb < wa.drew.heap.size := by show sb < wa.heap.size; omega
        refine wp_region_RC (CT sb g k sx sy sl sh l0 l1) mixedT ?_
        clear hwa hba hSB e0 e1 e2 e3 f0 f1 hOa hBa HXa hAa c0 c1 d0 d1 d2 d3 d4 d5 d6 hO hB HX hA' y2 hza hsb
        generalize wa.drew = wd at *
        refine RC.take (i := 0) (v := .slice bo k bc) rfl (by kernel_rfl) (by kernel_rfl) (by kernel_rfl) (fun _ _ _ h => h) HC0 (by kernel_rfl) ?y1 ?r1
        case y1 => (intro W hW; clear hW; clear HC0 hOd hBd; go_simp)
        refine RC.take (i := 1) (v := .pointer (some ⟨sb, 0, none⟩)) rfl (by kernel_rfl) (by kernel_rfl) (by kernel_rfl) (fun _ _ _ h => h) HC0 (by kernel_rfl) ?y2 ?r2
        case y2 => (intro W hW; clear hW; clear HC0 hOd hBd; go_simp)
        refine RC.take (i := 2) (v := .int .i64 (sx)) rfl (by kernel_rfl) (by kernel_rfl) (by kernel_rfl) (fun _ _ _ h => h) HC0 (by kernel_rfl) ?y3 ?r3
        case y3 => (intro W hW; obtain ⟨u0, u1, u2, u3, u4, u5⟩ := hW; clear HC0 hOd hBd; go_simp)
        refine RC.take (i := 3) (v := .pointer (some ⟨sb, 1, none⟩)) rfl (by kernel_rfl) (by kernel_rfl) (by kernel_rfl) (fun _ _ _ h => h) HC0 (by kernel_rfl) ?y4 ?r4
        case y4 => (intro W hW; clear hW; clear HC0 hOd hBd; go_simp)
        refine RC.take (i := 4) (v := .int .i64 (sy)) rfl (by kernel_rfl) (by kernel_rfl) (by kernel_rfl) (fun _ _ _ h => h) HC0 (by kernel_rfl) ?y5 ?r5
        case y5 => (intro W hW; obtain ⟨u0, u1, u2, u3, u4, u5⟩ := hW; clear HC0 hOd hBd; go_simp)
        refine RC.take (i := 5) (v := .pointer (some ⟨sb, 2, none⟩)) rfl (by kernel_rfl) (by kernel_rfl) (by kernel_rfl) (fun _ _ _ h => h) HC0 (by kernel_rfl) ?y6 ?r6
        case y6 => (intro W hW; clear hW; clear HC0 hOd hBd; go_simp)
        refine RC.take (i := 6) (v := .int .i64 (sl)) rfl (by kernel_rfl) (by kernel_rfl) (by kernel_rfl) (fun _ _ _ h => h) HC0 (by kernel_rfl) ?y7 ?r7
        case y7 => (intro W hW; obtain ⟨u0, u1, u2, u3, u4, u5⟩ := hW; clear HC0 hOd hBd; go_simp)
        refine RC.take (i := 7) (v := .pointer (some ⟨sb, 3, none⟩)) rfl (by kernel_rfl) (by kernel_rfl) (by kernel_rfl) (fun _ _ _ h => h) HC0 (by kernel_rfl) ?y8 ?r8
        case y8 => (intro W hW; clear hW; clear HC0 hOd hBd; go_simp)
        refine RC.take (i := 8) (v := .int .i64 (sh)) rfl (by kernel_rfl) (by kernel_rfl) (by kernel_rfl) (fun _ _ _ h => h) HC0 (by kernel_rfl) ?y9 ?r9
        case y9 => (intro W hW; obtain ⟨u0, u1, u2, u3, u4, u5⟩ := hW; clear HC0 hOd hBd; go_simp)
        refine RC.take (i := 9) (v := .slice (some ⟨g, 0, none⟩) L.length sc) rfl (by kernel_rfl) (by kernel_rfl) (by kernel_rfl) (fun _ _ _ h => h) HC0 (by kernel_rfl) ?y10 ?r10
        case y10 => (intro W hW; clear hW; clear HC0 hOd hBd; go_simp)
        refine RC.take (i := 10) (v := .int .i64 (k : Int)) rfl (by kernel_rfl) (by kernel_rfl) (by kernel_rfl) (fun _ _ _ h => h) HC0 (by kernel_rfl) ?y11 ?r11
        case y11 => (intro W hW; clear hW; clear HC0 hOd hBd; go_simp)
        refine RC.take (i := 11) (v := .pointer (some ⟨g, k * 2, none⟩)) rfl (by kernel_rfl) (by kernel_rfl) (by kernel_rfl) (fun _ _ _ h => h) HC0 (by kernel_rfl) ?y12 ?r12
        case y12 => (intro W hW; clear hW; clear HC0 hOd hBd; go_simp)
        refine RC.take (i := 12) (v := .pointer (some ⟨g, k * 2, none⟩)) rfl (by kernel_rfl) (by kernel_rfl) (by kernel_rfl) (fun _ _ _ h => h) HC0 (by kernel_rfl) ?y13 ?r13
        case y13 => (intro W hW; clear hW; clear HC0 hOd hBd; go_simp)
        refine RC.take (i := 13) (v := .int .i64 (l0)) rfl (by kernel_rfl) (by kernel_rfl) (by kernel_rfl) (fun _ _ _ h => h) HC0 (by kernel_rfl) ?y14 ?r14
        case y14 => (intro W hW; obtain ⟨u0, u1, u2, u3, u4, u5⟩ := hW; clear HC0 hOd hBd; go_simp)
        refine RC.take (i := 14) (v := .slice (some ⟨g, 0, none⟩) L.length sc) rfl (by kernel_rfl) (by kernel_rfl) (by kernel_rfl) (fun _ _ _ h => h) HC0 (by kernel_rfl) ?y15 ?r15
        case y15 => (intro W hW; clear hW; clear HC0 hOd hBd; go_simp)
        refine RC.take (i := 15) (v := .int .i64 (k : Int)) rfl (by kernel_rfl) (by kernel_rfl) (by kernel_rfl) (fun _ _ _ h => h) HC0 (by kernel_rfl) ?y16 ?r16
        case y16 => (intro W hW; clear hW; clear HC0 hOd hBd; go_simp)
        refine RC.take (i := 16) (v := .int .i64 ((k : Int) + 1)) rfl (by kernel_rfl) (by kernel_rfl) (by kernel_rfl) (fun _ _ _ h => h) HC0 (by kernel_rfl) ?y17 ?r17
        case y17 => (intro W hW; clear hW; clear HC0 hOd hBd; go_simp)
        refine RC.take (i := 17) (v := .pointer (some ⟨g, (k + 1) * 2, none⟩)) rfl (by kernel_rfl) (by kernel_rfl) (by kernel_rfl) (fun _ _ _ h => h) HC0 (by kernel_rfl) ?y18 ?r18
        case y18 => (intro W hW; clear hW; clear HC0 hOd hBd; go_simp)
        refine RC.take (i := 18) (v := .pointer (some ⟨g, (k + 1) * 2 + 1, none⟩)) rfl (by kernel_rfl) (by kernel_rfl) (by kernel_rfl) (fun _ _ _ h => h) HC0 (by kernel_rfl) ?y19 ?r19
        case y19 => (intro W hW; clear hW; clear HC0 hOd hBd; go_simp)
        refine RC.take (i := 19) (v := .int .i64 (l1)) rfl (by kernel_rfl) (by kernel_rfl) (by kernel_rfl) (fun _ _ _ h => h) HC0 (by kernel_rfl) ?y20 ?r20
        case y20 => (intro W hW; obtain ⟨u0, u1, u2, u3, u4, u5⟩ := hW; clear HC0 hOd hBd; go_simp)
        refine RC.take (i := 20) (v := .int .i64 (l1 - 1)) rfl (by kernel_rfl) (by kernel_rfl) (by kernel_rfl) (fun _ _ _ h => h) HC0 (by kernel_rfl) ?y21 ?r21
        case y21 => (intro W hW; clear hW; clear HC0 hOd hBd; go_simp)
        refine RC.take (i := 21) (v := .agg #[.int .i64 sx, .int .i64 sy, .int .i64 sl, .int .i64 sh, .int .i64 l0, .int .i64 (l1 - 1)]) rfl (by kernel_rfl) (by kernel_rfl) (by kernel_rfl) (fun _ _ _ h => h) HC0 (by kernel_rfl) ?y22 ?r22
        case y22 => (intro W hW; clear hW; clear HC0 hOd hBd; go_simp)
        refine RC.want (i := 22) (by kernel_rfl) rfl (by kernel_rfl) (fun K hK => ?_)
        go_simp
        have hbb : Below wd.heap.size wd (wd.alloc (.cells #[.int .i64 sx, .int .i64 sy, .int .i64 sl, .int .i64 sh, .int .i64 l0, .int .i64 (l1 - 1)] 78)) := (Below.refl _ _).alloc (Nat.le_refl _) _
        have HC1 := HC0.kept (hbb.block sb (by omega)) (hbb.block g (by omega))
        refine hK _ _ HC1 ?_
        clear hK K
        refine RC.want (i := 23) (by kernel_rfl) rfl (by kernel_rfl) (fun K hK => ?_)
        refine wpOp_append _ _ _ 45 rfl (w.heap.size + 1) 78 i0 (.agg #[.int .i64 0, .int .i64 0, .int .i64 0, .int .i64 0, .int .i64 0, .int .i64 0]) 6 48 Try.underlying45 hi hz0 hz1 hz2 rfl (by decide) (.slice bo k bc) k _ rfl (hOd.alloc _) ⟨wd.heap.size, 0, none⟩ 1 1 [.int .i64 sx, .int .i64 sy, .int .i64 sl, .int .i64 sh, .int .i64 l0, .int .i64 (l1 - 1)] rfl rfl (new6b _ _ _ _ _ _ _ _) (one6b _ _ _ _ _ _) (by unfold maxLen; omega) (by omega) (by simp; omega) ?_
        intro v' w6 hown hgrow hat
        obtain ⟨g', cp, rfl⟩ := owns_pos hown
        have hne : g' ≠ g := fun e => by
          subst e
          rcases hat with h1 | h1
          · exact hNg h1.symm
          · simp [Value.ownBlock] at h1; omega
        have hk6 : ∀ q, q < wd.heap.size → (Value.slice bo k bc).ownBlock ≠ some q → w6.heap[q]? = wd.heap[q]? := fun q hq hn => (hgrow.block q (by simp; omega) (fun e => hn e.symm)).trans (Below.heap_alloc _ _ _ hq)
        have hsbn : (Value.slice bo k bc).ownBlock ≠ some sb := fun e => by have := hOwn sb e; omega
        have hwn : (Value.slice bo k bc).ownBlock ≠ some w.heap.size := fun e => by have := hOwn _ e; omega
        have HC6 := HC0.kept (hk6 sb (by omega) hsbn) (hk6 g (by omega) hNg)
        have hz6 : w.heap.size + 2 ≤ w6.heap.size := by have := hgrow.size; simp at this; omega
        have HB6 : Hid (Below w.heap.size w w6) := (hBd.alloc hBd.size _).grown hgrow (by simp; omega) (fun j hj => by have := hOwn j hj; omega)
        have HX6 : Hid (BxC w.heap.size _ w6) := fun i => (World.cell?_of_block (w := wd) (hk6 w.heap.size (by omega) hwn)).trans (HXd i)
        have HA6 : Hid (AtFlySpan w6 (some ⟨g, 0, none⟩) L) := AtFlySpan.kept hAd.out (fun g1 e h2 => by cases e; exact hk6 g (by omega) hNg) (by have := hgrow.size; simp at this; omega)
        have HO6 : Hid (w6.ownsRow (w.heap.size + 1) 78 6 (.slice (some ⟨g', 0, none⟩) (k + 1) cp) (k + 1) (valsFlyBox (tubeL x L (k + 1)))) := by
          show World.ownsRow _ _ _ _ _ _ _
          rw [HST.out, valsFlyBox_snoc]
          exact hown
        refine hK _ _ HC6 ?_
        clear hK K HC0 HC1 hbb hown hgrow hat hk6 hOd hBd HXd hAd hsbn hwn
        refine RC.take (i := 24) (v := .slice (some ⟨g', 0, none⟩) (k + 1) cp) rfl (by kernel_rfl) (by kernel_rfl) (by kernel_rfl) (fun _ _ _ h => h) HC6 (by kernel_rfl) ?yz ?rz
        case yz => (intro W hW; clear hW HC6; go_simp)
        refine RC.done (by kernel_rfl) ?_
        clear HC6
        go_wp2
        go_roundw
        case rel => exact ⟨k + 1, _, _, by omega, by go_num, rfl, HO6.out, HB6.out, HA6.out, hz6, fun g1 e h => by cases e; simp [Value.ownBlock] at h; exact hne h, HX6.out⟩
        case measure => simp [intOf]; omega
      · have e : k = x.2.1.length := by omega
        subst e
        have hkI : ¬ (x.2.1.length : Int) < (x.2.1.length : Int) := by omega
        have HO : Hid _ := hO
        clear hO hA HX
        go_wp2
        go_ret
        have hq := HO.out
        refine ⟨bo, bc, by simp [tubeOf, tubeL_len], ?_, hB⟩
        simp only [tubeOf, tubeL_len, if_true]
        exact own_lo1' hq

end Fly
end Go.Proofs.Ytpjacfnjjkoikaa
