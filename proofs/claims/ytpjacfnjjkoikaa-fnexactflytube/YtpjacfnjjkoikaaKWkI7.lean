/- DERIVED. impl.FlyTube: its walk (written by wip/tools/mk_wk2.py). -/
import Derived.Test.YtpjacfnjjkoikaaKWkI5
import Derived.Test.YtpjacfnjjkoikaaKTsS2
namespace Go.Proofs.Ytpjacfnjjkoikaa
namespace Fly
open Go.RowKit
set_option linter.unusedSimpArgs false
set_option linter.unusedVariables false


theorem tubeL_next (x : DFlyPath) (L : List RFlySpan) (k : Nat) (h : k < x.2.1.length) (hL : k + 1 < L.length) :
    valsFlyBox (tubeL x L k) ++ [.int .i64 (x.2.1[k]'h).1, .int .i64 (x.2.1[k]'h).2.1, .int .i64 (x.2.1[k]'h).2.2.1, .int .i64 (x.2.1[k]'h).2.2.2.1, .int .i64 (L[k]'(Nat.lt_of_succ_lt hL)).1, .int .i64 ((L[k + 1]'hL).2 - 1)] = valsFlyBox (tubeL x L (k + 1)) := by
  have h1 := tubeL_succ x L k
  unfold boxAt at h1
  rw [List.getD_eq_getElem?_getD, List.getElem?_eq_getElem h, List.getD_eq_getElem?_getD, List.getElem?_eq_getElem (Nat.lt_of_succ_lt hL), List.getD_eq_getElem?_getD, List.getElem?_eq_getElem hL] at h1
  rw [h1, valsFlyBox_snoc]
  rfl
set_option maxRecDepth 100000 in
set_option maxHeartbeats 8000000 in
theorem iTube (x : DFlyPath) (ao : Option Addr) (cap : Nat) (w : World) (h : PathAt w x ao cap) :
    Calls Try.prog 26 #[.agg #[.int .i64 x.1.1, .int .i64 x.1.2, .slice ao x.2.1.length cap, .int .i64 x.2.2.1, .int .i64 x.2.2.2]] w fun e w' => ∃ bo bc, e = .returned (.slice bo (tubeOf x (spansF x).1 (spansF x).2).length bc) ∧ w'.ownsRow w.heap.size 78 6 (.slice bo (tubeOf x (spansF x).1 (spansF x).2).length bc) (tubeOf x (spansF x).1 (spansF x).2).length (valsFlyBox (tubeOf x (spansF x).1 (spansF x).2)) ∧ Below w.heap.size w w' := by
  obtain ⟨i0, hi, hz0, hz1, hz2⟩ := info_parts infoBox
  have hcl := h.1
  have hcm : cap ≤ 9223372036854775807 := h.2.1
  obtain ⟨w0, hw0⟩ : ∃ w0 : World, w0 = w.alloc (.cells #[.int .i64 x.1.1, .int .i64 x.1.2, .slice ao x.2.1.length cap, .int .i64 x.2.2.1, .int .i64 x.2.2.2] 34) := ⟨_, rfl⟩
  have hb0 : Below w.heap.size w w0 := by rw [hw0]; exact (Below.refl _ _).alloc (Nat.le_refl _) _
  have HX0 : BxC w.heap.size #[.int .i64 x.1.1, .int .i64 x.1.2, .slice ao x.2.1.length cap, .int .i64 x.2.2.1, .int .i64 x.2.2.2] w0 := by rw [hw0]; exact BxC.new _ _ _
  have hz0' : w.heap.size < w0.heap.size := by rw [hw0]; simp
  have HT := iSpans x ao cap w0 (h.later hb0)
  unfold GivesSp at HT
  have hL : (spansF x).2 = true → (spansF x).1.length = x.2.1.length + 1 := fun h1 => by
    by_cases hp : PathOk x ∧ FwOk x ∧ BkOk x
    · rw [spans_yes hp.1 hp.2.1 hp.2.2]; exact spansL_len x
    · rw [spans_no hp] at h1; cases h1
  have hn : (spansF x).2 = true → x.2.1.length ≤ 1000 := fun h1 => by
    by_cases hp : PathOk x ∧ FwOk x ∧ BkOk x
    · have := hp.1.2.1.2; omega
    · rw [spans_no hp] at h1; cases h1
  have hR := spans_range x
  generalize (spansF x).1 = L at *
  generalize (spansF x).2 = ok at *
  rw [hw0] at HT
  go_enter Try.func26, Try.ntmps26
  go_wp2_with fail
  refine HT.mono ?_
  rw [← hw0]
  rintro e w1 ⟨so, sc, rfl, hO1, hb1⟩
  have hA1 := hid (atFlySpan_owns hO1)
  have hcc := (own_caps hO1).2
  have hB1 := hb0.trans (hb1.mono hb0.size)
  have HX1 := HX0.below hb1 hz0'
  have hz1' : w.heap.size < w1.heap.size := Nat.lt_of_lt_of_le hz0' hb1.size
  clear HT hO1 hb1 hb0 hw0 hz0' HX0
  cases ok
  · have HB := hid hB1
    clear HX1 hB1 h
    go_wp2
    go_ret
    exact ⟨none, 0, rfl, World.ownsRow_nil _ _ _ _, HB.out⟩
  · have hLL := hid (hL rfl)
    have hn := hn rfl
    have y2 := HX1 2
    simp at y2
    have HB1 := hid hB1
    clear hL HX1 hB1
    go_wp2
    go_loopw [5, 18] (fun v i wr => ∃ (k : Nat) (bo : Option Addr) (bc : Nat), k ≤ x.2.1.length ∧ i = .int .i64 k ∧ v = .slice bo k bc ∧ wr.ownsRow w1.heap.size 78 6 (.slice bo k bc) k (valsFlyBox (tubeL x L k)) ∧ Below w1.heap.size w1 wr) (fun _ i _ => x.2.1.length - (intOf i).toNat)
    case atStart => exact ⟨0, none, 0, Nat.zero_le _, rfl, rfl, World.ownsRow_nil _ _ _ _, Below.refl _ _⟩
    case round =>
      obtain ⟨k, bo, bc, hk, rfl, rfl, hO, hB⟩ := hrel
      by_cases hlt : k < x.2.1.length
      · have hkL1 : k + 1 < L.length := by have := hLL.out; omega
        have hkL : k < L.length := by omega
        obtain ⟨g, rfl, hg, c0, _⟩ := hA1.out.elem hkL
        obtain ⟨g', e', _, _, c1⟩ := hA1.out.elem hkL1
        cases e'
        have f0 := (hB.cell (p := ⟨g, k * 2, none⟩) hg).trans c0
        have f1 := (hB.cell (p := ⟨g, (k + 1) * 2 + 1, none⟩) hg).trans c1
        have hkI : (k : Int) < (x.2.1.length : Int) := by omega
        have hkI2 : (k : Int) < (L.length : Int) := by omega
        have hkI3 : (k : Int) + 1 < (L.length : Int) := by omega
        have hk1N : ((k : Int) + 1).toNat = k + 1 := by omega
        have hk1p : ¬ (k : Int) + 1 < 0 := by omega
        have hk1w : IntKind.i64.wrap ((k : Int) + 1) = (k : Int) + 1 := by rw [IntKind.wrap_i64] <;> omega
        have HSN := hid (tubeL_next x L k hlt hkL1)
        have hRk := hR (k + 1) hkL1
        obtain ⟨b, off, rfl, hok, a0, a1, a2, a3, a4, a5, a6, _⟩ := elem_FlyStep h hlt
        have hbw := fun o => (hB.cell (p := ⟨b, o, none⟩) (Nat.lt_of_lt_of_le hok HB1.out.size)).trans (HB1.out.cell (p := ⟨b, o, none⟩) hok)
        have d0 := (hbw _).trans a0
        have d1 := (hbw _).trans a1
        have d2 := (hbw _).trans a2
        have d3 := (hbw _).trans a3
        have d4 := (hbw _).trans a4
        have d5 := (hbw _).trans a5
        have d6 := (hbw _).trans a6
        clear a0 a1 a2 a3 a4 a5 a6 hbw c0 c1
        obtain ⟨V1, hV1e⟩ : ∃ V1, valsFlyBox (tubeL x L (k + 1)) = V1 := ⟨_, rfl⟩
        rw [hV1e] at HSN
        have hV1 := hid hV1e
        clear hV1e
        generalize valsFlyBox (tubeL x L k) = V0 at *
        generalize L[k]'hkL = S0 at *
        generalize L[k + 1]'hkL1 = S1 at *
        obtain ⟨l0, l0'⟩ := S0
        obtain ⟨l1', l1⟩ := S1
        simp only at f0 f1 HSN hRk
        generalize x.2.1[k]'hlt = ST at *
        obtain ⟨sx, sy, sl, sh, sf, st, sm⟩ := ST
        simp only at d0 d1 d2 d3 d4 d5 d6 HSN
        have hl1w : IntKind.i64.wrap (l1 - 1) = l1 - 1 := by rw [IntKind.wrap_i64] <;> omega
        have hO_ := hid hO
        have hB_ := hid hB
        have hOwn : ∀ j, (Value.slice bo k bc).ownBlock = some j → w1.heap.size ≤ j ∧ j < wr.heap.size := fun j hj => hO.lt j hj
        have hgr : g < wr.heap.size := Nat.lt_of_lt_of_le hg hB.size
        have hyr := (hB.cell (p := ⟨w.heap.size, 2, none⟩) hz1').trans y2
        clear hO hB h hR hA1
        go_wp2_with fail
        obtain ⟨wa, hwa⟩ : ∃ wa : World, wa = wr.alloc (.cells #[.int .i64 sx, .int .i64 sy, .int .i64 sl, .int .i64 sh, .int .i64 sf, .int .i64 st, .bool sm] 76) := ⟨_, rfl⟩
        rw [← hwa]
        have hba : Below wr.heap.size wr wa := by rw [hwa]; exact (Below.refl _ _).alloc (Nat.le_refl _) _
        have hSB : BxC wr.heap.size #[.int .i64 sx, .int .i64 sy, .int .i64 sl, .int .i64 sh, .int .i64 sf, .int .i64 st, .bool sm] wa := by rw [hwa]; exact BxC.new _ _ _
        have hza : wr.heap.size < wa.heap.size := by rw [hwa]; simp
        have e0 := hSB 0
        have e1 := hSB 1
        have e2 := hSB 2
        have e3 := hSB 3
        simp at e0 e1 e2 e3
        have hO := (owns_below hO_.out hba).drew
        have hB : Below w1.heap.size w1 wa.drew := (hB_.out.trans (hba.mono hB_.out.size)).drew
        have HC : CL [(⟨wr.heap.size, 0, none⟩, .int .i64 sx), (⟨wr.heap.size, 1, none⟩, .int .i64 sy), (⟨wr.heap.size, 2, none⟩, .int .i64 sl), (⟨wr.heap.size, 3, none⟩, .int .i64 sh), (⟨g, k * 2, none⟩, .int .i64 l0), (⟨g, (k + 1) * 2 + 1, none⟩, .int .i64 l1)] wa.drew := ⟨e0, e1, e2, e3, (hba.cell (p := ⟨g, k * 2, none⟩) hgr).trans f0, (hba.cell (p := ⟨g, (k + 1) * 2 + 1, none⟩) hgr).trans f1, trivial⟩
        have HC0_ := hid HC
        have hsbd : wr.heap.size < wa.drew.heap.size := hza
        have hgd : g < wa.drew.heap.size := Nat.lt_trans hgr hza
        have hlt : CLlt wa.drew.heap.size [(⟨wr.heap.size, 0, none⟩, .int .i64 sx), (⟨wr.heap.size, 1, none⟩, .int .i64 sy), (⟨wr.heap.size, 2, none⟩, .int .i64 sl), (⟨wr.heap.size, 3, none⟩, .int .i64 sh), (⟨g, k * 2, none⟩, .int .i64 l0), (⟨g, (k + 1) * 2 + 1, none⟩, .int .i64 l1)] := ⟨hsbd, hsbd, hsbd, hsbd, hgd, hgd, trivial⟩
        refine wp_region_RD (CL [(⟨wr.heap.size, 0, none⟩, .int .i64 sx), (⟨wr.heap.size, 1, none⟩, .int .i64 sy), (⟨wr.heap.size, 2, none⟩, .int .i64 sl), (⟨wr.heap.size, 3, none⟩, .int .i64 sh), (⟨g, k * 2, none⟩, .int .i64 l0), (⟨g, (k + 1) * 2 + 1, none⟩, .int .i64 l1)]) [] mixedT ?_
        generalize wr.heap.size = sb at *
        generalize wa.drew = wd at *
        clear hwa hba hSB hza e0 e1 e2 e3 f0 f1 hO_ hB_ d0 d1 d2 d3 d4 d5 d6 hyr
        refine RD.pure (i := 0) (v := .slice bo k bc) rfl (by kernel_rfl) (by kernel_rfl) (by kernel_rfl) (by decide) (fun _ _ _ h => h) (fun _ => HC) (by kernel_rfl) ?y23 ?r23
        case y23 => (intro W; clear HC hO hB HSN HC0_; go_simp)
        refine RD.pure (i := 1) (v := .pointer (some ⟨sb, 0, none⟩)) rfl (by kernel_rfl) (by kernel_rfl) (by kernel_rfl) (by decide) (fun _ _ _ h => h) (fun _ => HC) (by kernel_rfl) ?y24 ?r24
        case y24 => (intro W; clear HC hO hB HSN HC0_; go_simp)
        refine RD.take (i := 2) (v := .int .i64 sx) rfl (by kernel_rfl) (by kernel_rfl) (by kernel_rfl) (by kernel_rfl) (fun _ _ _ h => h) HC (by kernel_rfl) ?y25 ?r25
        case y25 => (intro W hW; obtain ⟨u0, u1, u2, u3, u4, u5, _⟩ := hW; clear HC hO hB HSN HC0_; go_simp)
        refine RD.pure (i := 3) (v := .pointer (some ⟨sb, 1, none⟩)) rfl (by kernel_rfl) (by kernel_rfl) (by kernel_rfl) (by decide) (fun _ _ _ h => h) (fun _ => HC) (by kernel_rfl) ?y26 ?r26
        case y26 => (intro W; clear HC hO hB HSN HC0_; go_simp)
        refine RD.take (i := 4) (v := .int .i64 sy) rfl (by kernel_rfl) (by kernel_rfl) (by kernel_rfl) (by kernel_rfl) (fun _ _ _ h => h) HC (by kernel_rfl) ?y27 ?r27
        case y27 => (intro W hW; obtain ⟨u0, u1, u2, u3, u4, u5, _⟩ := hW; clear HC hO hB HSN HC0_; go_simp)
        refine RD.pure (i := 5) (v := .pointer (some ⟨sb, 2, none⟩)) rfl (by kernel_rfl) (by kernel_rfl) (by kernel_rfl) (by decide) (fun _ _ _ h => h) (fun _ => HC) (by kernel_rfl) ?y28 ?r28
        case y28 => (intro W; clear HC hO hB HSN HC0_; go_simp)
        refine RD.take (i := 6) (v := .int .i64 sl) rfl (by kernel_rfl) (by kernel_rfl) (by kernel_rfl) (by kernel_rfl) (fun _ _ _ h => h) HC (by kernel_rfl) ?y29 ?r29
        case y29 => (intro W hW; obtain ⟨u0, u1, u2, u3, u4, u5, _⟩ := hW; clear HC hO hB HSN HC0_; go_simp)
        refine RD.pure (i := 7) (v := .pointer (some ⟨sb, 3, none⟩)) rfl (by kernel_rfl) (by kernel_rfl) (by kernel_rfl) (by decide) (fun _ _ _ h => h) (fun _ => HC) (by kernel_rfl) ?y30 ?r30
        case y30 => (intro W; clear HC hO hB HSN HC0_; go_simp)
        refine RD.take (i := 8) (v := .int .i64 sh) rfl (by kernel_rfl) (by kernel_rfl) (by kernel_rfl) (by kernel_rfl) (fun _ _ _ h => h) HC (by kernel_rfl) ?y31 ?r31
        case y31 => (intro W hW; obtain ⟨u0, u1, u2, u3, u4, u5, _⟩ := hW; clear HC hO hB HSN HC0_; go_simp)
        refine RD.pure (i := 9) (v := .slice (some ⟨g, 0, none⟩) L.length sc) rfl (by kernel_rfl) (by kernel_rfl) (by kernel_rfl) (by decide) (fun _ _ _ h => h) (fun _ => HC) (by kernel_rfl) ?y32 ?r32
        case y32 => (intro W; clear HC hO hB HSN HC0_; go_simp)
        refine RD.pure (i := 10) (v := .int .i64 (k : Int)) rfl (by kernel_rfl) (by kernel_rfl) (by kernel_rfl) (by decide) (fun _ _ _ h => h) (fun _ => HC) (by kernel_rfl) ?y33 ?r33
        case y33 => (intro W; clear HC hO hB HSN HC0_; go_simp)
        refine RD.pure (i := 11) (v := .pointer (some ⟨g, k * 2, none⟩)) rfl (by kernel_rfl) (by kernel_rfl) (by kernel_rfl) (by decide) (fun _ _ _ h => h) (fun _ => HC) (by kernel_rfl) ?y34 ?r34
        case y34 => (intro W; clear HC hO hB HSN HC0_; go_simp)
        refine RD.pure (i := 12) (v := .pointer (some ⟨g, k * 2, none⟩)) rfl (by kernel_rfl) (by kernel_rfl) (by kernel_rfl) (by decide) (fun _ _ _ h => h) (fun _ => HC) (by kernel_rfl) ?y35 ?r35
        case y35 => (intro W; clear HC hO hB HSN HC0_; go_simp)
        refine RD.take (i := 13) (v := .int .i64 l0) rfl (by kernel_rfl) (by kernel_rfl) (by kernel_rfl) (by kernel_rfl) (fun _ _ _ h => h) HC (by kernel_rfl) ?y36 ?r36
        case y36 => (intro W hW; obtain ⟨u0, u1, u2, u3, u4, u5, _⟩ := hW; clear HC hO hB HSN HC0_; go_simp)
        refine RD.pure (i := 14) (v := .slice (some ⟨g, 0, none⟩) L.length sc) rfl (by kernel_rfl) (by kernel_rfl) (by kernel_rfl) (by decide) (fun _ _ _ h => h) (fun _ => HC) (by kernel_rfl) ?y37 ?r37
        case y37 => (intro W; clear HC hO hB HSN HC0_; go_simp)
        refine RD.pure (i := 15) (v := .int .i64 (k : Int)) rfl (by kernel_rfl) (by kernel_rfl) (by kernel_rfl) (by decide) (fun _ _ _ h => h) (fun _ => HC) (by kernel_rfl) ?y38 ?r38
        case y38 => (intro W; clear HC hO hB HSN HC0_; go_simp)
        refine RD.pure (i := 16) (v := .int .i64 ((k : Int) + 1)) rfl (by kernel_rfl) (by kernel_rfl) (by kernel_rfl) (by decide) (fun _ _ _ h => h) (fun _ => HC) (by kernel_rfl) ?y39 ?r39
        case y39 => (intro W; clear HC hO hB HSN HC0_; go_simp)
        refine RD.pure (i := 17) (v := .pointer (some ⟨g, (k + 1) * 2, none⟩)) rfl (by kernel_rfl) (by kernel_rfl) (by kernel_rfl) (by decide) (fun _ _ _ h => h) (fun _ => HC) (by kernel_rfl) ?y40 ?r40
        case y40 => (intro W; clear HC hO hB HSN HC0_; go_simp)
        refine RD.pure (i := 18) (v := .pointer (some ⟨g, (k + 1) * 2 + 1, none⟩)) rfl (by kernel_rfl) (by kernel_rfl) (by kernel_rfl) (by decide) (fun _ _ _ h => h) (fun _ => HC) (by kernel_rfl) ?y41 ?r41
        case y41 => (intro W; clear HC hO hB HSN HC0_; go_simp)
        refine RD.take (i := 19) (v := .int .i64 l1) rfl (by kernel_rfl) (by kernel_rfl) (by kernel_rfl) (by kernel_rfl) (fun _ _ _ h => h) HC (by kernel_rfl) ?y42 ?r42
        case y42 => (intro W hW; obtain ⟨u0, u1, u2, u3, u4, u5, _⟩ := hW; clear HC hO hB HSN HC0_; go_simp)
        refine RD.pure (i := 20) (v := .int .i64 (l1 - 1)) rfl (by kernel_rfl) (by kernel_rfl) (by kernel_rfl) (by decide) (fun _ _ _ h => h) (fun _ => HC) (by kernel_rfl) ?y43 ?r43
        case y43 => (intro W; clear HC hO hB HSN HC0_; go_simp)
        refine RD.pure (i := 21) (v := .agg #[.int .i64 sx, .int .i64 sy, .int .i64 sl, .int .i64 sh, .int .i64 l0, .int .i64 (l1 - 1)]) rfl (by kernel_rfl) (by kernel_rfl) (by kernel_rfl) (by decide) (fun _ _ _ h => h) (fun _ => HC) (by kernel_rfl) ?y44 ?r44
        case y44 => (intro W; clear HC hO hB HSN HC0_; go_simp)
        refine RD.want (i := 22) (by kernel_rfl) rfl (by kernel_rfl) (fun K hK => ?_)
        go_simp
        have hbb : Below wd.heap.size wd (wd.alloc (.cells #[.int .i64 sx, .int .i64 sy, .int .i64 sl, .int .i64 sh, .int .i64 l0, .int .i64 (l1 - 1)] 78)) := (Below.refl _ _).alloc (Nat.le_refl _) _
        have HC1 := HC.later hbb hlt
        refine hK _ _ (fun _ => HC1) ?_
        clear hK K HC
        have HC := HC1
        clear HC1
        refine RD.want (i := 23) (by kernel_rfl) rfl (by kernel_rfl) (fun K hK => ?_)
        refine wpOp_append _ _ _ 45 rfl w1.heap.size 78 i0 (.agg #[.int .i64 0, .int .i64 0, .int .i64 0, .int .i64 0, .int .i64 0, .int .i64 0]) 6 48 Try.underlying45 hi hz0 hz1 hz2 rfl (by decide) (.slice bo k bc) k _ rfl (hO.alloc _) ⟨wd.heap.size, 0, none⟩ 1 1 [.int .i64 sx, .int .i64 sy, .int .i64 sl, .int .i64 sh, .int .i64 l0, .int .i64 (l1 - 1)] rfl rfl (newRow _ _ _) (ones rfl) (by unfold maxLen; omega) (by omega) (by have := hB.size; simp; omega) ?_
        intro v' w6 hown hgrow hat
        obtain ⟨g', cp, rfl⟩ := owns_pos hown
        have hk6 : ∀ q, q < wd.heap.size → (Value.slice bo k bc).ownBlock ≠ some q → w6.heap[q]? = wd.heap[q]? := fun q hq hn => (hgrow.block q (by simp; omega) (fun e => hn e.symm)).trans (Below.heap_alloc _ _ _ hq)
        have HC6 : CL [(⟨sb, 0, none⟩, .int .i64 sx), (⟨sb, 1, none⟩, .int .i64 sy), (⟨sb, 2, none⟩, .int .i64 sl), (⟨sb, 3, none⟩, .int .i64 sh), (⟨g, k * 2, none⟩, .int .i64 l0), (⟨g, (k + 1) * 2 + 1, none⟩, .int .i64 l1)] w6 := HC0_.out.kept fun p hp => by
          have hpb : p.1.block = sb ∨ p.1.block = g := by simp at hp; rcases hp with rfl | rfl | rfl | rfl | rfl | rfl <;> simp
          rcases hpb with hpb | hpb
          · rw [hpb]; exact hk6 sb hsbd (fun e => by have := hOwn sb e; omega)
          · rw [hpb]; exact hk6 g hgd (fun e => by have := hOwn g e; omega)
        have HB6 := hid ((hB.alloc hB.size _).grown hgrow (by have := hB.size; simp; omega) (fun j hj => (hOwn j hj).1))
        have HO6 := hid (HSN.out ▸ hown)
        refine hK _ _ (fun _ => HC6) ?_
        clear hK K HC hown hgrow hat hk6 hO hB
        have HC := HC6
        clear HC6
        refine RD.pure (i := 24) (v := .slice (some ⟨g', 0, none⟩) (k + 1) cp) rfl (by kernel_rfl) (by kernel_rfl) (by kernel_rfl) (by decide) (fun _ _ _ h => h) (fun _ => HC) (by kernel_rfl) ?y45 ?r45
        case y45 => (intro W; clear HC HSN HC0_; go_simp)
        refine RD.done (by kernel_rfl) ?_
        try go_simp
        clear HC HC0_
        go_wp2
        go_roundw
        case rel => exact ⟨k + 1, _, _, by omega, by go_num, rfl, by rw [hV1.out]; exact HO6.out, HB6.out⟩
        case measure => simp [intOf]; omega
      · have hke : k = x.2.1.length := by omega
        subst hke
        have HB := hid (HB1.out.trans (hB.mono HB1.out.size))
        have HO := hid (own_base hO HB1.out.size)
        clear hO hB h
        go_wp2
        go_ret
        refine ⟨bo, bc, by simp [tubeOf, tubeL_len], ?_, HB.out⟩
        simp only [tubeOf, tubeL_len, if_true]
        exact HO.out

end Fly
end Go.Proofs.Ytpjacfnjjkoikaa
