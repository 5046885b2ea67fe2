/- DERIVED. impl.FlySpans: its walk (written by wip/tools/mk_wk2.py). -/
import Derived.Test.YtpjacfnjjkoikaaKWkI4
namespace Go.Proofs.Ytpjacfnjjkoikaa
namespace Fly
open Go.RowKit
set_option linter.unusedSimpArgs false
set_option linter.unusedVariables false


theorem spL_back (x : DFlyPath) : spL (bkS x x.2.1.length) x.2.1.length = spansL x := by
  unfold spL spansL
  exact List.map_congr_left fun k hk => bkS_end x k (by have := List.mem_range.1 hk; omega)
theorem spL_turn (x : DFlyPath) : spL (fwS x x.2.1.length) x.2.1.length = spL (bkS x 0) x.2.1.length := by
  unfold spL
  exact List.map_congr_left fun k hk => by
    have := List.mem_range.1 hk
    rw [fwS_end x k (by omega), bkS_begin x k (by omega)]
theorem empty_iff (x : DFlyPath) : EmptyIn (spansL x) ↔ ¬ BkOk x := by
  constructor
  · rintro ⟨k, hk, e⟩ hb
    have hk2 := hk
    rw [spansL_len] at hk2
    have := hb (x.2.1.length - k) (by omega)
    simp only [spansL, List.getElem_map, List.getElem_range] at e
    omega
  · intro h
    apply Classical.byContradiction
    intro h2
    apply h
    intro d hd
    apply Classical.byContradiction
    intro h3
    apply h2
    refine ⟨x.2.1.length - d, by rw [spansL_len]; omega, ?_⟩
    simp only [spansL, List.getElem_map, List.getElem_range, show x.2.1.length - (x.2.1.length - d) = d by omega]
    omega

set_option maxRecDepth 100000 in
set_option maxHeartbeats 8000000 in
theorem iSpans (x : DFlyPath) (ao : Option Addr) (cap : Nat) (w : World) (h : PathAt w x ao cap) :
    Calls Try.prog 12 #[.agg #[.int .i64 x.1.1, .int .i64 x.1.2, .slice ao x.2.1.length cap, .int .i64 x.2.2.1, .int .i64 x.2.2.2]] w (GivesSp (spansF x).1 (spansF x).2 w) := by
  unfold GivesSp
  obtain ⟨w0, hw0⟩ : ∃ w0 : World, w0 = w.alloc (.cells #[.int .i64 x.1.1, .int .i64 x.1.2, .slice ao x.2.1.length cap, .int .i64 x.2.2.1, .int .i64 x.2.2.2] 34) := ⟨_, rfl⟩
  have hb0 : Below w.heap.size w w0 := by rw [hw0]; exact (Below.refl _ _).alloc (Nat.le_refl _) _
  have HX0 : BxC w.heap.size #[.int .i64 x.1.1, .int .i64 x.1.2, .slice ao x.2.1.length cap, .int .i64 x.2.2.1, .int .i64 x.2.2.2] w0 := by rw [hw0]; exact BxC.new _ _ _
  have hz0 : w.heap.size < w0.heap.size := by rw [hw0]; simp
  have HT := iPathOk x ao cap w0 (h.later hb0)
  rw [hw0] at HT
  go_enter Try.func12, Try.ntmps12
  go_wp2_with fail
  refine HT.mono ?_
  rw [← hw0]
  rintro e w1 ⟨rfl, hb1⟩
  have hB1 := hb0.trans (hb1.mono hb0.size)
  have HX1 := HX0.below hb1 hz0
  have hz1 : w.heap.size < w1.heap.size := Nat.lt_of_lt_of_le hz0 hb1.size
  clear HT hb0 hb1 HX0 hw0 hz0
  by_cases hp : PathOk x
  · rw [pb_yes hp]
    have HP := hid hp
    have hn := hp.2.1.2
    have hn1 := hp.2.1.1
    have c0 := HX1 0
    have c1 := HX1 1
    have c2 := HX1 2
    have c3 := HX1 3
    have c4 := HX1 4
    simp at c0 c1 c2 c3 c4
    have HW := iWins x ao cap w1 (h.later hB1) hn
    have hB_ := hid hB1
    have hX_ := hid HX1
    clear hB1 HX1 hp
    go_wp2_with fail
    refine HW.mono ?_
    rintro e w2 ⟨g, c, rfl, hO2, hb2⟩
    have hcg := (own_caps hO2).2
    have hgw := (hO2.lt g rfl)
    have hO := (own_base hO2 hB_.out.size).drew
    have hB := (hB_.out.trans (hb2.mono hB_.out.size)).drew
    have HX := hX_.out.below hb2.drew hz1
    have hzw : w.heap.size < w2.drew.heap.size := Nat.lt_of_lt_of_le hz1 hb2.size
    have hgne : w.heap.size ≠ g := by omega
    have hgw : g < w2.drew.heap.size := hgw.2
    have c0 := HX 0
    have c1 := HX 1
    have c2 := HX 2
    have c3 := HX 3
    have c4 := HX 4
    simp at c0 c1 c2 c3 c4
    have HC : CL [(⟨w.heap.size, 0, none⟩, .int .i64 (x.1.1)), (⟨w.heap.size, 1, none⟩, .int .i64 (x.1.2)), (⟨w.heap.size, 2, none⟩, .slice ao x.2.1.length cap), (⟨w.heap.size, 3, none⟩, .int .i64 (x.2.2.1)), (⟨w.heap.size, 4, none⟩, .int .i64 (x.2.2.2))] w2.drew := ⟨c0, c1, c2, c3, c4, trivial⟩
    have hlt : CLlt w2.drew.heap.size [(⟨w.heap.size, 0, none⟩, .int .i64 (x.1.1)), (⟨w.heap.size, 1, none⟩, .int .i64 (x.1.2)), (⟨w.heap.size, 2, none⟩, .slice ao x.2.1.length cap), (⟨w.heap.size, 3, none⟩, .int .i64 (x.2.2.1)), (⟨w.heap.size, 4, none⟩, .int .i64 (x.2.2.2))] := ⟨hzw, hzw, hzw, hzw, hzw, trivial⟩
    clear HW hO2 hb2 hB_ hX_ c0 c1 c2 c3 c4 HX
    go_wp2_with fail
    refine wp_region_RD (CL [(⟨w.heap.size, 0, none⟩, .int .i64 (x.1.1)), (⟨w.heap.size, 1, none⟩, .int .i64 (x.1.2)), (⟨w.heap.size, 2, none⟩, .slice ao x.2.1.length cap), (⟨w.heap.size, 3, none⟩, .int .i64 (x.2.2.1)), (⟨w.heap.size, 4, none⟩, .int .i64 (x.2.2.2))]) [] mixedT ?_
    generalize w2.drew = wd at *
    refine RD.take (i := 0) (v := .agg #[.int .i64 (x.1.1), .int .i64 (x.1.2), .slice ao x.2.1.length cap, .int .i64 (x.2.2.1), .int .i64 (x.2.2.2)]) rfl (by kernel_rfl) (by kernel_rfl) (by kernel_rfl) (by kernel_rfl) (fun _ _ _ h => h) HC (by kernel_rfl) ?y15 ?r15
    case y15 => (intro W hW; obtain ⟨u0, u1, u2, u3, u4, _⟩ := hW; clear HC hO hB hlt h; go_simp)
    refine RD.pure (i := 1) (v := .slice (some ⟨g, 0, none⟩) (x.2.1.length + 1) c) rfl (by kernel_rfl) (by kernel_rfl) (by kernel_rfl) (by decide) (fun _ _ _ h => h) (fun _ => HC) (by kernel_rfl) ?y16 ?r16
    case y16 => (intro W; clear HC hO hB hlt h; go_simp)
    refine RD.pure (i := 2) (v := .slice (some ⟨g, 0, none⟩) (x.2.1.length + 1) c) rfl (by kernel_rfl) (by kernel_rfl) (by kernel_rfl) (by decide) (fun _ _ _ h => h) (fun _ => HC) (by kernel_rfl) ?y17 ?r17
    case y17 => (intro W; clear HC hO hB hlt h; go_simp)
    refine RD.pure (i := 3) (v := .int .i64 ((x.2.1.length : Int) + 1)) rfl (by kernel_rfl) (by kernel_rfl) (by kernel_rfl) (by decide) (fun _ _ _ h => h) (fun _ => HC) (by kernel_rfl) ?y18 ?r18
    case y18 => (intro W; clear HC hO hB hlt h; go_simp)
    refine RD.want (i := 4) (by kernel_rfl) rfl (by kernel_rfl) (fun K hK => ?_)
    go_simp
    refine (iFwd1 x.2.1.length _ (by omega)).mono ?_
    rintro e w4 ⟨go, gc, rfl, hOo, hq⟩
    simp only
    have hgo := hOo.lt go rfl
    have hcg := (own_caps hOo).2
    have hord : ∀ j, j ≤ x.2.1.length → w4.cell? ⟨go, j, none⟩ = some (.int .i64 ((fwO x.2.1.length j : Nat) : Int)) := fun j hj => (hOo.cellAt j (by omega)).trans (spI_get _ _ j (by omega))
    have HC1 := HC.later hq hlt
    have hlt1 := hlt.mono hq.size
    have hO1 := owns_below hO hq
    have hB1 := hB.trans (hq.mono hB.size)
    have hgw1 : g < w4.heap.size := Nat.lt_of_lt_of_le hgw hq.size
    have hzw1 : w.heap.size < w4.heap.size := Nat.lt_of_lt_of_le hzw hq.size
    have hne : go ≠ g := by omega
    have hgw0 : w.heap.size ≤ go := by have := hB.size; omega
    refine hK _ _ (fun _ => HC1) ?_
    clear hK K hq HC hlt hO hB hOo hzw hgw
    have HC := HC1
    have hlt := hlt1
    have hO := hO1
    have hB := hB1
    have hzw := hzw1
    have hgw := hgw1
    clear HC1 hlt1 hO1 hB1 hzw1 hgw1
    refine RD.want (i := 5) (by kernel_rfl) rfl (by kernel_rfl) (fun K hK => ?_)
    go_simp
    refine (iWalkF x ao cap w w4 g c go gc h HP.out hB hgw0 hne hgo.2 hcg.1 hcg.2 hO hord).mono ?_
    rintro e w5 ⟨rfl, hO5, hB5⟩
    simp only
    have HO5 := hid hO5
    have HB5 := hid (hB.trans hB5.bel)
    have hz5 : w.heap.size < w5.heap.size := Nat.lt_of_lt_of_le hzw hB5.size
    have HC5 : CL [(⟨w.heap.size, 0, none⟩, .int .i64 (x.1.1)), (⟨w.heap.size, 1, none⟩, .int .i64 (x.1.2)), (⟨w.heap.size, 2, none⟩, .slice ao x.2.1.length cap), (⟨w.heap.size, 3, none⟩, .int .i64 (x.2.2.1)), (⟨w.heap.size, 4, none⟩, .int .i64 (x.2.2.2))] w5 := HC.kept fun p hp => by
      have hpb : p.1.block = w.heap.size := by simp at hp; rcases hp with rfl | rfl | rfl | rfl | rfl <;> rfl
      rw [hpb]
      exact hB5.oth w.heap.size hzw (by omega)
    refine hK _ _ (fun _ => HC5) ?_
    clear hK K HC hlt hO hB hord hO5 hB5 hzw
    refine RD.done (by kernel_rfl) ?_
    try go_simp
    clear hgo hcg hne hgw0
    have hcg := (own_caps HO5.out).2
    have hgw := (HO5.out.lt g rfl).2
    have hO : w5.drew.ownsRow w.heap.size 65 2 _ (x.2.1.length + 1) (valsFlySpan (spL (bkS x 0) x.2.1.length)) := (spL_turn x ▸ HO5.out).drew
    have hB := HB5.out.drew
    have hzw : w.heap.size < w5.drew.heap.size := hz5
    have hgw : g < w5.drew.heap.size := hgw
    have HC : CL [(⟨w.heap.size, 0, none⟩, .int .i64 (x.1.1)), (⟨w.heap.size, 1, none⟩, .int .i64 (x.1.2)), (⟨w.heap.size, 2, none⟩, .slice ao x.2.1.length cap), (⟨w.heap.size, 3, none⟩, .int .i64 (x.2.2.1)), (⟨w.heap.size, 4, none⟩, .int .i64 (x.2.2.2))] w5.drew := HC5.kept fun _ _ => rfl
    have hlt : CLlt w5.drew.heap.size [(⟨w.heap.size, 0, none⟩, .int .i64 (x.1.1)), (⟨w.heap.size, 1, none⟩, .int .i64 (x.1.2)), (⟨w.heap.size, 2, none⟩, .slice ao x.2.1.length cap), (⟨w.heap.size, 3, none⟩, .int .i64 (x.2.2.1)), (⟨w.heap.size, 4, none⟩, .int .i64 (x.2.2.2))] := ⟨hzw, hzw, hzw, hzw, hzw, trivial⟩
    obtain ⟨c0, c1, c2, c3, c4, _⟩ := HC5
    clear HO5 HB5 hz5
    go_wp2_with fail
    refine wp_region_RD (CL [(⟨w.heap.size, 0, none⟩, .int .i64 (x.1.1)), (⟨w.heap.size, 1, none⟩, .int .i64 (x.1.2)), (⟨w.heap.size, 2, none⟩, .slice ao x.2.1.length cap), (⟨w.heap.size, 3, none⟩, .int .i64 (x.2.2.1)), (⟨w.heap.size, 4, none⟩, .int .i64 (x.2.2.2))]) [] mixedT ?_
    generalize w5.drew = wd5 at *
    clear c0 c1 c2 c3 c4
    refine RD.take (i := 0) (v := .agg #[.int .i64 (x.1.1), .int .i64 (x.1.2), .slice ao x.2.1.length cap, .int .i64 (x.2.2.1), .int .i64 (x.2.2.2)]) rfl (by kernel_rfl) (by kernel_rfl) (by kernel_rfl) (by kernel_rfl) (fun _ _ _ h => h) HC (by kernel_rfl) ?y19 ?r19
    case y19 => (intro W hW; obtain ⟨u0, u1, u2, u3, u4, _⟩ := hW; clear HC hO hB hlt h; go_simp)
    refine RD.pure (i := 1) (v := .slice (some ⟨g, 0, none⟩) (x.2.1.length + 1) c) rfl (by kernel_rfl) (by kernel_rfl) (by kernel_rfl) (by decide) (fun _ _ _ h => h) (fun _ => HC) (by kernel_rfl) ?y20 ?r20
    case y20 => (intro W; clear HC hO hB hlt h; go_simp)
    refine RD.pure (i := 2) (v := .slice (some ⟨g, 0, none⟩) (x.2.1.length + 1) c) rfl (by kernel_rfl) (by kernel_rfl) (by kernel_rfl) (by decide) (fun _ _ _ h => h) (fun _ => HC) (by kernel_rfl) ?y21 ?r21
    case y21 => (intro W; clear HC hO hB hlt h; go_simp)
    refine RD.pure (i := 3) (v := .int .i64 ((x.2.1.length : Int) + 1)) rfl (by kernel_rfl) (by kernel_rfl) (by kernel_rfl) (by decide) (fun _ _ _ h => h) (fun _ => HC) (by kernel_rfl) ?y22 ?r22
    case y22 => (intro W; clear HC hO hB hlt h; go_simp)
    refine RD.want (i := 4) (by kernel_rfl) rfl (by kernel_rfl) (fun K hK => ?_)
    go_simp
    refine (iBack1 x.2.1.length _ (by omega)).mono ?_
    rintro e w4 ⟨go, gc, rfl, hOo, hq⟩
    simp only
    have hgo := hOo.lt go rfl
    have hcg := (own_caps hOo).2
    have hord : ∀ j, j ≤ x.2.1.length → w4.cell? ⟨go, j, none⟩ = some (.int .i64 ((bkO x.2.1.length j : Nat) : Int)) := fun j hj => (hOo.cellAt j (by omega)).trans (spI_get _ _ j (by omega))
    have HC1 := HC.later hq hlt
    have hlt1 := hlt.mono hq.size
    have hO1 := owns_below hO hq
    have hB1 := hB.trans (hq.mono hB.size)
    have hgw1 : g < w4.heap.size := Nat.lt_of_lt_of_le hgw hq.size
    have hzw1 : w.heap.size < w4.heap.size := Nat.lt_of_lt_of_le hzw hq.size
    have hne : go ≠ g := by omega
    have hgw0 : w.heap.size ≤ go := by have := hB.size; omega
    refine hK _ _ (fun _ => HC1) ?_
    clear hK K hq HC hlt hO hB hOo hzw hgw
    have HC := HC1
    have hlt := hlt1
    have hO := hO1
    have hB := hB1
    have hzw := hzw1
    have hgw := hgw1
    clear HC1 hlt1 hO1 hB1 hzw1 hgw1
    refine RD.want (i := 5) (by kernel_rfl) rfl (by kernel_rfl) (fun K hK => ?_)
    go_simp
    refine (iWalkB x ao cap w w4 g c go gc h HP.out hB hgw0 hne hgo.2 hcg.1 hcg.2 hO hord).mono ?_
    rintro e w5 ⟨rfl, hO5, hB5⟩
    simp only
    have HO5 := hid hO5
    have HB5 := hid (hB.trans hB5.bel)
    have hz5 : w.heap.size < w5.heap.size := Nat.lt_of_lt_of_le hzw hB5.size
    have HC5 : CL [(⟨w.heap.size, 0, none⟩, .int .i64 (x.1.1)), (⟨w.heap.size, 1, none⟩, .int .i64 (x.1.2)), (⟨w.heap.size, 2, none⟩, .slice ao x.2.1.length cap), (⟨w.heap.size, 3, none⟩, .int .i64 (x.2.2.1)), (⟨w.heap.size, 4, none⟩, .int .i64 (x.2.2.2))] w5 := HC.kept fun p hp => by
      have hpb : p.1.block = w.heap.size := by simp at hp; rcases hp with rfl | rfl | rfl | rfl | rfl <;> rfl
      rw [hpb]
      exact hB5.oth w.heap.size hzw (by omega)
    refine hK _ _ (fun _ => HC5) ?_
    clear hK K HC hlt hO hB hord hO5 hB5 hzw
    refine RD.done (by kernel_rfl) ?_
    try go_simp
    have hlen := spansL_len x
    have HO6 : w5.ownsRow w.heap.size 65 2 (.slice (some ⟨g, 0, none⟩) (spansL x).length c) (spansL x).length (valsFlySpan (spansL x)) := by rw [hlen, ← spL_back]; exact HO5.out
    have hcg6 := (own_caps HO5.out).2
    have HE := iHasEmpty (spansL x) (some ⟨g, 0, none⟩) c w5 (atFlySpan_owns HO6) (by omega) (by omega)
    have HO7 := hid HO6
    rw [hlen] at HE
    have HLEN := hid hlen
    clear HO6 hlen HC5 hgo hcg hne hgw0 HO5
    by_cases hbk : BkOk x
    · rw [pb_no (fun h1 => (empty_iff x).1 h1 hbk)] at HE
      have HF := hid (spans_yes HP.out (fwOk_of hbk) hbk)
      clear hbk
      go_wp2_with fail
      refine HE.mono ?_
      rintro e w6 ⟨rfl, hb6⟩
      have HB6 := hid (HB5.out.trans (hb6.mono HB5.out.size))
      have HO8 := hid (owns_below HO7.out hb6)
      clear HE hb6
      go_wp2
      refine bodyPost_ret (v := .tuple #[.slice (some ⟨g, 0, none⟩) (x.2.1.length + 1) c, .bool true]) (by simp [results, Try.results12, go_sem]) rfl ?_
      rw [HF.out]
      exact ⟨some ⟨g, 0, none⟩, c, by rw [HLEN.out], HO8.out, HB6.out⟩
    · rw [pb_yes ((empty_iff x).2 hbk)] at HE
      have HF := hid (spans_no (x := x) (fun h1 => hbk h1.2.2))
      clear hbk
      go_wp2_with fail
      refine HE.mono ?_
      rintro e w6 ⟨rfl, hb6⟩
      have HB6 := hid (HB5.out.trans (hb6.mono HB5.out.size))
      clear HE hb6
      go_wp2
      refine bodyPost_ret (v := .tuple #[.slice none 0 0, .bool false]) (by simp [results, Try.results12, go_sem]) rfl ?_
      rw [HF.out]
      exact ⟨none, 0, rfl, World.ownsRow_nil _ _ _ _, HB6.out⟩
  · rw [pb_no hp]
    have HF := hid (spans_no (x := x) fun h1 => hp h1.1)
    have HB := hid hB1
    clear HX1 h hB1 hp
    go_wp2
    refine bodyPost_ret (v := .tuple #[.slice none 0 0, .bool false]) (by simp [results, Try.results12, go_sem]) rfl ?_
    rw [HF.out]
    exact ⟨none, 0, rfl, World.ownsRow_nil _ _ _ _, HB.out⟩

end Fly
end Go.Proofs.Ytpjacfnjjkoikaa
