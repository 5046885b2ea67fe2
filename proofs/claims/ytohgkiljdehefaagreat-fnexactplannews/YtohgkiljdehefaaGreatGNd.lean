/- DERIVED. impl.planSideBySide, impl.PlanNews: their walks (written by wip/tools/mk_nww.py). -/
import Derived.Test.YtohgkiljdehefaaGreatGNc
import Derived.Test.YtohgkiljdehefaaGreatBkI1
import Derived.Test.YtohgkiljdehefaaGreatBkL0
import Derived.Test.YtohgkiljdehefaaGreatNwS
namespace Go.Proofs.YtohgkiljdehefaaGreat
open Go.RowKit
set_option linter.unusedSimpArgs false
set_option linter.unusedVariables false
attribute [local go_sem] Oper.semAt_some

theorem iSide (ao : Option Addr) (n ca : Nat) (bo : Option Addr) (m cb : Nat) (w : World) :
    Calls Tryz.prog 20 #[.slice ao n ca, .slice bo m cb] w fun e w' => e = .returned (.func (.func 42) #[] #[.pointer (some ⟨w.heap.size, 0, none⟩), .pointer (some ⟨w.heap.size + 1, 0, none⟩)]) ∧ w' = (w.alloc (.cells #[.slice ao n ca] 30)).alloc (.cells #[.slice bo m cb] 30) := by
  go_enter Tryz.func20, Tryz.ntmps20
  go_wp2
  go_ret
  exact ⟨rfl, rfl⟩

/-- A region's state inside whatever fence, behind a structure. -/
structure RF (F : Fence) (n : Nat) (P : Program) (ops : Array Oper) (Q : Exit → Act → World → Prop) (fuel : Nat) (listed : Array Bool) (a : Act) (w : World) : Prop where
  out : wpAnyIn F n P .any ops Q fuel listed a w
section
variable {F : Fence} {n : Nat} {P : Program} {ops : Array Oper} {Q : Exit → Act → World → Prop} {fuel : Nat} {listed : Array Bool} {a : Act} {w : World}
theorem RF.start {id : Nat} (hm : P.follows .mixedOrders = true) (h : RF F n P ops Q ops.size (Array.replicate ops.size false) a w.drew) : (Code.region id ops true).wpIn F n P Q a w := wpIn_region_any hm h.out
theorem RF.done (hr : Region.ready .any ops listed = []) (h : Q .normal a w) : RF F n P ops Q fuel listed a w := ⟨wpAnyIn_done hr h fuel⟩
theorem RF.one {i : Nat} {o : Oper} (hr : Region.ready .any ops listed = [i]) (ho : ops[i]? = some o) (hw : Region.wanted o (yielded ops a.tmps) = true)
    (h : ∀ K' : Act → World → Prop, (∀ a w, RF F n P ops Q fuel (listed.setIfInBounds i true) a w → K' a w) → Oper.wpIn F n P o a w K' Q) : RF F n P ops Q (fuel + 1) listed a w :=
  ⟨wpAnyIn_ready hr (by simp) (AllReadyIn.cons ho (fun K hK => by rw [if_pos hw]; exact h K (fun a w h => hK a w h.out)) AllReadyIn.nil)⟩
theorem RF.two {i k : Nat} {o p : Oper} (hr : Region.ready .any ops listed = [i, k]) (ho : ops[i]? = some o) (hp : ops[k]? = some p) (hw : Region.wanted o (yielded ops a.tmps) = true) (hw' : Region.wanted p (yielded ops a.tmps) = true)
    (h : ∀ K' : Act → World → Prop, (∀ a w, RF F n P ops Q fuel (listed.setIfInBounds i true) a w → K' a w) → Oper.wpIn F n P o a w K' Q)
    (h' : ∀ K' : Act → World → Prop, (∀ a w, RF F n P ops Q fuel (listed.setIfInBounds k true) a w → K' a w) → Oper.wpIn F n P p a w K' Q) : RF F n P ops Q (fuel + 1) listed a w :=
  ⟨wpAnyIn_ready hr (by simp) (AllReadyIn.cons ho (fun K hK => by rw [if_pos hw]; exact h K (fun a w h => hK a w h.out)) (AllReadyIn.cons hp (fun K hK => by rw [if_pos hw']; exact h' K (fun a w h => hK a w h.out)) AllReadyIn.nil))⟩
end
theorem wpIn_cutF {F : Fence} {n : Nat} {P : Program} {c : Code} {Q : Exit → Act → World → Prop} {a : Act} {w : World} (R : Act → World → Prop) (h : c.wpIn F n P (Exit.then R (fun _ _ _ => False)) a w) (h' : ∀ a w, R a w → Q .normal a w) : c.wpIn F n P Q a w :=
  wpIn_mono h (fun e a w q => by cases e <;> first | exact h' _ _ q | exact q.elim)

theorem owns_low {W : World} {b b' : Nat} {e : TypeId} {size k : Nat} {v : Value} {xs : List Value} (h : W.ownsRow b e size v k xs) (hb : b' ≤ b) : W.ownsRow b' e size v k xs := by
  refine ⟨h.1, ?_⟩
  rcases h.2 with h1 | ⟨g, cap, cur, h1, h2, h3⟩
  · exact .inl h1
  · exact .inr ⟨g, cap, cur, h1, Nat.le_trans hb h2, h3⟩

/-- A row of changes is what is left at the walk's beginning. -/
theorem rest_of_owns {w : World} {base : Nat} {v : Value} {l : List DChange} (h : w.ownsRow base 55 4 v (l).length (valsPlanChange (l))) (d : Nat) (hd : base ≤ d) (hd2 : d < w.heap.size) (hl : l.length ≤ 1048576) : ∃ g, base ≤ g ∧ g < w.heap.size ∧ RestV w g v l := by
  rcases h.2 with ⟨rfl, h1⟩ | ⟨g, cap, cur, rfl, h2, h3, h4, h5, h6⟩
  · refine ⟨d, hd, hd2, none, 0, by rw [h1], by omega, by decide, fun hn => ?_⟩
    exact absurd (List.length_eq_zero_iff.1 h1) hn
  · refine ⟨g, h2, (Array.getElem?_eq_some_iff.1 h3).1, some ⟨g, 0, none⟩, cap, rfl, h4, h5, fun hn => ⟨0, rfl, fun i hi => ?_⟩⟩
    obtain ⟨g', e1, e2, e3, e4, e5, e6⟩ := (atPlanChange_owns h).elem hi
    cases e1
    rw [Nat.zero_add]
    exact ⟨e3, e4, e5, e6⟩

theorem nwKp_t {n₀ Bn : Nat} {A B C : World} (h : NwKp n₀ Bn A B) (k : NwKp n₀ Bn B C) : NwKp n₀ Bn A C :=
  ⟨Nat.le_trans h.1 k.1, fun i h1 h2 => (k.2.1 i h1 h2).trans (h.2.1 i h1 h2), fun i o h1 h2 => k.2.2 i o (h.2.2 i o h1 h2) h2⟩
theorem nwKp_grown {n₀ Bn : Nat} {A B : World} (h : Below A.heap.size A B) (hn : n₀ ≤ A.heap.size) : NwKp n₀ Bn A B :=
  ⟨h.size, fun i h1 _ => h.block i (by omega), fun i o h1 _ => (h.block i (Array.getElem?_eq_some_iff.1 h1).1).trans h1⟩
theorem restM_cells {o : Obj} (h : RestM o) : o.isCells = true := by
  obtain ⟨cs, h | h⟩ := h <;> (subst h; rfl)
theorem nwKp_b {n₀ Bn : Nat} (W : World) (l : Nat) (o o' : Obj) (hl : n₀ ≤ l) (ho : W.heap[l]? = some o) (hc : o.isCells = false) : NwKp n₀ Bn W (W.putObj l o') :=
  ⟨by simp, fun i h1 _ => World.putObj_heap_other (by omega), fun i o2 h1 h2 => (World.putObj_heap_other (fun e => by subst e; rw [ho] at h1; cases h1; have := restM_cells h2; rw [hc] at this; cases this)).trans h1⟩
theorem sbsF_len : ∀ (n : Nat) (A B : List DChange), (sbsF n A B).length ≤ n
  | 0, _, _ => Nat.le_refl _
  | n + 1, A, B => by
    unfold sbsF
    cases nextT A B with
    | none => simp
    | some t => simp only [List.length_cons]; have := sbsF_len n (passR t A) (passR t B); omega
theorem keepsFrom_below {B : Nat} {A C : World} (h : Below A.heap.size A C) : KeepsFrom B A C := ⟨h.size, fun k o _ hk _ => (h.block k (Array.getElem?_eq_some_iff.1 hk).1).trans hk⟩
theorem newsP_snoc (l : List (DChange × DChange)) (p : DChange × DChange) : newsP (l ++ [p]) = if pb (Later p.2.2 p.1.2) then newsP l ++ [p.2] else newsP l := by
  unfold newsP
  rw [List.filter_append, List.map_append]
  cases h : pb (Later p.2.2 p.1.2) <;> simp [h]
theorem newsP_len (l : List (DChange × DChange)) : (newsP l).length ≤ l.length := by
  unfold newsP
  rw [List.length_map]
  exact List.length_filter_le _ _
theorem not_restM {cs : Array Value} {t : TypeId} (h1 : t ≠ 84) (h2 : t ≠ 86) : ¬ RestM (.cells cs t (0, 0)) := by
  rintro ⟨ds, h | h⟩
  · exact h1 (by simpa using (Obj.cells.inj h).2.1)
  · exact h2 (by simpa using (Obj.cells.inj h).2.1)
/-- What the news hold goes with the iterator's steps. -/
theorem news_abm (n₀ Bn : Nat) (w0 : World) (hB : Bn < n₀) (hw : w0.heap.size ≤ n₀) : AbM (fun o => o.isCells = false ∨ RestM o) n₀ (fun (pre : List (DChange × DChange)) W => (∃ v, Boxed W Bn 30 v ∧ W.ownsRow n₀ 55 4 v (newsP pre).length (valsPlanChange (newsP pre))) ∧ Below w0.heap.size w0 W ∧ n₀ ≤ W.heap.size) := by
  rintro pre X Y row ⟨⟨v, hv, hr⟩, hb, hn⟩ hg hrow
  refine ⟨⟨v, hv.kept hg (fun e => ?_), hr.kept hg ?_⟩, hb.grown hg (by omega) (fun k e => by have := (hrow k e).1; omega), Nat.le_trans hn hg.size⟩
  · have := (hrow Bn e.symm).1
    omega
  · rcases hr.2 with ⟨rfl, _⟩ | ⟨g, cap, cur, rfl, _, hgb, _⟩
    · exact .inl rfl
    · refine .inr fun e' => ?_
      obtain ⟨_, o, ho, hc⟩ := hrow g (by simpa [Value.ownBlock] using e'.symm)
      rw [hgb] at ho
      cases ho
      rcases hc with hc | hc
      · cases hc
      · exact not_restM (by decide) (by decide) hc

set_option maxRecDepth 100000 in
set_option maxHeartbeats 8000000 in
theorem iNews_ok (a b : DPlanBook) (ao0 : Option Addr) (cap0 : Nat) (ao1 : Option Addr) (cap1 : Nat) (ao2 : Option Addr) (cap2 : Nat) (bo0 : Option Addr) (cbp0 : Nat) (bo1 : Option Addr) (cbp1 : Nat) (bo2 : Option Addr) (cbp2 : Nat) (w : World) (ha : BookAt w a ao0 cap0 ao1 cap1 ao2 cap2) (hb : BookAt w b bo0 cbp0 bo1 cbp1 bo2 cbp2) (hsa : wPlanEntryS a.2 ≤ 1048576) (hsb : wPlanEntryS b.2 ≤ 1048576) (oka : BookOk a) (okb : BookOk b) :
    Calls Tryz.prog 7 #[.agg #[.slice ao0 a.1.1.length cap0, .slice ao1 a.1.2.length cap1, .slice ao2 a.2.length cap2], .agg #[.slice bo0 b.1.1.length cbp0, .slice bo1 b.1.2.length cbp1, .slice bo2 b.2.length cbp2]] w fun r w' => Below w.heap.size w w' ∧ ∃ v, r = .returned v ∧ w'.ownsRow w.heap.size 55 4 v (newsL a.2 b.2).length (valsPlanChange (newsL a.2 b.2)) := by
  have hla := Nat.le_trans (chs_len a.2) hsa
  have hlb := Nat.le_trans (chs_len b.2) hsb
  obtain ⟨i0, hi0, hz0, hz1, hz2⟩ := info_parts Tryz.infoChange
  have HNEWS : Hid (newsP (sbsF ((chs a.2).length + (chs b.2).length) (chs a.2) (chs b.2)) = newsL a.2 b.2) := news_same oka okb _ (Nat.le_refl _)
  have HIA := fun W (hh : BookAt W a ao0 cap0 ao1 cap1 ao2 cap2) => callsIn_wide (n := 5).2 (iBook a ao0 cap0 ao1 cap1 ao2 cap2 W hh.base hh.p2 hsa)
  have HIB := fun W (hh : BookAt W b bo0 cbp0 bo1 cbp1 bo2 cbp2) => callsIn_wide (n := 5).2 (iBook b bo0 cbp0 bo1 cbp1 bo2 cbp2 W hh.base hh.p2 hsb)
  rw [pb_yes oka] at HIA
  rw [pb_yes okb] at HIB
  have hB0 : Below w.heap.size w ((w.alloc (.cells #[.slice ao0 a.1.1.length cap0, .slice ao1 a.1.2.length cap1, .slice ao2 a.2.length cap2] 38)).alloc (.cells #[.slice bo0 b.1.1.length cbp0, .slice bo1 b.1.2.length cbp1, .slice bo2 b.2.length cbp2] 38)) := ((Below.refl _ _).alloc (Nat.le_refl _) _).alloc (by simp) _
  have HA0 : BxC w.heap.size #[.slice ao0 a.1.1.length cap0, .slice ao1 a.1.2.length cap1, .slice ao2 a.2.length cap2] ((w.alloc (.cells #[.slice ao0 a.1.1.length cap0, .slice ao1 a.1.2.length cap1, .slice ao2 a.2.length cap2] 38)).alloc (.cells #[.slice bo0 b.1.1.length cbp0, .slice bo1 b.1.2.length cbp1, .slice bo2 b.2.length cbp2] 38)) := (BxC.new w _ _).below ((Below.refl (w.heap.size + 1) _).alloc (by simp) _) (by omega)
  have HB0 : BxC (w.heap.size + 1) #[.slice bo0 b.1.1.length cbp0, .slice bo1 b.1.2.length cbp1, .slice bo2 b.2.length cbp2] ((w.alloc (.cells #[.slice ao0 a.1.1.length cap0, .slice ao1 a.1.2.length cap1, .slice ao2 a.2.length cap2] 38)).alloc (.cells #[.slice bo0 b.1.1.length cbp0, .slice bo1 b.1.2.length cbp1, .slice bo2 b.2.length cbp2] 38)) := by
    have := BxC.new (w.alloc (.cells #[.slice ao0 a.1.1.length cap0, .slice ao1 a.1.2.length cap1, .slice ao2 a.2.length cap2] 38)) #[.slice bo0 b.1.1.length cbp0, .slice bo1 b.1.2.length cbp1, .slice bo2 b.2.length cbp2] 38
    rwa [World.size_alloc] at this
  have hzB : ((w.alloc (.cells #[.slice ao0 a.1.1.length cap0, .slice ao1 a.1.2.length cap1, .slice ao2 a.2.length cap2] 38)).alloc (.cells #[.slice bo0 b.1.1.length cbp0, .slice bo1 b.1.2.length cbp1, .slice bo2 b.2.length cbp2] 38)).heap.size = w.heap.size + 2 := by simp
  refine callsIn_wide (n := 6).1 (callsIn_of_wp_marks Tryz.func7 rfl trivial ?_ rfl)
  simp only [Tryz.ntmps7, List.size_toArray, List.length_cons, List.length_nil, Nat.reduceAdd, Nat.reduceSub, Array.replicate_succ, Array.replicate_zero, List.push_toArray, List.append_toArray, List.nil_append, List.cons_append]
  gi_wp2_with fail
  refine ⟨trivial, (HIA _ (ha.later hB0)).mono ?_⟩
  rintro e W1 ⟨rfl, hb1⟩
  have hB1 := hB0.trans (hb1.mono hB0.size)
  have HA1 := HA0.below hb1 (by omega)
  have HB1 := HB0.below hb1 (by omega)
  have hs1 : w.heap.size + 2 ≤ W1.heap.size := by have := hb1.size; omega
  have z0 := HB1 0
  have z1 := HB1 1
  have z2 := HB1 2
  simp at z0 z1 z2
  clear hb1 hB0 HA0 HB0 hzB HIA
  have q1 : w.heap.size + 1 < W1.heap.size := by omega
  gi_wp2_with fail
  refine ⟨trivial, (HIB _ (hb.later hB1)).mono ?_⟩
  rintro e W2 ⟨rfl, hb2⟩
  have hB2 := hB1.trans (hb2.mono hB1.size)
  have HA2 := HA1.below hb2 (by omega)
  have HB2 := HB1.below hb2 (by omega)
  have hs2 : w.heap.size + 2 ≤ W2.heap.size := by have := hb2.size; omega
  clear hb2 hB1 HA1 HB1 HIB z0 z1 z2 q1 hs1
  gi_wp2_with fail
  obtain ⟨W3, hW3⟩ : ∃ W3, W3 = W2.alloc (.cells #[.slice none 0 0] 30) := ⟨_, rfl⟩
  have hg3 : Below W2.heap.size W2 W3 := by rw [hW3]; exact (Below.refl _ _).alloc (Nat.le_refl _) _
  have hN3 : Boxed W3 W2.heap.size 30 (.slice none 0 0) := by rw [hW3]; exact Boxed.new _ _ _
  have hz3 : W3.heap.size = W2.heap.size + 1 := by rw [hW3]; simp
  rw [← hW3]
  have hB3 := hB2.trans (hg3.mono hB2.size)
  have HA3 := HA2.below hg3 (by omega)
  have HB3 := HB2.below hg3 (by omega)
  have hBn : w.heap.size + 2 ≤ W2.heap.size := hs2
  clear hW3 hg3 hB2 HA2 HB2 hs2
  generalize W2.heap.size = Bn at *
  refine wpIn_cutF (fun a' W' => ∃ vo1 vc1 vo2 vc2 Y, a' = { tmps := #[.agg #[.slice ao0 a.1.1.length cap0, .slice ao1 a.1.2.length cap1, .slice ao2 a.2.length cap2], .agg #[.slice bo0 b.1.1.length cbp0, .slice bo1 b.1.2.length cbp1, .slice bo2 b.2.length cbp2], .pointer (some ⟨w.heap.size, 0, none⟩), .pointer (some ⟨w.heap.size + 1, 0, none⟩), .slice none 0 0, .pointer (some ⟨Bn, 0, none⟩), undef, undef, .agg #[.slice ao0 a.1.1.length cap0, .slice ao1 a.1.2.length cap1, .slice ao2 a.2.length cap2], .bool true, .bool false, .bool false, .agg #[.slice bo0 b.1.1.length cbp0, .slice bo1 b.1.2.length cbp1, .slice bo2 b.2.length cbp2], .bool true, .bool false, .bool false, .agg #[.slice ao0 a.1.1.length cap0, .slice ao1 a.1.2.length cap1, .slice ao2 a.2.length cap2], .slice vo1 (chs a.2).length vc1, .agg #[.slice bo0 b.1.1.length cbp0, .slice bo1 b.1.2.length cbp1, .slice bo2 b.2.length cbp2], .slice vo2 (chs b.2).length vc2, .func (.func 42) #[] #[.pointer (some ⟨Y.heap.size, 0, none⟩), .pointer (some ⟨Y.heap.size + 1, 0, none⟩)], undef, undef, undef, undef, undef, undef, undef, undef, undef, undef, undef, undef], defers := [] } ∧ W' = (Y.alloc (.cells #[.slice vo1 (chs a.2).length vc1] 30)).alloc (.cells #[.slice vo2 (chs b.2).length vc2] 30) ∧ Y.ownsRow W3.heap.size 55 4 (.slice vo1 (chs a.2).length vc1) (chs a.2).length (valsPlanChange (chs a.2)) ∧ Y.ownsRow W3.heap.size 55 4 (.slice vo2 (chs b.2).length vc2) (chs b.2).length (valsPlanChange (chs b.2)) ∧ Below W3.heap.size W3 Y) ?_ ?_
  · have X1 := fun Y (h : Below W3.heap.size W3 Y) => HA3.below h (by omega)
    have X2 := fun Y (h : Below W3.heap.size W3 Y) => HB3.below h (by omega)
    have BK1 := fun Y (h : Below W3.heap.size W3 Y) => (ha.later (hB3.trans (h.mono (by omega)))).p2
    have BK2 := fun Y (h : Below W3.heap.size W3 Y) => (hb.later (hB3.trans (h.mono (by omega)))).p2
    refine RF.start mixedF2 ?_
    have Z0 : Below W3.heap.size W3 W3.drew := (Below.refl _ _).drew
    clear hN3 HA3 HB3 ha hb
    generalize W3.drew = Y0 at *
    refine RF.two (i := 0) (k := 2) (by kernel_rfl) rfl rfl (by kernel_rfl) (by kernel_rfl) (fun K hK => ?_) (fun K hK => ?_)
    · have z0 := X1 Y0 Z0 0
      have z1 := X1 Y0 Z0 1
      have z2 := X1 Y0 Z0 2
      simp at z0 z1 z2
      go_simp
      refine hK _ _ ?_
      clear hK K z0 z1 z2
      refine RF.two (i := 1) (k := 2) (by kernel_rfl) rfl rfl (by kernel_rfl) (by kernel_rfl) (fun K hK => ?_) (fun K hK => ?_)
      · have HP := callsIn_wide (n := 5).2 (iChs a ao0 cap0 ao1 cap1 ao2 cap2 Y0 (BK1 Y0 Z0) hsa)
        go_simp
        refine ⟨trivial, HP.mono ?_⟩
        rintro e Y1 ⟨hb1, v1, rfl, O1_1⟩
        have O1_1 := owns_low O1_1 Z0.size
        have Z1 := Z0.trans (hb1.mono Z0.size)
        simp only
        refine hK _ _ ?_
        clear hK K HP hb1
        refine RF.one (i := 2) (by kernel_rfl) rfl (by kernel_rfl) (fun K hK => ?_)
        have z0 := X2 Y1 Z1 0
        have z1 := X2 Y1 Z1 1
        have z2 := X2 Y1 Z1 2
        simp at z0 z1 z2
        go_simp
        refine hK _ _ ?_
        clear hK K z0 z1 z2
        refine RF.one (i := 3) (by kernel_rfl) rfl (by kernel_rfl) (fun K hK => ?_)
        have HP := callsIn_wide (n := 5).2 (iChs b bo0 cbp0 bo1 cbp1 bo2 cbp2 Y1 (BK2 Y1 Z1) hsb)
        go_simp
        refine ⟨trivial, HP.mono ?_⟩
        rintro e Y2 ⟨hb2, v2, rfl, O2_2⟩
        have O2_2 := owns_low O2_2 Z1.size
        have O1_2 := owns_below O1_1 hb2
        have Z2 := Z1.trans (hb2.mono Z1.size)
        simp only
        refine hK _ _ ?_
        clear hK K HP hb2
        obtain ⟨vo1, vc1, rfl⟩ := owned_slice O1_2
        obtain ⟨vo2, vc2, rfl⟩ := owned_slice O2_2
        have HP := callsIn_wide (n := 5).2 (iSide vo1 (chs a.2).length vc1 vo2 (chs b.2).length vc2 Y2)
        refine RF.one (i := 4) (by kernel_rfl) rfl (by kernel_rfl) (fun K hK => ?_)
        go_simp
        refine ⟨trivial, HP.mono ?_⟩
        rintro e Y9 ⟨rfl, hY9⟩
        simp only
        refine hK _ _ ?_
        clear hK K HP
        refine RF.done (by kernel_rfl) ?_
        exact ⟨vo1, vc1, vo2, vc2, Y2, rfl, hY9, O1_2, O2_2, Z2⟩
      · have z0 := X2 Y0 Z0 0
        have z1 := X2 Y0 Z0 1
        have z2 := X2 Y0 Z0 2
        simp at z0 z1 z2
        go_simp
        refine hK _ _ ?_
        clear hK K z0 z1 z2
        refine RF.one (i := 1) (by kernel_rfl) rfl (by kernel_rfl) (fun K hK => ?_)
        have HP := callsIn_wide (n := 5).2 (iChs a ao0 cap0 ao1 cap1 ao2 cap2 Y0 (BK1 Y0 Z0) hsa)
        go_simp
        refine ⟨trivial, HP.mono ?_⟩
        rintro e Y1 ⟨hb1, v1, rfl, O1_1⟩
        have O1_1 := owns_low O1_1 Z0.size
        have Z1 := Z0.trans (hb1.mono Z0.size)
        simp only
        refine hK _ _ ?_
        clear hK K HP hb1
        refine RF.one (i := 3) (by kernel_rfl) rfl (by kernel_rfl) (fun K hK => ?_)
        have HP := callsIn_wide (n := 5).2 (iChs b bo0 cbp0 bo1 cbp1 bo2 cbp2 Y1 (BK2 Y1 Z1) hsb)
        go_simp
        refine ⟨trivial, HP.mono ?_⟩
        rintro e Y2 ⟨hb2, v2, rfl, O2_2⟩
        have O2_2 := owns_low O2_2 Z1.size
        have O1_2 := owns_below O1_1 hb2
        have Z2 := Z1.trans (hb2.mono Z1.size)
        simp only
        refine hK _ _ ?_
        clear hK K HP hb2
        obtain ⟨vo1, vc1, rfl⟩ := owned_slice O1_2
        obtain ⟨vo2, vc2, rfl⟩ := owned_slice O2_2
        have HP := callsIn_wide (n := 5).2 (iSide vo1 (chs a.2).length vc1 vo2 (chs b.2).length vc2 Y2)
        refine RF.one (i := 4) (by kernel_rfl) rfl (by kernel_rfl) (fun K hK => ?_)
        go_simp
        refine ⟨trivial, HP.mono ?_⟩
        rintro e Y9 ⟨rfl, hY9⟩
        simp only
        refine hK _ _ ?_
        clear hK K HP
        refine RF.done (by kernel_rfl) ?_
        exact ⟨vo1, vc1, vo2, vc2, Y2, rfl, hY9, O1_2, O2_2, Z2⟩
    · have z0 := X2 Y0 Z0 0
      have z1 := X2 Y0 Z0 1
      have z2 := X2 Y0 Z0 2
      simp at z0 z1 z2
      go_simp
      refine hK _ _ ?_
      clear hK K z0 z1 z2
      refine RF.one (i := 0) (by kernel_rfl) rfl (by kernel_rfl) (fun K hK => ?_)
      have z0 := X1 Y0 Z0 0
      have z1 := X1 Y0 Z0 1
      have z2 := X1 Y0 Z0 2
      simp at z0 z1 z2
      go_simp
      refine hK _ _ ?_
      clear hK K z0 z1 z2
      refine RF.one (i := 1) (by kernel_rfl) rfl (by kernel_rfl) (fun K hK => ?_)
      have HP := callsIn_wide (n := 5).2 (iChs a ao0 cap0 ao1 cap1 ao2 cap2 Y0 (BK1 Y0 Z0) hsa)
      go_simp
      refine ⟨trivial, HP.mono ?_⟩
      rintro e Y1 ⟨hb1, v1, rfl, O1_1⟩
      have O1_1 := owns_low O1_1 Z0.size
      have Z1 := Z0.trans (hb1.mono Z0.size)
      simp only
      refine hK _ _ ?_
      clear hK K HP hb1
      refine RF.one (i := 3) (by kernel_rfl) rfl (by kernel_rfl) (fun K hK => ?_)
      have HP := callsIn_wide (n := 5).2 (iChs b bo0 cbp0 bo1 cbp1 bo2 cbp2 Y1 (BK2 Y1 Z1) hsb)
      go_simp
      refine ⟨trivial, HP.mono ?_⟩
      rintro e Y2 ⟨hb2, v2, rfl, O2_2⟩
      have O2_2 := owns_low O2_2 Z1.size
      have O1_2 := owns_below O1_1 hb2
      have Z2 := Z1.trans (hb2.mono Z1.size)
      simp only
      refine hK _ _ ?_
      clear hK K HP hb2
      obtain ⟨vo1, vc1, rfl⟩ := owned_slice O1_2
      obtain ⟨vo2, vc2, rfl⟩ := owned_slice O2_2
      have HP := callsIn_wide (n := 5).2 (iSide vo1 (chs a.2).length vc1 vo2 (chs b.2).length vc2 Y2)
      refine RF.one (i := 4) (by kernel_rfl) rfl (by kernel_rfl) (fun K hK => ?_)
      go_simp
      refine ⟨trivial, HP.mono ?_⟩
      rintro e Y9 ⟨rfl, hY9⟩
      simp only
      refine hK _ _ ?_
      clear hK K HP
      refine RF.done (by kernel_rfl) ?_
      exact ⟨vo1, vc1, vo2, vc2, Y2, rfl, hY9, O1_2, O2_2, Z2⟩
  · rintro a' W' ⟨vo1, vc1, vo2, vc2, Y, rfl, hWL, O1, O2, hZ⟩
    obtain ⟨WL, hWE⟩ : ∃ WL, WL = W' := ⟨_, rfl⟩
    rw [← hWE] at hWL ⊢
    clear hWE W'
    have hYz := hZ.size
    have hgL : Below Y.heap.size Y WL := by rw [hWL]; exact ((Below.refl _ _).alloc (Nat.le_refl _) _).alloc (by simp) _
    have hXa : WL.heap[Y.heap.size]? = some (.cells #[.slice vo1 (chs a.2).length vc1] 30 (0, 0)) := by
      rw [hWL, Below.heap_alloc _ _ _ (by simp)]; exact heap_alloc_new _ _
    have hXb : WL.heap[Y.heap.size + 1]? = some (.cells #[.slice vo2 (chs b.2).length vc2] 30 (0, 0)) := by
      rw [hWL]
      have := heap_alloc_new (Y.alloc (.cells #[.slice vo1 (chs a.2).length vc1] 30)) (.cells #[.slice vo2 (chs b.2).length vc2] 30)
      rwa [World.size_alloc] at this
    have hzL : WL.heap.size = Y.heap.size + 2 := by rw [hWL]; simp
    clear hWL
    obtain ⟨g1, hg1, hg1L, hR1⟩ := rest_of_owns (owns_below O1 hgL) Y.heap.size hYz (by omega) hla
    obtain ⟨g2, hg2, hg2L, hR2⟩ := rest_of_owns (owns_below O2 hgL) Y.heap.size hYz (by omega) hlb
    have hNL : Boxed WL Bn 30 (.slice none 0 0) := (hgL.block Bn (by omega)).trans ((hZ.block Bn (by omega)).trans hN3)
    have hBL : Below w.heap.size w WL := hB3.trans ((hZ.mono (by omega)).trans (hgL.mono (by omega)))
    clear O1 O2 hgL hZ hN3 hB3 HA3 HB3 ha hb hsa hsb
    generalize Y.heap.size = Ba at *
    clear Y
    have hSEQ := side_seq WL.heap.size Bn Ba (Ba + 1) g1 g2 vo1 vc1 vo2 vc2 (chs a.2) (chs b.2) _ WL (Nat.le_refl _) ⟨by omega, by omega⟩ ⟨by omega, by omega⟩ ⟨hg1L, by omega⟩ ⟨hg2L, by omega⟩ hXa hXb hR1 hR2 (Nat.le_refl _)
    clear hXa hXb hR1 hR2 hg1 hg2 hg1L hg2L
    have hslen := sbsF_len ((chs a.2).length + (chs b.2).length) (chs a.2) (chs b.2)
    have hBnL : Bn < WL.heap.size := by omega
    have hwL : w.heap.size ≤ WL.heap.size := hBL.size
    clear hYz hzL
    gi_wp2_with fail
    refine rangeM (n := 6) (encs := sbsE) (by omega) (gf := 42) (lb := #[.pointer (some ⟨Ba, 0, none⟩), .pointer (some ⟨Ba + 1, 0, none⟩)]) rfl (enters_of Tryz.func42 (by kernel_rfl) rfl) hSEQ nwKp_t nwKp_b ?hps
      (fun (pre : List (DChange × DChange)) W => (∃ v, Boxed W Bn 30 v ∧ W.ownsRow WL.heap.size 55 4 v (newsP pre).length (valsPlanChange (newsP pre))) ∧ Below w.heap.size w W ∧ WL.heap.size ≤ W.heap.size)
      (news_abm WL.heap.size Bn w hBnL hwL) ⟨⟨_, hNL, World.ownsRow_nil _ _ _ _⟩, hBL, Nat.le_refl _⟩
      (fun x a' W => ∃ Bx By, WL.heap.size ≤ Bx ∧ WL.heap.size ≤ By ∧ W.heap[Bx]? = some (.cells (chCells x.1) 55 (0, 0)) ∧ W.heap[By]? = some (.cells (chCells x.2) 55 (0, 0)) ∧ a' = { tmps := #[.agg #[.slice ao0 a.1.1.length cap0, .slice ao1 a.1.2.length cap1, .slice ao2 a.2.length cap2], .agg #[.slice bo0 b.1.1.length cbp0, .slice bo1 b.1.2.length cbp1, .slice bo2 b.2.length cbp2], .pointer (some ⟨w.heap.size, 0, none⟩), .pointer (some ⟨w.heap.size + 1, 0, none⟩), .slice none 0 0, .pointer (some ⟨Bn, 0, none⟩), .pointer (some ⟨Bx, 0, none⟩), .pointer (some ⟨By, 0, none⟩), .agg #[.slice ao0 a.1.1.length cap0, .slice ao1 a.1.2.length cap1, .slice ao2 a.2.length cap2], .bool true, .bool false, .bool false, .agg #[.slice bo0 b.1.1.length cbp0, .slice bo1 b.1.2.length cbp1, .slice bo2 b.2.length cbp2], .bool true, .bool false, .bool false, .agg #[.slice ao0 a.1.1.length cap0, .slice ao1 a.1.2.length cap1, .slice ao2 a.2.length cap2], .slice vo1 (chs a.2).length vc1, .agg #[.slice bo0 b.1.1.length cbp0, .slice bo1 b.1.2.length cbp1, .slice bo2 b.2.length cbp2], .slice vo2 (chs b.2).length vc2, .func (.func 42) #[] #[.pointer (some ⟨Ba, 0, none⟩), .pointer (some ⟨Ba + 1, 0, none⟩)], .agg (chCells x.1), .agg (chCells x.2), undef, undef, undef, undef, undef, undef, undef, undef, undef, undef], defers := [] })
      (fun x a' _ X Y row hs hg hrow => by
        obtain ⟨Bx, By, h1, h2, h3, h4, h5⟩ := hs
        refine ⟨Bx, By, h1, h2, (hg.block Bx (Array.getElem?_eq_some_iff.1 h3).1 (fun e => ?_)).trans h3, (hg.block By (Array.getElem?_eq_some_iff.1 h4).1 (fun e => ?_)).trans h4, h5⟩
        · obtain ⟨_, o, ho, hc⟩ := hrow Bx e.symm; rw [h3] at ho; cases ho; cases hc
        · obtain ⟨_, o, ho, hc⟩ := hrow By e.symm; rw [h4] at ho; cases ho; cases hc)
      ?assign ?body ?done
    case hps => intro x; rfl
    case assign =>
      rintro l pre x W K ⟨⟨v, hv, hr⟩, hBW, hzW⟩ hK
      simp only [sbsE]
      have hgA : Below W.heap.size W ((W.alloc (.cells (chCells x.1) 55)).alloc (.cells (chCells x.2) 55)) := ((Below.refl _ _).alloc (Nat.le_refl _) _).alloc (by simp) _
      have hx1 : ((W.alloc (.cells (chCells x.1) 55)).alloc (.cells (chCells x.2) 55)).heap[W.heap.size]? = some (.cells (chCells x.1) 55 (0, 0)) := by
        rw [Below.heap_alloc _ _ _ (by simp)]; exact heap_alloc_new _ _
      have hx2 : ((W.alloc (.cells (chCells x.1) 55)).alloc (.cells (chCells x.2) 55)).heap[W.heap.size + 1]? = some (.cells (chCells x.2) 55 (0, 0)) := by
        have := heap_alloc_new (W.alloc (.cells (chCells x.1) 55)) (.cells (chCells x.2) 55)
        rwa [World.size_alloc] at this
      have hKA : KeepsFrom WL.heap.size W ((W.alloc (.cells (chCells x.1) 55)).alloc (.cells (chCells x.2) 55)) := ((KeepsOthers.alloc _ _).trans (KeepsOthers.alloc _ _)).from _
      have hKI := news_abm WL.heap.size Bn w hBnL hwL pre W _ none ⟨⟨v, hv, hr⟩, hBW, hzW⟩ (grown_of_below hgA) (by simp)
      gi_wp2
      exact hK _ _ hKA (nwKp_grown hgA hzW) hKI ⟨W.heap.size, W.heap.size + 1, hzW, by omega, hx1, hx2, rfl⟩
    case body =>
      rintro l pre x a' W ⟨⟨v, hv, hr⟩, hBW, hzW⟩ ⟨Bx, By, hBx, hBy, QX, QY, rfl⟩ hpre
      obtain ⟨bv, hbv⟩ : ∃ bv, pb (Later x.2.2 x.1.2) = bv := ⟨_, rfl⟩
      have HLT : ∀ W, Calls Tryz.prog 23 #[.agg #[.int .i64 x.2.2.1, .int .i64 x.2.2.2.1, .string x.2.2.2.2], .agg #[.int .i64 x.1.2.1, .int .i64 x.1.2.2.1, .string x.1.2.2.2]] W fun e w' => e = .returned (.bool bv) ∧ Below W.heap.size W w' := fun W => by rw [← hbv]; exact iLater x.2.2 x.1.2 W
      have HBV : Hid (newsP (pre ++ [x]) = if bv then newsP pre ++ [x.2] else newsP pre) := by show _ = _; rw [newsP_snoc, hbv]
      have hpl : (newsP pre).length + 1 ≤ 2097152 := by
        have h1 := newsP_len pre
        have h2 := hpre.length_le
        simp at h2
        omega
      clear hbv HNEWS hSEQ hslen hpre hNL hBL
      gi_wp2_with fail
      refine wpIn_cutF (fun a' W' => a' = { tmps := #[.agg #[.slice ao0 a.1.1.length cap0, .slice ao1 a.1.2.length cap1, .slice ao2 a.2.length cap2], .agg #[.slice bo0 b.1.1.length cbp0, .slice bo1 b.1.2.length cbp1, .slice bo2 b.2.length cbp2], .pointer (some ⟨w.heap.size, 0, none⟩), .pointer (some ⟨w.heap.size + 1, 0, none⟩), .slice none 0 0, .pointer (some ⟨Bn, 0, none⟩), .pointer (some ⟨Bx, 0, none⟩), .pointer (some ⟨By, 0, none⟩), .agg #[.slice ao0 a.1.1.length cap0, .slice ao1 a.1.2.length cap1, .slice ao2 a.2.length cap2], .bool true, .bool false, .bool false, .agg #[.slice bo0 b.1.1.length cbp0, .slice bo1 b.1.2.length cbp1, .slice bo2 b.2.length cbp2], .bool true, .bool false, .bool false, .agg #[.slice ao0 a.1.1.length cap0, .slice ao1 a.1.2.length cap1, .slice ao2 a.2.length cap2], .slice vo1 (chs a.2).length vc1, .agg #[.slice bo0 b.1.1.length cbp0, .slice bo1 b.1.2.length cbp1, .slice bo2 b.2.length cbp2], .slice vo2 (chs b.2).length vc2, .func (.func 42) #[] #[.pointer (some ⟨Ba, 0, none⟩), .pointer (some ⟨Ba + 1, 0, none⟩)], .agg (chCells x.1), .agg (chCells x.2), .agg (chCells x.2), .agg #[.int .i64 x.2.2.1, .int .i64 x.2.2.2.1, .string x.2.2.2.2], .agg (chCells x.1), .agg #[.int .i64 x.1.2.1, .int .i64 x.1.2.2.1, .string x.1.2.2.2], .bool bv, undef, undef, undef, undef, undef], defers := [] } ∧ W'.heap[Bx]? = some (.cells (chCells x.1) 55 (0, 0)) ∧ W'.heap[By]? = some (.cells (chCells x.2) 55 (0, 0)) ∧ Below W.heap.size W W') ?_ ?_
      · refine RF.start mixedF2 ?_
        have G_0 : Below W.heap.size W W.drew := (Below.refl _ _).drew
        have QX_0 : W.drew.heap[Bx]? = _ := QX
        have QY_0 : W.drew.heap[By]? = _ := QY
        clear hv hr hBW hzW QX QY
        generalize W.drew = U0 at *
        refine RF.two (i := 0) (k := 2) (by kernel_rfl) rfl rfl (by kernel_rfl) (by kernel_rfl) (fun K hK => ?_) (fun K hK => ?_)
        · have z0 := cell_of_heapN QY_0 0
          have z1 := cell_of_heapN QY_0 1
          have z2 := cell_of_heapN QY_0 2
          have z3 := cell_of_heapN QY_0 3
          simp at z0 z1 z2 z3
          go_simp
          refine hK _ _ ?_
          clear hK K z0 z1 z2 z3
          refine RF.two (i := 1) (k := 2) (by kernel_rfl) rfl rfl (by kernel_rfl) (by kernel_rfl) (fun K hK => ?_) (fun K hK => ?_)
          · have HP := CallsIn.inRound l (callsIn_wide (n := 3).2 (iField x.2 U0))
            go_simp
            refine ⟨trivial, HP.mono ?_⟩
            rintro e U1 ⟨rfl, hb1⟩
            have QX_1 := (hb1.block Bx (Array.getElem?_eq_some_iff.1 QX_0).1).trans QX_0
            have QY_1 := (hb1.block By (Array.getElem?_eq_some_iff.1 QY_0).1).trans QY_0
            have G_1 := G_0.trans (hb1.mono G_0.size)
            simp only
            refine hK _ _ ?_
            clear hK K HP hb1
            refine RF.one (i := 2) (by kernel_rfl) rfl (by kernel_rfl) (fun K hK => ?_)
            have z0 := cell_of_heapN QX_1 0
            have z1 := cell_of_heapN QX_1 1
            have z2 := cell_of_heapN QX_1 2
            have z3 := cell_of_heapN QX_1 3
            simp at z0 z1 z2 z3
            go_simp
            refine hK _ _ ?_
            clear hK K z0 z1 z2 z3
            refine RF.one (i := 3) (by kernel_rfl) rfl (by kernel_rfl) (fun K hK => ?_)
            have HP := CallsIn.inRound l (callsIn_wide (n := 3).2 (iField x.1 U1))
            go_simp
            refine ⟨trivial, HP.mono ?_⟩
            rintro e U2 ⟨rfl, hb2⟩
            have QX_2 := (hb2.block Bx (Array.getElem?_eq_some_iff.1 QX_1).1).trans QX_1
            have QY_2 := (hb2.block By (Array.getElem?_eq_some_iff.1 QY_1).1).trans QY_1
            have G_2 := G_1.trans (hb2.mono G_1.size)
            simp only
            refine hK _ _ ?_
            clear hK K HP hb2
            refine RF.one (i := 4) (by kernel_rfl) rfl (by kernel_rfl) (fun K hK => ?_)
            have HP := CallsIn.inRound l (callsIn_wide (n := 3).2 (HLT U2))
            go_simp
            refine ⟨trivial, HP.mono ?_⟩
            rintro e U3 ⟨rfl, hb3⟩
            have QX_3 := (hb3.block Bx (Array.getElem?_eq_some_iff.1 QX_2).1).trans QX_2
            have QY_3 := (hb3.block By (Array.getElem?_eq_some_iff.1 QY_2).1).trans QY_2
            have G_3 := G_2.trans (hb3.mono G_2.size)
            simp only
            refine hK _ _ ?_
            clear hK K HP hb3
            refine RF.done (by kernel_rfl) ?_
            exact ⟨rfl, QX_3, QY_3, G_3⟩
          · have z0 := cell_of_heapN QX_0 0
            have z1 := cell_of_heapN QX_0 1
            have z2 := cell_of_heapN QX_0 2
            have z3 := cell_of_heapN QX_0 3
            simp at z0 z1 z2 z3
            go_simp
            refine hK _ _ ?_
            clear hK K z0 z1 z2 z3
            refine RF.one (i := 1) (by kernel_rfl) rfl (by kernel_rfl) (fun K hK => ?_)
            have HP := CallsIn.inRound l (callsIn_wide (n := 3).2 (iField x.2 U0))
            go_simp
            refine ⟨trivial, HP.mono ?_⟩
            rintro e U1 ⟨rfl, hb1⟩
            have QX_1 := (hb1.block Bx (Array.getElem?_eq_some_iff.1 QX_0).1).trans QX_0
            have QY_1 := (hb1.block By (Array.getElem?_eq_some_iff.1 QY_0).1).trans QY_0
            have G_1 := G_0.trans (hb1.mono G_0.size)
            simp only
            refine hK _ _ ?_
            clear hK K HP hb1
            refine RF.one (i := 3) (by kernel_rfl) rfl (by kernel_rfl) (fun K hK => ?_)
            have HP := CallsIn.inRound l (callsIn_wide (n := 3).2 (iField x.1 U1))
            go_simp
            refine ⟨trivial, HP.mono ?_⟩
            rintro e U2 ⟨rfl, hb2⟩
            have QX_2 := (hb2.block Bx (Array.getElem?_eq_some_iff.1 QX_1).1).trans QX_1
            have QY_2 := (hb2.block By (Array.getElem?_eq_some_iff.1 QY_1).1).trans QY_1
            have G_2 := G_1.trans (hb2.mono G_1.size)
            simp only
            refine hK _ _ ?_
            clear hK K HP hb2
            refine RF.one (i := 4) (by kernel_rfl) rfl (by kernel_rfl) (fun K hK => ?_)
            have HP := CallsIn.inRound l (callsIn_wide (n := 3).2 (HLT U2))
            go_simp
            refine ⟨trivial, HP.mono ?_⟩
            rintro e U3 ⟨rfl, hb3⟩
            have QX_3 := (hb3.block Bx (Array.getElem?_eq_some_iff.1 QX_2).1).trans QX_2
            have QY_3 := (hb3.block By (Array.getElem?_eq_some_iff.1 QY_2).1).trans QY_2
            have G_3 := G_2.trans (hb3.mono G_2.size)
            simp only
            refine hK _ _ ?_
            clear hK K HP hb3
            refine RF.done (by kernel_rfl) ?_
            exact ⟨rfl, QX_3, QY_3, G_3⟩
        · have z0 := cell_of_heapN QX_0 0
          have z1 := cell_of_heapN QX_0 1
          have z2 := cell_of_heapN QX_0 2
          have z3 := cell_of_heapN QX_0 3
          simp at z0 z1 z2 z3
          go_simp
          refine hK _ _ ?_
          clear hK K z0 z1 z2 z3
          refine RF.one (i := 0) (by kernel_rfl) rfl (by kernel_rfl) (fun K hK => ?_)
          have z0 := cell_of_heapN QY_0 0
          have z1 := cell_of_heapN QY_0 1
          have z2 := cell_of_heapN QY_0 2
          have z3 := cell_of_heapN QY_0 3
          simp at z0 z1 z2 z3
          go_simp
          refine hK _ _ ?_
          clear hK K z0 z1 z2 z3
          refine RF.one (i := 1) (by kernel_rfl) rfl (by kernel_rfl) (fun K hK => ?_)
          have HP := CallsIn.inRound l (callsIn_wide (n := 3).2 (iField x.2 U0))
          go_simp
          refine ⟨trivial, HP.mono ?_⟩
          rintro e U1 ⟨rfl, hb1⟩
          have QX_1 := (hb1.block Bx (Array.getElem?_eq_some_iff.1 QX_0).1).trans QX_0
          have QY_1 := (hb1.block By (Array.getElem?_eq_some_iff.1 QY_0).1).trans QY_0
          have G_1 := G_0.trans (hb1.mono G_0.size)
          simp only
          refine hK _ _ ?_
          clear hK K HP hb1
          refine RF.one (i := 3) (by kernel_rfl) rfl (by kernel_rfl) (fun K hK => ?_)
          have HP := CallsIn.inRound l (callsIn_wide (n := 3).2 (iField x.1 U1))
          go_simp
          refine ⟨trivial, HP.mono ?_⟩
          rintro e U2 ⟨rfl, hb2⟩
          have QX_2 := (hb2.block Bx (Array.getElem?_eq_some_iff.1 QX_1).1).trans QX_1
          have QY_2 := (hb2.block By (Array.getElem?_eq_some_iff.1 QY_1).1).trans QY_1
          have G_2 := G_1.trans (hb2.mono G_1.size)
          simp only
          refine hK _ _ ?_
          clear hK K HP hb2
          refine RF.one (i := 4) (by kernel_rfl) rfl (by kernel_rfl) (fun K hK => ?_)
          have HP := CallsIn.inRound l (callsIn_wide (n := 3).2 (HLT U2))
          go_simp
          refine ⟨trivial, HP.mono ?_⟩
          rintro e U3 ⟨rfl, hb3⟩
          have QX_3 := (hb3.block Bx (Array.getElem?_eq_some_iff.1 QX_2).1).trans QX_2
          have QY_3 := (hb3.block By (Array.getElem?_eq_some_iff.1 QY_2).1).trans QY_2
          have G_3 := G_2.trans (hb3.mono G_2.size)
          simp only
          refine hK _ _ ?_
          clear hK K HP hb3
          refine RF.done (by kernel_rfl) ?_
          exact ⟨rfl, QX_3, QY_3, G_3⟩
      · rintro a' U ⟨rfl, QX, QY, hG⟩
        have hv : Boxed U Bn 30 v := (hG.block Bn hv.lt).trans hv
        have hr := owns_below hr hG
        have hBU := hBW.trans (hG.mono hBW.size)
        have hzU := Nat.le_trans hzW hG.size
        have hKp := nwKp_grown (n₀ := WL.heap.size) (Bn := Bn) hG hzW
        have hKf := keepsFrom_below (B := WL.heap.size) hG
        clear hG hBW hzW HLT
        cases bv with
        | false =>
          gi_wp2
          have e := HBV.out
          simp only [Bool.false_eq_true, if_false] at e
          exact ⟨hKf, hKp, ⟨v, hv, by rw [e]; exact hr⟩, hBU, hzU⟩
        | true =>
          have e := HBV.out
          simp only [if_true] at e
          have E : Hid _ := e
          clear e HBV
          have hc := Boxed.cell hv
          have y0 := cell_of_heapN QY 0
          have y1 := cell_of_heapN QY 1
          have y2 := cell_of_heapN QY 2
          have y3 := cell_of_heapN QY 3
          simp at y0 y1 y2 y3
          gi_wp2_with (gi_at_builtin; refine wpListIn_append_own _ rfl _ _ 30 rfl WL.heap.size 55 i0 (.agg #[.string ByteArray.empty, .int .i64 0, .int .i64 0, .string ByteArray.empty]) 4 48 Tryz.underlying30 hi0 hz0 hz1 hz2 rfl (by decide) _ _ _ rfl (hr.alloc _) ⟨U.heap.size, 0, none⟩ 1 1 [.string x.2.1, .int .i64 x.2.2.1, .int .i64 x.2.2.2.1, .string x.2.2.2.2] rfl rfl ?c1 ?c2 ?c3 ?c4 ?c5 ?_)
          case c1 =>
            intro j u hj
            match j, hj with
            | 0, hj => simp at hj; subst hj; simp [Addr.add]
            | 1, hj => simp at hj; subst hj; simp [Addr.add]
            | 2, hj => simp at hj; subst hj; simp [Addr.add]
            | 3, hj => simp at hj; subst hj; simp [Addr.add]
          case c2 =>
            intro u hu
            simp at hu
            rcases hu with rfl | rfl | rfl | rfl <;> rfl
          case c3 => unfold maxLen; omega
          case c4 => omega
          case c5 => simp; omega
          intro v' w1 hown' hgrow _
          obtain ⟨g', cap', rfl⟩ := ownsRow_succ hown'
          obtain ⟨hv1, hv2, _, hk2, hb2⟩ := Boxed.appended (n₀ := Bn) hv (by decide) (owns_low hr (Nat.le_of_lt hBnL)) (Nat.le_of_lt hv.lt) (Nat.le_refl _) (owns_low hown' (Nat.le_of_lt hBnL)) hgrow
          have hrow' := hown'.kept (grownBy_setCell' w1 Bn (.slice (some ⟨g', 0, none⟩) ((newsP pre).length + 1) cap')) (.inr (hv1.not_row (by decide) hown').symm)
          have hKp2 : NwKp WL.heap.size Bn U (w1.setCell ⟨Bn, 0, none⟩ (.slice (some ⟨g', 0, none⟩) ((newsP pre).length + 1) cap')) := by
            have hoth : ∀ k, k < U.heap.size → k ≠ Bn → some k ≠ v.ownBlock → (w1.setCell ⟨Bn, 0, none⟩ (.slice (some ⟨g', 0, none⟩) ((newsP pre).length + 1) cap')).heap[k]? = U.heap[k]? := fun k h1 h2 h3 => by
              rw [Below.heap_setCell w1 ⟨Bn, 0, none⟩ _ k h2, hgrow.block k (by simp; omega) h3, Below.heap_alloc U _ k h1]
            refine ⟨hb2.size, fun k h1 h2 => hoth k (by omega) h2 (fun h3 => ?_), fun k o h1 h2 => ?_⟩
            · have := own_ge hr k h3.symm
              omega
            · refine (hoth k (Array.getElem?_eq_some_iff.1 h1).1 (fun h3 => ?_) (fun h3 => ?_)).trans h1
              · subst h3
                have h4 := h1.symm.trans hv
                cases h4
                exact not_restM (by decide) (by decide) h2
              · rcases hr.2 with ⟨rfl, _⟩ | ⟨g, cap, cur, rfl, _, hgb, _⟩
                · simp [Value.ownBlock] at h3
                · obtain rfl : k = g := by simpa [Value.ownBlock] using h3
                  have h4 := h1.symm.trans hgb
                  cases h4
                  exact not_restM (by decide) (by decide) h2
          have hc1 := hv1.cell
          have hf1 := hv1.frozen
          have hsz2 := hb2.size
          clear hown' hgrow
          gi_wp2
          exact ⟨hKf.trans (hk2.from _), nwKp_t hKp hKp2, ⟨_, hv2, by rw [E.out, valsPlanChange_snoc, List.length_append]; exact hrow'⟩, hBU.trans (hb2.mono (by omega)), by omega⟩
    case done =>
      rintro D W hD ⟨⟨v, hv, hr⟩, hBW, hzW⟩ hK
      have hc := hv.cell
      rw [HNEWS.out] at hr
      obtain ⟨vo, vc, rfl⟩ := owned_slice hr
      gi_wp2
      refine ⟨by simp, .inl ⟨_, _, rfl, run_takeDeferred hK, ?_⟩⟩
      exact ⟨_, results_tmp rfl _ _ _, hBW.trans (belowK_b (w := w) (Nat.le_refl _) W D _ _ (by omega) hK rfl rfl), _, rfl, owns_low (ownsRow_putObj hr _ hK rfl) hwL⟩

end Go.Proofs.YtohgkiljdehefaaGreat

/- DERIVED. News of books that are not ok; PlanNews on both sides (written by wip/tools/mk_nwe.py). -/
namespace Go.Proofs.YtohgkiljdehefaaGreat
open Go.RowKit
set_option linter.unusedSimpArgs false
set_option linter.unusedVariables false

theorem empty_at {W : World} {B g : Nat} (h : W.heap[g]? = some (.cells #[] 55 (0, 0))) (hB : B ≤ g) : W.ownsRow B 55 4 (.slice (some ⟨g, 0, none⟩) 0 0) 0 [] := ⟨rfl, .inr ⟨g, 0, #[], rfl, hB, h, Nat.le_refl _, by decide, rfl, rfl⟩⟩
noncomputable def newsOf (a b : DPlanBook) : List DChange := @ite _ (BookOk a ∧ BookOk b) (Classical.propDecidable _) (newsL a.2 b.2) []
theorem newsOf_yes {a b : DPlanBook} (h : BookOk a ∧ BookOk b) : newsOf a b = newsL a.2 b.2 := by unfold newsOf; rw [if_pos h]
theorem newsOf_no {a b : DPlanBook} (h : ¬ (BookOk a ∧ BookOk b)) : newsOf a b = [] := by unfold newsOf; rw [if_neg h]
theorem newsOf_len (a b : DPlanBook) : (newsOf a b).length ≤ wPlanEntryS b.2 := by
  by_cases h : BookOk a ∧ BookOk b
  · rw [newsOf_yes h]
    unfold newsL
    exact Nat.le_trans (List.length_filter_le _ _) (chs_len b.2)
  · rw [newsOf_no h]; exact Nat.zero_le _

set_option maxRecDepth 100000 in
set_option maxHeartbeats 4000000 in
theorem iNews_no (a b : DPlanBook) (ao0 : Option Addr) (cap0 : Nat) (ao1 : Option Addr) (cap1 : Nat) (ao2 : Option Addr) (cap2 : Nat) (bo0 : Option Addr) (cbp0 : Nat) (bo1 : Option Addr) (cbp1 : Nat) (bo2 : Option Addr) (cbp2 : Nat) (w : World) (ha : BookAt w a ao0 cap0 ao1 cap1 ao2 cap2) (hb : BookAt w b bo0 cbp0 bo1 cbp1 bo2 cbp2) (hsa : wPlanEntryS a.2 ≤ 1048576) (hsb : wPlanEntryS b.2 ≤ 1048576) (hno : ¬ (BookOk a ∧ BookOk b)) :
    Calls Tryz.prog 7 #[.agg #[.slice ao0 a.1.1.length cap0, .slice ao1 a.1.2.length cap1, .slice ao2 a.2.length cap2], .agg #[.slice bo0 b.1.1.length cbp0, .slice bo1 b.1.2.length cbp1, .slice bo2 b.2.length cbp2]] w fun r w' => (∃ v, r = .returned v ∧ w'.ownsRow w.heap.size 55 4 v 0 []) ∧ Below w.heap.size w w' := by
  have hB0 : Below w.heap.size w ((w.alloc (.cells #[.slice ao0 a.1.1.length cap0, .slice ao1 a.1.2.length cap1, .slice ao2 a.2.length cap2] 38)).alloc (.cells #[.slice bo0 b.1.1.length cbp0, .slice bo1 b.1.2.length cbp1, .slice bo2 b.2.length cbp2] 38)) := (((Below.refl _ _).alloc (Nat.le_refl _) _).alloc (by simp) _)
  have HB0 : BxC (w.heap.size + 1) #[.slice bo0 b.1.1.length cbp0, .slice bo1 b.1.2.length cbp1, .slice bo2 b.2.length cbp2] ((w.alloc (.cells #[.slice ao0 a.1.1.length cap0, .slice ao1 a.1.2.length cap1, .slice ao2 a.2.length cap2] 38)).alloc (.cells #[.slice bo0 b.1.1.length cbp0, .slice bo1 b.1.2.length cbp1, .slice bo2 b.2.length cbp2] 38)) := by
    have := BxC.new (w.alloc (.cells #[.slice ao0 a.1.1.length cap0, .slice ao1 a.1.2.length cap1, .slice ao2 a.2.length cap2] 38)) #[.slice bo0 b.1.1.length cbp0, .slice bo1 b.1.2.length cbp1, .slice bo2 b.2.length cbp2] 38
    rw [World.size_alloc] at this
    exact this
  have hzB : ((w.alloc (.cells #[.slice ao0 a.1.1.length cap0, .slice ao1 a.1.2.length cap1, .slice ao2 a.2.length cap2] 38)).alloc (.cells #[.slice bo0 b.1.1.length cbp0, .slice bo1 b.1.2.length cbp1, .slice bo2 b.2.length cbp2] 38)).heap.size = w.heap.size + 2 := by simp
  have HIA := iBook a ao0 cap0 ao1 cap1 ao2 cap2 _ (ha.later hB0).base (ha.later hB0).p2 hsa
  have HIB := fun W (hh : BookAt W b bo0 cbp0 bo1 cbp1 bo2 cbp2) => iBook b bo0 cbp0 bo1 cbp1 bo2 cbp2 W hh.base hh.p2 hsb
  go_enter Tryz.func7, Tryz.ntmps7
  go_wp2_with fail
  refine HIA.mono ?_
  rintro e W1 ⟨rfl, hb1⟩
  have hB1 := hB0.trans (hb1.mono hB0.size)
  have HB1 := HB0.below hb1 (by omega)
  have hs1 : w.heap.size + 2 ≤ W1.heap.size := by have := hb1.size; omega
  have z0 := HB1 0
  have z1 := HB1 1
  have z2 := HB1 2
  simp at z0 z1 z2
  clear hb1 hB0 HB0 hzB HIA
  have q1 : w.heap.size + 1 < W1.heap.size := by omega
  by_cases oka : BookOk a
  · have okb : ¬ BookOk b := fun h => hno ⟨oka, h⟩
    rw [pb_yes oka]
    have HIB := HIB W1 (hb.later hB1)
    rw [pb_no okb] at HIB
    go_wp2_with fail
    refine HIB.mono ?_
    rintro e W2 ⟨rfl, hb2⟩
    have hB2 := hB1.trans (hb2.mono hB1.size)
    clear hb2 z0 z1 z2 HIB
    go_wp2
    go_ret
    exact ⟨⟨_, rfl, World.ownsRow_nil _ _ _ _⟩, hB2⟩
  · rw [pb_no oka]
    clear z0 z1 z2 HIB
    go_wp2
    go_ret
    exact ⟨⟨_, rfl, World.ownsRow_nil _ _ _ _⟩, hB1⟩

set_option maxRecDepth 100000 in
set_option maxHeartbeats 4000000 in
theorem sNews_no (a b : DPlanBook) (ao0 : Option Addr) (cap0 : Nat) (ao1 : Option Addr) (cap1 : Nat) (ao2 : Option Addr) (cap2 : Nat) (bo0 : Option Addr) (cbp0 : Nat) (bo1 : Option Addr) (cbp1 : Nat) (bo2 : Option Addr) (cbp2 : Nat) (w : World) (ha : BookAt w a ao0 cap0 ao1 cap1 ao2 cap2) (hb : BookAt w b bo0 cbp0 bo1 cbp1 bo2 cbp2) (hsa : wPlanEntryS a.2 ≤ 1048576) (hsb : wPlanEntryS b.2 ≤ 1048576) (hno : ¬ (BookOk a ∧ BookOk b)) :
    Calls Tryz.prog 5 #[.agg #[.slice ao0 a.1.1.length cap0, .slice ao1 a.1.2.length cap1, .slice ao2 a.2.length cap2], .agg #[.slice bo0 b.1.1.length cbp0, .slice bo1 b.1.2.length cbp1, .slice bo2 b.2.length cbp2]] w fun r w' => (∃ v, r = .returned v ∧ w'.ownsRow w.heap.size 55 4 v 0 []) ∧ Below w.heap.size w w' := by
  have hB0 : Below w.heap.size w (((w.alloc (.cells #[.slice ao0 a.1.1.length cap0, .slice ao1 a.1.2.length cap1, .slice ao2 a.2.length cap2] 38)).alloc (.cells #[.slice bo0 b.1.1.length cbp0, .slice bo1 b.1.2.length cbp1, .slice bo2 b.2.length cbp2] 38)).alloc (.cells #[] 55)) := (((Below.refl _ _).alloc (Nat.le_refl _) _).alloc (by simp) _).alloc (by simp; omega) _
  have HB0 : BxC (w.heap.size + 1) #[.slice bo0 b.1.1.length cbp0, .slice bo1 b.1.2.length cbp1, .slice bo2 b.2.length cbp2] (((w.alloc (.cells #[.slice ao0 a.1.1.length cap0, .slice ao1 a.1.2.length cap1, .slice ao2 a.2.length cap2] 38)).alloc (.cells #[.slice bo0 b.1.1.length cbp0, .slice bo1 b.1.2.length cbp1, .slice bo2 b.2.length cbp2] 38)).alloc (.cells #[] 55)) := by
    have := BxC.new (w.alloc (.cells #[.slice ao0 a.1.1.length cap0, .slice ao1 a.1.2.length cap1, .slice ao2 a.2.length cap2] 38)) #[.slice bo0 b.1.1.length cbp0, .slice bo1 b.1.2.length cbp1, .slice bo2 b.2.length cbp2] 38
    rw [World.size_alloc] at this
    exact this.below ((Below.refl (w.heap.size + 2) _).alloc (by simp) _) (by omega)
  have hzB : (((w.alloc (.cells #[.slice ao0 a.1.1.length cap0, .slice ao1 a.1.2.length cap1, .slice ao2 a.2.length cap2] 38)).alloc (.cells #[.slice bo0 b.1.1.length cbp0, .slice bo1 b.1.2.length cbp1, .slice bo2 b.2.length cbp2] 38)).alloc (.cells #[] 55)).heap.size = w.heap.size + 3 := by simp
  have HE : Hid ((((w.alloc (.cells #[.slice ao0 a.1.1.length cap0, .slice ao1 a.1.2.length cap1, .slice ao2 a.2.length cap2] 38)).alloc (.cells #[.slice bo0 b.1.1.length cbp0, .slice bo1 b.1.2.length cbp1, .slice bo2 b.2.length cbp2] 38)).alloc (.cells #[] 55)).heap[w.heap.size + 1 + 1]? = some (.cells #[] 55 (0, 0))) := by
    have := heap_alloc_new ((w.alloc (.cells #[.slice ao0 a.1.1.length cap0, .slice ao1 a.1.2.length cap1, .slice ao2 a.2.length cap2] 38)).alloc (.cells #[.slice bo0 b.1.1.length cbp0, .slice bo1 b.1.2.length cbp1, .slice bo2 b.2.length cbp2] 38)) (.cells #[] 55)
    simp only [World.size_alloc] at this
    exact this
  have HIA := sBook a ao0 cap0 ao1 cap1 ao2 cap2 _ (ha.later hB0).base (ha.later hB0).p2 hsa
  have HIB := fun W (hh : BookAt W b bo0 cbp0 bo1 cbp1 bo2 cbp2) => sBook b bo0 cbp0 bo1 cbp1 bo2 cbp2 W hh.base hh.p2 hsb
  go_enter Tryz.func5, Tryz.ntmps5
  go_wp2_with fail
  refine HIA.mono ?_
  rintro e W1 ⟨rfl, hb1⟩
  have hB1 := hB0.trans (hb1.mono hB0.size)
  have HB1 := HB0.below hb1 (by omega)
  have hs1 : w.heap.size + 2 ≤ W1.heap.size := by have := hb1.size; omega
  have z0 := HB1 0
  have z1 := HB1 1
  have z2 := HB1 2
  simp at z0 z1 z2
  have HE1 : Hid (W1.heap[w.heap.size + 1 + 1]? = some (.cells #[] 55 (0, 0))) := (hb1.block _ (by omega)).trans HE.out
  clear HE
  clear hb1 hB0 HB0 hzB HIA
  have q1 : w.heap.size + 1 < W1.heap.size := by omega
  by_cases oka : BookOk a
  · have okb : ¬ BookOk b := fun h => hno ⟨oka, h⟩
    rw [pb_yes oka]
    have HIB := HIB W1 (hb.later hB1)
    rw [pb_no okb] at HIB
    go_wp2_with fail
    refine HIB.mono ?_
    rintro e W2 ⟨rfl, hb2⟩
    have hB2 := hB1.trans (hb2.mono hB1.size)
    have HE2 : Hid (W2.heap[w.heap.size + 1 + 1]? = some (.cells #[] 55 (0, 0))) := (hb2.block _ (Array.getElem?_eq_some_iff.1 HE1.out).1).trans HE1.out
    clear HE1
    clear hb2 z0 z1 z2 HIB
    go_wp2
    go_ret
    exact ⟨⟨_, rfl, empty_at HE2.out (by omega)⟩, hB2⟩
  · rw [pb_no oka]
    clear z0 z1 z2 HIB
    go_wp2
    go_ret
    exact ⟨⟨_, rfl, empty_at HE1.out (by omega)⟩, hB1⟩

theorem iNews (a b : DPlanBook) (ao0 : Option Addr) (cap0 : Nat) (ao1 : Option Addr) (cap1 : Nat) (ao2 : Option Addr) (cap2 : Nat) (bo0 : Option Addr) (cbp0 : Nat) (bo1 : Option Addr) (cbp1 : Nat) (bo2 : Option Addr) (cbp2 : Nat) (w : World) (ha : BookAt w a ao0 cap0 ao1 cap1 ao2 cap2) (hb : BookAt w b bo0 cbp0 bo1 cbp1 bo2 cbp2) (hsa : wPlanEntryS a.2 ≤ 1048576) (hsb : wPlanEntryS b.2 ≤ 1048576) :
    Calls Tryz.prog 7 #[.agg #[.slice ao0 a.1.1.length cap0, .slice ao1 a.1.2.length cap1, .slice ao2 a.2.length cap2], .agg #[.slice bo0 b.1.1.length cbp0, .slice bo1 b.1.2.length cbp1, .slice bo2 b.2.length cbp2]] w fun r w' => Below w.heap.size w w' ∧ ∃ v, r = .returned v ∧ w'.ownsRow w.heap.size 55 4 v (newsOf a b).length (valsPlanChange (newsOf a b)) := by
  by_cases h : BookOk a ∧ BookOk b
  · rw [newsOf_yes h]
    exact iNews_ok a b ao0 cap0 ao1 cap1 ao2 cap2 bo0 cbp0 bo1 cbp1 bo2 cbp2 w ha hb hsa hsb h.1 h.2
  · rw [newsOf_no h]
    refine (iNews_no a b ao0 cap0 ao1 cap1 ao2 cap2 bo0 cbp0 bo1 cbp1 bo2 cbp2 w ha hb hsa hsb h).mono ?_
    rintro e w' ⟨⟨v, rfl, ho⟩, hB⟩
    exact ⟨hB, v, rfl, ho⟩

theorem sNews (a b : DPlanBook) (ao0 : Option Addr) (cap0 : Nat) (ao1 : Option Addr) (cap1 : Nat) (ao2 : Option Addr) (cap2 : Nat) (bo0 : Option Addr) (cbp0 : Nat) (bo1 : Option Addr) (cbp1 : Nat) (bo2 : Option Addr) (cbp2 : Nat) (w : World) (ha : BookAt w a ao0 cap0 ao1 cap1 ao2 cap2) (hb : BookAt w b bo0 cbp0 bo1 cbp1 bo2 cbp2) (hsa : wPlanEntryS a.2 ≤ 1048576) (hsb : wPlanEntryS b.2 ≤ 1048576) :
    Calls Tryz.prog 5 #[.agg #[.slice ao0 a.1.1.length cap0, .slice ao1 a.1.2.length cap1, .slice ao2 a.2.length cap2], .agg #[.slice bo0 b.1.1.length cbp0, .slice bo1 b.1.2.length cbp1, .slice bo2 b.2.length cbp2]] w fun r w' => Below w.heap.size w w' ∧ ∃ v, r = .returned v ∧ w'.ownsRow w.heap.size 55 4 v (newsOf a b).length (valsPlanChange (newsOf a b)) := by
  by_cases h : BookOk a ∧ BookOk b
  · rw [newsOf_yes h]
    exact sNews_ok a ao0 cap0 ao1 cap1 ao2 cap2 b.1 b.2 bo0 cbp0 bo1 cbp1 bo2 cbp2 w ha hb hsa hsb h.1 h.2
  · rw [newsOf_no h]
    refine (sNews_no a b ao0 cap0 ao1 cap1 ao2 cap2 bo0 cbp0 bo1 cbp1 bo2 cbp2 w ha hb hsa hsb h).mono ?_
    rintro e w' ⟨⟨v, rfl, ho⟩, hB⟩
    exact ⟨hB, v, rfl, ho⟩

end Go.Proofs.YtohgkiljdehefaaGreat
