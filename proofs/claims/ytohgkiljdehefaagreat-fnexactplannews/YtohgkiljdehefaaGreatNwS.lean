/- DERIVED. spec.PlanNews: its walk (written by wip/tools/mk_nws.py). -/
import Derived.Test.YtohgkiljdehefaaGreatGNb
import Derived.Test.YtohgkiljdehefaaGreatGXc
import Derived.Test.YtohgkiljdehefaaGreatBkL0
import Derived.Test.YtohgkiljdehefaaGreatAp0
namespace Go.Proofs.YtohgkiljdehefaaGreat
open Go.RowKit Go.Sort
set_option linter.unusedSimpArgs false
set_option linter.unusedVariables false

/-- The cells that an append of a change reads. -/
def NwCl (bx eb eo fb : Nat) (sl : Value) (n : ByteArray) (wh nu : Int) (v : ByteArray) (W : World) : Prop :=
  W.cell? ⟨bx, 2, none⟩ = some sl ∧ W.cell? ⟨eb, eo, none⟩ = some (.string n) ∧ W.cell? ⟨fb, 0, none⟩ = some (.int .i64 wh) ∧ W.cell? ⟨fb, 1, none⟩ = some (.int .i64 nu) ∧ W.cell? ⟨fb, 2, none⟩ = some (.string v)
theorem NwCl.kept {bx eb eo fb : Nat} {sl : Value} {n : ByteArray} {wh nu : Int} {v : ByteArray} {w w' : World} (h : NwCl bx eb eo fb sl n wh nu v w) (h1 : w'.heap[bx]? = w.heap[bx]?) (h2 : w'.heap[eb]? = w.heap[eb]?) (h3 : w'.heap[fb]? = w.heap[fb]?) : NwCl bx eb eo fb sl n wh nu v w' :=
  ⟨(World.cell?_of_block (w := w) h1).trans h.1, (World.cell?_of_block (w := w) h2).trans h.2.1, (World.cell?_of_block (w := w) h3).trans h.2.2.1, (World.cell?_of_block (w := w) h3).trans h.2.2.2.1, (World.cell?_of_block (w := w) h3).trans h.2.2.2.2⟩
theorem empty_news (w : World) (B : Nat) (hB : B ≤ w.heap.size) : (w.alloc (.cells #[] 55)).ownsRow B 55 4 (.slice (some ⟨w.heap.size, 0, none⟩) 0 0) 0 [] :=
  ⟨rfl, .inr ⟨w.heap.size, 0, #[], rfl, hB, heap_alloc_new w _, Nat.le_refl _, by decide, rfl, rfl⟩⟩
theorem owns_lower {W : World} {b b' : Nat} {e : TypeId} {size k : Nat} {v : Value} {xs : List Value} (h : W.ownsRow b e size v k xs) (hb : b' ≤ b) : W.ownsRow b' e size v k xs := by
  refine ⟨h.1, ?_⟩
  rcases h.2 with h1 | ⟨g, cap, cur, h1, h2, h3⟩
  · exact .inl h1
  · exact .inr ⟨g, cap, cur, h1, Nat.le_trans hb h2, h3⟩

set_option maxRecDepth 100000 in
set_option maxHeartbeats 8000000 in
theorem sNews_ok (a : DPlanBook) (ao0 : Option Addr) (cap0 : Nat) (ao1 : Option Addr) (cap1 : Nat) (ao2 : Option Addr) (cap2 : Nat) (y : DPlanBase) (es : List DPlanEntry) (bo0 : Option Addr) (cbp0 : Nat) (bo1 : Option Addr) (cbp1 : Nat) (bo2 : Option Addr) (cbp2 : Nat) (w : World) (ha : BookAt w a ao0 cap0 ao1 cap1 ao2 cap2) (hb : BookAt w (y, es) bo0 cbp0 bo1 cbp1 bo2 cbp2) (hsa : wPlanEntryS a.2 ≤ 1048576) (hsb : wPlanEntryS es ≤ 1048576) (oka : BookOk a) (okb : BookOk (y, es)) :
    Calls Tryz.prog 5 #[.agg #[.slice ao0 a.1.1.length cap0, .slice ao1 a.1.2.length cap1, .slice ao2 a.2.length cap2], .agg #[.slice bo0 y.1.length cbp0, .slice bo1 y.2.length cbp1, .slice bo2 es.length cbp2]] w fun r w' => Below w.heap.size w w' ∧ ∃ v, r = .returned v ∧ w'.ownsRow w.heap.size 55 4 v (newsL a.2 es).length (valsPlanChange (newsL a.2 es)) := by
  have hcl := Nat.le_trans (chs_len es) hsb
  have ha2 := ha.p2
  have hb2 := hb.p2
  have hm : es.length ≤ 9223372036854775807 := Nat.le_trans hb2.1 hb2.2.1
  obtain ⟨i0, hi0, hz0, hz1, hz2⟩ := info_parts Tryz.infoChange
  have hbx0 : Below w.heap.size w ((w.alloc (.cells #[.slice ao0 a.1.1.length cap0, .slice ao1 a.1.2.length cap1, .slice ao2 a.2.length cap2] 38)).alloc (.cells #[.slice bo0 y.1.length cbp0, .slice bo1 y.2.length cbp1, .slice bo2 es.length cbp2] 38)) := ((Below.refl _ _).alloc (Nat.le_refl _) _).alloc (by simp) _
  have hszB : ((w.alloc (.cells #[.slice ao0 a.1.1.length cap0, .slice ao1 a.1.2.length cap1, .slice ao2 a.2.length cap2] 38)).alloc (.cells #[.slice bo0 y.1.length cbp0, .slice bo1 y.2.length cbp1, .slice bo2 es.length cbp2] 38)).heap.size = w.heap.size + 2 := by simp
  have HXA0 : BxC w.heap.size #[.slice ao0 a.1.1.length cap0, .slice ao1 a.1.2.length cap1, .slice ao2 a.2.length cap2] ((w.alloc (.cells #[.slice ao0 a.1.1.length cap0, .slice ao1 a.1.2.length cap1, .slice ao2 a.2.length cap2] 38)).alloc (.cells #[.slice bo0 y.1.length cbp0, .slice bo1 y.2.length cbp1, .slice bo2 es.length cbp2] 38)) := (BxC.new w _ _).below ((Below.refl (w.heap.size + 1) _).alloc (by simp) _) (by omega)
  have HXB0 : BxC (w.heap.size + 1) #[.slice bo0 y.1.length cbp0, .slice bo1 y.2.length cbp1, .slice bo2 es.length cbp2] ((w.alloc (.cells #[.slice ao0 a.1.1.length cap0, .slice ao1 a.1.2.length cap1, .slice ao2 a.2.length cap2] 38)).alloc (.cells #[.slice bo0 y.1.length cbp0, .slice bo1 y.2.length cbp1, .slice bo2 es.length cbp2] 38)) := by
    have := BxC.new (w.alloc (.cells #[.slice ao0 a.1.1.length cap0, .slice ao1 a.1.2.length cap1, .slice ao2 a.2.length cap2] 38)) #[.slice bo0 y.1.length cbp0, .slice bo1 y.2.length cbp1, .slice bo2 es.length cbp2] 38
    rwa [World.size_alloc] at this
  obtain ⟨w1, hw1⟩ : ∃ w1, w1 = ((w.alloc (.cells #[.slice ao0 a.1.1.length cap0, .slice ao1 a.1.2.length cap1, .slice ao2 a.2.length cap2] 38)).alloc (.cells #[.slice bo0 y.1.length cbp0, .slice bo1 y.2.length cbp1, .slice bo2 es.length cbp2] 38)).alloc (.cells #[] 55) := ⟨_, rfl⟩
  have hB1 : Below (w.heap.size + 2) ((w.alloc (.cells #[.slice ao0 a.1.1.length cap0, .slice ao1 a.1.2.length cap1, .slice ao2 a.2.length cap2] 38)).alloc (.cells #[.slice bo0 y.1.length cbp0, .slice bo1 y.2.length cbp1, .slice bo2 es.length cbp2] 38)) w1 := by rw [hw1]; exact (Below.refl _ _).alloc (by simp) _
  have hO1 : w1.ownsRow (w.heap.size + 2) 55 4 (.slice (some ⟨w.heap.size + 2, 0, none⟩) 0 0) 0 [] := by
    rw [hw1]
    have := empty_news ((w.alloc (.cells #[.slice ao0 a.1.1.length cap0, .slice ao1 a.1.2.length cap1, .slice ao2 a.2.length cap2] 38)).alloc (.cells #[.slice bo0 y.1.length cbp0, .slice bo1 y.2.length cbp1, .slice bo2 es.length cbp2] 38)) (w.heap.size + 2) (by simp)
    rwa [hszB] at this
  have hBw1 := hbx0.trans (hB1.mono (by omega))
  have HSA := sBook a ao0 cap0 ao1 cap1 ao2 cap2 w1 (ha.later hBw1).base (ha.later hBw1).p2 hsa
  rw [pb_yes oka] at HSA
  have HOW : Hid (Below (w.heap.size + 2) ((w.alloc (.cells #[.slice ao0 a.1.1.length cap0, .slice ao1 a.1.2.length cap1, .slice ao2 a.2.length cap2] 38)).alloc (.cells #[.slice bo0 y.1.length cbp0, .slice bo1 y.2.length cbp1, .slice bo2 es.length cbp2] 38)) w1 ∧ w1.ownsRow (w.heap.size + 2) 55 4 (.slice (some ⟨w.heap.size + 2, 0, none⟩) 0 0) 0 []) := ⟨hB1, hO1⟩
  clear hO1 hBw1
  rw [hw1] at HSA
  go_enter Tryz.func5, Tryz.ntmps5
  go_wp2_with fail
  refine HSA.mono ?_
  rw [← hw1]
  rintro e w2 ⟨rfl, hb2'⟩
  obtain ⟨hB1, hO1⟩ := HOW.out
  have hB2 := hB1.trans (hb2'.mono (by have := hB1.size; omega))
  have hO2 := owns_below hO1 hb2'
  have hz2' : w.heap.size + 2 ≤ w2.heap.size := by have := hB2.size; omega
  have HXB2 := HXB0.below hB2 (by omega)
  have q0 := HXB2 0
  have q1 := HXB2 1
  have q2 := HXB2 2
  simp at q0 q1 q2
  have hBw2 := hbx0.trans (hB2.mono (by omega))
  have HSB := sBook (y, es) bo0 cbp0 bo1 cbp1 bo2 cbp2 w2 (hb.later hBw2).base (hb.later hBw2).p2 hsb
  rw [pb_yes okb] at HSB
  simp only at HSB
  have HOW2 : Hid (Below (w.heap.size + 2) ((w.alloc (.cells #[.slice ao0 a.1.1.length cap0, .slice ao1 a.1.2.length cap1, .slice ao2 a.2.length cap2] 38)).alloc (.cells #[.slice bo0 y.1.length cbp0, .slice bo1 y.2.length cbp1, .slice bo2 es.length cbp2] 38)) w2 ∧ w2.ownsRow (w.heap.size + 2) 55 4 (.slice (some ⟨w.heap.size + 2, 0, none⟩) 0 0) 0 []) := ⟨hB2, hO2⟩
  clear HSA hw1 hB1 hO1 hB2 hO2 hb2' HOW hBw2 HXB2 ha hb
  go_wp2_with fail
  refine HSB.mono ?_
  rintro e w3 ⟨rfl, hb3⟩
  obtain ⟨hB2, hO2⟩ := HOW2.out
  have hB3 := hB2.trans (hb3.mono (by omega))
  have hO3 := owns_below hO2 hb3
  have HO3 : Hid (w3.ownsRow (w.heap.size + 2) 55 4 (.slice (some ⟨w.heap.size + 2, 0, none⟩) 0 0) ((chs (es.take 0)).filter (notHas a.2)).length (valsPlanChange ((chs (es.take 0)).filter (notHas a.2)))) := hO3
  have hz3 : w.heap.size + 2 ≤ w3.heap.size := by have := hB3.size; omega
  clear HSB q0 q1 q2 HOW2 hB2 hO2 hO3 hb3
  go_wp2
  go_loopw [5, 6] (fun vv i wr => ∃ (k : Nat) (v : Value), k ≤ es.length ∧ i = .int .i64 k ∧ v = vv ∧ Hid (wr.ownsRow (w.heap.size + 2) 55 4 v ((chs (es.take k)).filter (notHas a.2)).length (valsPlanChange ((chs (es.take k)).filter (notHas a.2)))) ∧ Below (w.heap.size + 2) ((w.alloc (.cells #[.slice ao0 a.1.1.length cap0, .slice ao1 a.1.2.length cap1, .slice ao2 a.2.length cap2] 38)).alloc (.cells #[.slice bo0 y.1.length cbp0, .slice bo1 y.2.length cbp1, .slice bo2 es.length cbp2] 38)) wr ∧ w.heap.size + 2 ≤ wr.heap.size) (fun _ i _ => es.length - (intOf i).toNat)
  case atStart => exact ⟨0, _, Nat.zero_le _, rfl, rfl, HO3, hB3, hz3⟩
  case round =>
    clear HO3 hB3 hz3
    obtain ⟨k, v, hk, rfl, hv, HO, hB, hz⟩ := hrel
    subst hv
    have hBw := hbx0.trans (hB.mono (by omega))
    have HXB := HXB0.below hB (by omega)
    have q2 := HXB 2
    simp at q2
    have hsz1 : w.heap.size + 1 < wr.heap.size := by omega
    by_cases hlt : k < es.length
    · obtain ⟨b, off, fo, fc, rfl, hok, c0, c1, q0, q1⟩ := elem_PlanEntry hb2 hlt
      have hok : b < w.heap.size := hok
      have hkI : (k : Int) < (es.length : Int) := by omega
      have HPART : Hid (∀ m, m ≤ (es[k]'hlt).2.length → (chs (es.take k)).length + m ≤ (chs es).length) := fun m hm' => chs_part hlt hm'
      have HNEXT : Hid (chs (es.take (k + 1)) = chs (es.take k) ++ (es[k]'hlt).2.map fun f => ((es[k]'hlt).1, f)) := chs_take hlt
      generalize es[k]'hlt = e at *
      obtain ⟨n, fs⟩ := e
      simp only at c0 c1 q0 q1 HPART HNEXT
      generalize chs (es.take k) = L at *
      have hfm : fs.length ≤ 9223372036854775807 := Nat.le_trans q1.1 q1.2.1
      have HO1 : Hid (wr.ownsRow (w.heap.size + 2) 55 4 v ((L ++ (fs.take 0).map fun f => (n, f)).filter (notHas a.2)).length (valsPlanChange ((L ++ (fs.take 0).map fun f => (n, f)).filter (notHas a.2)))) := by
        have e : (L ++ (fs.take 0).map fun f => (n, f)) = L := by simp
        show World.ownsRow _ _ _ _ _ _ _
        rw [e]
        exact HO.out
      clear HO
      go_wp2
      clear q2
      go_loopw [5, 7] (fun vv i wr => ∃ (m : Nat) (v : Value), m ≤ fs.length ∧ i = .int .i64 m ∧ v = vv ∧ Hid (wr.ownsRow (w.heap.size + 2) 55 4 v ((L ++ (fs.take m).map fun f => (n, f)).filter (notHas a.2)).length (valsPlanChange ((L ++ (fs.take m).map fun f => (n, f)).filter (notHas a.2)))) ∧ Below (w.heap.size + 2) ((w.alloc (.cells #[.slice ao0 a.1.1.length cap0, .slice ao1 a.1.2.length cap1, .slice ao2 a.2.length cap2] 38)).alloc (.cells #[.slice bo0 y.1.length cbp0, .slice bo1 y.2.length cbp1, .slice (some ⟨b, off, none⟩) es.length cbp2] 38)) wr ∧ w.heap.size + 2 ≤ wr.heap.size) (fun _ i _ => fs.length - (intOf i).toNat)
      case atStart => exact ⟨0, _, Nat.zero_le _, rfl, rfl, HO1, hB, hz⟩
      case round =>
        clear HO1 hB hz hBw HXB hsz1
        obtain ⟨m, v, hm', rfl, hv, HO, hB, hz⟩ := hrel
        subst hv
        have hBw := hbx0.trans (hB.mono (by omega))
        have HXB := HXB0.below hB (by omega)
        have q2 := HXB 2
        simp at q2
        have hsz1 : w.heap.size + 1 < wr.heap.size := by omega
        have f0 := (hBw.cell (p := ⟨b, off + k * 2, none⟩) hok).trans c0
        have f1 := (hBw.cell (p := ⟨b, off + k * 2 + 1, none⟩) hok).trans c1
        by_cases hlm : m < fs.length
        · obtain ⟨b2, off2, rfl, hok2, d0, d1, d2, _⟩ := elem_PlanField q1 hlm
          have p0 := (hBw.cell (p := ⟨b2, off2 + m * 3, none⟩) hok2).trans d0
          have p1 := (hBw.cell (p := ⟨b2, off2 + m * 3 + 1, none⟩) hok2).trans d1
          have p2 := (hBw.cell (p := ⟨b2, off2 + m * 3 + 2, none⟩) hok2).trans d2
          have hmI : (m : Int) < (fs.length : Int) := by omega
          have HSTEP : Hid ((L ++ (fs.take (m + 1)).map fun f => (n, f)) = (L ++ (fs.take m).map fun f => (n, f)) ++ [(n, fs[m]'hlm)]) := by
            show _ = _
            rw [List.take_succ_eq_append_getElem hlm, List.map_append, ← List.append_assoc]; rfl
          have hLm0 : (L ++ (fs.take m).map fun f => (n, f)).length + 1 ≤ 1048576 := by
            have := HPART.out (m + 1) (by omega)
            rw [List.length_append, List.length_map, List.length_take]
            omega
          generalize fs[m]'hlm = f at *
          obtain ⟨wh, nu, vv⟩ := f
          simp only at p0 p1 p2
          clear d0 d1 d2
          have HSTEP2 : Hid (((L ++ (fs.take (m + 1)).map fun f => (n, f)).filter (notHas a.2)) = ((L ++ (fs.take m).map fun f => (n, f)).filter (notHas a.2)) ++ (if notHas a.2 (n, wh, nu, vv) then [(n, wh, nu, vv)] else [])) := by
            show _ = _
            rw [HSTEP.out, List.filter_append]
            congr 1
            rw [List.filter_cons]
            rfl
          have hLm : ((L ++ (fs.take m).map fun f => (n, f)).filter (notHas a.2)).length + 1 ≤ 1048576 := by
            have := List.length_filter_le (notHas a.2) (L ++ (fs.take m).map fun f => (n, f))
            omega
          have hO := HO.out
          clear HSTEP hLm0 HO
          generalize ((L ++ (fs.take m).map fun f => (n, f)).filter (notHas a.2)) = L1 at *
          have HSTEP : Hid True := trivial
          have HO : Hid True := trivial
          have HX : Hid True := trivial
          have HNOT : Hid True := trivial
          obtain ⟨fb, hfb⟩ : ∃ fb, fb = wr.heap.size := ⟨_, rfl⟩
          have hbW : Below wr.heap.size wr (wr.alloc (.cells #[.int .i64 wh, .int .i64 nu, .string vv] 52)) := (Below.refl _ _).alloc (Nat.le_refl _) _
          have hFB : (wr.alloc (.cells #[.int .i64 wh, .int .i64 nu, .string vv] 52)).heap[fb]? = some (.cells #[.int .i64 wh, .int .i64 nu, .string vv] 52 (0, 0)) := by rw [hfb]; exact heap_alloc_new wr _
          have hB1 : Below (w.heap.size + 2) ((w.alloc (.cells #[.slice ao0 a.1.1.length cap0, .slice ao1 a.1.2.length cap1, .slice ao2 a.2.length cap2] 38)).alloc (.cells #[.slice bo0 y.1.length cbp0, .slice bo1 y.2.length cbp1, .slice (some ⟨b, off, none⟩) es.length cbp2] 38)) (wr.alloc (.cells #[.int .i64 wh, .int .i64 nu, .string vv] 52)) := hB.trans (hbW.mono (by omega))
          have hO1 := owns_below hO hbW
          have HXA1 := HXA0.below hB1 (by omega)
          have hz1 : w.heap.size + 2 ≤ (wr.alloc (.cells #[.int .i64 wh, .int .i64 nu, .string vv] 52)).heap.size := by simp; omega
          have hfbl : fb < (wr.alloc (.cells #[.int .i64 wh, .int .i64 nu, .string vv] 52)).heap.size := by simp; omega
          have v0 := cell_of_heapN hFB 0
          have v1 := cell_of_heapN hFB 1
          have v2 := cell_of_heapN hFB 2
          have r0 := HXA1 0
          have r1 := HXA1 1
          have r2 := HXA1 2
          have r3 := (hbW.cell (p := ⟨w.heap.size + 1, 2, none⟩) hsz1).trans q2
          have r4 := (hbW.cell (p := ⟨b, off + k * 2, none⟩) (by show b < _; omega)).trans f0
          simp at v0 v1 v2 r0 r1 r2
          have hBw1 := hBw.trans (hbW.mono (by omega))
          clear hO hbW HXA1 hB HXB hBw hz
          have HFBD : Hid (fb = wr.heap.size) := hfb
          clear hfb
          go_wp2_with fail
          rw [← show fb = wr.heap.size from HFBD]
          clear HFBD
          clear p0 p1 p2 f0 f1 q2 hsz1
          generalize (wr.alloc (.cells #[.int .i64 wh, .int .i64 nu, .string vv] 52)) = wr1 at *
          have hBw := hBw1
          have hB : Hid True := trivial
          clear hBw1
          by_cases hq : HasIt a.2 n (wh, nu, vv)
          · have hbv := pb_yes hq
            have HN1 : Hid (((L ++ (fs.take (m + 1)).map fun f => (n, f)).filter (notHas a.2)) = L1) := by
              show _ = _
              rw [HSTEP2.out, if_neg (by unfold notHas; rw [hbv]; decide), List.append_nil]
            clear hq HSTEP2
            have cA : ∀ dd os, Calls Tryz.prog 16 #[.agg #[.slice ao0 a.1.1.length cap0, .slice ao1 a.1.2.length cap1, .slice ao2 a.2.length cap2], .string n, .agg #[.int .i64 wh, .int .i64 nu, .string vv]] (grow (redrawn wr1 dd) os) (fun e w'' => e = .returned (.bool true) ∧ ∃ p : Regrown, w'' = grow (redrawn wr1 p.d) p.os) := fun dd os => Calls.regrown_of (by rw [← hbv]; exact sHas a _ _ _ _ _ _ n (wh, nu, vv) _ (ha2.later (hBw.trans ((below_regrown wr1 dd os).mono hBw.size))))
            clear hbv
            have g0 := cell_regrown v0
            have g1 := cell_regrown v1
            have g2 := cell_regrown v2
            have t0 := cell_regrown r0
            have t1 := cell_regrown r1
            have t2 := cell_regrown r2
            have t3 := cell_regrown r3
            have t4 := cell_regrown r4
            clear v0 v1 v2 r0 r1 r2 r3 r4
            refine Leg.wp_region_qw (by kernel_rfl) (by kernel_rfl) ?_
            refine Leg.QW.want (by kernel_rfl) (fun K hK => ?_)
            go_big_quiet_op
            refine hK _ ?_
            clear hK K
            refine Leg.QW.want (by kernel_rfl) (fun K hK => ?_)
            go_big_quiet_op
            refine hK _ ?_
            clear hK K
            refine Leg.QW.want (by kernel_rfl) (fun K hK => ?_)
            go_big_quiet_op
            refine hK _ ?_
            clear hK K
            refine Leg.QW.want (by kernel_rfl) (fun K hK => ?_)
            go_big_quiet_op
            refine hK _ ?_
            clear hK K
            refine Leg.QW.want (by kernel_rfl) (fun K hK => ?_)
            go_big_quiet_op
            refine hK _ ?_
            clear hK K
            refine Leg.QW.want (by kernel_rfl) (fun K hK => ?_)
            go_big_quiet_op
            refine hK _ ?_
            clear hK K
            refine Leg.QW.want (by kernel_rfl) (fun K hK => ?_)
            go_big_quiet_op
            refine hK _ ?_
            clear hK K
            refine Leg.QW.want (by kernel_rfl) (fun K hK => ?_)
            go_big_quiet_op
            refine hK _ ?_
            clear hK K
            refine Leg.QW.want (by kernel_rfl) (fun K hK => ?_)
            go_big_quiet_op
            refine ⟨_, fun _ => cA _ _, hK _ ?_⟩
            clear hK K
            refine Leg.QW.want (by kernel_rfl) (fun K hK => ?_)
            go_big_quiet_op
            refine hK _ ?_
            clear hK K
            refine Leg.QW.nil ?_
            intro _ hw'
            obtain ⟨⟨dq, osq⟩, hw''⟩ := hw'
            subst hw''
            have hbq := below_regrown wr1 dq osq
            have hB9 := hB1.trans (hbq.mono (by omega))
            have hO9 := owns_below hO1 hbq
            have hFB9 := (hbq.block fb (by omega)).trans hFB
            have hz9 : w.heap.size + 2 ≤ (grow (redrawn wr1 dq) osq).heap.size := Nat.le_trans hz1 hbq.size
            have hfb9 : fb < (grow (redrawn wr1 dq) osq).heap.size := Nat.lt_of_lt_of_le hfbl hbq.size
            clear cA g0 g1 g2 t0 t1 t2 t3 t4 hbq hB1 hO1 hFB hz1 hfbl
            generalize grow (redrawn wr1 dq) osq = w9 at *
            have HO9 : Hid (w9.ownsRow (w.heap.size + 2) 55 4 v (((L ++ (fs.take (m + 1)).map fun f => (n, f)).filter (notHas a.2))).length (valsPlanChange (((L ++ (fs.take (m + 1)).map fun f => (n, f)).filter (notHas a.2))))) := by
              show World.ownsRow _ _ _ _ _ _ _
              rw [HN1.out]; exact hO9
            clear hO9 hFB9
            go_wp2
            go_roundw
            case rel => exact ⟨m + 1, _, by omega, by go_num, rfl, HO9, hB9, hz9⟩
            case measure => simp [intOf]; omega
          · have hbv := pb_no hq
            have HN1 : Hid (((L ++ (fs.take (m + 1)).map fun f => (n, f)).filter (notHas a.2)) = L1 ++ [(n, wh, nu, vv)]) := by
              show _ = _
              rw [HSTEP2.out, if_pos (by unfold notHas; rw [hbv]; decide)]
            clear hq HSTEP2
            have cA : ∀ dd os, Calls Tryz.prog 16 #[.agg #[.slice ao0 a.1.1.length cap0, .slice ao1 a.1.2.length cap1, .slice ao2 a.2.length cap2], .string n, .agg #[.int .i64 wh, .int .i64 nu, .string vv]] (grow (redrawn wr1 dd) os) (fun e w'' => e = .returned (.bool false) ∧ ∃ p : Regrown, w'' = grow (redrawn wr1 p.d) p.os) := fun dd os => Calls.regrown_of (by rw [← hbv]; exact sHas a _ _ _ _ _ _ n (wh, nu, vv) _ (ha2.later (hBw.trans ((below_regrown wr1 dd os).mono hBw.size))))
            clear hbv
            have g0 := cell_regrown v0
            have g1 := cell_regrown v1
            have g2 := cell_regrown v2
            have t0 := cell_regrown r0
            have t1 := cell_regrown r1
            have t2 := cell_regrown r2
            have t3 := cell_regrown r3
            have t4 := cell_regrown r4
            clear v0 v1 v2 r0 r1 r2 r3 r4
            refine Leg.wp_region_qw (by kernel_rfl) (by kernel_rfl) ?_
            refine Leg.QW.want (by kernel_rfl) (fun K hK => ?_)
            go_big_quiet_op
            refine hK _ ?_
            clear hK K
            refine Leg.QW.want (by kernel_rfl) (fun K hK => ?_)
            go_big_quiet_op
            refine hK _ ?_
            clear hK K
            refine Leg.QW.want (by kernel_rfl) (fun K hK => ?_)
            go_big_quiet_op
            refine hK _ ?_
            clear hK K
            refine Leg.QW.want (by kernel_rfl) (fun K hK => ?_)
            go_big_quiet_op
            refine hK _ ?_
            clear hK K
            refine Leg.QW.want (by kernel_rfl) (fun K hK => ?_)
            go_big_quiet_op
            refine hK _ ?_
            clear hK K
            refine Leg.QW.want (by kernel_rfl) (fun K hK => ?_)
            go_big_quiet_op
            refine hK _ ?_
            clear hK K
            refine Leg.QW.want (by kernel_rfl) (fun K hK => ?_)
            go_big_quiet_op
            refine hK _ ?_
            clear hK K
            refine Leg.QW.want (by kernel_rfl) (fun K hK => ?_)
            go_big_quiet_op
            refine hK _ ?_
            clear hK K
            refine Leg.QW.want (by kernel_rfl) (fun K hK => ?_)
            go_big_quiet_op
            refine ⟨_, fun _ => cA _ _, hK _ ?_⟩
            clear hK K
            refine Leg.QW.want (by kernel_rfl) (fun K hK => ?_)
            go_big_quiet_op
            refine hK _ ?_
            clear hK K
            refine Leg.QW.nil ?_
            intro _ hw'
            obtain ⟨⟨dq, osq⟩, hw''⟩ := hw'
            subst hw''
            have hbq := below_regrown wr1 dq osq
            have hB9 := hB1.trans (hbq.mono (by omega))
            have hO9 := owns_below hO1 hbq
            have hFB9 := (hbq.block fb (by omega)).trans hFB
            have hz9 : w.heap.size + 2 ≤ (grow (redrawn wr1 dq) osq).heap.size := Nat.le_trans hz1 hbq.size
            have hfb9 : fb < (grow (redrawn wr1 dq) osq).heap.size := Nat.lt_of_lt_of_le hfbl hbq.size
            clear cA g0 g1 g2 t0 t1 t2 t3 t4 hbq hB1 hO1 hFB hz1 hfbl
            generalize grow (redrawn wr1 dq) osq = w9 at *
            have hO9d : w9.drew.ownsRow (w.heap.size + 2) 55 4 v L1.length (valsPlanChange L1) := hO9.drew
            have hBq : Below (w.heap.size + 2) ((w.alloc (.cells #[.slice ao0 a.1.1.length cap0, .slice ao1 a.1.2.length cap1, .slice ao2 a.2.length cap2] 38)).alloc (.cells #[.slice bo0 y.1.length cbp0, .slice bo1 y.2.length cbp1, .slice (some ⟨b, off, none⟩) es.length cbp2] 38)) w9.drew := hB9.drew
            have hFBd : w9.drew.heap[fb]? = some (.cells #[.int .i64 wh, .int .i64 nu, .string vv] 52 (0, 0)) := hFB9
            have HXB9 := HXB0.below hBq (by omega)
            have hBw9 := hbx0.trans (hBq.mono (by omega))
            have HCC : NwCl (w.heap.size + 1) b (off + k * 2) fb (.slice (some ⟨b, off, none⟩) es.length cbp2) n wh nu vv w9.drew := ⟨by have := HXB9 2; simpa using this, (hBw9.cell (p := ⟨b, off + k * 2, none⟩) hok).trans c0, by have := cell_of_heapN hFBd 0; simpa using this, by have := cell_of_heapN hFBd 1; simpa using this, by have := cell_of_heapN hFBd 2; simpa using this⟩
            have hOq := hO9d
            have hzq : w.heap.size + 2 ≤ w9.drew.heap.size := hz9
            have hfbq : fb < w9.drew.heap.size := hfb9
            have hbq : Hid True := trivial
            clear hO9 hO9d hB9 hFB9 HXB9 hBw9 hz9 hfb9
            go_wp2_with fail
            refine wp_region_RC (NwCl (w.heap.size + 1) b (off + k * 2) fb (.slice (some ⟨b, off, none⟩) es.length cbp2) n wh nu vv) mixedF2 ?_
            generalize hwd : w9.drew = wd at *
            refine RC.take (i := 0) (v := v) rfl (by kernel_rfl) (by kernel_rfl) (by kernel_rfl) (fun _ _ _ h => h) HCC (by kernel_rfl) ?yn0 ?rn0
            case yn0 => (intro W hW; clear HCC hOq hBq hbq HNOT HSTEP HO HPART HNEXT hB HX; clear hW; go_simp)
            refine RC.take (i := 1) (v := .pointer (some ⟨w.heap.size + 1, 2, none⟩)) rfl (by kernel_rfl) (by kernel_rfl) (by kernel_rfl) (fun _ _ _ h => h) HCC (by kernel_rfl) ?yn1 ?rn1
            case yn1 => (intro W hW; clear HCC hOq hBq hbq HNOT HSTEP HO HPART HNEXT hB HX; clear hW; go_simp)
            refine RC.take (i := 2) (v := .slice (some ⟨b, off, none⟩) es.length cbp2) rfl (by kernel_rfl) (by kernel_rfl) (by kernel_rfl) (fun _ _ _ h => h) HCC (by kernel_rfl) ?yn2 ?rn2
            case yn2 => (intro W hW; clear HCC hOq hBq hbq HNOT HSTEP HO HPART HNEXT hB HX; obtain ⟨a0, a1, a2, a3, a4⟩ := hW; go_simp)
            refine RC.take (i := 3) (v := .int .i64 k) rfl (by kernel_rfl) (by kernel_rfl) (by kernel_rfl) (fun _ _ _ h => h) HCC (by kernel_rfl) ?yn3 ?rn3
            case yn3 => (intro W hW; clear HCC hOq hBq hbq HNOT HSTEP HO HPART HNEXT hB HX; clear hW; go_simp)
            refine RC.take (i := 4) (v := .pointer (some ⟨b, off + k * 2, none⟩)) rfl (by kernel_rfl) (by kernel_rfl) (by kernel_rfl) (fun _ _ _ h => h) HCC (by kernel_rfl) ?yn4 ?rn4
            case yn4 => (intro W hW; clear HCC hOq hBq hbq HNOT HSTEP HO HPART HNEXT hB HX; clear hW; go_simp)
            refine RC.take (i := 5) (v := .pointer (some ⟨b, off + k * 2, none⟩)) rfl (by kernel_rfl) (by kernel_rfl) (by kernel_rfl) (fun _ _ _ h => h) HCC (by kernel_rfl) ?yn5 ?rn5
            case yn5 => (intro W hW; clear HCC hOq hBq hbq HNOT HSTEP HO HPART HNEXT hB HX; clear hW; go_simp)
            refine RC.take (i := 6) (v := .string n) rfl (by kernel_rfl) (by kernel_rfl) (by kernel_rfl) (fun _ _ _ h => h) HCC (by kernel_rfl) ?yn6 ?rn6
            case yn6 => (intro W hW; clear HCC hOq hBq hbq HNOT HSTEP HO HPART HNEXT hB HX; obtain ⟨a0, a1, a2, a3, a4⟩ := hW; go_simp)
            refine RC.take (i := 7) (v := .pointer (some ⟨fb, 0, none⟩)) rfl (by kernel_rfl) (by kernel_rfl) (by kernel_rfl) (fun _ _ _ h => h) HCC (by kernel_rfl) ?yn7 ?rn7
            case yn7 => (intro W hW; clear HCC hOq hBq hbq HNOT HSTEP HO HPART HNEXT hB HX; clear hW; go_simp)
            refine RC.take (i := 8) (v := .int .i64 wh) rfl (by kernel_rfl) (by kernel_rfl) (by kernel_rfl) (fun _ _ _ h => h) HCC (by kernel_rfl) ?yn8 ?rn8
            case yn8 => (intro W hW; clear HCC hOq hBq hbq HNOT HSTEP HO HPART HNEXT hB HX; obtain ⟨a0, a1, a2, a3, a4⟩ := hW; go_simp)
            refine RC.take (i := 9) (v := .pointer (some ⟨fb, 1, none⟩)) rfl (by kernel_rfl) (by kernel_rfl) (by kernel_rfl) (fun _ _ _ h => h) HCC (by kernel_rfl) ?yn9 ?rn9
            case yn9 => (intro W hW; clear HCC hOq hBq hbq HNOT HSTEP HO HPART HNEXT hB HX; clear hW; go_simp)
            refine RC.take (i := 10) (v := .int .i64 nu) rfl (by kernel_rfl) (by kernel_rfl) (by kernel_rfl) (fun _ _ _ h => h) HCC (by kernel_rfl) ?yn10 ?rn10
            case yn10 => (intro W hW; clear HCC hOq hBq hbq HNOT HSTEP HO HPART HNEXT hB HX; obtain ⟨a0, a1, a2, a3, a4⟩ := hW; go_simp)
            refine RC.take (i := 11) (v := .pointer (some ⟨fb, 2, none⟩)) rfl (by kernel_rfl) (by kernel_rfl) (by kernel_rfl) (fun _ _ _ h => h) HCC (by kernel_rfl) ?yn11 ?rn11
            case yn11 => (intro W hW; clear HCC hOq hBq hbq HNOT HSTEP HO HPART HNEXT hB HX; clear hW; go_simp)
            refine RC.take (i := 12) (v := .string vv) rfl (by kernel_rfl) (by kernel_rfl) (by kernel_rfl) (fun _ _ _ h => h) HCC (by kernel_rfl) ?yn12 ?rn12
            case yn12 => (intro W hW; clear HCC hOq hBq hbq HNOT HSTEP HO HPART HNEXT hB HX; obtain ⟨a0, a1, a2, a3, a4⟩ := hW; go_simp)
            refine RC.take (i := 13) (v := .agg #[.string n, .int .i64 wh, .int .i64 nu, .string vv]) rfl (by kernel_rfl) (by kernel_rfl) (by kernel_rfl) (fun _ _ _ h => h) HCC (by kernel_rfl) ?yn13 ?rn13
            case yn13 => (intro W hW; clear HCC hOq hBq hbq HNOT HSTEP HO HPART HNEXT hB HX; clear hW; go_simp)
            refine RC.want (i := 14) (by kernel_rfl) rfl (by kernel_rfl) (fun K hK => ?_)
            go_simp
            refine hK _ _ (HCC.kept (Below.heap_alloc _ _ _ (by omega)) (Below.heap_alloc _ _ _ (by omega)) (Below.heap_alloc _ _ _ (by omega))) ?_
            clear hK K
            refine RC.want (i := 15) (by kernel_rfl) rfl (by kernel_rfl) (fun K hK => ?_)
            refine wpOp_append _ _ _ 30 rfl (w.heap.size + 2) 55 i0 (.agg #[.string ByteArray.empty, .int .i64 0, .int .i64 0, .string ByteArray.empty]) 4 48 Tryz.underlying30 hi0 hz0 hz1 hz2 rfl (by decide) v L1.length _ rfl (hOq.alloc _) ⟨wd.heap.size, 0, none⟩ 1 1 [.string n, .int .i64 wh, .int .i64 nu, .string vv] rfl rfl (fun j u hj => by
                match j, hj with
                | 0, hj => simp at hj; subst hj; simp [Addr.add]
                | 1, hj => simp at hj; subst hj; simp [Addr.add]
                | 2, hj => simp at hj; subst hj; simp [Addr.add]
                | 3, hj => simp at hj; subst hj; simp [Addr.add]) (fun u hu => by
                simp at hu
                rcases hu with rfl | rfl | rfl | rfl <;> rfl) (by unfold maxLen; omega) (by omega) (by simp; omega) ?_
            intro v' w6 hown' hgrow _
            have hge := own_ge hOq
            have hb6 : ∀ q, q < wd.heap.size → some q ≠ v.ownBlock → w6.heap[q]? = wd.heap[q]? := fun q hq hor => (hgrow.block q (by simp; omega) hor).trans (Below.heap_alloc _ _ _ hq)
            have hlow : ∀ q, q < w.heap.size + 2 → some q ≠ v.ownBlock := fun q hq e => by have := hge q e.symm; omega
            have HC6 := HCC.kept (hb6 (w.heap.size + 1) (by omega) (hlow _ (by omega))) (hb6 b (by omega) (hlow _ (by omega))) (hb6 fb (by omega) (not_row hFBd (by decide) hOq))
            have hB6 : Below (w.heap.size + 2) ((w.alloc (.cells #[.slice ao0 a.1.1.length cap0, .slice ao1 a.1.2.length cap1, .slice ao2 a.2.length cap2] 38)).alloc (.cells #[.slice bo0 y.1.length cbp0, .slice bo1 y.2.length cbp1, .slice (some ⟨b, off, none⟩) es.length cbp2] 38)) w6 := (hBq.alloc (by omega) _).grown hgrow (by simp; omega) (by intro q hq; exact hge q hq)
            have HO6 : Hid (w6.ownsRow (w.heap.size + 2) 55 4 v' (L1 ++ [(n, wh, nu, vv)]).length (valsPlanChange (L1 ++ [(n, wh, nu, vv)]))) := by
              show World.ownsRow _ _ _ _ _ _ _
              rw [valsPlanChange_app, List.length_append]
              exact hown'
            refine hK _ _ HC6 ?_
            clear hK K hown' hgrow hb6 hlow hge hFBd
            refine RC.take (i := 16) (v := v') rfl (by kernel_rfl) (by kernel_rfl) (by kernel_rfl) (fun _ _ _ h => h) HC6 (by kernel_rfl) ?yn16 ?rn16
            case yn16 => (intro W hW; clear hW HCC HC6 hOq hBq hbq HNOT HSTEP HO HPART HNEXT hB HX hB6 HO6; go_simp)
            refine RC.done (by kernel_rfl) ?_
            clear HC6 HCC hOq hBq
            have HO9 : Hid (w6.ownsRow (w.heap.size + 2) 55 4 v' (((L ++ (fs.take (m + 1)).map fun f => (n, f)).filter (notHas a.2))).length (valsPlanChange (((L ++ (fs.take (m + 1)).map fun f => (n, f)).filter (notHas a.2))))) := by
              show World.ownsRow _ _ _ _ _ _ _
              rw [HN1.out]; exact HO6.out
            have hz9 : w.heap.size + 2 ≤ w6.heap.size := by have := hB6.size; simp at this; omega
            clear HO6
            go_wp2
            go_roundw
            case rel => exact ⟨m + 1, _, by omega, by go_num, rfl, HO9, hB6, hz9⟩
            case measure => simp [intOf]; omega
        · have hme : m = fs.length := by omega
          subst hme
          rw [List.take_length] at HO
          have HO2 : Hid (wr.ownsRow (w.heap.size + 2) 55 4 v ((chs (es.take (k + 1))).filter (notHas a.2)).length (valsPlanChange ((chs (es.take (k + 1))).filter (notHas a.2)))) := by
            show World.ownsRow _ _ _ _ _ _ _
            rw [HNEXT.out]; exact HO.out
          clear HO HPART HNEXT
          go_wp2
          go_roundw
          case rel => exact ⟨k + 1, _, by omega, by go_num, rfl, HO2, hB, hz⟩
          case measure => simp [intOf]; omega
    · have hke : k = es.length := by omega
      subst hke
      rw [List.take_length] at HO
      have hO := owns_lower HO.out (show w.heap.size ≤ w.heap.size + 2 by omega)
      have HO2 : Hid _ := hO
      clear hO HO
      go_wp2
      go_ret
      exact ⟨hBw, _, rfl, HO2.out⟩

end Go.Proofs.YtohgkiljdehefaaGreat
