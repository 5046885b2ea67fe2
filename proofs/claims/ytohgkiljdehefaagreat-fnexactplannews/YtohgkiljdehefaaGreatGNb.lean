/- DERIVED. impl.planChangesOf: its walk. -/
import Derived.Test.YtohgkiljdehefaaGreatGNa
import Derived.Test.YtohgkiljdehefaaGreatRPlanChange
import Derived.Test.YtohgkiljdehefaaGreatGPa
import Derived.Maps.AppendAt
import Derived.Test.YtohgkiljdehefaaGreatWq0
import Derived.Test.YtohgkiljdehefaaGreatBkS0
import Derived.RangeFuncBox
namespace Go.Proofs.YtohgkiljdehefaaGreat
open Go.RowKit
set_option linter.unusedSimpArgs false
set_option linter.unusedVariables false

theorem Tryz.infoChange : (Tryz.prog.info? 55).map (fun i => (i.zero, i.size, i.bytes)) = some (some (.agg #[.string ByteArray.empty, .int .i64 0, .int .i64 0, .string ByteArray.empty]), 4, 48) := by kernel_rfl

theorem not_row {W : World} {B : Nat} {t e : TypeId} {cs : Array Value} {fl : Nat × Nat} (h : W.heap[B]? = some (.cells cs t fl)) (hte : t ≠ e) {base size k : Nat} {v : Value} {xs : List Value} (hr : W.ownsRow base e size v k xs) : some B ≠ v.ownBlock := by
  rcases hr.2 with ⟨rfl, _⟩ | ⟨g, cap, cur, rfl, _, hgb, _⟩
  · simp [Value.ownBlock]
  · intro e'
    obtain rfl : B = g := by simpa [Value.ownBlock] using e'
    have := h.symm.trans hgb
    simp at this
    exact hte this.2.1
theorem owned_slice {w : World} {B n : Nat} {e : TypeId} {s : Nat} {v : Value} {X : List Value} (h : w.ownsRow B e s v n X) : ∃ ao cap, v = .slice ao n cap := by
  rcases h.2 with ⟨hn, h0⟩ | ⟨g, c, cur, hv, _⟩
  · exact ⟨none, 0, by rw [hn, h0]⟩
  · exact ⟨_, _, hv⟩

theorem cell_of_heapN {w : World} {b : Nat} {cs : Array Value} {t : TypeId} (h : w.heap[b]? = some (.cells cs t (0, 0))) (i : Nat) : w.cell? ⟨b, i, none⟩ = cs[i]? := by
  unfold World.cell?
  simp only [h]
  rfl
theorem free_of_heapN {w : World} {b : Nat} {cs : Array Value} {t : TypeId} (h : w.heap[b]? = some (.cells cs t (0, 0))) (i : Nat) : w.frozen? ⟨b, i, none⟩ = false := by
  unfold World.frozen?
  simp only [h]
  simp

theorem chs_take {es : List DPlanEntry} {k : Nat} (hk : k < es.length) : chs (es.take (k + 1)) = chs (es.take k) ++ (es[k]'hk).2.map fun f => ((es[k]'hk).1, f) := by
  unfold chs
  rw [List.take_succ_eq_append_getElem hk, List.flatMap_append]
  simp
theorem chs_len (es : List DPlanEntry) : (chs es).length ≤ wPlanEntryS es := by
  unfold wPlanEntryS
  induction es with
  | nil => exact Nat.le_refl _
  | cons e es ih =>
    have h1 : (chs (e :: es)).length = e.2.length + (chs es).length := by simp [chs]
    have h2 : wPlanEntry e = e.1.size + wPlanFieldS e.2 := rfl
    have h3 : wPlanFieldS e.2 = e.2.length + (e.2.map wPlanField).sum := rfl
    rw [h1, List.map_cons, List.sum_cons, h2, h3]
    simp only [List.length_cons]
    omega
theorem chs_part {es : List DPlanEntry} {k m : Nat} (hk : k < es.length) (hm : m ≤ (es[k]'hk).2.length) : (chs (es.take k)).length + m ≤ (chs es).length := by
  have h1 : (chs (es.take (k + 1))).length = (chs (es.take k)).length + (es[k]'hk).2.length := by rw [chs_take hk]; simp
  have h2 : chs es = chs (es.take (k + 1)) ++ chs (es.drop (k + 1)) := by
    have : chs (es.take (k + 1) ++ es.drop (k + 1)) = chs (es.take (k + 1)) ++ chs (es.drop (k + 1)) := List.flatMap_append
    rwa [List.take_append_drop] at this
  rw [h2, List.length_append]
  omega
theorem chs_cells (c : DChange) : [Value.string c.1, .int .i64 c.2.1, .int .i64 c.2.2.1, .string c.2.2.2] = valsPlanChange [c] := rfl

set_option maxRecDepth 100000 in
set_option maxHeartbeats 4000000 in
theorem iChs (bk : DPlanBook) (ao0 : Option Addr) (cap0 : Nat) (ao1 : Option Addr) (cap1 : Nat) (ao2 : Option Addr) (cap2 : Nat) (w : World) (he : SliceAt vPlanEntry (old w) w ao2 cap2 bk.2) (hs : wPlanEntryS bk.2 ≤ 1048576) :
    Calls Tryz.prog 21 #[.agg #[.slice ao0 bk.1.1.length cap0, .slice ao1 bk.1.2.length cap1, .slice ao2 bk.2.length cap2]] w fun r w' => Below w.heap.size w w' ∧ ∃ v, r = .returned v ∧ w'.ownsRow w.heap.size 55 4 v (chs bk.2).length (valsPlanChange (chs bk.2)) := by
  obtain ⟨x, es⟩ := bk
  simp only at *
  have hm : es.length ≤ 9223372036854775807 := Nat.le_trans he.1 he.2.1
  have hcl := Nat.le_trans (chs_len es) hs
  obtain ⟨i0, hi0, hz0, hz1, hz2⟩ := info_parts Tryz.infoChange
  have hb0 : Below w.heap.size w (w.alloc (.cells #[.slice ao0 x.1.length cap0, .slice ao1 x.2.length cap1, .slice ao2 es.length cap2] 38)) := (Below.refl _ _).alloc (Nat.le_refl _) _
  go_enter Tryz.func21, Tryz.ntmps21
  go_wp2
  go_loopw [3, 11] (fun vv i wr => ∃ (k : Nat) (v : Value), k ≤ es.length ∧ i = .int .i64 k ∧ v = vv ∧ Hid (wr.ownsRow w.heap.size 55 4 v (chs (es.take k)).length (valsPlanChange (chs (es.take k)))) ∧ Below w.heap.size w wr) (fun _ i _ => es.length - (intOf i).toNat)
  case atStart => exact ⟨0, _, Nat.zero_le _, rfl, rfl, World.ownsRow_nil _ _ _ _, hb0⟩
  case round =>
    clear hb0
    obtain ⟨k, v, hk, rfl, hv, HO, hB⟩ := hrel
    have hO := HO.out
    clear HO
    by_cases hlt : k < es.length
    · obtain ⟨b, off, fo, fc, rfl, hok, c0, c1, q0, q1⟩ := elem_PlanEntry he hlt
      have f0 := (hB.cell (p := ⟨b, off + k * 2, none⟩) hok).trans c0
      have f1 := (hB.cell (p := ⟨b, off + k * 2 + 1, none⟩) hok).trans c1
      have hkI : (k : Int) < (es.length : Int) := by omega
      have HPART : Hid (∀ m, m ≤ (es[k]'hlt).2.length → (chs (es.take k)).length + m ≤ (chs es).length) := fun m hm' => chs_part hlt hm'
      have HNEXT : Hid (chs (es.take (k + 1)) = chs (es.take k) ++ (es[k]'hlt).2.map fun f => ((es[k]'hlt).1, f)) := chs_take hlt
      generalize es[k]'hlt = e at *
      obtain ⟨n, fs⟩ := e
      simp only at f0 f1 q0 q1 HPART HNEXT
      clear c0 c1
      generalize chs (es.take k) = L at *
      have hfm : fs.length ≤ 9223372036854775807 := Nat.le_trans q1.1 q1.2.1
      have hbx : Below wr.heap.size wr (wr.alloc (.cells #[.string n, .slice fo fs.length fc] 50)) := (Below.refl _ _).alloc (Nat.le_refl _) _
      have hBx := hB.trans (hbx.mono hB.size)
      have HBX0 : (wr.alloc (.cells #[.string n, .slice fo fs.length fc] 50)).heap[wr.heap.size]? = some (.cells #[.string n, .slice fo fs.length fc] 50 (0, 0)) := heap_alloc_new wr _
      have HO1 : Hid ((wr.alloc (.cells #[.string n, .slice fo fs.length fc] 50)).ownsRow w.heap.size 55 4 v (L ++ (fs.take 0).map fun f => (n, f)).length (valsPlanChange (L ++ (fs.take 0).map fun f => (n, f)))) := by
        have h := owns_below hO hbx
        have e : (L ++ (fs.take 0).map fun f => (n, f)) = L := by simp
        show World.ownsRow _ _ _ _ _ _ _
        rw [e]
        exact h
      have hws := hB.size
      clear hO hbx hB
      generalize hN : wr.heap.size = N at *
      subst hv
      go_wp2
      generalize (wr.alloc (.cells #[.string n, .slice fo fs.length fc] 50)) = w1 at *
      clear hN
      go_loopw [3, 18] (fun vv i wr => ∃ (m : Nat) (v : Value), m ≤ fs.length ∧ i = .int .i64 m ∧ v = vv ∧ Hid (wr.ownsRow w.heap.size 55 4 v (L ++ (fs.take m).map fun f => (n, f)).length (valsPlanChange (L ++ (fs.take m).map fun f => (n, f)))) ∧ Below w.heap.size w wr ∧ Hid (wr.heap[N]? = some (.cells #[.string n, .slice fo fs.length fc] 50 (0, 0)))) (fun _ i _ => fs.length - (intOf i).toNat)
      case atStart => exact ⟨0, _, Nat.zero_le _, rfl, rfl, HO1, hBx, HBX0⟩
      case round =>
        clear HO1 hBx HBX0 f0 f1
        obtain ⟨m, v, hm', rfl, hv, HO, hB, HX⟩ := hrel
        subst hv
        by_cases hlm : m < fs.length
        · obtain ⟨b2, off2, rfl, hok2, d0, d1, d2, _⟩ := elem_PlanField q1 hlm
          have g0 := (hB.cell (p := ⟨b2, off2 + m * 3, none⟩) hok2).trans d0
          have g1 := (hB.cell (p := ⟨b2, off2 + m * 3 + 1, none⟩) hok2).trans d1
          have g2 := (hB.cell (p := ⟨b2, off2 + m * 3 + 2, none⟩) hok2).trans d2
          have hmI : (m : Int) < (fs.length : Int) := by omega
          have HSTEP : Hid ((L ++ (fs.take (m + 1)).map fun f => (n, f)) = (L ++ (fs.take m).map fun f => (n, f)) ++ [(n, fs[m]'hlm)]) := by
            show _ = _
            rw [List.take_succ_eq_append_getElem hlm, List.map_append, ← List.append_assoc]; rfl
          have hLm : (L ++ (fs.take m).map fun f => (n, f)).length + 1 ≤ 1048576 := by
            have := HPART.out (m + 1) (by omega)
            rw [List.length_append, List.length_map, List.length_take]
            omega
          generalize fs[m]'hlm = f at *
          obtain ⟨wh, nu, vv⟩ := f
          simp only at g0 g1 g2
          clear d0 d1 d2
          have hO := HO.out
          clear HO
          generalize (L ++ (fs.take m).map fun f => (n, f)) = L1 at *
          have hNw : N < wr.heap.size := (Array.getElem?_eq_some_iff.1 HX.out).1
          have k0 := cell_of_heapN HX.out 0
          have k1 := cell_of_heapN HX.out 1
          simp at k0 k1
          have hws2 := hB.size
          go_wp2_with fail
          refine (eChange n _ wh nu vv _).mono ?_
          rintro e w2 ⟨rfl, hb2⟩
          have hbW : Below wr.heap.size wr w2 := ((Below.refl _ wr).alloc (Nat.le_refl _) _).trans (hb2.mono (by simp))
          have hB2 := hB.trans (hbW.mono hws2)
          have hX2 : w2.heap[N]? = some (.cells #[.string n, .slice (some ⟨b2, off2, none⟩) fs.length fc] 50 (0, 0)) := (hbW.block N hNw).trans HX.out
          have hO2 := owns_below hO hbW
          have hws3 := hbW.size
          clear hb2 hbW hO hB HX k0 k1 g0 g1 g2
          go_wp2_with (at_builtin; refine wpList_append_own _ rfl _ _ 30 rfl w.heap.size 55 i0 (.agg #[.string ByteArray.empty, .int .i64 0, .int .i64 0, .string ByteArray.empty]) 4 48 Tryz.underlying30 hi0 hz0 hz1 hz2 rfl (by decide) _ _ _ rfl (hO2.alloc _) ⟨w2.heap.size, 0, none⟩ 1 1 [.string n, .int .i64 wh, .int .i64 nu, .string vv] rfl rfl ?c1 ?c2 ?c3 ?c4 ?c5 ?_)
          case c1 =>
            intro j u hj
            match j, hj with
            | 0, hj => simp at hj; subst hj; simp [Addr.add]
            | 1, hj => simp at hj; subst hj; simp [Addr.add]
            | 2, hj => simp at hj; subst hj; simp [Addr.add]
            | 3, hj => simp at hj; subst hj; simp [Addr.add]
          case c2 =>
            intro u hu
            simp at hu
            rcases hu with rfl | rfl | rfl | rfl <;> rfl
          case c3 => unfold maxLen; omega
          case c4 => omega
          case c5 => simp; omega
          intro v' w6 hown' hgrow _
          have hge := own_ge hO2
          have hB6 : Below w.heap.size w2 w6 := ((Below.refl _ w2).alloc (by omega) _).grown hgrow (by simp; omega) (by intro k hk; exact hge k hk)
          have hBe := hB2.trans hB6
          have hX6 : Hid (w6.heap[N]? = some (.cells #[.string n, .slice (some ⟨b2, off2, none⟩) fs.length fc] 50 (0, 0))) := by
            show _ = _
            rw [hgrow.block N (by simp; omega) (not_row hX2 (by decide) hO2), Below.heap_alloc w2 _ N (by omega)]
            exact hX2
          obtain ⟨g6, cap6, rfl⟩ := owns_pos hown'
          have HO6 : Hid (w6.ownsRow w.heap.size 55 4 (.slice (some ⟨g6, 0, none⟩) (L1.length + 1) cap6) (L ++ (fs.take (m + 1)).map fun f => (n, f)).length (valsPlanChange (L ++ (fs.take (m + 1)).map fun f => (n, f)))) := by
            show World.ownsRow _ _ _ _ _ _ _
            rw [HSTEP.out, valsPlanChange_app, List.length_append]
            exact hown'
          clear hown' hgrow hO2 hB6 hB2 hX2 hge
          go_wp2
          go_roundw
          case rel => exact ⟨m + 1, _, by omega, by go_num, rfl, HO6, hBe, hX6⟩
          case measure => simp [intOf]; omega
        · have hme : m = fs.length := by omega
          subst hme
          rw [List.take_length] at HO
          have HO2 : Hid (wr.ownsRow w.heap.size 55 4 v (chs (es.take (k + 1))).length (valsPlanChange (chs (es.take (k + 1))))) := by
            show World.ownsRow _ _ _ _ _ _ _
            rw [HNEXT.out]; exact HO.out
          clear HO HX HPART HNEXT
          go_wp2
          go_roundw
          case rel => exact ⟨k + 1, _, by omega, by go_num, rfl, HO2, hB⟩
          case measure => simp [intOf]; omega
    · have hke : k = es.length := by omega
      subst hke
      rw [List.take_length] at hO
      have HO : Hid _ := hO
      clear hO
      subst hv
      go_wp2
      go_ret
      exact ⟨hB, _, rfl, HO.out⟩

end Go.Proofs.YtohgkiljdehefaaGreat

/- DERIVED. (*impl.planRest).pass: its walk (written by wip/tools/mk_nwp.py). -/
namespace Go.Proofs.YtohgkiljdehefaaGreat
open Go.RowKit Go.Sort
set_option linter.unusedSimpArgs false
set_option linter.unusedVariables false

/-- What is left of a list of changes, as a slice of block g. -/
def RestV (W : World) (g : Nat) (v : Value) (l : List DChange) : Prop :=
  ∃ ao cap, v = .slice ao l.length cap ∧ l.length ≤ cap ∧ cap ≤ maxLen ∧ (l ≠ [] → ∃ off, ao = some ⟨g, off, none⟩ ∧ ∀ i (h : i < l.length), W.cell? ⟨g, off + i * 4, none⟩ = some (.string (l[i]'h).1) ∧ W.cell? ⟨g, off + i * 4 + 1, none⟩ = some (.int .i64 (l[i]'h).2.1) ∧ W.cell? ⟨g, off + i * 4 + 2, none⟩ = some (.int .i64 (l[i]'h).2.2.1) ∧ W.cell? ⟨g, off + i * 4 + 3, none⟩ = some (.string (l[i]'h).2.2.2))
theorem RestV.kept {W W' : World} {g : Nat} {v : Value} {l : List DChange} (h : RestV W g v l) (hg : W'.heap[g]? = W.heap[g]?) : RestV W' g v l := by
  obtain ⟨ao, cap, h1, h2, h3, h4⟩ := h
  refine ⟨ao, cap, h1, h2, h3, fun hl => ?_⟩
  obtain ⟨off, h5, h6⟩ := h4 hl
  refine ⟨off, h5, fun i hi => ?_⟩
  have hk := fun o => World.cell?_of_block (w := W) (w' := W') (a := ⟨g, o, none⟩) hg
  have h7 := h6 i hi
  exact ⟨(hk _).trans h7.1, (hk _).trans h7.2.1, (hk _).trans h7.2.2.1, (hk _).trans h7.2.2.2⟩

set_option maxRecDepth 100000 in
set_option maxHeartbeats 4000000 in
theorem iPass_nil (t : Thing) (Br cap : Nat) (ao : Option Addr) (w : World) (hR : w.heap[Br]? = some (.cells #[.slice ao 0 cap] 84 (0, 0))) :
    Calls Tryz.prog 44 #[.pointer (some ⟨Br, 0, none⟩), .agg #[.string t.1, .int .i64 t.2]] w fun e w' => e = .returned (.agg #[.string ⟨#[]⟩, .int .i64 0, .int .i64 0, .string ⟨#[]⟩]) ∧ Below w.heap.size w w' := by
  have hb0 : Below w.heap.size w ((w.alloc (.cells #[.string t.1, .int .i64 t.2] 86)).alloc (.cells #[.string ⟨#[]⟩, .int .i64 0, .int .i64 0, .string ⟨#[]⟩] 55)) := ((Below.refl _ _).alloc (Nat.le_refl _) _).alloc (by simp) _
  have hBr : Br < w.heap.size := (Array.getElem?_eq_some_iff.1 hR).1
  have hR0 : ((w.alloc (.cells #[.string t.1, .int .i64 t.2] 86)).alloc (.cells #[.string ⟨#[]⟩, .int .i64 0, .int .i64 0, .string ⟨#[]⟩] 55)).heap[Br]? = _ := (hb0.block Br hBr).trans hR
  have hT0 : ((w.alloc (.cells #[.string t.1, .int .i64 t.2] 86)).alloc (.cells #[.string ⟨#[]⟩, .int .i64 0, .int .i64 0, .string ⟨#[]⟩] 55)).heap[w.heap.size]? = some (.cells #[.string t.1, .int .i64 t.2] 86 (0, 0)) := (Below.heap_alloc _ _ _ (by simp)).trans (heap_alloc_new w _)
  have hC0 : ((w.alloc (.cells #[.string t.1, .int .i64 t.2] 86)).alloc (.cells #[.string ⟨#[]⟩, .int .i64 0, .int .i64 0, .string ⟨#[]⟩] 55)).heap[w.heap.size + 1]? = some (.cells #[.string ⟨#[]⟩, .int .i64 0, .int .i64 0, .string ⟨#[]⟩] 55 (0, 0)) := by
    have := heap_alloc_new (w.alloc (.cells #[.string t.1, .int .i64 t.2] 86)) (.cells #[.string ⟨#[]⟩, .int .i64 0, .int .i64 0, .string ⟨#[]⟩] 55)
    rwa [World.size_alloc] at this
  have hz0 : ((w.alloc (.cells #[.string t.1, .int .i64 t.2] 86)).alloc (.cells #[.string ⟨#[]⟩, .int .i64 0, .int .i64 0, .string ⟨#[]⟩] 55)).heap.size = w.heap.size + 2 := by simp
  go_enter Tryz.func44, Tryz.ntmps44
  go_wp2_with fail
  clear hR
  generalize ((w.alloc (.cells #[.string t.1, .int .i64 t.2] 86)).alloc (.cells #[.string ⟨#[]⟩, .int .i64 0, .int .i64 0, .string ⟨#[]⟩] 55)) = wb at *
  have x0 := cell_of_heapN hR0 0
  have y0 := cell_of_heapN hT0 0
  have y1 := cell_of_heapN hT0 1
  simp at x0 y0 y1
  have u0 := cell_regrown x0
  have u1 := cell_regrown y0
  have u2 := cell_regrown y1
  clear x0 y0 y1
  refine Leg.wp_region_qw (by kernel_rfl) (by kernel_rfl) ?_
  refine Leg.QW.want (by kernel_rfl) (fun K hK => ?_)
  go_big_quiet_op
  refine hK _ ?_
  clear hK K
  refine Leg.QW.want (by kernel_rfl) (fun K hK => ?_)
  go_big_quiet_op
  refine hK _ ?_
  clear hK K
  refine Leg.QW.want (by kernel_rfl) (fun K hK => ?_)
  go_big_quiet_op
  refine hK _ ?_
  clear hK K
  refine Leg.QW.want (by kernel_rfl) (fun K hK => ?_)
  go_big_quiet_op
  refine hK _ ?_
  clear hK K
  refine Leg.QW.want (by kernel_rfl) (fun K hK => ?_)
  go_big_quiet_op
  refine hK _ ?_
  clear hK K
  refine Leg.QW.want (by kernel_rfl) (fun K hK => ?_)
  go_big_quiet_op
  refine hK _ ?_
  clear hK K
  refine Leg.QW.want (by kernel_rfl) (fun K hK => ?_)
  go_big_quiet_op
  refine hK _ ?_
  clear hK K
  refine Leg.QW.skip (by kernel_rfl) ?_
  refine Leg.QW.skip (by kernel_rfl) ?_
  refine Leg.QW.skip (by kernel_rfl) ?_
  refine Leg.QW.skip (by kernel_rfl) ?_
  refine Leg.QW.skip (by kernel_rfl) ?_
  refine Leg.QW.skip (by kernel_rfl) ?_
  refine Leg.QW.skip (by kernel_rfl) ?_
  refine Leg.QW.skip (by kernel_rfl) ?_
  refine Leg.QW.skip (by kernel_rfl) ?_
  refine Leg.QW.want (by kernel_rfl) (fun K hK => ?_)
  go_simp
  refine hK _ ?_
  clear hK K
  refine Leg.QW.nil ?_
  intro _ hw'
  obtain ⟨⟨dq, osq⟩, hw''⟩ := hw'
  subst hw''
  have hbq := below_regrown wb dq osq
  have hzq : w.heap.size + 1 < (grow (redrawn wb dq) osq).heap.size := by have := hbq.size; omega
  have hB := hb0.trans (hbq.mono hb0.size)
  have hC := (hbq.block (w.heap.size + 1) (by omega)).trans hC0
  clear hbq u0 u1 u2 hb0 hC0 hT0 hR0
  generalize grow (redrawn wb dq) osq = w9 at *
  have z0 := cell_of_heapN hC 0
  have z1 := cell_of_heapN hC 1
  have z2 := cell_of_heapN hC 2
  have z3 := cell_of_heapN hC 3
  have n0 := free_of_heapN hC 0
  have n1 := free_of_heapN hC 1
  have n2 := free_of_heapN hC 2
  have n3 := free_of_heapN hC 3
  simp at z0 z1 z2 z3
  go_wp2
  refine bodyPost_ret (v := .agg #[.string ⟨#[]⟩, .int .i64 0, .int .i64 0, .string ⟨#[]⟩]) (by simp [results, Tryz.results44, go_sem, z0, z1, z2, z3, hzq]) rfl ⟨rfl, ?_⟩
  repeat (first | exact hB | refine Below.setCell ?_ (by simp; try omega) _)
set_option maxRecDepth 100000 in
set_option maxHeartbeats 4000000 in
theorem iPass_skip (t : Thing) (c : DChange) (Br g off n cap : Nat) (w : World) (hR : w.heap[Br]? = some (.cells #[.slice (some ⟨g, off, none⟩) (n + 1) cap] 84 (0, 0))) (hgw : g < w.heap.size) (c0 : w.cell? ⟨g, off, none⟩ = some (.string c.1)) (c1 : w.cell? ⟨g, off + 1, none⟩ = some (.int .i64 c.2.1)) (c2 : w.cell? ⟨g, off + 2, none⟩ = some (.int .i64 c.2.2.1)) (c3 : w.cell? ⟨g, off + 3, none⟩ = some (.string c.2.2.2)) (hne : ¬ th c = t) (hn : n + 1 ≤ maxLen) :
    Calls Tryz.prog 44 #[.pointer (some ⟨Br, 0, none⟩), .agg #[.string t.1, .int .i64 t.2]] w fun e w' => e = .returned (.agg #[.string ⟨#[]⟩, .int .i64 0, .int .i64 0, .string ⟨#[]⟩]) ∧ Below w.heap.size w w' := by
  unfold maxLen at hn
  have hb0 : Below w.heap.size w ((w.alloc (.cells #[.string t.1, .int .i64 t.2] 86)).alloc (.cells #[.string ⟨#[]⟩, .int .i64 0, .int .i64 0, .string ⟨#[]⟩] 55)) := ((Below.refl _ _).alloc (Nat.le_refl _) _).alloc (by simp) _
  have hBr : Br < w.heap.size := (Array.getElem?_eq_some_iff.1 hR).1
  have hR0 : ((w.alloc (.cells #[.string t.1, .int .i64 t.2] 86)).alloc (.cells #[.string ⟨#[]⟩, .int .i64 0, .int .i64 0, .string ⟨#[]⟩] 55)).heap[Br]? = _ := (hb0.block Br hBr).trans hR
  have hT0 : ((w.alloc (.cells #[.string t.1, .int .i64 t.2] 86)).alloc (.cells #[.string ⟨#[]⟩, .int .i64 0, .int .i64 0, .string ⟨#[]⟩] 55)).heap[w.heap.size]? = some (.cells #[.string t.1, .int .i64 t.2] 86 (0, 0)) := (Below.heap_alloc _ _ _ (by simp)).trans (heap_alloc_new w _)
  have hC0 : ((w.alloc (.cells #[.string t.1, .int .i64 t.2] 86)).alloc (.cells #[.string ⟨#[]⟩, .int .i64 0, .int .i64 0, .string ⟨#[]⟩] 55)).heap[w.heap.size + 1]? = some (.cells #[.string ⟨#[]⟩, .int .i64 0, .int .i64 0, .string ⟨#[]⟩] 55 (0, 0)) := by
    have := heap_alloc_new (w.alloc (.cells #[.string t.1, .int .i64 t.2] 86)) (.cells #[.string ⟨#[]⟩, .int .i64 0, .int .i64 0, .string ⟨#[]⟩] 55)
    rwa [World.size_alloc] at this
  have hz0 : ((w.alloc (.cells #[.string t.1, .int .i64 t.2] 86)).alloc (.cells #[.string ⟨#[]⟩, .int .i64 0, .int .i64 0, .string ⟨#[]⟩] 55)).heap.size = w.heap.size + 2 := by simp
  have hif : ∀ {α : Type} (x y : α), (if c.1.toList = t.1.toList then if c.2.1 = t.2 then x else y else y) = y := fun x y => by
    by_cases k1 : c.1.toList = t.1.toList
    · by_cases k2 : c.2.1 = t.2
      · exact absurd (show th c = t from Prod.ext (beqL.1 (beq_iff_eq.2 k1)) k2) hne
      · rw [if_pos k1, if_neg k2]
    · rw [if_neg k1]
  have hnz : (((n + 1 : Nat) : Int) == 0) = false := by simp; omega
  go_enter Tryz.func44, Tryz.ntmps44
  go_wp2_with fail
  clear hR hne
  generalize ((w.alloc (.cells #[.string t.1, .int .i64 t.2] 86)).alloc (.cells #[.string ⟨#[]⟩, .int .i64 0, .int .i64 0, .string ⟨#[]⟩] 55)) = wb at *
  have x0 := cell_of_heapN hR0 0
  have y0 := cell_of_heapN hT0 0
  have y1 := cell_of_heapN hT0 1
  simp at x0 y0 y1
  have u0 := cell_regrown x0
  have u1 := cell_regrown y0
  have u2 := cell_regrown y1
  clear x0 y0 y1
  have e0 := cell_regrown ((hb0.cell (p := ⟨g, off, none⟩) hgw).trans c0)
  have e1 := cell_regrown ((hb0.cell (p := ⟨g, off + 1, none⟩) hgw).trans c1)
  have e2 := cell_regrown ((hb0.cell (p := ⟨g, off + 2, none⟩) hgw).trans c2)
  have e3 := cell_regrown ((hb0.cell (p := ⟨g, off + 3, none⟩) hgw).trans c3)
  have cA : ∀ dd os, Calls Tryz.prog 69 #[.agg #[.string c.1, .int .i64 c.2.1, .int .i64 c.2.2.1, .string c.2.2.2]] (grow (redrawn wb dd) os) (fun e w'' => e = .returned (.agg #[.string c.1, .int .i64 c.2.1]) ∧ ∃ p : Regrown, w'' = grow (redrawn wb p.d) p.os) := fun dd os => Calls.regrown_of (iThing c _)
  clear c0 c1 c2 c3
  refine Leg.wp_region_qw (by kernel_rfl) (by kernel_rfl) ?_
  refine Leg.QW.want (by kernel_rfl) (fun K hK => ?_)
  go_big_quiet_op
  refine hK _ ?_
  clear hK K
  refine Leg.QW.want (by kernel_rfl) (fun K hK => ?_)
  go_big_quiet_op
  refine hK _ ?_
  clear hK K
  refine Leg.QW.want (by kernel_rfl) (fun K hK => ?_)
  go_big_quiet_op
  refine hK _ ?_
  clear hK K
  refine Leg.QW.want (by kernel_rfl) (fun K hK => ?_)
  go_big_quiet_op
  refine hK _ ?_
  clear hK K
  refine Leg.QW.want (by kernel_rfl) (fun K hK => ?_)
  go_big_quiet_op
  refine hK _ ?_
  clear hK K
  refine Leg.QW.want (by kernel_rfl) (fun K hK => ?_)
  go_big_quiet_op
  refine hK _ ?_
  clear hK K
  refine Leg.QW.want (by kernel_rfl) (fun K hK => ?_)
  go_big_quiet_op
  refine hK _ ?_
  clear hK K
  refine Leg.QW.want (by kernel_rfl) (fun K hK => ?_)
  go_big_quiet_op
  refine hK _ ?_
  clear hK K
  refine Leg.QW.want (by kernel_rfl) (fun K hK => ?_)
  go_big_quiet_op
  refine hK _ ?_
  clear hK K
  refine Leg.QW.want (by kernel_rfl) (fun K hK => ?_)
  go_big_quiet_op
  refine hK _ ?_
  clear hK K
  refine Leg.QW.want (by kernel_rfl) (fun K hK => ?_)
  go_big_quiet_op
  refine hK _ ?_
  clear hK K
  refine Leg.QW.want (by kernel_rfl) (fun K hK => ?_)
  go_big_quiet_op
  refine hK _ ?_
  clear hK K
  refine Leg.QW.want (by kernel_rfl) (fun K hK => ?_)
  go_big_quiet_op
  refine hK _ ?_
  clear hK K
  refine Leg.QW.want (by kernel_rfl) (fun K hK => ?_)
  go_big_quiet_op
  refine ⟨_, fun _ => cA _ _, hK _ ?_⟩
  clear hK K
  refine Leg.QW.want (by kernel_rfl) (fun K hK => ?_)
  go_big_quiet_op
  refine hK _ ?_
  clear hK K
  refine Leg.QW.want (by kernel_rfl) (fun K hK => ?_)
  go_big_quiet_op
  refine hK _ ?_
  clear hK K
  refine Leg.QW.want (by kernel_rfl) (fun K hK => ?_)
  go_big_quiet_op
  refine hK _ ?_
  clear hK K
  refine Leg.QW.nil ?_
  intro _ hw'
  obtain ⟨⟨dq, osq⟩, hw''⟩ := hw'
  subst hw''
  have hbq := below_regrown wb dq osq
  have hzq : w.heap.size + 1 < (grow (redrawn wb dq) osq).heap.size := by have := hbq.size; omega
  have hB := hb0.trans (hbq.mono hb0.size)
  have hC := (hbq.block (w.heap.size + 1) (by omega)).trans hC0
  clear hbq u0 u1 u2 e0 e1 e2 e3 cA hb0 hC0 hT0 hR0
  generalize grow (redrawn wb dq) osq = w9 at *
  have z0 := cell_of_heapN hC 0
  have z1 := cell_of_heapN hC 1
  have z2 := cell_of_heapN hC 2
  have z3 := cell_of_heapN hC 3
  have n0 := free_of_heapN hC 0
  have n1 := free_of_heapN hC 1
  have n2 := free_of_heapN hC 2
  have n3 := free_of_heapN hC 3
  simp at z0 z1 z2 z3
  go_wp2
  refine bodyPost_ret (v := .agg #[.string ⟨#[]⟩, .int .i64 0, .int .i64 0, .string ⟨#[]⟩]) (by simp [results, Tryz.results44, go_sem, z0, z1, z2, z3, hzq]) rfl ⟨rfl, ?_⟩
  repeat (first | exact hB | refine Below.setCell ?_ (by simp; try omega) _)
theorem grown_set {w W : World} {r b o : Nat} (h : w.grownBy W (some r)) (hb : b = r ∨ w.heap.size ≤ b) (v : Value) : w.grownBy (W.setCell ⟨b, o, none⟩ v) (some r) :=
  ⟨h.os, h.tape, h.output, by have := h.size; simpa using this, fun k hk hne => (Below.heap_setCell W ⟨b, o, none⟩ v k (fun e => by
    rcases hb with rfl | hb
    · exact hne (by rw [e])
    · have e : k = b := e
      omega)).trans (h.block k hk hne)⟩
theorem grown_of_below {w w' : World} (h : Below w.heap.size w w') {row : Option Nat} : w.grownBy w' row := ⟨h.os, h.tape, h.output, h.size, fun k hk _ => h.block k hk⟩
theorem grown_new {w W : World} {r : Nat} (h : w.grownBy W (some r)) (o : Obj) : w.grownBy (W.alloc o) (some r) :=
  ⟨h.os, h.tape, h.output, by have := h.size; simp; omega, fun k hk hne => (Below.heap_alloc W o k (Nat.lt_of_lt_of_le hk h.size)).trans (h.block k hk hne)⟩
theorem heap_set_one {W : World} {b : Nat} {u v : Value} {T : TypeId} (h : W.heap[b]? = some (.cells #[u] T (0, 0))) : (W.setCell ⟨b, 0, none⟩ v).heap[b]? = some (.cells #[v] T (0, 0)) := Boxed.set v h

set_option maxRecDepth 100000 in
set_option maxHeartbeats 4000000 in
theorem iPass_take (c : DChange) (Br g off n cap : Nat) (w : World) (hR : w.heap[Br]? = some (.cells #[.slice (some ⟨g, off, none⟩) (n + 1) cap] 84 (0, 0))) (hgw : g < w.heap.size) (c0 : w.cell? ⟨g, off, none⟩ = some (.string c.1)) (c1 : w.cell? ⟨g, off + 1, none⟩ = some (.int .i64 c.2.1)) (c2 : w.cell? ⟨g, off + 2, none⟩ = some (.int .i64 c.2.2.1)) (c3 : w.cell? ⟨g, off + 3, none⟩ = some (.string c.2.2.2)) (hn : n + 1 ≤ cap) (hc : cap ≤ maxLen) :
    Calls Tryz.prog 44 #[.pointer (some ⟨Br, 0, none⟩), .agg #[.string c.1, .int .i64 c.2.1]] w fun e w' => e = .returned (.agg #[.string c.1, .int .i64 c.2.1, .int .i64 c.2.2.1, .string c.2.2.2]) ∧ ∃ ad, (n = 0 ∨ ad = ⟨g, off + 4, none⟩) ∧ w'.heap[Br]? = some (.cells #[.slice (some ad) n (cap - 1)] 84 (0, 0)) ∧ w.grownBy w' (some Br) := by
  unfold maxLen at hc
  have hb0 : Below w.heap.size w ((w.alloc (.cells #[.string c.1, .int .i64 c.2.1] 86)).alloc (.cells #[.string ⟨#[]⟩, .int .i64 0, .int .i64 0, .string ⟨#[]⟩] 55)) := ((Below.refl _ _).alloc (Nat.le_refl _) _).alloc (by simp) _
  have hBr : Br < w.heap.size := (Array.getElem?_eq_some_iff.1 hR).1
  have hR0 : ((w.alloc (.cells #[.string c.1, .int .i64 c.2.1] 86)).alloc (.cells #[.string ⟨#[]⟩, .int .i64 0, .int .i64 0, .string ⟨#[]⟩] 55)).heap[Br]? = _ := (hb0.block Br hBr).trans hR
  have hT0 : ((w.alloc (.cells #[.string c.1, .int .i64 c.2.1] 86)).alloc (.cells #[.string ⟨#[]⟩, .int .i64 0, .int .i64 0, .string ⟨#[]⟩] 55)).heap[w.heap.size]? = some (.cells #[.string c.1, .int .i64 c.2.1] 86 (0, 0)) := (Below.heap_alloc _ _ _ (by simp)).trans (heap_alloc_new w _)
  have hC0 : ((w.alloc (.cells #[.string c.1, .int .i64 c.2.1] 86)).alloc (.cells #[.string ⟨#[]⟩, .int .i64 0, .int .i64 0, .string ⟨#[]⟩] 55)).heap[w.heap.size + 1]? = some (.cells #[.string ⟨#[]⟩, .int .i64 0, .int .i64 0, .string ⟨#[]⟩] 55 (0, 0)) := by
    have := heap_alloc_new (w.alloc (.cells #[.string c.1, .int .i64 c.2.1] 86)) (.cells #[.string ⟨#[]⟩, .int .i64 0, .int .i64 0, .string ⟨#[]⟩] 55)
    rwa [World.size_alloc] at this
  have hz0 : ((w.alloc (.cells #[.string c.1, .int .i64 c.2.1] 86)).alloc (.cells #[.string ⟨#[]⟩, .int .i64 0, .int .i64 0, .string ⟨#[]⟩] 55)).heap.size = w.heap.size + 2 := by simp
  have hnz : (((n + 1 : Nat) : Int) == 0) = false := by simp; omega
  obtain ⟨ad, had, had2⟩ : ∃ ad : Addr, (if cap = 1 then some (⟨g, off, none⟩ : Addr) else some ⟨g, off + 4, none⟩) = some ad ∧ (n = 0 ∨ ad = ⟨g, off + 4, none⟩) := by
    by_cases hcl1 : cap = 1
    · exact ⟨⟨g, off, none⟩, by rw [if_pos hcl1], .inl (by omega)⟩
    · exact ⟨⟨g, off + 4, none⟩, by rw [if_neg hcl1], .inr rfl⟩
  have HAD : Hid _ := had2
  clear had2
  go_enter Tryz.func44, Tryz.ntmps44
  go_wp2_with fail
  clear hR
  generalize ((w.alloc (.cells #[.string c.1, .int .i64 c.2.1] 86)).alloc (.cells #[.string ⟨#[]⟩, .int .i64 0, .int .i64 0, .string ⟨#[]⟩] 55)) = wb at *
  have x0 := cell_of_heapN hR0 0
  have y0 := cell_of_heapN hT0 0
  have y1 := cell_of_heapN hT0 1
  simp at x0 y0 y1
  have u0 := cell_regrown x0
  have u1 := cell_regrown y0
  have u2 := cell_regrown y1
  clear x0 y0 y1
  have e0 := cell_regrown ((hb0.cell (p := ⟨g, off, none⟩) hgw).trans c0)
  have e1 := cell_regrown ((hb0.cell (p := ⟨g, off + 1, none⟩) hgw).trans c1)
  have e2 := cell_regrown ((hb0.cell (p := ⟨g, off + 2, none⟩) hgw).trans c2)
  have e3 := cell_regrown ((hb0.cell (p := ⟨g, off + 3, none⟩) hgw).trans c3)
  have cA : ∀ dd os, Calls Tryz.prog 69 #[.agg #[.string c.1, .int .i64 c.2.1, .int .i64 c.2.2.1, .string c.2.2.2]] (grow (redrawn wb dd) os) (fun e w'' => e = .returned (.agg #[.string c.1, .int .i64 c.2.1]) ∧ ∃ p : Regrown, w'' = grow (redrawn wb p.d) p.os) := fun dd os => Calls.regrown_of (iThing c _)
  refine Leg.wp_region_qw (by kernel_rfl) (by kernel_rfl) ?_
  refine Leg.QW.want (by kernel_rfl) (fun K hK => ?_)
  go_big_quiet_op
  refine hK _ ?_
  clear hK K
  refine Leg.QW.want (by kernel_rfl) (fun K hK => ?_)
  go_big_quiet_op
  refine hK _ ?_
  clear hK K
  refine Leg.QW.want (by kernel_rfl) (fun K hK => ?_)
  go_big_quiet_op
  refine hK _ ?_
  clear hK K
  refine Leg.QW.want (by kernel_rfl) (fun K hK => ?_)
  go_big_quiet_op
  refine hK _ ?_
  clear hK K
  refine Leg.QW.want (by kernel_rfl) (fun K hK => ?_)
  go_big_quiet_op
  refine hK _ ?_
  clear hK K
  refine Leg.QW.want (by kernel_rfl) (fun K hK => ?_)
  go_big_quiet_op
  refine hK _ ?_
  clear hK K
  refine Leg.QW.want (by kernel_rfl) (fun K hK => ?_)
  go_big_quiet_op
  refine hK _ ?_
  clear hK K
  refine Leg.QW.want (by kernel_rfl) (fun K hK => ?_)
  go_big_quiet_op
  refine hK _ ?_
  clear hK K
  refine Leg.QW.want (by kernel_rfl) (fun K hK => ?_)
  go_big_quiet_op
  refine hK _ ?_
  clear hK K
  refine Leg.QW.want (by kernel_rfl) (fun K hK => ?_)
  go_big_quiet_op
  refine hK _ ?_
  clear hK K
  refine Leg.QW.want (by kernel_rfl) (fun K hK => ?_)
  go_big_quiet_op
  refine hK _ ?_
  clear hK K
  refine Leg.QW.want (by kernel_rfl) (fun K hK => ?_)
  go_big_quiet_op
  refine hK _ ?_
  clear hK K
  refine Leg.QW.want (by kernel_rfl) (fun K hK => ?_)
  go_big_quiet_op
  refine hK _ ?_
  clear hK K
  refine Leg.QW.want (by kernel_rfl) (fun K hK => ?_)
  go_big_quiet_op
  refine ⟨_, fun _ => cA _ _, hK _ ?_⟩
  clear hK K
  refine Leg.QW.want (by kernel_rfl) (fun K hK => ?_)
  go_big_quiet_op
  refine hK _ ?_
  clear hK K
  refine Leg.QW.want (by kernel_rfl) (fun K hK => ?_)
  go_big_quiet_op
  refine hK _ ?_
  clear hK K
  refine Leg.QW.want (by kernel_rfl) (fun K hK => ?_)
  go_big_quiet_op
  refine hK _ ?_
  clear hK K
  refine Leg.QW.nil ?_
  intro _ hw'
  obtain ⟨⟨dq, osq⟩, hw''⟩ := hw'
  subst hw''
  have hbq := below_regrown wb dq osq
  have hzq : w.heap.size + 1 < (grow (redrawn wb dq) osq).heap.size := by have := hbq.size; omega
  have hB := hb0.trans (hbq.mono hb0.size)
  have hC := (hbq.block (w.heap.size + 1) (by omega)).trans hC0
  have hR9 := (hbq.block Br (by omega)).trans hR0
  clear hbq u0 u1 u2 e0 e1 e2 e3 cA hb0 hC0 hT0 hR0
  generalize grow (redrawn wb dq) osq = w9 at *
  have d0 := (hB.cell (p := ⟨g, off, none⟩) hgw).trans c0
  have d1 := (hB.cell (p := ⟨g, off + 1, none⟩) hgw).trans c1
  have d2 := (hB.cell (p := ⟨g, off + 2, none⟩) hgw).trans c2
  have d3 := (hB.cell (p := ⟨g, off + 3, none⟩) hgw).trans c3
  have x0 := cell_of_heapN hR9 0
  have xf := free_of_heapN hR9 0
  have z0 := cell_of_heapN hC 0
  have z1 := cell_of_heapN hC 1
  have z2 := cell_of_heapN hC 2
  have z3 := cell_of_heapN hC 3
  have n0 := free_of_heapN hC 0
  have n1 := free_of_heapN hC 1
  have n2 := free_of_heapN hC 2
  have n3 := free_of_heapN hC 3
  simp at x0 z0 z1 z2 z3
  have hBr9 : Br < w9.heap.size := by omega
  have hg9 : g < w9.heap.size := by omega
  have hne1 : ¬ Br = w.heap.size + 1 := by omega
  have hne2 : ¬ w.heap.size + 1 = Br := by omega
  have hne3 : ¬ Br = w9.heap.size := by omega
  have hne4 : ¬ w9.heap.size = Br := by omega
  have hne5 : ¬ w.heap.size + 1 = w9.heap.size := by omega
  clear c0 c1 c2 c3
  go_wp2
  refine bodyPost_ret (v := .agg #[.string c.1, .int .i64 c.2.1, .int .i64 c.2.2.1, .string c.2.2.2]) (by simp [results, Tryz.results44, go_sem, z0, z1, z2, z3, hne1, hne2, hne3, hne4, hne5, hBr9, hg9, hzq]) rfl ⟨rfl, ad, HAD.out, ?_, ?_⟩
  · rw [Below.heap_alloc _ _ _ (by simpa using hBr9)]
    iterate 4 rw [Below.heap_setCell _ _ _ _ hne1]
    exact heap_set_one hR9
  · refine grown_new ?_ _
    refine grown_set (grown_set (grown_set (grown_set (grown_set (grown_of_below hB) (.inl rfl) _) (.inr (Nat.le_succ _)) _) (.inr (Nat.le_succ _)) _) (.inr (Nat.le_succ _)) _) (.inr (Nat.le_succ _)) _

theorem passV_nil (t : Thing) : passV t [] = zc := rfl
/-- What pass does, whatever is left. -/
theorem iPass (t : Thing) (l : List DChange) (Br g : Nat) (v : Value) (w : World) (hR : w.heap[Br]? = some (.cells #[v] 84 (0, 0))) (hV : RestV w g v l) (hg : l ≠ [] → g < w.heap.size) (hne : g ≠ Br) :
    Calls Tryz.prog 44 #[.pointer (some ⟨Br, 0, none⟩), .agg #[.string t.1, .int .i64 t.2]] w fun e w' => e = .returned (.agg (chCells (passV t l))) ∧ ∃ v', w'.heap[Br]? = some (.cells #[v'] 84 (0, 0)) ∧ RestV w' g v' (passR t l) ∧ w.grownBy w' (some Br) := by
  obtain ⟨ao, cap, rfl, h2, h3, h4⟩ := hV
  have hBr : Br < w.heap.size := (Array.getElem?_eq_some_iff.1 hR).1
  have hV : RestV w g (.slice ao l.length cap) l := ⟨ao, cap, rfl, h2, h3, h4⟩
  cases l with
  | nil =>
    refine (iPass_nil t Br cap ao w hR).mono ?_
    rintro e w' ⟨rfl, hB⟩
    refine ⟨rfl, _, (hB.block _ hBr).trans hR, ⟨ao, cap, rfl, h2, h3, fun h => absurd rfl h⟩, grown_of_below hB⟩
  | cons c r =>
    obtain ⟨off, rfl, h6⟩ := h4 (by simp)
    have hgw := hg (by simp)
    obtain ⟨c0, c1, c2, c3⟩ := h6 0 (by simp)
    simp at c0 c1 c2 c3
    by_cases ht : th c = t
    · subst ht
      rw [passV_cons_yes rfl, passR_cons_yes rfl]
      refine (iPass_take c Br g off r.length cap w hR hgw c0 c1 c2 c3 h2 h3).mono ?_
      rintro e w' ⟨rfl, ad, had, hR', hG⟩
      refine ⟨rfl, _, hR', ⟨some ad, cap - 1, rfl, by simp at h2; omega, by omega, fun hr => ⟨off + 4, ?_, ?_⟩⟩, hG⟩
      · rcases had with h | h
        · exact absurd (List.length_eq_zero_iff.1 h) hr
        · rw [h]
      · intro i hi
        have hk := fun o => World.cell?_of_block (w := w) (w' := w') (a := ⟨g, o, none⟩) (hG.block g hgw (fun e => hne (Option.some.inj e)))
        obtain ⟨d0, d1, d2, d3⟩ := h6 (i + 1) (by simpa using hi)
        have e : off + 4 + i * 4 = off + (i + 1) * 4 := by omega
        rw [e]
        exact ⟨(hk _).trans d0, (hk _).trans d1, (hk _).trans d2, (hk _).trans d3⟩
    · rw [passV_cons_no ht, passR_cons_no ht]
      refine (iPass_skip t c Br g off r.length cap w hR hgw c0 c1 c2 c3 ht (by simp at h2; omega)).mono ?_
      rintro e w' ⟨rfl, hB⟩
      exact ⟨rfl, _, (hB.block _ hBr).trans hR, hV.kept (hB.block _ hgw), grown_of_below hB⟩

end Go.Proofs.YtohgkiljdehefaaGreat
