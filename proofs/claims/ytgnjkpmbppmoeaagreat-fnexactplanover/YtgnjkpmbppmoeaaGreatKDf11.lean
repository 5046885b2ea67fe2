/- DERIVED. spec.PlanStands: its walk. -/
import Derived.Test.YtgnjkpmbppmoeaaGreatKDf10
import Derived.Test.YtgnjkpmbppmoeaaGreatKBkS1
namespace Go.Proofs.YtgnjkpmbppmoeaaGreat
namespace Std
open Go.RowKit Leg
set_option linter.unusedSimpArgs false
set_option linter.unusedVariables false

set_option maxRecDepth 100000 in
set_option maxHeartbeats 2000000 in
theorem sAt (bk : DPlanBook) (ao0 : Option Addr) (cap0 : Nat) (ao1 : Option Addr) (cap1 : Nat) (ao2 : Option Addr) (cap2 : Nat) (v : ByteArray) (w : World) (hs : SliceAt vPlanEntry (old w) w ao2 cap2 bk.2) :
    Calls Tryz.prog 24 #[.agg #[.slice ao0 bk.1.1.length cap0, .slice ao1 bk.1.2.length cap1, .slice ao2 bk.2.length cap2], .string v] w fun e w' => e = .returned (.int .i64 (idxOf nm1 bk.2 v)) ∧ Below w.heap.size w w' := by
  obtain ⟨x, es⟩ := bk
  simp only at *
  have hcm : es.length ≤ 9223372036854775807 := Nat.le_trans hs.1 hs.2.1
  have hb0 : Below w.heap.size w (w.alloc (.cells #[.slice ao0 x.1.length cap0, .slice ao1 x.2.length cap1, .slice ao2 es.length cap2] 43)) := (Below.refl _ _).alloc (Nat.le_refl _) _
  have HB0 := BxC.new w #[.slice ao0 x.1.length cap0, .slice ao1 x.2.length cap1, .slice ao2 es.length cap2] 43
  have x2 := HB0 2
  simp at x2
  go_enter Tryz.func24, Tryz.ntmps24
  go_wp2
  go_loop [5] (fun i => ∃ k : Nat, k ≤ es.length ∧ i = .int .i64 k ∧ Hid (NoNm nm1 es v k)) (fun i => es.length - (intOf i).toNat)
  case atStart => exact ⟨0, Nat.zero_le _, rfl, fun j _ hj => by omega⟩
  case round =>
    obtain ⟨k, hk, rfl, hpre⟩ := hrel
    by_cases hlt : k < es.length
    · obtain ⟨b, off, fo, fc, rfl, hok, c0, c1, q0, _⟩ := elem_PlanEntry hs hlt
      have f0 := (hb0.cell (p := ⟨b, off + k * 2, none⟩) hok).trans c0
      clear c0 c1
      have hbw : b < w.heap.size := hok
      have hkI : (k : Int) < (es.length : Int) := by omega
      have HY : Hid ((es[k]'hlt).1 = v → idxOf nm1 es v = k) := fun e => idxOf_hit hpre.out hlt e
      have HN : Hid (¬ (es[k]'hlt).1 = v → NoNm nm1 es v (k + 1)) := fun e => hpre.out.next hlt e
      clear hpre q0 hs
      generalize (es[k]'hlt).1 = n at *
      by_cases hq : n = v
      · have HR : Hid (idxOf nm1 es v = k) := HY.out hq
        have hqb : (n.toList == v.toList) = true := beqL.2 hq
        clear HY HN hq
        go_wp2
        go_ret
        exact ⟨by rw [HR.out]; rfl, hb0⟩
      · have HN1 : Hid (NoNm nm1 es v (k + 1)) := HN.out hq
        have hqb : (n.toList == v.toList) = false := beqL_no hq
        clear HY HN hq
        go_wp2
        go_round
        case rel => exact ⟨k + 1, by omega, by go_num, HN1⟩
        case measure => simp [intOf]; omega
    · have hke : k = es.length := by omega
      subst hke
      have HR : Hid (idxOf nm1 es v = -1) := idxOf_none hpre.out
      clear hpre
      go_wp2
      go_ret
      exact ⟨by rw [HR.out]; rfl, hb0⟩

/-- The book's box, an entry. -/
def CB (B b o : Nat) (v0 v1 v2 fv : Value) (n : ByteArray) (W : World) : Prop :=
  W.cell? ⟨B, 0, none⟩ = some v0 ∧ W.cell? ⟨B, 1, none⟩ = some v1 ∧ W.cell? ⟨B, 2, none⟩ = some v2 ∧ W.cell? ⟨b, o, none⟩ = some (.string n) ∧ W.cell? ⟨b, o + 1, none⟩ = some fv
theorem CB.kept {B b o : Nat} {v0 v1 v2 fv : Value} {n : ByteArray} {W W' : World} (h : CB B b o v0 v1 v2 fv n W) (hB : W'.heap[B]? = W.heap[B]?) (hb : W'.heap[b]? = W.heap[b]?) : CB B b o v0 v1 v2 fv n W' := by
  obtain ⟨q0, q1, q2, q3, q4⟩ := h
  exact ⟨(World.cell?_of_block (w := W) hB).trans q0, (World.cell?_of_block (w := W) hB).trans q1, (World.cell?_of_block (w := W) hB).trans q2, (World.cell?_of_block (w := W) hb).trans q3, (World.cell?_of_block (w := W) hb).trans q4⟩

set_option maxRecDepth 100000 in
set_option maxHeartbeats 8000000 in
theorem sStands (bk : DPlanBook) (nm : ByteArray) (ao0 : Option Addr) (cap0 : Nat) (ao1 : Option Addr) (cap1 : Nat) (ao2 : Option Addr) (cap2 : Nat) (w : World) (h : BaseAt w bk.1 ao0 cap0 ao1 cap1) (he : SliceAt vPlanEntry (old w) w ao2 cap2 bk.2) (hs : wPlanEntryS bk.2 ≤ 1048576) :
    Calls Tryz.prog 7 #[.agg #[.slice ao0 bk.1.1.length cap0, .slice ao1 bk.1.2.length cap1, .slice ao2 bk.2.length cap2], .string nm] w fun r w' => ∃ o, StdOf bk nm o ∧ GivesS o w r w' := by
  obtain ⟨x, es⟩ := bk
  simp only at *
  obtain ⟨wA, hwA⟩ : ∃ wA : World, wA = (w.alloc (.cells #[.slice ao0 x.1.length cap0, .slice ao1 x.2.length cap1, .slice ao2 es.length cap2] 43)).alloc (.cells #[.string ⟨#[]⟩, .string ⟨#[]⟩, .int .i64 0, .int .i64 0, .int .i64 0, .int .i64 0, .int .i64 0, .slice none 0 0] 34) := ⟨_, rfl⟩
  have hzA : wA.heap.size = w.heap.size + 2 := by rw [hwA]; simp
  have hbA : Below w.heap.size w wA := by rw [hwA]; exact ((Below.refl _ _).alloc (Nat.le_refl _) _).alloc (by simp) _
  have HBA : BxC w.heap.size #[.slice ao0 x.1.length cap0, .slice ao1 x.2.length cap1, .slice ao2 es.length cap2] wA := by
    rw [hwA]; exact (BxC.new w _ _).below ((Below.refl (w.heap.size + 1) _).alloc (by simp) _) (by omega)
  have HZA : Dr wA (w.heap.size + 1) [.string ⟨#[]⟩, .string ⟨#[]⟩, .int .i64 0, .int .i64 0, .int .i64 0, .int .i64 0, .int .i64 0, .slice none 0 0] := by
    have hd := Dr.new (w.alloc (.cells #[.slice ao0 x.1.length cap0, .slice ao1 x.2.length cap1, .slice ao2 es.length cap2] 43)) #[.string ⟨#[]⟩, .string ⟨#[]⟩, .int .i64 0, .int .i64 0, .int .i64 0, .int .i64 0, .int .i64 0, .slice none 0 0] 34
    rw [World.size_alloc] at hd
    rw [hwA]; exact hd
  go_enter Tryz.func7, Tryz.ntmps7
  go_wp2_with fail
  obtain ⟨zb, hzb⟩ : ∃ zb, zb = w.heap.size + 1 := ⟨_, rfl⟩
  rw [← hwA, ← hzb]
  rw [← hzb] at HZA
  have hzl : w.heap.size < zb := by omega
  have hzl2 : zb < w.heap.size + 2 := by omega
  have hzle : w.heap.size ≤ zb := by omega
  clear hwA hzb
  refine (sAt (x, es) ao0 cap0 ao1 cap1 ao2 cap2 nm wA (he.later hbA)).mono ?_
  rintro e w1 ⟨rfl, hb1⟩
  rw [hzA] at hb1
  have hB1 := hbA.trans (hb1.mono (by omega))
  have hz1 : w.heap.size < w1.heap.size := by have := hb1.size; omega
  have HB1 := HBA.below hb1 (by omega)
  have z0 := HB1 0
  have z1 := HB1 1
  have z2 := HB1 2
  simp at z0 z1 z2
  have HI : (∃ k, ∃ hk : k < es.length, NoNm nm1 es nm k ∧ nm1 (es[k]'hk) = nm ∧ idxOf nm1 es nm = k) ∨ (NoNm nm1 es nm es.length ∧ idxOf nm1 es nm = -1) := by
    rcases idxTo_cases nm1 es nm es.length (Nat.le_refl _) with h1 | ⟨k, hk, h1, h2⟩
    · exact .inr ⟨h1, idxOf_none h1⟩
    · exact .inl ⟨k, hk, h1, h2, idxOf_hit h1 hk h2⟩
  have HI : Hid _ := HI
  generalize idxOf nm1 es nm = ix at *
  go_wp2_with fail
  refine (sBook (x, es) ao0 cap0 ao1 cap1 ao2 cap2 w1 (h.later hB1) (he.later hB1) hs).mono ?_
  rintro e w2 ⟨rfl, hb2⟩
  have hbel2 := hb1.trans (hb2.mono (by have := hb1.size; omega))
  clear hb2 hb1 HB1 z0 z1 z2 hz1
  have HZ2 := HZA.kept (hbel2.block _ hzl2) hbel2.size
  have hz5 : zb < w2.heap.size := HZ2.lt
  have hB7 := hbA.trans (hbel2.mono (by omega))
  by_cases g1 : BookOk (x, es)
  · rw [pb_yes g1]
    rcases HI.out with ⟨k, hk, hno, hnm, rfl⟩ | ⟨hno, rfl⟩
    · have hd : decide ((k : Int) < 0) = false := by simp
      have hkI : (k : Int) < (es.length : Int) := by omega
      have hv := ent_small hs hk
      obtain ⟨b, off, fo, fc, rfl, hok, p0, p1, q0, q1⟩ := elem_PlanEntry he hk
      have p0 := (hB7.cell (p := ⟨b, off + k * 2, none⟩) hok).trans p0
      have p1 := (hB7.cell (p := ⟨b, off + k * 2 + 1, none⟩) hok).trans p1
      have hok : b < w.heap.size := hok
      have hent : EntOk x (es[k]'hk) := (g1.2.2 k hk hk).1
      have hO : Hid (StdOf (x, es) nm (stdE x nm (es[k]'hk).2)) := .inr (.inr ⟨g1, k, hk, hno, hnm, rfl⟩)
      have hnm : (es[k]'hk).1 = nm := hnm
      obtain ⟨n, fs, hcur⟩ : ∃ n fs, es[k]'hk = (n, fs) := ⟨_, _, rfl⟩
      rw [hcur] at p0 p1 q1 hv hent hO hnm
      simp only at p0 p1 q1 hv hO hnm
      subst hnm
      have hent : Hid _ := hent
      have HB2 := HBA.below hbel2 (by omega)
      have y0 := HB2 0
      have y1 := HB2 1
      have y2 := HB2 2
      simp at y0 y1 y2
      clear hcur HI hno g1
      go_wp2
      obtain ⟨w8, hw8⟩ : ∃ w8 : World, w8 = w2.drew := ⟨_, rfl⟩
      have HC0 : CB w.heap.size b (off + k * 2) (.slice ao0 x.1.length cap0) (.slice ao1 x.2.length cap1) (.slice (some ⟨b, off, none⟩) es.length cap2) (.slice fo fs.length fc) n w8 := by
        rw [hw8]; exact ⟨y0, y1, y2, p0, p1⟩
      have hb8 : Below (w.heap.size + 2) wA w8 := by rw [hw8]; exact hbel2.drew
      have hm8 : w.heap.size + 2 ≤ w8.heap.size := by have := hb8.size; rw [hzA] at this; exact this
      clear y0 y1 y2 p0 p1 HB2 hbel2 hB7 HZ2 hz5
      refine wp_region_RC (CB w.heap.size b (off + k * 2) (.slice ao0 x.1.length cap0) (.slice ao1 x.2.length cap1) (.slice (some ⟨b, off, none⟩) es.length cap2) (.slice fo fs.length fc) n) mixedS ?_
      rw [← hw8]
      clear hw8
      refine RC.take (i := 0) (v := .agg #[.slice ao0 x.1.length cap0, .slice ao1 x.2.length cap1, .slice (some ⟨b, off, none⟩) es.length cap2]) rfl (by kernel_rfl) (by kernel_rfl) (by kernel_rfl) (fun _ _ _ h => h) HC0 (by kernel_rfl) ?y1 ?r1
      case y1 => (intro W hW; obtain ⟨q0, q1, q2, q3, q4⟩ := hW; clear HC0; go_simp)
      refine RC.take (i := 1) (v := .pointer (some ⟨w.heap.size, 2, none⟩)) rfl (by kernel_rfl) (by kernel_rfl) (by kernel_rfl) (fun _ _ _ h => h) HC0 (by kernel_rfl) ?y2 ?r2
      case y2 => (intro W hW; obtain ⟨q0, q1, q2, q3, q4⟩ := hW; clear HC0; go_simp)
      refine RC.take (i := 2) (v := .slice (some ⟨b, off, none⟩) es.length cap2) rfl (by kernel_rfl) (by kernel_rfl) (by kernel_rfl) (fun _ _ _ h => h) HC0 (by kernel_rfl) ?y3 ?r3
      case y3 => (intro W hW; obtain ⟨q0, q1, q2, q3, q4⟩ := hW; clear HC0; go_simp)
      refine RC.take (i := 3) (v := .int .i64 k) rfl (by kernel_rfl) (by kernel_rfl) (by kernel_rfl) (fun _ _ _ h => h) HC0 (by kernel_rfl) ?y4 ?r4
      case y4 => (intro W hW; obtain ⟨q0, q1, q2, q3, q4⟩ := hW; clear HC0; go_simp)
      refine RC.take (i := 4) (v := .pointer (some ⟨b, off + k * 2, none⟩)) rfl (by kernel_rfl) (by kernel_rfl) (by kernel_rfl) (fun _ _ _ h => h) HC0 (by kernel_rfl) ?y5 ?r5
      case y5 => (intro W hW; obtain ⟨q0, q1, q2, q3, q4⟩ := hW; clear HC0; go_simp)
      refine RC.take (i := 5) (v := .agg #[.string n, .slice fo fs.length fc]) rfl (by kernel_rfl) (by kernel_rfl) (by kernel_rfl) (fun _ _ _ h => h) HC0 (by kernel_rfl) ?y6 ?r6
      case y6 => (intro W hW; obtain ⟨q0, q1, q2, q3, q4⟩ := hW; clear HC0; go_simp)
      refine RC.want (i := 6) (by kernel_rfl) rfl (by kernel_rfl) (fun K hK => ?_)
      go_simp
      have hB8 := hbA.trans (hb8.mono (by omega))
      refine (sEntryStands x es ao0 cap0 ao1 cap1 (some ⟨b, off, none⟩) cap2 n fs fo fc w8 (h.later hB8) hent.out (q1.later hB8) hv).mono ?_
      rintro e w9 ⟨ar, cr, rfl, hT, hw, hq⟩
      simp only
      have HC9 := HC0.kept (hq.block _ (by omega)) (hq.block _ (by omega))
      refine hK _ _ HC9 ?_
      have hb9 := hb8.trans (hq.mono hm8)
      have HZ9 := HZA.kept (hb9.block _ hzl2) hb9.size
      have hB7 := hbA.trans (hb9.mono (by omega))
      have hz5 : zb < w9.heap.size := HZ9.lt
      clear hK K HC0 hb8 hm8 hq hB8 HZA HBA q1 he h
      have HC0 := HC9
      clear HC9
      generalize stdE x n fs = o at *
      obtain ⟨⟨o0, ⟨o1, o2, o3⟩, o4, o5, o6, o7⟩, ob⟩ := o
      unfold flV
      simp only at hT hw hO ⊢
      have hTe : Hid (∀ W, (∀ b, b ≠ zb → W.heap[b]? = w9.heap[b]?) → w9.heap.size ≤ W.heap.size → TxtAt W ar o7) := fun W hW hz => by
        rcases hT with h0 | ⟨g4, e4, hg4, hc4⟩
        · exact .inl h0
        · by_cases hl : 0 < o7.length
          · have hne : g4 ≠ zb := fun e => by
              have hz0 := HZ9.c 0
              rw [← e, hc4 0 hl] at hz0
              simp at hz0
              exact hw hl hz0
            exact .inr ⟨g4, e4, Nat.lt_of_lt_of_le hg4 hz, fun i hi => (World.cell?_of_block (w := w9) (hW g4 hne)).trans (hc4 i hi)⟩
          · exact .inl (List.length_eq_zero_iff.1 (by omega))
      have hw : Hid _ := hw
      have c0 := HZ9.c 0
      have f0 := HZ9.f 0
      have c1 := HZ9.c 1
      have f1 := HZ9.f 1
      have c2 := HZ9.c 2
      have f2 := HZ9.f 2
      have c3 := HZ9.c 3
      have f3 := HZ9.f 3
      have c4 := HZ9.c 4
      have f4 := HZ9.f 4
      have c5 := HZ9.c 5
      have f5 := HZ9.f 5
      have c6 := HZ9.c 6
      have f6 := HZ9.f 6
      have c7 := HZ9.c 7
      have f7 := HZ9.f 7
      simp at c0 c1 c2 c3 c4 c5 c6 c7
      clear HZ9 hT hb9 hent
      refine RC.take (i := 7) (v := .agg #[.string o0, .string o1, .int .i64 o2, .int .i64 o3, .int .i64 o4, .int .i64 o5, .int .i64 o6, .slice ar o7.length cr]) rfl (by kernel_rfl) (by kernel_rfl) (by kernel_rfl) (fun _ _ _ h => h) HC0 (by kernel_rfl) ?y7 ?r7
      case y7 => (intro W hW; obtain ⟨q0, q1, q2, q3, q4⟩ := hW; clear HC0; go_simp)
      refine RC.take (i := 8) (v := .bool ob) rfl (by kernel_rfl) (by kernel_rfl) (by kernel_rfl) (fun _ _ _ h => h) HC0 (by kernel_rfl) ?y8 ?r8
      case y8 => (intro W hW; obtain ⟨q0, q1, q2, q3, q4⟩ := hW; clear HC0; go_simp)
      refine RC.want (i := 9) (by kernel_rfl) rfl (by kernel_rfl) (fun K hK => ?_)
      go_simp
      refine hK _ _ ?hcz ?hrest
      case hcz =>
        have n1 : w.heap.size ≠ zb := by omega
        have n2 : b ≠ zb := by omega
        refine HC0.kept ?_ ?_
        · rw [Below.heap_setCell _ _ _ _ n1, Below.heap_setCell _ _ _ _ n1, Below.heap_setCell _ _ _ _ n1, Below.heap_setCell _ _ _ _ n1, Below.heap_setCell _ _ _ _ n1, Below.heap_setCell _ _ _ _ n1, Below.heap_setCell _ _ _ _ n1, Below.heap_setCell _ _ _ _ n1]
        · rw [Below.heap_setCell _ _ _ _ n2, Below.heap_setCell _ _ _ _ n2, Below.heap_setCell _ _ _ _ n2, Below.heap_setCell _ _ _ _ n2, Below.heap_setCell _ _ _ _ n2, Below.heap_setCell _ _ _ _ n2, Below.heap_setCell _ _ _ _ n2, Below.heap_setCell _ _ _ _ n2]
      clear hK K
      refine RC.want (i := 10) (by kernel_rfl) rfl (by kernel_rfl) (fun K hK => ?_)
      go_simp
      refine hK _ _ ?hczb ?hrestb
      case hczb =>
        have n1 : w.heap.size ≠ zb := by omega
        have n2 : b ≠ zb := by omega
        refine HC0.kept ?_ ?_
        · rw [Below.heap_setCell _ _ _ _ n1, Below.heap_setCell _ _ _ _ n1, Below.heap_setCell _ _ _ _ n1, Below.heap_setCell _ _ _ _ n1, Below.heap_setCell _ _ _ _ n1, Below.heap_setCell _ _ _ _ n1, Below.heap_setCell _ _ _ _ n1, Below.heap_setCell _ _ _ _ n1]
        · rw [Below.heap_setCell _ _ _ _ n2, Below.heap_setCell _ _ _ _ n2, Below.heap_setCell _ _ _ _ n2, Below.heap_setCell _ _ _ _ n2, Below.heap_setCell _ _ _ _ n2, Below.heap_setCell _ _ _ _ n2, Below.heap_setCell _ _ _ _ n2, Below.heap_setCell _ _ _ _ n2]
      clear hK K
      clear HC0
      refine RC.done (by kernel_rfl) ?_
      go_wp2
      refine bodyPost_ret (v := .tuple #[flV (o0, (o1, o2, o3), o4, o5, o6, o7) (.slice ar o7.length cr), .bool ob]) (by simp [results, Tryz.results7, go_sem, flV, c0, c1, c2, c3, c4, c5, c6, c7, hz5]; try rfl) rfl ?_
      refine ⟨_, hO.out, ar, cr, rfl, hTe.out _ (fun b hne => ?_) ?_, hw.out, ((((((((hB7.setCell hzle _).setCell hzle _).setCell hzle _).setCell hzle _).setCell hzle _).setCell hzle _).setCell hzle _).setCell hzle _)⟩
      · rw [Below.heap_setCell _ _ _ _ hne, Below.heap_setCell _ _ _ _ hne, Below.heap_setCell _ _ _ _ hne, Below.heap_setCell _ _ _ _ hne, Below.heap_setCell _ _ _ _ hne, Below.heap_setCell _ _ _ _ hne, Below.heap_setCell _ _ _ _ hne, Below.heap_setCell _ _ _ _ hne]
      · simp
    · have hO : Hid (StdOf (x, es) nm (zF, false)) := .inr (.inl ⟨g1, hno, rfl⟩)
      clear HI hno g1 HZA HBA hbel2
      have c0 := HZ2.c 0
      have f0 := HZ2.f 0
      have c1 := HZ2.c 1
      have f1 := HZ2.f 1
      have c2 := HZ2.c 2
      have f2 := HZ2.f 2
      have c3 := HZ2.c 3
      have f3 := HZ2.f 3
      have c4 := HZ2.c 4
      have f4 := HZ2.f 4
      have c5 := HZ2.c 5
      have f5 := HZ2.f 5
      have c6 := HZ2.c 6
      have f6 := HZ2.f 6
      have c7 := HZ2.c 7
      have f7 := HZ2.f 7
      simp at c0 c1 c2 c3 c4 c5 c6 c7
      clear HZ2
      go_wp2
      refine bodyPost_ret (v := .tuple #[flV zF (.slice none 0 0), .bool false]) (by simp [results, Tryz.results7, go_sem, flV, zF, c0, c1, c2, c3, c4, c5, c6, c7, hz5]; try rfl) rfl ?_
      exact ⟨(zF, false), hO.out, none, 0, rfl, .inl rfl, fun h0 => absurd h0 (by decide), ((((((((hB7.setCell hzle _).setCell hzle _).setCell hzle _).setCell hzle _).setCell hzle _).setCell hzle _).setCell hzle _).setCell hzle _)⟩
  · rw [pb_no g1]
    have hO : Hid (StdOf (x, es) nm (zF, false)) := .inl ⟨g1, rfl⟩
    clear HI g1 HZA HBA hbel2
    have c0 := HZ2.c 0
    have f0 := HZ2.f 0
    have c1 := HZ2.c 1
    have f1 := HZ2.f 1
    have c2 := HZ2.c 2
    have f2 := HZ2.f 2
    have c3 := HZ2.c 3
    have f3 := HZ2.f 3
    have c4 := HZ2.c 4
    have f4 := HZ2.f 4
    have c5 := HZ2.c 5
    have f5 := HZ2.f 5
    have c6 := HZ2.c 6
    have f6 := HZ2.f 6
    have c7 := HZ2.c 7
    have f7 := HZ2.f 7
    simp at c0 c1 c2 c3 c4 c5 c6 c7
    clear HZ2
    go_wp2
    refine bodyPost_ret (v := .tuple #[flV zF (.slice none 0 0), .bool false]) (by simp [results, Tryz.results7, go_sem, flV, zF, c0, c1, c2, c3, c4, c5, c6, c7, hz5]; try rfl) rfl ?_
    exact ⟨(zF, false), hO.out, none, 0, rfl, .inl rfl, fun h0 => absurd h0 (by decide), ((((((((hB7.setCell hzle _).setCell hzle _).setCell hzle _).setCell hzle _).setCell hzle _).setCell hzle _).setCell hzle _).setCell hzle _)⟩

end Std
end Go.Proofs.YtgnjkpmbppmoeaaGreat
