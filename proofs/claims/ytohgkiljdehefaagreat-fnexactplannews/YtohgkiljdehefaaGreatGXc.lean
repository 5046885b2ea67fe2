/- DERIVED. spec.l13At, spec.l13Later, spec.l14Has: their walks (written by wip/tools/mk_bk2.py). -/
import Derived.Test.YtohgkiljdehefaaGreatBkS1
namespace Go.Proofs.YtohgkiljdehefaaGreat
open Go.RowKit Go.Sort
set_option linter.unusedSimpArgs false
set_option linter.unusedVariables false

abbrev nmE (e : DPlanEntry) : ByteArray := e.1
/-- A field is said behind another one. -/
def Later (a b : DPlanField) : Prop := b.2.1 < a.2.1 ∨ (a.2.1 = b.2.1 ∧ ¬ SLess a.2.2 b.2.2 ∧ ¬ a.2.2 = b.2.2)
/-- None of the first k fields says this. -/
def NoFld (fs : List DPlanField) (wh : Int) (k : Nat) : Prop := ∀ j (h : j < fs.length), j < k → ¬ (fs[j]'h).1 = wh
def HasFld (fs : List DPlanField) (f : DPlanField) : Prop := ∃ k, ∃ h : k < fs.length, NoFld fs f.1 k ∧ (fs[k]'h).1 = f.1 ∧ ¬ Later f (fs[k]'h)
def HasIt (es : List DPlanEntry) (n : ByteArray) (f : DPlanField) : Prop := ∃ k, ∃ h : k < es.length, NoNm nmE es n k ∧ nmE (es[k]'h) = n ∧ HasFld (es[k]'h).2 f

theorem NoFld.next {fs : List DPlanField} {wh : Int} {k : Nat} (h : NoFld fs wh k) (hk : k < fs.length) (h1 : ¬ (fs[k]'hk).1 = wh) : NoFld fs wh (k + 1) := fun j hj h2 => by
  by_cases e : j = k
  · subst e; exact h1
  · exact h j hj (by omega)
theorem first_one {α : Type} {p : α → Prop} {l : List α} {j k : Nat} (hj : j < l.length) (hk : k < l.length) (h1 : ∀ i (h : i < l.length), i < j → ¬ p (l[i]'h)) (h2 : ∀ i (h : i < l.length), i < k → ¬ p (l[i]'h)) (p1 : p (l[j]'hj)) (p2 : p (l[k]'hk)) : j = k := by
  by_cases a : j < k
  · exact absurd p1 (h2 j hj a)
  · by_cases b : k < j
    · exact absurd p2 (h1 k hk b)
    · omega
theorem hasFld_at {fs : List DPlanField} {f : DPlanField} {k : Nat} (hk : k < fs.length) (h1 : NoFld fs f.1 k) (h2 : (fs[k]'hk).1 = f.1) : HasFld fs f ↔ ¬ Later f (fs[k]'hk) := by
  refine ⟨fun ⟨j, hj, a1, a2, a3⟩ => ?_, fun h => ⟨k, hk, h1, h2, h⟩⟩
  have e : j = k := first_one (p := fun g : DPlanField => g.1 = f.1) hj hk a1 h1 a2 h2
  subst e
  exact a3
theorem hasFld_no {fs : List DPlanField} {f : DPlanField} (h : NoFld fs f.1 fs.length) : ¬ HasFld fs f := fun ⟨k, hk, _, a2, _⟩ => h k hk hk a2
theorem hasIt_at {es : List DPlanEntry} {n : ByteArray} {f : DPlanField} {k : Nat} (hk : k < es.length) (h1 : NoNm nmE es n k) (h2 : nmE (es[k]'hk) = n) : HasIt es n f ↔ HasFld (es[k]'hk).2 f := by
  refine ⟨fun ⟨j, hj, a1, a2, a3⟩ => ?_, fun h => ⟨k, hk, h1, h2, h⟩⟩
  have e : j = k := first_one (p := fun g : DPlanEntry => nmE g = n) hj hk a1 h1 a2 h2
  subst e
  exact a3
theorem hasIt_no {es : List DPlanEntry} {n : ByteArray} {f : DPlanField} (h : NoNm nmE es n es.length) : ¬ HasIt es n f := fun ⟨k, hk, _, a2, _⟩ => h k hk hk a2

set_option maxRecDepth 100000 in
set_option maxHeartbeats 2000000 in
theorem sAt (bk : DPlanBook) (ao0 : Option Addr) (cap0 : Nat) (ao1 : Option Addr) (cap1 : Nat) (ao2 : Option Addr) (cap2 : Nat) (v : ByteArray) (w : World) (hs : SliceAt vPlanEntry (old w) w ao2 cap2 bk.2) :
    Calls Tryz.prog 35 #[.agg #[.slice ao0 bk.1.1.length cap0, .slice ao1 bk.1.2.length cap1, .slice ao2 bk.2.length cap2], .string v] w fun e w' => e = .returned (.int .i64 (idxOf nmE bk.2 v)) ∧ Below w.heap.size w w' := by
  obtain ⟨x, es⟩ := bk
  simp only at *
  have hcm : es.length ≤ 9223372036854775807 := Nat.le_trans hs.1 hs.2.1
  have hb0 : Below w.heap.size w (w.alloc (.cells #[.slice ao0 x.1.length cap0, .slice ao1 x.2.length cap1, .slice ao2 es.length cap2] 38)) := (Below.refl _ _).alloc (Nat.le_refl _) _
  have HB0 := BxC.new w #[.slice ao0 x.1.length cap0, .slice ao1 x.2.length cap1, .slice ao2 es.length cap2] 38
  have x2 := HB0 2
  simp at x2
  go_enter Tryz.func35, Tryz.ntmps35
  go_wp2
  go_loop [5] (fun i => ∃ k : Nat, k ≤ es.length ∧ i = .int .i64 k ∧ Hid (NoNm nmE es v k)) (fun i => es.length - (intOf i).toNat)
  case atStart => exact ⟨0, Nat.zero_le _, rfl, fun j _ hj => by omega⟩
  case round =>
    obtain ⟨k, hk, rfl, hpre⟩ := hrel
    by_cases hlt : k < es.length
    · obtain ⟨b, off, fo, fc, rfl, hok, c0, c1, q0, _⟩ := elem_PlanEntry hs hlt
      have f0 := (hb0.cell (p := ⟨b, off + k * 2, none⟩) hok).trans c0
      clear c0 c1
      have hbw : b < w.heap.size := hok
      have hkI : (k : Int) < (es.length : Int) := by omega
      have HY : Hid ((es[k]'hlt).1 = v → idxOf nmE es v = k) := fun e => idxOf_hit hpre.out hlt e
      have HN : Hid (¬ (es[k]'hlt).1 = v → NoNm nmE es v (k + 1)) := fun e => hpre.out.next hlt e
      clear hpre q0 hs
      generalize (es[k]'hlt).1 = n at *
      by_cases hq : n = v
      · have HR : Hid (idxOf nmE es v = k) := HY.out hq
        have hqb : (n.toList == v.toList) = true := beqL.2 hq
        clear HY HN hq
        go_wp2
        go_ret
        exact ⟨by rw [HR.out]; rfl, hb0⟩
      · have HN1 : Hid (NoNm nmE es v (k + 1)) := HN.out hq
        have hqb : (n.toList == v.toList) = false := beqL_no hq
        clear HY HN hq
        go_wp2
        go_round
        case rel => exact ⟨k + 1, by omega, by go_num, HN1⟩
        case measure => simp [intOf]; omega
    · have hke : k = es.length := by omega
      subst hke
      have HR : Hid (idxOf nmE es v = -1) := idxOf_none hpre.out
      clear hpre
      go_wp2
      go_ret
      exact ⟨by rw [HR.out]; rfl, hb0⟩

set_option maxRecDepth 100000 in
set_option maxHeartbeats 2000000 in
theorem sLater (a b : DPlanField) (w : World) :
    Calls Tryz.prog 36 #[.agg #[.int .i64 a.1, .int .i64 a.2.1, .string a.2.2], .agg #[.int .i64 b.1, .int .i64 b.2.1, .string b.2.2]] w fun e w' => e = .returned (.bool (pb (Later a b))) ∧ Below w.heap.size w w' := by
  obtain ⟨a0, a1, a2⟩ := a
  obtain ⟨b0, b1, b2⟩ := b
  simp only
  have hb0 : Below w.heap.size w ((w.alloc (.cells #[.int .i64 a0, .int .i64 a1, .string a2] 52)).alloc (.cells #[.int .i64 b0, .int .i64 b1, .string b2] 52)) := ((Below.refl _ _).alloc (Nat.le_refl _) _).alloc (by simp) _
  by_cases e : a1 = b1
  · have he : (a1 == b1) = true := beq_iff_eq.2 e
    by_cases l : ¬ SLess a2 b2 ∧ ¬ a2 = b2
    · have hlb : Op.bytesLess a2.toList b2.toList = false := by have := l.1; unfold SLess at this; simpa using this
      have hlc : (a2.toList == b2.toList) = false := beqL_no l.2
      have HR : Hid (pb (Later (a0, a1, a2) (b0, b1, b2)) = true) := pb_yes (.inr ⟨e, l⟩)
      clear l e
      go_enter Tryz.func36, Tryz.ntmps36
      go_wp2
      go_ret
      exact ⟨by rw [HR.out]; rfl, hb0⟩
    · have hlb : (!Op.bytesLess a2.toList b2.toList && !(a2.toList == b2.toList)) = false := by
        by_cases l1 : SLess a2 b2
        · rw [show Op.bytesLess a2.toList b2.toList = true from l1]; rfl
        · have l2 : a2 = b2 := Classical.byContradiction fun h => l ⟨l1, h⟩
          rw [beqL.2 l2]; simp
      have HR : Hid (pb (Later (a0, a1, a2) (b0, b1, b2)) = false) := pb_no (fun h => by
        rcases h with h | h
        · have h : b1 < a1 := h
          omega
        · exact l h.2)
      clear l e
      go_enter Tryz.func36, Tryz.ntmps36
      go_wp2
      go_ret
      exact ⟨by rw [HR.out, ← hlb]; rfl, hb0⟩
  · have he : (a1 == b1) = false := beq_eq_false_iff_ne.2 e
    by_cases l : b1 < a1
    · have hl : decide (b1 < a1) = true := by simpa using l
      have HR : Hid (pb (Later (a0, a1, a2) (b0, b1, b2)) = true) := pb_yes (.inl l)
      go_enter Tryz.func36, Tryz.ntmps36
      go_wp2
      go_ret
      exact ⟨by rw [HR.out]; rfl, hb0⟩
    · have hl : decide (b1 < a1) = false := by simpa using l
      have HR : Hid (pb (Later (a0, a1, a2) (b0, b1, b2)) = false) := pb_no (fun h => by
        rcases h with h | h
        · exact l h
        · exact e h.1)
      clear l
      go_enter Tryz.func36, Tryz.ntmps36
      go_wp2
      go_ret
      exact ⟨by rw [HR.out]; rfl, hb0⟩

end Go.Proofs.YtohgkiljdehefaaGreat

/- DERIVED. spec.l14Has: its walk (written by wip/tools/mk_bk2.py). -/
namespace Go.Proofs.YtohgkiljdehefaaGreat
open Go.RowKit Go.Sort
set_option linter.unusedSimpArgs false
set_option linter.unusedVariables false

set_option maxRecDepth 100000 in
set_option maxHeartbeats 4000000 in
theorem sHas (bk : DPlanBook) (ao0 : Option Addr) (cap0 : Nat) (ao1 : Option Addr) (cap1 : Nat) (ao2 : Option Addr) (cap2 : Nat) (v : ByteArray) (f : DPlanField) (w : World) (hs : SliceAt vPlanEntry (old w) w ao2 cap2 bk.2) :
    Calls Tryz.prog 16 #[.agg #[.slice ao0 bk.1.1.length cap0, .slice ao1 bk.1.2.length cap1, .slice ao2 bk.2.length cap2], .string v, .agg #[.int .i64 f.1, .int .i64 f.2.1, .string f.2.2]] w fun e w' => e = .returned (.bool (pb (HasIt bk.2 v f))) ∧ Below w.heap.size w w' := by
  obtain ⟨x, es⟩ := bk
  obtain ⟨fw, fnu, fv⟩ := f
  simp only at *
  have hcm : es.length ≤ 9223372036854775807 := Nat.le_trans hs.1 hs.2.1
  have hb0 : Below w.heap.size w ((w.alloc (.cells #[.slice ao0 x.1.length cap0, .slice ao1 x.2.length cap1, .slice ao2 es.length cap2] 38)).alloc (.cells #[.int .i64 fw, .int .i64 fnu, .string fv] 52)) := ((Below.refl _ _).alloc (Nat.le_refl _) _).alloc (by simp) _
  have HB0 : BxC w.heap.size #[.slice ao0 x.1.length cap0, .slice ao1 x.2.length cap1, .slice ao2 es.length cap2] ((w.alloc (.cells #[.slice ao0 x.1.length cap0, .slice ao1 x.2.length cap1, .slice ao2 es.length cap2] 38)).alloc (.cells #[.int .i64 fw, .int .i64 fnu, .string fv] 52)) := (BxC.new w _ _).below ((Below.refl (w.heap.size + 1) _).alloc (by simp) _) (by omega)
  have HC0 := BxC.new (w.alloc (.cells #[.slice ao0 x.1.length cap0, .slice ao1 x.2.length cap1, .slice ao2 es.length cap2] 38)) #[.int .i64 fw, .int .i64 fnu, .string fv] 52
  rw [World.size_alloc] at HC0
  have hz0 : ((w.alloc (.cells #[.slice ao0 x.1.length cap0, .slice ao1 x.2.length cap1, .slice ao2 es.length cap2] 38)).alloc (.cells #[.int .i64 fw, .int .i64 fnu, .string fv] 52)).heap.size = w.heap.size + 2 := by simp
  go_enter Tryz.func16, Tryz.ntmps16
  go_wp2_with fail
  refine (sAt (x, es) ao0 cap0 ao1 cap1 ao2 cap2 v _ (hs.later hb0)).mono ?_
  rintro e w1 ⟨rfl, hb1⟩
  have hbel1 : Below (w.heap.size + 2) ((w.alloc (.cells #[.slice ao0 x.1.length cap0, .slice ao1 x.2.length cap1, .slice ao2 es.length cap2] 38)).alloc (.cells #[.int .i64 fw, .int .i64 fnu, .string fv] 52)) w1 := hb1.mono (by rw [hz0]; exact Nat.le_refl _)
  clear hb1
  simp only
  rcases idxTo_cases nmE es v es.length (Nat.le_refl _) with hno | ⟨j, hj, hno, hat⟩
  · rw [idxOf_none hno]
    have HR : Hid (pb (HasIt es v (fw, fnu, fv)) = false) := pb_no (hasIt_no hno)
    clear hno
    go_wp2
    go_loopw [8] (fun i wr => i = .int .i64 0 ∧ Below (w.heap.size + 2) ((w.alloc (.cells #[.slice ao0 x.1.length cap0, .slice ao1 x.2.length cap1, .slice ao2 es.length cap2] 38)).alloc (.cells #[.int .i64 fw, .int .i64 fnu, .string fv] 52)) wr) (fun i _ => 0)
    case atStart => exact ⟨rfl, hbel1⟩
    case round =>
      obtain ⟨rfl, hbel⟩ := hrel
      have hB := hb0.trans (hbel.mono (by omega))
      go_wp2
      go_ret
      exact ⟨by rw [HR.out]; rfl, hB⟩
  · rw [idxOf_hit hno hj hat]
    have HI : Hid (HasIt es v (fw, fnu, fv) ↔ HasFld (es[j]'hj).2 (fw, fnu, fv)) := hasIt_at hj hno hat
    clear hno hat
    obtain ⟨b, off, fo, fc, rfl, hok, c0, c1, q0, q1⟩ := elem_PlanEntry hs hj
    have hok : b < w.heap.size := hok
    have hjI : (j : Int) < (es.length : Int) := by omega
    have hj0 : decide ((0 : Int) ≤ (j : Int)) = true := by simp
    clear c0 q0 hs
    generalize (es[j]'hj).2 = fs at *
    have hfm : fs.length ≤ 9223372036854775807 := Nat.le_trans q1.1 q1.2.1
    go_wp2
    go_loopw [8] (fun i wr => ∃ k : Nat, k ≤ fs.length ∧ i = .int .i64 k ∧ Hid (NoFld fs fw k) ∧ Below (w.heap.size + 2) ((w.alloc (.cells #[.slice ao0 x.1.length cap0, .slice ao1 x.2.length cap1, .slice (some ⟨b, off, none⟩) es.length cap2] 38)).alloc (.cells #[.int .i64 fw, .int .i64 fnu, .string fv] 52)) wr) (fun i _ => fs.length - (intOf i).toNat)
    case atStart => exact ⟨0, Nat.zero_le _, rfl, fun j _ hj => by omega, hbel1⟩
    case round =>
      clear hbel1
      obtain ⟨k, hk, rfl, hpre, hbel⟩ := hrel
      have hB := hb0.trans (hbel.mono (by omega))
      have HB := HB0.below hbel (by omega)
      have HC := HC0.below hbel (by omega)
      have hbs : w.heap.size + 2 ≤ wr.heap.size := by have := hbel.size; rw [hz0] at this; exact this
      have hsz : w.heap.size + 1 < wr.heap.size := by omega
      have hsz0 : w.heap.size < wr.heap.size := by omega
      have z2 := HB 2
      simp at z2
      have c1' := (hB.cell (p := ⟨b, off + j * 2 + 1, none⟩) hok).trans c1
      by_cases hlt : k < fs.length
      · obtain ⟨b2, off2, rfl, hok2, d0, d1, d2, _⟩ := elem_PlanField q1 hlt
        have hok2 : b2 < w.heap.size := hok2
        have f0 := (hB.cell (p := ⟨b2, off2 + k * 3, none⟩) hok2).trans d0
        have f1 := (hB.cell (p := ⟨b2, off2 + k * 3 + 1, none⟩) hok2).trans d1
        have f2 := (hB.cell (p := ⟨b2, off2 + k * 3 + 2, none⟩) hok2).trans d2
        clear d0 d1 d2
        have hkI : (k : Int) < (fs.length : Int) := by omega
        have hkd : decide ((k : Int) < (fs.length : Int)) = true := by simp; omega
        obtain ⟨wh, nu, vv, hcur⟩ : ∃ a b c, fs[k]'hlt = (a, b, c) := ⟨_, _, _, rfl⟩
        have HY : Hid (wh = fw → (HasFld fs (fw, fnu, fv) ↔ ¬ Later (fw, fnu, fv) (wh, nu, vv))) := fun e => by
          have := hasFld_at (f := (fw, fnu, fv)) hlt hpre.out (by rw [hcur]; exact e)
          rw [hcur] at this
          exact this
        have HN : Hid (¬ wh = fw → NoFld fs fw (k + 1)) := fun e => hpre.out.next hlt (by rw [hcur]; exact e)
        rw [hcur] at f0 f1 f2
        simp only at f0 f1 f2
        clear hcur hpre
        have y0 := HC 0
        have y1 := HC 1
        have y2 := HC 2
        simp at y0 y1 y2
        have hbel1 : Below (w.heap.size + 2) ((w.alloc (.cells #[.slice ao0 x.1.length cap0, .slice ao1 x.2.length cap1, .slice (some ⟨b, off, none⟩) es.length cap2] 38)).alloc (.cells #[.int .i64 fw, .int .i64 fnu, .string fv] 52)) (wr.alloc (.cells #[.int .i64 wh, .int .i64 nu, .string vv] 52)) := hbel.alloc hbs _
        have hB1 := hb0.trans (hbel1.mono (by omega))
        clear HB HC
        by_cases hq : wh = fw
        · have hqb : (wh == fw) = true := beq_iff_eq.2 hq
          have HR : Hid (pb (HasIt es v (fw, fnu, fv)) = !pb (Later (fw, fnu, fv) (wh, nu, vv))) := by
            show _ = _
            rw [pb_same HI.out, pb_same (HY.out hq)]
            by_cases hl : Later (fw, fnu, fv) (wh, nu, vv)
            · rw [pb_yes hl, pb_no (fun h => h hl)]; rfl
            · rw [pb_no hl, pb_yes hl]; rfl
          clear HI HY HN hq
          go_wp2_with fail
          refine (sLater (fw, fnu, fv) (wh, nu, vv) _).mono ?_
          rintro e w2 ⟨rfl, hb2⟩
          have hB2 := hB1.trans (hb2.mono hB1.size)
          go_wp2
          go_ret
          exact ⟨by rw [HR.out]; rfl, hB2⟩
        · have hqb : (wh == fw) = false := beq_eq_false_iff_ne.2 hq
          have HN1 : Hid (NoFld fs fw (k + 1)) := HN.out hq
          clear HI HY HN hq
          go_wp2
          go_roundw
          case rel => exact ⟨k + 1, by omega, by go_num, HN1, hbel1⟩
          case measure => simp [intOf]; omega
      · have hkd : decide ((k : Int) < (fs.length : Int)) = false := by simp; omega
        have HR : Hid (pb (HasIt es v (fw, fnu, fv)) = false) := by
          show _ = _
          rw [pb_same HI.out]
          exact pb_no (hasFld_no ((show k = fs.length by omega) ▸ hpre.out))
        clear hpre HI
        go_wp2
        go_ret
        exact ⟨by rw [HR.out]; rfl, hB⟩

end Go.Proofs.YtohgkiljdehefaaGreat
