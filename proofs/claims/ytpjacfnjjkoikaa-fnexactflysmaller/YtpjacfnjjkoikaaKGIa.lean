/- DERIVED. Kinds, ticks, steps of flying: the program's small functions, walked. -/
import Derived.Test.YtpjacfnjjkoikaaKFyD
import Derived.Test.YtpjacfnjjkoikaaKNm0
import Derived.Test.YtpjacfnjjkoikaaKNd0
namespace Go.Proofs.Ytpjacfnjjkoikaa
namespace Fly
open Go.RowKit
set_option linter.unusedSimpArgs false
set_option linter.unusedVariables false

theorem iKind (k : DFlyKind) (w : World) :
    Calls Try.prog 89 #[vKi k] w fun e w' => e = .returned (.bool (pb (KindOk k))) ∧ Below w.heap.size w w' := by
  obtain ⟨q, s⟩ := k
  simp only [vKi]
  have HB : Below w.heap.size w (w.alloc (.cells #[.int .i64 q, .int .i64 s] 31)) := (Below.refl _ _).alloc (Nat.le_refl _) _
  by_cases h1 : 1 ≤ q
  · by_cases h2 : q ≤ s
    · by_cases h3 : s ≤ 50
      · have HR : Hid (pb (KindOk (q, s)) = true) := pb_yes ⟨h1, h2, h3⟩
        go_enter Try.func89, Try.ntmps89
        go_wp2
        go_ret
        exact ⟨by rw [HR.out]; simp [h1, h2, h3], HB⟩
      · have HR : Hid (pb (KindOk (q, s)) = false) := pb_no fun h => h3 h.2.2
        go_enter Try.func89, Try.ntmps89
        go_wp2
        go_ret
        exact ⟨by rw [HR.out]; simp; try omega, HB⟩
    · have HR : Hid (pb (KindOk (q, s)) = false) := pb_no fun h => h2 h.2.1
      go_enter Try.func89, Try.ntmps89
      go_wp2
      go_ret
      exact ⟨by rw [HR.out]; simp; try omega, HB⟩
  · have HR : Hid (pb (KindOk (q, s)) = false) := pb_no fun h => h1 h.1
    go_enter Try.func89, Try.ntmps89
    go_wp2
    go_ret
    exact ⟨by rw [HR.out]; simp; try omega, HB⟩

theorem iTicks (a b : Int) (w : World) :
    Calls Try.prog 94 #[.int .i64 a, .int .i64 b] w fun e w' => e = .returned (.bool (pb (TicksOk a b))) ∧ w = w' := by
  by_cases h1 : 0 ≤ a
  · by_cases h2 : a ≤ b
    · by_cases h3 : b ≤ 10000
      · have HR : Hid (pb (TicksOk a b) = true) := pb_yes ⟨h1, h2, h3⟩
        go_enter Try.func94, Try.ntmps94
        go_wp2
        go_ret
        exact ⟨by rw [HR.out]; simp [h1, h2, h3], rfl⟩
      · have HR : Hid (pb (TicksOk a b) = false) := pb_no fun h => h3 h.2.2
        go_enter Try.func94, Try.ntmps94
        go_wp2
        go_ret
        exact ⟨by rw [HR.out]; simp; try omega, rfl⟩
    · have HR : Hid (pb (TicksOk a b) = false) := pb_no fun h => h2 h.2.1
      go_enter Try.func94, Try.ntmps94
      go_wp2
      go_ret
      exact ⟨by rw [HR.out]; simp; try omega, rfl⟩
  · have HR : Hid (pb (TicksOk a b) = false) := pb_no fun h => h1 h.1
    go_enter Try.func94, Try.ntmps94
    go_wp2
    go_ret
    exact ⟨by rw [HR.out]; simp; try omega, rfl⟩

theorem ticks_b (a b : Int) (w : World) (v : Bool) (h : pb (TicksOk a b) = v) :
    Calls Try.prog 94 #[.int .i64 a, .int .i64 b] w fun e w' => e = .returned (.bool v) ∧ w = w' := h ▸ iTicks a b w

set_option maxHeartbeats 1000000 in
theorem iStep (s : DFlyStep) (w : World) :
    Calls Try.prog 91 #[vSt s] w fun e w' => e = .returned (.bool (pb (StepOk s))) ∧ Below w.heap.size w w' := by
  obtain ⟨x, y, lo, hi, fr, up, hd⟩ := s
  simp only [vSt, cSt]
  have HB : Below w.heap.size w (w.alloc (.cells #[.int .i64 x, .int .i64 y, .int .i64 lo, .int .i64 hi, .int .i64 fr, .int .i64 up, .bool hd] 76)) := (Below.refl _ _).alloc (Nat.le_refl _) _
  by_cases h1 : InR x 0 15
  · by_cases h2 : InR y 0 15
    · by_cases h3 : 0 ≤ lo
      · by_cases h4 : lo ≤ hi
        · by_cases h5 : hi ≤ 6
          · obtain ⟨v, hv⟩ : ∃ v, pb (TicksOk fr up) = v := ⟨_, rfl⟩
            have HR : Hid (pb (StepOk (x, y, lo, hi, fr, up, hd)) = v) := by
              show _ = _
              rw [← hv]
              exact pb_same ⟨fun h => h.2.2.2.2.2, fun h => ⟨h1, h2, h3, h4, h5, h⟩⟩
            go_enter Try.func91, Try.ntmps91
            go_wp2_with (first | (go_at_call 90; refine (from_yes _ _ _ _ (by assumption)).mono ?_; rintro e w' ⟨rfl, rfl⟩) | (go_at_call 94; refine (ticks_b _ _ _ _ hv).mono ?_; rintro e w' ⟨rfl, rfl⟩))
            go_ret
            exact ⟨by rw [HR.out]; simp [h3, h4, h5], HB⟩
          · have HR : Hid (pb (StepOk (x, y, lo, hi, fr, up, hd)) = false) := pb_no fun h => h5 h.2.2.2.2.1
            go_enter Try.func91, Try.ntmps91
            go_wp2_with (go_at_call 90; refine (from_yes _ _ _ _ (by assumption)).mono ?_; rintro e w' ⟨rfl, rfl⟩)
            go_ret
            exact ⟨by rw [HR.out]; simp; try omega, HB⟩
        · have HR : Hid (pb (StepOk (x, y, lo, hi, fr, up, hd)) = false) := pb_no fun h => h4 h.2.2.2.1
          go_enter Try.func91, Try.ntmps91
          go_wp2_with (go_at_call 90; refine (from_yes _ _ _ _ (by assumption)).mono ?_; rintro e w' ⟨rfl, rfl⟩)
          go_ret
          exact ⟨by rw [HR.out]; simp; try omega, HB⟩
      · have HR : Hid (pb (StepOk (x, y, lo, hi, fr, up, hd)) = false) := pb_no fun h => h3 h.2.2.1
        go_enter Try.func91, Try.ntmps91
        go_wp2_with (go_at_call 90; refine (from_yes _ _ _ _ (by assumption)).mono ?_; rintro e w' ⟨rfl, rfl⟩)
        go_ret
        exact ⟨by rw [HR.out]; simp; try omega, HB⟩
    · have HR : Hid (pb (StepOk (x, y, lo, hi, fr, up, hd)) = false) := pb_no fun h => h2 h.2.1
      go_enter Try.func91, Try.ntmps91
      go_wp2_with (first | (go_at_call 90; refine (from_yes _ _ _ _ (by assumption)).mono ?_; rintro e w' ⟨rfl, rfl⟩) | (go_at_call 90; refine (from_no _ _ _ _ (by assumption)).mono ?_; rintro e w' ⟨rfl, rfl⟩))
      go_ret
      exact ⟨by rw [HR.out]; first | rfl | simp, HB⟩
  · have HR : Hid (pb (StepOk (x, y, lo, hi, fr, up, hd)) = false) := pb_no fun h => h1 h.1
    go_enter Try.func91, Try.ntmps91
    go_wp2_with (go_at_call 90; refine (from_no _ _ _ _ (by assumption)).mono ?_; rintro e w' ⟨rfl, rfl⟩)
    go_ret
    exact ⟨by rw [HR.out]; first | rfl | simp, HB⟩

end Fly
end Go.Proofs.Ytpjacfnjjkoikaa

/- DERIVED. (impl.FlyStep).follows: its walk. -/
namespace Go.Proofs.Ytpjacfnjjkoikaa
namespace Fly
open Go.RowKit
set_option linter.unusedSimpArgs false
set_option linter.unusedVariables false

theorem dist_d (a b d : Int) (w : World) (ha : Whole a) (hb : Whole b) (hd : apartOf a b = d) :
    Calls Try.prog 97 #[.int .i64 a, .int .i64 b] w fun e w' => e = .returned (.int .u64 d) ∧ w = w' := hd ▸ dist_any a b w ha hb

set_option maxHeartbeats 4000000 in
theorem iFollows (a b : DFlyStep) (w : World) (ha : StepOk a) (hb : StepOk b) :
    Calls Try.prog 93 #[vSt b, vSt a] w fun e w' => e = .returned (.bool (pb (StepBy a b))) ∧ Below w.heap.size w w' := by
  obtain ⟨x, y, lo, hi, fr, up, hd⟩ := a
  obtain ⟨x', y', lo', hi', fr', up', hd'⟩ := b
  obtain ⟨⟨ha1, ha2⟩, ⟨ha3, ha4⟩, ha5, ha6, ha7, _⟩ := ha
  obtain ⟨⟨hb1, hb2⟩, ⟨hb3, hb4⟩, hb5, hb6, hb7, _⟩ := hb
  simp only [vSt, cSt] at *
  have wx : Whole x := ⟨by omega, by omega⟩
  have wx' : Whole x' := ⟨by omega, by omega⟩
  have wy : Whole y := ⟨by omega, by omega⟩
  have wy' : Whole y' := ⟨by omega, by omega⟩
  obtain ⟨d, hd0⟩ : ∃ d, apartOf x' x = d := ⟨_, rfl⟩
  obtain ⟨e, he0⟩ : ∃ e, apartOf y' y = e := ⟨_, rfl⟩
  have hdd : 0 ≤ d ∧ d ≤ 15 ∧ (d ≤ 1 ↔ InR (x - x') (-1) 1) ∧ (d = 0 ↔ x = x') := by
    unfold apartOf at hd0; unfold InR
    split at hd0 <;> omega
  have hee : 0 ≤ e ∧ e ≤ 15 ∧ (e ≤ 1 ↔ InR (y - y') (-1) 1) ∧ (e = 0 ↔ y = y') := by
    unfold apartOf at he0; unfold InR
    split at he0 <;> omega
  obtain ⟨v, hv⟩ : ∃ v, pb (StepBy (x, y, lo, hi, fr, up, hd) (x', y', lo', hi', fr', up', hd')) = v := ⟨_, rfl⟩
  rw [hv]
  have HV : Hid (v = true ↔ ((d = 1 ∨ e = 1) ∧ d ≤ 1 ∧ e ≤ 1 ∧ lo ≤ hi' ∧ lo' ≤ hi)) := by
    show _ ↔ _
    rw [← hv, pb_iff]
    constructor
    · rintro ⟨h1, h2, h3, h4, h5⟩
      have q1 := hdd.2.2.1.2 h1
      have q2 := hee.2.2.1.2 h2
      refine ⟨?_, q1, q2, h4, h5⟩
      rcases h3 with h3 | h3
      · have : d ≠ 0 := fun h => h3 (hdd.2.2.2.1 h)
        omega
      · have : e ≠ 0 := fun h => h3 (hee.2.2.2.1 h)
        omega
    · rintro ⟨h3, h1, h2, h4, h5⟩
      refine ⟨hdd.2.2.1.1 h1, hee.2.2.1.1 h2, ?_, h4, h5⟩
      by_cases q : x = x'
      · have h6 := hdd.2.2.2.2 q
        right; intro q2
        have h7 := hee.2.2.2.2 q2
        omega
      · exact .inl q
  obtain ⟨hd1, hd2, _⟩ := hdd
  obtain ⟨he1, he2, _⟩ := hee
  clear hv
  have HB : ∀ k, Below w.heap.size w (((w.alloc (.cells #[.int .i64 x', .int .i64 y', .int .i64 lo', .int .i64 hi', .int .i64 fr', .int .i64 up', .bool hd'] 76)).alloc (.cells #[.int .i64 x, .int .i64 y, .int .i64 lo, .int .i64 hi, .int .i64 fr, .int .i64 up, .bool hd] 76)).drewN k) := fun k => below_drewN (((Below.refl _ _).alloc (Nat.le_refl _) _).alloc (by simp) _) k
  go_enter Try.func93, Try.ntmps93
  go_wp2_with fail
  go_quiet ((go_at_call 97; refine (dist_d _ _ _ _ (by assumption) (by assumption) (by assumption)).mono ?_; rintro e w' ⟨rfl, rfl⟩; exact ⟨rfl, _, rfl⟩))
  clear hd0 he0 wx wx' wy wy'
  go_wp2
  all_goals
    go_ret
    refine ⟨?_, HB _⟩
    have H := HV.out
    clear HV HB
    refine congrArg (fun z => Ending.returned (Value.bool z)) (Bool.eq_iff_iff.2 ?_)
    rw [H]
    simp
    try omega

end Fly
end Go.Proofs.Ytpjacfnjjkoikaa

/- DERIVED. (impl.FlyPath).kindOk, stepsOk, endOk: their walks. -/
namespace Go.Proofs.Ytpjacfnjjkoikaa
namespace Fly
open Go.RowKit
set_option linter.unusedSimpArgs false
set_option linter.unusedVariables false

def LenOk (l : List DFlyStep) : Prop := 1 ≤ l.length ∧ l.length ≤ 40
def StepsOk (l : List DFlyStep) : Prop := LenOk l ∧ AllOk l
/-- The first k steps are ok. -/
def OkTo (l : List DFlyStep) (k : Nat) : Prop := ∀ i (h : i < l.length), i < k → StepOk l[i]
theorem OkTo.next {l : List DFlyStep} {k : Nat} (h : OkTo l k) (hk : k < l.length) (hs : StepOk (l[k]'hk)) : OkTo l (k + 1) := fun i hi hik => by
  by_cases e : i = k
  · subst e; exact hs
  · exact h i hi (by omega)
theorem OkTo.all {l : List DFlyStep} (h : OkTo l l.length) : AllOk l := fun i hi => h i hi hi

set_option maxHeartbeats 1000000 in
theorem iKindOkP (k : DFlyKind) (a b c : Value) (w : World) :
    Calls Try.prog 77 #[.agg #[.int .i64 k.1, .int .i64 k.2, a, b, c]] w fun e w' => e = .returned (.bool (pb (KindOk k))) ∧ Below w.heap.size w w' := by
  have HK := fun W => iKind k W
  obtain ⟨q, s⟩ := k
  simp only [vKi] at *
  have HB : Below w.heap.size w (w.alloc (.cells #[.int .i64 q, .int .i64 s, a, b, c] 34)) := (Below.refl _ _).alloc (Nat.le_refl _) _
  generalize pb (KindOk (q, s)) = v at *
  go_enter Try.func77, Try.ntmps77
  go_wp2_with fail
  refine (HK _).mono ?_
  rintro e w1 ⟨rfl, hb⟩
  have HB1 := HB.trans (hb.mono HB.size)
  clear HB hb HK
  go_wp2
  go_ret
  exact ⟨rfl, HB1⟩

theorem iEndOkP (f u : Int) (a b c : Value) (w : World) :
    Calls Try.prog 80 #[.agg #[a, b, c, .int .i64 f, .int .i64 u]] w fun e w' => e = .returned (.bool (pb (TicksOk f u))) ∧ Below w.heap.size w w' := by
  have HK := fun W => iTicks f u W
  have HB : Below w.heap.size w (w.alloc (.cells #[a, b, c, .int .i64 f, .int .i64 u] 34)) := (Below.refl _ _).alloc (Nat.le_refl _) _
  generalize pb (TicksOk f u) = v at *
  go_enter Try.func80, Try.ntmps80
  go_wp2_with fail
  refine (HK _).mono ?_
  rintro e w1 ⟨rfl, rfl⟩
  clear HK
  go_wp2
  go_ret
  exact ⟨rfl, HB⟩

set_option maxHeartbeats 2000000 in
theorem iStepsOk (ao : Option Addr) (cap : Nat) (l : List DFlyStep) (a b c d : Value) (w : World) (h : SliceAt vFlyStep (old w) w ao cap l) :
    Calls Try.prog 78 #[.agg #[a, b, .slice ao l.length cap, c, d]] w fun e w' => e = .returned (.bool (pb (StepsOk l))) ∧ Below w.heap.size w w' := by
  have HB : Below w.heap.size w (w.alloc (.cells #[a, b, .slice ao l.length cap, c, d] 34)) := (Below.refl _ _).alloc (Nat.le_refl _) _
  by_cases hl : InR (l.length : Int) 1 40
  · have hl40 : l.length ≤ 40 := by have := hl.2; omega
    have HLO : Hid (LenOk l) := ⟨by have := hl.1; omega, hl40⟩
    go_enter Try.func78, Try.ntmps78
    go_wp2_with (go_at_call 90; refine (from_yes _ _ _ _ (by assumption)).mono ?_; rintro e w' ⟨rfl, rfl⟩)
    go_loopw [13] (fun i wr => ∃ k : Nat, k ≤ l.length ∧ i = .int .i64 k ∧ Hid (OkTo l k) ∧ Below w.heap.size w wr) (fun i _ => l.length - (intOf i).toNat)
    case atStart => exact ⟨0, Nat.zero_le _, rfl, fun j _ hj => by omega, HB⟩
    case round =>
      obtain ⟨k, hk, rfl, hpre, hB⟩ := hrel
      by_cases hlt : k < l.length
      · obtain ⟨g, off, rfl, hok, c0, c1, c2, c3, c4, c5, c6, _⟩ := elem_FlyStep h hlt
        have f0 := (hB.cell (p := ⟨g, off + k * 7, none⟩) hok).trans c0
        have f1 := (hB.cell (p := ⟨g, off + k * 7 + 1, none⟩) hok).trans c1
        have f2 := (hB.cell (p := ⟨g, off + k * 7 + 2, none⟩) hok).trans c2
        have f3 := (hB.cell (p := ⟨g, off + k * 7 + 3, none⟩) hok).trans c3
        have f4 := (hB.cell (p := ⟨g, off + k * 7 + 4, none⟩) hok).trans c4
        have f5 := (hB.cell (p := ⟨g, off + k * 7 + 5, none⟩) hok).trans c5
        have f6 := (hB.cell (p := ⟨g, off + k * 7 + 6, none⟩) hok).trans c6
        clear c0 c1 c2 c3 c4 c5 c6
        have HNO : Hid (¬ StepOk (l[k]'hlt) → pb (StepsOk l) = false) := fun h1 => pb_no (fun h2 => h1 (h2.2 k hlt))
        have HYES : Hid (StepOk (l[k]'hlt) → OkTo l (k + 1)) := fun h1 => hpre.out.next hlt h1
        generalize l[k]'hlt = s at *
        have HS := fun W => iStep s W
        obtain ⟨x, y, lo, hi, fr, up, hd⟩ := s
        simp only [vSt, cSt] at f0 f1 f2 f3 f4 f5 f6 HS
        clear hpre h
        by_cases hs : StepOk (x, y, lo, hi, fr, up, hd)
        · have HN := HYES.out hs
          rw [pb_yes hs] at HS
          have HN' : Hid _ := HN
          clear HNO HYES hs HN
          go_wp2_with fail
          refine (HS _).mono ?_
          rintro e w1 ⟨rfl, hb1⟩
          have hB1 := (hB.alloc hB.size (.cells #[.int .i64 x, .int .i64 y, .int .i64 lo, .int .i64 hi, .int .i64 fr, .int .i64 up, .bool hd] 76)).trans (hb1.mono (by have := hB.size; simp; omega))
          clear hb1 HS hB
          go_wp2
          go_roundw
          case rel => exact ⟨k + 1, by omega, by go_num, HN', hB1⟩
          case measure => simp [intOf]; omega
        · have HN : Hid (pb (StepsOk l) = false) := HNO.out hs
          rw [pb_no hs] at HS
          clear HNO HYES hs
          go_wp2_with fail
          refine (HS _).mono ?_
          rintro e w1 ⟨rfl, hb1⟩
          have hB1 := (hB.alloc hB.size (.cells #[.int .i64 x, .int .i64 y, .int .i64 lo, .int .i64 hi, .int .i64 fr, .int .i64 up, .bool hd] 76)).trans (hb1.mono (by have := hB.size; simp; omega))
          clear hb1 HS hB
          go_wp2
          go_ret
          exact ⟨by rw [HN.out]; rfl, hB1⟩
      · have hke : k = l.length := by omega
        subst hke
        have HR : Hid (pb (StepsOk l) = true) := pb_yes ⟨HLO.out, hpre.out.all⟩
        clear hpre h
        go_wp2
        go_ret
        exact ⟨by rw [HR.out]; rfl, hB⟩
  · have HR : Hid (pb (StepsOk l) = false) := pb_no fun h => hl ⟨by have := h.1.1; omega, by have := h.1.2; omega⟩
    go_enter Try.func78, Try.ntmps78
    go_wp2_with (go_at_call 90; refine (from_no _ _ _ _ (by assumption)).mono ?_; rintro e w' ⟨rfl, rfl⟩)
    go_ret
    exact ⟨by rw [HR.out]; rfl, HB⟩

end Fly
end Go.Proofs.Ytpjacfnjjkoikaa
