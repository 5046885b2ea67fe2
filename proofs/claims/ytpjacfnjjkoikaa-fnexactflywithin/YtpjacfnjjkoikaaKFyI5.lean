/- DERIVED. impl.FlyPathOk: its walk. -/
import Derived.Test.YtpjacfnjjkoikaaKFyI4
import Derived.Test.YtpjacfnjjkoikaaKBx0
namespace Go.Proofs.Ytpjacfnjjkoikaa
namespace Fly
open Go.RowKit
set_option linter.unusedSimpArgs false
set_option linter.unusedVariables false

/-- The k-th check. -/
def Chk (x : DFlyPath) : Nat → Prop
  | 0 => KindOk x.1
  | 1 => StepsOk x.2.1
  | 2 => AllBy x.2.1
  | _ => TicksOk x.2.2.1 x.2.2.2
theorem chk_all (x : DFlyPath) : (∀ k, k < 4 → Chk x k) ↔ PathOk x := by
  constructor
  · intro h
    exact ⟨h 0 (by omega), (h 1 (by omega)).1, (h 1 (by omega)).2, h 2 (by omega), h 3 (by omega)⟩
  · rintro ⟨h0, h1, h2, h3, h4⟩ k hk
    match k, hk with
    | 0, _ => exact h0
    | 1, _ => exact ⟨h1, h2⟩
    | 2, _ => exact h3
    | 3, _ => exact h4

def chkFn : Nat → Nat
  | 0 => 77
  | 1 => 78
  | 2 => 79
  | _ => 80

theorem iChk (x : DFlyPath) (ao : Option Addr) (cap : Nat) (k : Nat) (hk : k < 4) (w : World) (h : SliceAt vFlyStep (old w) w ao cap x.2.1) (hp : ∀ j, j < k → Chk x j) :
    Calls Try.prog (chkFn k) #[.agg #[.int .i64 x.1.1, .int .i64 x.1.2, .slice ao x.2.1.length cap, .int .i64 x.2.2.1, .int .i64 x.2.2.2]] w fun e w' => e = .returned (.bool (pb (Chk x k))) ∧ Below w.heap.size w w' := by
  match k, hk with
  | 0, _ => exact iKindOkP x.1 _ _ _ w
  | 1, _ => exact iStepsOk ao cap x.2.1 _ _ _ _ w h
  | 2, _ => exact iStepsFollow ao cap x.2.1 _ _ _ _ w h (hp 1 (by omega)).2
  | 3, _ => exact iEndOkP x.2.2.1 x.2.2.2 _ _ _ w

set_option maxRecDepth 100000 in
set_option maxHeartbeats 4000000 in
theorem iPathOk (x : DFlyPath) (ao : Option Addr) (cap : Nat) (w : World) (h : SliceAt vFlyStep (old w) w ao cap x.2.1) :
    Calls Try.prog 41 #[.agg #[.int .i64 x.1.1, .int .i64 x.1.2, .slice ao x.2.1.length cap, .int .i64 x.2.2.1, .int .i64 x.2.2.2]] w fun e w' => e = .returned (.bool (pb (PathOk x))) ∧ Below w.heap.size w w' := by
  have HCH := fun k hk W hh hp => iChk x ao cap k hk W hh hp
  have HIFF : Hid ((∀ k, k < 4 → Chk x k) ↔ PathOk x) := chk_all x
  obtain ⟨P, hP⟩ : ∃ P, P = PathOk x := ⟨_, rfl⟩
  rw [← hP] at HIFF ⊢
  clear hP
  generalize hC : Chk x = C at *
  clear hC
  obtain ⟨⟨q, s⟩, l, f, u⟩ := x
  simp only at *
  obtain ⟨w2, hw2⟩ : ∃ w2, w2 = (w.alloc (.cells #[.int .i64 q, .int .i64 s, .slice ao l.length cap, .int .i64 f, .int .i64 u] 34)).alloc (.cells #[.func (.func 77) #[] #[], .func (.func 78) #[] #[], .func (.func 79) #[] #[], .func (.func 80) #[] #[]] 56) := ⟨_, rfl⟩
  have hz2 : w2.heap.size = w.heap.size + 2 := by rw [hw2]; simp
  have hb2 : Below w.heap.size w w2 := by rw [hw2]; exact ((Below.refl _ _).alloc (Nat.le_refl _) _).alloc (by simp) _
  have hg : ∀ i, w2.cell? ⟨w.heap.size, i, none⟩ = (#[.int .i64 q, .int .i64 s, .slice ao l.length cap, .int .i64 f, .int .i64 u] : Array Value)[i]? := fun i => by
    have e : w2.heap[w.heap.size]? = some (.cells #[.int .i64 q, .int .i64 s, .slice ao l.length cap, .int .i64 f, .int .i64 u] 34 (0, 0)) := by
      rw [hw2, Below.heap_alloc _ _ _ (by simp)]
      exact World.alloc_heap_new w _
    simp [World.cell?, e]
  have hf : ∀ i, w2.cell? ⟨w.heap.size + 1, i, none⟩ = (#[.func (.func 77) #[] #[], .func (.func 78) #[] #[], .func (.func 79) #[] #[], .func (.func 80) #[] #[]] : Array Value)[i]? := fun i => by
    have h := World.alloc_heap_new (w.alloc (.cells #[.int .i64 q, .int .i64 s, .slice ao l.length cap, .int .i64 f, .int .i64 u] 34)) (.cells #[.func (.func 77) #[] #[], .func (.func 78) #[] #[], .func (.func 79) #[] #[], .func (.func 80) #[] #[]] 56)
    rw [World.size_alloc, ← hw2] at h
    simp [World.cell?, h]
  go_enter Try.func41, Try.ntmps41
  go_wp2
  rw [← hw2]
  clear hw2
  go_loopw [9] (fun i wr => ∃ k : Nat, k ≤ 4 ∧ i = .int .i64 k ∧ Hid (∀ j, j < k → C j) ∧ Below w2.heap.size w2 wr) (fun i _ => 4 - (intOf i).toNat)
  case atStart => exact ⟨0, by omega, rfl, fun j hj => by omega, Below.refl _ _⟩
  case round =>
    obtain ⟨k, hk, rfl, hpre, hB⟩ := hrel
    have hBw := hb2.trans (hB.mono (by omega))
    have z0 := (hB.cell (p := ⟨w.heap.size, 0, none⟩) (by show w.heap.size < _; omega)).trans (hg 0)
    have z1 := (hB.cell (p := ⟨w.heap.size, 1, none⟩) (by show w.heap.size < _; omega)).trans (hg 1)
    have z2 := (hB.cell (p := ⟨w.heap.size, 2, none⟩) (by show w.heap.size < _; omega)).trans (hg 2)
    have z3 := (hB.cell (p := ⟨w.heap.size, 3, none⟩) (by show w.heap.size < _; omega)).trans (hg 3)
    have z4 := (hB.cell (p := ⟨w.heap.size, 4, none⟩) (by show w.heap.size < _; omega)).trans (hg 4)
    have y0 := (hB.cell (p := ⟨w.heap.size + 1, 0, none⟩) (by show w.heap.size + 1 < _; omega)).trans (hf 0)
    have y1 := (hB.cell (p := ⟨w.heap.size + 1, 1, none⟩) (by show w.heap.size + 1 < _; omega)).trans (hf 1)
    have y2 := (hB.cell (p := ⟨w.heap.size + 1, 2, none⟩) (by show w.heap.size + 1 < _; omega)).trans (hf 2)
    have y3 := (hB.cell (p := ⟨w.heap.size + 1, 3, none⟩) (by show w.heap.size + 1 < _; omega)).trans (hf 3)
    simp at z0 z1 z2 z3 z4 y0 y1 y2 y3
    have hA := h.later hBw
    rcases (by omega : k = 0 ∨ k = 1 ∨ k = 2 ∨ k = 3 ∨ k = 4) with rfl | rfl | rfl | rfl | rfl
    · have HC := HCH 0 (by omega) wr hA hpre.out
      have HN : Hid (C 0 → ∀ j, j < 1 → C j) := fun hc j hj => by
        by_cases e : j = 0
        · subst e; exact hc
        · exact hpre.out j (by omega)
      have HX : Hid (¬ C 0 → pb P = false) := fun hc => pb_no fun hp => hc (HIFF.out.2 hp 0 (by omega))
      simp only [chkFn] at HC
      clear hpre HIFF HCH h hA
      by_cases hc : C 0
      · rw [pb_yes hc] at HC
        have HN1 : Hid (∀ j, j < 1 → C j) := HN.out hc
        clear HN HX hc
        go_wp2_with fail
        refine HC.mono ?_
        rintro e w3 ⟨rfl, hb3⟩
        have hB3 := hB.trans (hb3.mono hB.size)
        clear HC hb3 hB z0 z1 z2 z3 z4 y0 y1 y2 y3
        go_wp2
        go_roundw
        case rel => exact ⟨1, by omega, by go_num, HN1, hB3⟩
        case measure => simp [intOf]
      · rw [pb_no hc] at HC
        have HR : Hid (pb P = false) := HX.out hc
        clear HN HX hc
        go_wp2_with fail
        refine HC.mono ?_
        rintro e w3 ⟨rfl, hb3⟩
        have hB3 := hBw.trans (hb3.mono hBw.size)
        clear HC hb3 hB z0 z1 z2 z3 z4 y0 y1 y2 y3
        go_wp2
        go_ret
        exact ⟨by rw [HR.out]; rfl, hB3⟩
    · have HC := HCH 1 (by omega) wr hA hpre.out
      have HN : Hid (C 1 → ∀ j, j < 2 → C j) := fun hc j hj => by
        by_cases e : j = 1
        · subst e; exact hc
        · exact hpre.out j (by omega)
      have HX : Hid (¬ C 1 → pb P = false) := fun hc => pb_no fun hp => hc (HIFF.out.2 hp 1 (by omega))
      simp only [chkFn] at HC
      clear hpre HIFF HCH h hA
      by_cases hc : C 1
      · rw [pb_yes hc] at HC
        have HN1 : Hid (∀ j, j < 2 → C j) := HN.out hc
        clear HN HX hc
        go_wp2_with fail
        refine HC.mono ?_
        rintro e w3 ⟨rfl, hb3⟩
        have hB3 := hB.trans (hb3.mono hB.size)
        clear HC hb3 hB z0 z1 z2 z3 z4 y0 y1 y2 y3
        go_wp2
        go_roundw
        case rel => exact ⟨2, by omega, by go_num, HN1, hB3⟩
        case measure => simp [intOf]
      · rw [pb_no hc] at HC
        have HR : Hid (pb P = false) := HX.out hc
        clear HN HX hc
        go_wp2_with fail
        refine HC.mono ?_
        rintro e w3 ⟨rfl, hb3⟩
        have hB3 := hBw.trans (hb3.mono hBw.size)
        clear HC hb3 hB z0 z1 z2 z3 z4 y0 y1 y2 y3
        go_wp2
        go_ret
        exact ⟨by rw [HR.out]; rfl, hB3⟩
    · have HC := HCH 2 (by omega) wr hA hpre.out
      have HN : Hid (C 2 → ∀ j, j < 3 → C j) := fun hc j hj => by
        by_cases e : j = 2
        · subst e; exact hc
        · exact hpre.out j (by omega)
      have HX : Hid (¬ C 2 → pb P = false) := fun hc => pb_no fun hp => hc (HIFF.out.2 hp 2 (by omega))
      simp only [chkFn] at HC
      clear hpre HIFF HCH h hA
      by_cases hc : C 2
      · rw [pb_yes hc] at HC
        have HN1 : Hid (∀ j, j < 3 → C j) := HN.out hc
        clear HN HX hc
        go_wp2_with fail
        refine HC.mono ?_
        rintro e w3 ⟨rfl, hb3⟩
        have hB3 := hB.trans (hb3.mono hB.size)
        clear HC hb3 hB z0 z1 z2 z3 z4 y0 y1 y2 y3
        go_wp2
        go_roundw
        case rel => exact ⟨3, by omega, by go_num, HN1, hB3⟩
        case measure => simp [intOf]
      · rw [pb_no hc] at HC
        have HR : Hid (pb P = false) := HX.out hc
        clear HN HX hc
        go_wp2_with fail
        refine HC.mono ?_
        rintro e w3 ⟨rfl, hb3⟩
        have hB3 := hBw.trans (hb3.mono hBw.size)
        clear HC hb3 hB z0 z1 z2 z3 z4 y0 y1 y2 y3
        go_wp2
        go_ret
        exact ⟨by rw [HR.out]; rfl, hB3⟩
    · have HC := HCH 3 (by omega) wr hA hpre.out
      have HN : Hid (C 3 → ∀ j, j < 4 → C j) := fun hc j hj => by
        by_cases e : j = 3
        · subst e; exact hc
        · exact hpre.out j (by omega)
      have HX : Hid (¬ C 3 → pb P = false) := fun hc => pb_no fun hp => hc (HIFF.out.2 hp 3 (by omega))
      simp only [chkFn] at HC
      clear hpre HIFF HCH h hA
      by_cases hc : C 3
      · rw [pb_yes hc] at HC
        have HN1 : Hid (∀ j, j < 4 → C j) := HN.out hc
        clear HN HX hc
        go_wp2_with fail
        refine HC.mono ?_
        rintro e w3 ⟨rfl, hb3⟩
        have hB3 := hB.trans (hb3.mono hB.size)
        clear HC hb3 hB z0 z1 z2 z3 z4 y0 y1 y2 y3
        go_wp2
        go_roundw
        case rel => exact ⟨4, by omega, by go_num, HN1, hB3⟩
        case measure => simp [intOf]
      · rw [pb_no hc] at HC
        have HR : Hid (pb P = false) := HX.out hc
        clear HN HX hc
        go_wp2_with fail
        refine HC.mono ?_
        rintro e w3 ⟨rfl, hb3⟩
        have hB3 := hBw.trans (hb3.mono hBw.size)
        clear HC hb3 hB z0 z1 z2 z3 z4 y0 y1 y2 y3
        go_wp2
        go_ret
        exact ⟨by rw [HR.out]; rfl, hB3⟩
    · have HR : Hid (pb P = true) := pb_yes (HIFF.out.1 hpre.out)
      clear hpre HIFF HCH h hA
      go_wp2
      go_ret
      exact ⟨by rw [HR.out]; rfl, hBw⟩

end Fly
end Go.Proofs.Ytpjacfnjjkoikaa
