/- DERIVED. How far two numbers are apart (impl.skyDistance), near (impl.SkyNear), close (spec.l5Close, spec.SkyNear): their walks. -/
import Derived.Test.YtcfnfglbbdoghaaRows
import Derived.WalkKit
import Derived.WalkSpells
import Derived.WalkLawsBesides
import Derived.Deep.QuietTactic
import Derived.BigQuiet
namespace Go.Proofs.Ytcfnfglbbdoghaa
open Go.RowKit
set_option linter.unusedSimpArgs false
set_option linter.unusedVariables false

def Whole (x : Int) : Prop := -9223372036854775808 ≤ x ∧ x ≤ 9223372036854775807
def apartOf (a b : Int) : Int := if a ≤ b then b - a else a - b

theorem dist_any (a b : Int) (w : World) (ha : Whole a) (hb : Whole b) :
    Calls Try.prog 8 #[.int .i64 a, .int .i64 b] w fun e w' => e = .returned (.int .u64 (apartOf a b)) ∧ w = w' := by
  obtain ⟨ha1, ha2⟩ := ha
  obtain ⟨hb1, hb2⟩ := hb
  rcases Int.lt_trichotomy a b with h | h | h
  · have e : apartOf a b = b - a := by unfold apartOf; split <;> omega
    rw [e]
    clear e
    go_enter Try.func8, Try.ntmps8
    go_wp2
    go_ret
    exact ⟨congrArg (fun z => Ending.returned (Value.int .u64 z)) (by simp [IntKind.wrap, IntKind.bits, IntKind.signed]; omega), rfl⟩
  · subst h
    have e : apartOf a a = 0 := by unfold apartOf; split <;> omega
    rw [e]
    clear e
    go_enter Try.func8, Try.ntmps8
    go_wp2
    go_ret
    exact ⟨rfl, rfl⟩
  · have e : apartOf a b = a - b := by unfold apartOf; split <;> omega
    rw [e]
    clear e
    go_enter Try.func8, Try.ntmps8
    go_wp2
    go_ret
    exact ⟨congrArg (fun z => Ending.returned (Value.int .u64 z)) (by simp [IntKind.wrap, IntKind.bits, IntKind.signed]; omega), rfl⟩

/-- Less than the measure apart. -/
def CloseTo (a b : Int) : Prop := apartOf a b < 2
noncomputable def closeB (a b : Int) : Bool := @decide (CloseTo a b) (Classical.propDecidable _)
theorem closeB_yes {a b : Int} (h : CloseTo a b) : closeB a b = true := by unfold closeB; simp [h]
theorem closeB_no {a b : Int} (h : ¬ CloseTo a b) : closeB a b = false := by unfold closeB; simp [h]
theorem close_iff {a b : Int} : CloseTo a b ↔ a = b - 1 ∨ a = b ∨ a = b + 1 := by unfold CloseTo apartOf; split <;> omega

set_option maxHeartbeats 1000000 in
theorem sClose (a b : Int) (w : World) (ha : Whole a) (hb : Whole b) :
    Calls Try.prog 7 #[.int .i64 a, .int .i64 b] w fun e w' => e = .returned (.bool (closeB a b)) ∧ w = w' := by
  obtain ⟨ha1, ha2⟩ := ha
  obtain ⟨hb1, hb2⟩ := hb
  go_enter Try.func7, Try.ntmps7
  go_wp2
  go_loop [5] (fun v => ∃ d : Int, -1 ≤ d ∧ d ≤ 2 ∧ v = .int .i64 d ∧ Hid (∀ c, -1 ≤ c → c < d → a ≠ b + c)) (fun v => (2 - intOf v).toNat)
  case atStart => exact ⟨-1, by omega, by omega, rfl, fun c h1 h2 => by omega⟩
  case round =>
    obtain ⟨d, hd1, hd2, rfl, hall⟩ := hrel
    by_cases hlt : d < 2
    · have hd : d = -1 ∨ d = 0 ∨ d = 1 := by omega
      by_cases he : a = b + d
      · have hC : Hid (closeB a b = true) := closeB_yes (close_iff.2 (by omega))
        clear hall
        subst he
        rcases hd with rfl | rfl | rfl
        · go_wp2
          go_ret
          exact ⟨by first | (rw [hC.out]; rfl) | (have h := hC.out; rw [Int.add_zero] at h; rw [h]; rfl), rfl⟩
        · go_wp2
          go_ret
          exact ⟨by first | (rw [hC.out]; rfl) | (have h := hC.out; rw [Int.add_zero] at h; rw [h]; rfl), rfl⟩
        · go_wp2
          go_ret
          exact ⟨by first | (rw [hC.out]; rfl) | (have h := hC.out; rw [Int.add_zero] at h; rw [h]; rfl), rfl⟩
      · have HN : Hid (∀ c, -1 ≤ c → c < d + 1 → a ≠ b + c) := fun c h1 h2 => by
          by_cases e : c = d
          · rw [e]; exact he
          · exact hall.out c h1 (by omega)
        clear hall
        rcases hd with rfl | rfl | rfl
        · by_cases hr : -9223372036854775808 ≤ b + -1
          · go_wp2
            go_round
            case rel => exact ⟨0, by omega, by omega, by go_num, HN⟩
            case measure => simp [intOf]
          · obtain rfl : b = -9223372036854775808 := by omega
            have hwr : wrap64 (-9223372036854775809) = 9223372036854775807 := by kernel_rfl
            by_cases hx : a = 9223372036854775807
            · subst hx
              go_wp2
              go_round
              case rel => exact ⟨0, by omega, by omega, by go_num, HN⟩
              case measure => simp [intOf]
            · go_wp2
              go_round
              case rel => exact ⟨0, by omega, by omega, by go_num, HN⟩
              case measure => simp [intOf]
        · go_wp2
          go_round
          case rel => exact ⟨1, by omega, by omega, by go_num, HN⟩
          case measure => simp [intOf]
        · by_cases hr : b + 1 ≤ 9223372036854775807
          · go_wp2
            go_round
            case rel => exact ⟨2, by omega, by omega, by go_num, HN⟩
            case measure => simp [intOf]
          · obtain rfl : b = 9223372036854775807 := by omega
            have hwr : wrap64 9223372036854775808 = -9223372036854775808 := by kernel_rfl
            by_cases hx : a = -9223372036854775808
            · subst hx
              go_wp2
              go_round
              case rel => exact ⟨2, by omega, by omega, by go_num, HN⟩
              case measure => simp [intOf]
            · go_wp2
              go_round
              case rel => exact ⟨2, by omega, by omega, by go_num, HN⟩
              case measure => simp [intOf]
    · have hC : Hid (closeB a b = false) := closeB_no fun h => by
        rcases close_iff.1 h with e | e | e
        · exact hall.out (-1) (by omega) (by omega) (by omega)
        · exact hall.out 0 (by omega) (by omega) (by omega)
        · exact hall.out 1 (by omega) (by omega) (by omega)
      clear hall
      go_wp2
      go_ret
      exact ⟨by rw [hC.out]; rfl, rfl⟩

theorem sCloseB (a b : Int) (w : World) (v : Bool) (ha : Whole a) (hb : Whole b) (hv : closeB a b = v) :
    Calls Try.prog 7 #[.int .i64 a, .int .i64 b] w fun e w' => e = .returned (.bool v) ∧ w = w' := hv ▸ sClose a b w ha hb

/-- A place: X, Y, level. -/
abbrev DPlace := Int × Int × Int
def WholeP (p : DPlace) : Prop := Whole p.1 ∧ Whole p.2.1 ∧ Whole p.2.2
def vPl (p : DPlace) : Value := .agg #[.int .i64 p.1, .int .i64 p.2.1, .int .i64 p.2.2]
noncomputable def nearB (p q : DPlace) : Bool := p.2.2 == q.2.2 && (closeB p.1 q.1 && closeB p.2.1 q.2.1)

theorem closeB_lt (a b : Int) : decide (apartOf a b < 2) = closeB a b := by
  by_cases h : CloseTo a b
  · rw [closeB_yes h]; exact decide_eq_true h
  · rw [closeB_no h]; exact decide_eq_false h

set_option maxHeartbeats 1000000 in
theorem iNear (p q : DPlace) (w : World) (hp : WholeP p) (hq : WholeP q) :
    Calls Try.prog 6 #[vPl p, vPl q] w fun e w' => e = .returned (.bool (nearB p q)) ∧ Below w.heap.size w w' := by
  obtain ⟨x, y, l⟩ := p
  obtain ⟨x', y', l'⟩ := q
  obtain ⟨h1, h2, h3⟩ := hp
  obtain ⟨g1, g2, g3⟩ := hq
  simp only [vPl, nearB] at *
  rw [← closeB_lt, ← closeB_lt]
  have HB : Below w.heap.size w ((w.alloc (.cells #[.int .i64 x, .int .i64 y, .int .i64 l] 25)).alloc (.cells #[.int .i64 x', .int .i64 y', .int .i64 l'] 25)) := ((Below.refl _ _).alloc (Nat.le_refl _) _).alloc (by simp) _
  by_cases hl : l = l'
  · subst hl
    by_cases hx : apartOf x x' < 2
    · go_enter Try.func6, Try.ntmps6
      go_wp2_with (go_at_call 8; refine (dist_any _ _ _ (by assumption) (by assumption)).mono ?_; rintro e w' ⟨rfl, rfl⟩)
      go_ret
      exact ⟨by simp [hx], HB⟩
    · go_enter Try.func6, Try.ntmps6
      go_wp2_with (go_at_call 8; refine (dist_any _ _ _ (by assumption) (by assumption)).mono ?_; rintro e w' ⟨rfl, rfl⟩)
      go_ret
      exact ⟨by simp [hx]; try omega, HB⟩
  · have hlb : (l == l') = false := by simp [hl]
    go_enter Try.func6, Try.ntmps6
    go_wp2
    go_ret
    exact ⟨by simp [hl], HB⟩

set_option maxHeartbeats 1000000 in
theorem sNear (p q : DPlace) (w : World) (hp : WholeP p) (hq : WholeP q) :
    Calls Try.prog 4 #[vPl p, vPl q] w fun e w' => e = .returned (.bool (nearB p q)) ∧ Below w.heap.size w w' := by
  obtain ⟨x, y, l⟩ := p
  obtain ⟨x', y', l'⟩ := q
  obtain ⟨h1, h2, h3⟩ := hp
  obtain ⟨g1, g2, g3⟩ := hq
  simp only [vPl, nearB] at *
  have HB : Below w.heap.size w ((w.alloc (.cells #[.int .i64 x, .int .i64 y, .int .i64 l] 25)).alloc (.cells #[.int .i64 x', .int .i64 y', .int .i64 l'] 25)) := ((Below.refl _ _).alloc (Nat.le_refl _) _).alloc (by simp) _
  by_cases hl : l = l'
  · subst hl
    cases hx : closeB x x'
    · go_enter Try.func4, Try.ntmps4
      go_wp2_with (go_at_call 7; refine (sCloseB _ _ _ _ (by assumption) (by assumption) (by assumption)).mono ?_; rintro e w' ⟨rfl, rfl⟩)
      go_ret
      exact ⟨by simp, HB⟩
    · cases hy : closeB y y'
      · go_enter Try.func4, Try.ntmps4
        go_wp2_with (go_at_call 7; refine (sCloseB _ _ _ _ (by assumption) (by assumption) (by assumption)).mono ?_; rintro e w' ⟨rfl, rfl⟩)
        go_ret
        exact ⟨by simp, HB⟩
      · go_enter Try.func4, Try.ntmps4
        go_wp2_with (go_at_call 7; refine (sCloseB _ _ _ _ (by assumption) (by assumption) (by assumption)).mono ?_; rintro e w' ⟨rfl, rfl⟩)
        go_ret
        exact ⟨by simp, HB⟩
  · have hlb : (l == l') = false := by simp [hl]
    go_enter Try.func4, Try.ntmps4
    go_wp2
    go_ret
    exact ⟨by simp [hl], HB⟩

theorem toPlace (p : DPlace) (w : World) :
    Calls Try.prog 5 #[vPl p] w fun e w' => e = .returned (vPl p) ∧ Below w.heap.size w w' := by
  obtain ⟨x, y, l⟩ := p
  simp only [vPl]
  go_enter Try.func5, Try.ntmps5
  go_wp2
  exact bodyPost_ret (v := .agg #[.int .i64 x, .int .i64 y, .int .i64 l]) (by simp [results, Try.results5, go_sem]) rfl ⟨rfl, by repeat (first | exact Below.refl _ _ | refine Below.alloc ?_ (by simp; try omega) _)⟩

end Go.Proofs.Ytcfnfglbbdoghaa
