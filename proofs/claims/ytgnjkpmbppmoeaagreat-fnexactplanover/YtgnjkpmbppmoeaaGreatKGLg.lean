/- DERIVED. How far two numbers are apart (impl.skyDistance): its walk. -/
import Derived.Test.YtgnjkpmbppmoeaaGreatRows
import Derived.WalkKit
import Derived.WalkSpells
import Derived.WalkLawsBesides
import Derived.Deep.QuietTactic
import Derived.BigQuiet
import Derived.Test.YtgnjkpmbppmoeaaGreatKPQ0
namespace Go.Proofs.YtgnjkpmbppmoeaaGreat
open Go.RowKit
set_option linter.unusedSimpArgs false
set_option linter.unusedVariables false

def Whole (x : Int) : Prop := -9223372036854775808 ≤ x ∧ x ≤ 9223372036854775807
def apartOf (a b : Int) : Int := if a ≤ b then b - a else a - b

theorem dist_any (a b : Int) (w : World) (ha : Whole a) (hb : Whole b) :
    Calls Tryz.prog 129 #[.int .i64 a, .int .i64 b] w fun e w' => e = .returned (.int .u64 (apartOf a b)) ∧ w = w' := by
  obtain ⟨ha1, ha2⟩ := ha
  obtain ⟨hb1, hb2⟩ := hb
  rcases Int.lt_trichotomy a b with h | h | h
  · have e : apartOf a b = b - a := by unfold apartOf; split <;> omega
    rw [e]
    clear e
    go_enter Tryz.func129, Tryz.ntmps129
    go_wp2
    go_ret
    exact ⟨congrArg (fun z => Ending.returned (Value.int .u64 z)) (by simp [IntKind.wrap, IntKind.bits, IntKind.signed]; omega), rfl⟩
  · subst h
    have e : apartOf a a = 0 := by unfold apartOf; split <;> omega
    rw [e]
    clear e
    go_enter Tryz.func129, Tryz.ntmps129
    go_wp2
    go_ret
    exact ⟨rfl, rfl⟩
  · have e : apartOf a b = a - b := by unfold apartOf; split <;> omega
    rw [e]
    clear e
    go_enter Tryz.func129, Tryz.ntmps129
    go_wp2
    go_ret
    exact ⟨congrArg (fun z => Ending.returned (Value.int .u64 z)) (by simp [IntKind.wrap, IntKind.bits, IntKind.signed]; omega), rfl⟩

end Go.Proofs.YtgnjkpmbppmoeaaGreat

/- DERIVED. Legs on plain data; the program's small functions over cells: skyHasLegs, skyStepsApart, skyLineOf, nearest, cell: their walks. -/
namespace Go.Proofs.YtgnjkpmbppmoeaaGreat
namespace Leg
open Go.RowKit
set_option linter.unusedSimpArgs false
set_option linter.unusedVariables false

abbrev DCell := Int × Int
def vCe (c : DCell) : Value := .agg #[.int .i64 c.1, .int .i64 c.2]
/-- A cell that has legs. -/
def InLeg (c : DCell) : Prop := (0 ≤ c.1 ∧ c.1 ≤ 15) ∧ 0 ≤ c.2 ∧ c.2 ≤ 15
instance (c : DCell) : Decidable (InLeg c) := by unfold InLeg; infer_instance
def stepsOf (a b : DCell) : Int := if apartOf a.1 b.1 < apartOf a.2 b.2 then apartOf a.2 b.2 else apartOf a.1 b.1
def nearOf (n f t k : Int) : Int := if n = 0 then f else (2 * (f * n + (t - f) * k) + n) / (2 * n)
def cellOf (n : Int) (a b : DCell) (k : Int) : DCell := (nearOf n a.1 b.1 k, nearOf n a.2 b.2 k)
/-- The lesser one, by X, then by Y (or the same). -/
def Lesser (a b : DCell) : Prop := a.1 < b.1 ∨ (a.1 = b.1 ∧ a.2 ≤ b.2)
instance (a b : DCell) : Decidable (Lesser a b) := by unfold Lesser; infer_instance
def legUp (a b : DCell) : List DCell := (List.range ((stepsOf a b).toNat + 1)).map fun (k : Nat) => cellOf (stepsOf a b) a b (k : Int)
def legOf (a b : DCell) : List DCell := if InLeg a ∧ InLeg b then (if Lesser a b then legUp a b else (legUp b a).reverse) else []

theorem from_is (n lo hi : Int) (w : World) :
    Calls Tryz.prog 109 #[.int .i64 n, .int .i64 lo, .int .i64 hi] w fun e w' => e = .returned (.bool (decide (lo ≤ n ∧ n ≤ hi))) ∧ w = w' := by
  by_cases h1 : lo ≤ n
  · by_cases h2 : n ≤ hi
    · go_enter Tryz.func109, Tryz.ntmps109
      go_wp2
      go_ret
      exact ⟨by simp [h1, h2], rfl⟩
    · go_enter Tryz.func109, Tryz.ntmps109
      go_wp2
      go_ret
      exact ⟨by simp [h1, h2]; try omega, rfl⟩
  · go_enter Tryz.func109, Tryz.ntmps109
    go_wp2
    go_ret
    exact ⟨by simp [h1]; try omega, rfl⟩

theorem from_b (n lo hi : Int) (w : World) (v : Bool) (h : v = decide (lo ≤ n ∧ n ≤ hi)) :
    Calls Tryz.prog 109 #[.int .i64 n, .int .i64 lo, .int .i64 hi] w fun e w' => e = .returned (.bool v) ∧ w = w' := by rw [h]; exact from_is n lo hi w

theorem apart_le {a b : Int} (ha : 0 ≤ a ∧ a ≤ 15) (hb : 0 ≤ b ∧ b ≤ 15) : 0 ≤ apartOf a b ∧ apartOf a b ≤ 15 := by unfold apartOf; split <;> omega
theorem steps_le {a b : DCell} (ha : InLeg a) (hb : InLeg b) : 0 ≤ stepsOf a b ∧ stepsOf a b ≤ 15 := by
  have h1 := apart_le ha.1 hb.1
  have h2 := apart_le ha.2 hb.2
  unfold stepsOf
  split <;> assumption
theorem whole_of {a : Int} (ha : 0 ≤ a ∧ a ≤ 15) : Whole a := ⟨by omega, by omega⟩

theorem dist_b (a b d : Int) (w : World) (ha : Whole a) (hb : Whole b) (hd : apartOf a b = d) :
    Calls Tryz.prog 129 #[.int .i64 a, .int .i64 b] w fun e w' => e = .returned (.int .u64 d) ∧ w = w' := hd ▸ dist_any a b w ha hb

set_option maxHeartbeats 1000000 in
theorem stepsApart (a b : DCell) (w : World) (ha : InLeg a) (hb : InLeg b) :
    Calls Tryz.prog 126 #[vCe a, vCe b] w fun e w' => e = .returned (.int .i64 (stepsOf a b)) ∧ Below w.heap.size w w' := by
  obtain ⟨x, y⟩ := a
  obtain ⟨x', y'⟩ := b
  have h1 := apart_le ha.1 hb.1
  have h2 := apart_le ha.2 hb.2
  have hx := whole_of ha.1
  have hx' := whole_of hb.1
  have hy := whole_of ha.2
  have hy' := whole_of hb.2
  simp only [vCe, stepsOf] at *
  generalize hd : apartOf x x' = d at *
  generalize he : apartOf y y' = e at *
  have HB : Below w.heap.size w ((w.alloc (.cells #[.int .i64 x, .int .i64 y] 201)).alloc (.cells #[.int .i64 x', .int .i64 y'] 201)).drew := (((Below.refl _ _).alloc (Nat.le_refl _) _).alloc (by simp) _).drew
  obtain ⟨hd1, hd2⟩ := h1
  obtain ⟨he1, he2⟩ := h2
  clear ha hb
  have HD : ∀ k, Below w.heap.size w (((w.alloc (.cells #[.int .i64 x, .int .i64 y] 201)).alloc (.cells #[.int .i64 x', .int .i64 y'] 201)).drewN k) := fun k => below_drewN (((Below.refl _ _).alloc (Nat.le_refl _) _).alloc (by simp) _) k
  clear HB
  go_enter Tryz.func126, Tryz.ntmps126
  go_wp2_with fail
  go_quiet ((go_at_call 129; refine (dist_b _ _ _ _ (by assumption) (by assumption) (by assumption)).mono ?_; rintro e w' ⟨rfl, rfl⟩; exact ⟨rfl, _, rfl⟩))
  go_wp2
  all_goals
    go_ret
    exact ⟨rfl, HD _⟩

/-- The values of a line. -/
def lineCells (a b : DCell) (n : Int) : Array Value := #[.int .i64 a.1, .int .i64 a.2, .int .i64 b.1, .int .i64 b.2, .int .i64 n]

set_option maxHeartbeats 1000000 in
theorem lineOf (a b : DCell) (w : World) (ha : InLeg a) (hb : InLeg b) :
    Calls Tryz.prog 119 #[vCe a, vCe b] w fun e w' => e = .returned (.tuple (if Lesser a b then #[.agg (lineCells a b (stepsOf a b)), .int .i64 1] else #[.agg (lineCells b a (stepsOf a b)), .int .i64 (-1)])) ∧ Below w.heap.size w w' := by
  have HS := fun W => stepsApart a b W ha hb
  generalize stepsOf a b = n at *
  obtain ⟨x, y⟩ := a
  obtain ⟨x', y'⟩ := b
  simp only [vCe, lineCells] at *
  obtain ⟨w0, hw0⟩ : ∃ w0, w0 = (((w.alloc (.cells #[.int .i64 x, .int .i64 y] 201)).alloc (.cells #[.int .i64 x', .int .i64 y'] 201)).alloc (.cells #[.int .i64 0, .int .i64 0, .int .i64 0, .int .i64 0, .int .i64 0] 203)) := ⟨_, rfl⟩
  have hb0 : Below w.heap.size w w0 := by rw [hw0]; exact (((Below.refl _ _).alloc (Nat.le_refl _) _).alloc (by simp) _).alloc (by simp; omega) _
  have HL : Lesser (x, y) (x', y') ↔ (x < x' ∨ (x = x' ∧ y ≤ y')) := Iff.rfl
  have e1 : w0.heap.size = w.heap.size + 3 := by rw [hw0]; simp
  clear hw0
  by_cases h1 : x < x'
  · rw [if_pos (HL.2 (.inl h1))]
    clear HL hb0 e1
    go_enter Tryz.func119, Tryz.ntmps119
    go_wp2_with fail
    refine (HS _).mono ?_
    rintro e w1 ⟨rfl, hb1⟩
    obtain ⟨bc, bf⟩ := bcell hb1
    have hb2 := (((Below.refl w.heap.size w).alloc (Nat.le_refl _) _).alloc (by simp) _).alloc (by simp; omega) _ |>.trans (hb1.mono (by simp; omega))
    have z1 := hb1.size
    simp at z1 bc bf
    have y10 : w.heap.size < w1.heap.size := by omega
    have y11 : w.heap.size + 1 < w1.heap.size := by omega
    have y12 : w.heap.size + 1 + 1 < w1.heap.size := by omega
    go_wp2
    refine bodyPost_ret (v := .tuple #[.agg #[.int .i64 x, .int .i64 y, .int .i64 x', .int .i64 y', .int .i64 n], .int .i64 1]) (by simp [results, Tryz.results119, go_sem, bc, bf, y10, y11, y12]) rfl ⟨rfl, ?_⟩
    repeat (first | refine Below.setCell ?_ (by simp; try omega) _ | exact hb2)
  · by_cases h2 : x = x'
    · by_cases h3 : y ≤ y'
      · rw [if_pos (HL.2 (.inr ⟨h2, h3⟩))]
        clear HL hb0 e1
        subst h2
        go_enter Tryz.func119, Tryz.ntmps119
        go_wp2_with fail
        refine (HS _).mono ?_
        rintro e w1 ⟨rfl, hb1⟩
        obtain ⟨bc, bf⟩ := bcell hb1
        have hb2 := (((Below.refl w.heap.size w).alloc (Nat.le_refl _) _).alloc (by simp) _).alloc (by simp; omega) _ |>.trans (hb1.mono (by simp; omega))
        have z1 := hb1.size
        simp at z1 bc bf
        have y10 : w.heap.size < w1.heap.size := by omega
        have y11 : w.heap.size + 1 < w1.heap.size := by omega
        have y12 : w.heap.size + 1 + 1 < w1.heap.size := by omega
        go_wp2
        refine bodyPost_ret (v := .tuple #[.agg #[.int .i64 x, .int .i64 y, .int .i64 x, .int .i64 y', .int .i64 n], .int .i64 1]) (by simp [results, Tryz.results119, go_sem, bc, bf, y10, y11, y12]) rfl ⟨rfl, ?_⟩
        repeat (first | refine Below.setCell ?_ (by simp; try omega) _ | exact hb2)
      · rw [if_neg (fun h => by rcases HL.1 h with h | h <;> omega)]
        clear HL hb0 e1
        subst h2
        go_enter Tryz.func119, Tryz.ntmps119
        go_wp2_with fail
        refine (HS _).mono ?_
        rintro e w1 ⟨rfl, hb1⟩
        obtain ⟨bc, bf⟩ := bcell hb1
        have hb2 := (((Below.refl w.heap.size w).alloc (Nat.le_refl _) _).alloc (by simp) _).alloc (by simp; omega) _ |>.trans (hb1.mono (by simp; omega))
        have z1 := hb1.size
        simp at z1 bc bf
        have y10 : w.heap.size < w1.heap.size := by omega
        have y11 : w.heap.size + 1 < w1.heap.size := by omega
        have y12 : w.heap.size + 1 + 1 < w1.heap.size := by omega
        go_wp2
        refine bodyPost_ret (v := .tuple #[.agg #[.int .i64 x, .int .i64 y', .int .i64 x, .int .i64 y, .int .i64 n], .int .i64 (-1)]) (by simp [results, Tryz.results119, go_sem, bc, bf, y10, y11, y12]) rfl ⟨rfl, ?_⟩
        repeat (first | refine Below.setCell ?_ (by simp; try omega) _ | exact hb2)
    · rw [if_neg (fun h => by rcases HL.1 h with h | h <;> omega)]
      clear HL hb0 e1
      have h2b : (x == x') = false := by simp [h2]
      go_enter Tryz.func119, Tryz.ntmps119
      go_wp2_with fail
      refine (HS _).mono ?_
      rintro e w1 ⟨rfl, hb1⟩
      obtain ⟨bc, bf⟩ := bcell hb1
      have hb2 := (((Below.refl w.heap.size w).alloc (Nat.le_refl _) _).alloc (by simp) _).alloc (by simp; omega) _ |>.trans (hb1.mono (by simp; omega))
      have z1 := hb1.size
      simp at z1 bc bf
      have y10 : w.heap.size < w1.heap.size := by omega
      have y11 : w.heap.size + 1 < w1.heap.size := by omega
      have y12 : w.heap.size + 1 + 1 < w1.heap.size := by omega
      go_wp2
      refine bodyPost_ret (v := .tuple #[.agg #[.int .i64 x', .int .i64 y', .int .i64 x, .int .i64 y, .int .i64 n], .int .i64 (-1)]) (by simp [results, Tryz.results119, go_sem, bc, bf, y10, y11, y12]) rfl ⟨rfl, ?_⟩
      repeat (first | refine Below.setCell ?_ (by simp; try omega) _ | exact hb2)

set_option maxHeartbeats 1000000 in
theorem nearest (a1 a2 b1 b2 n f t k : Int) (w : World) (hf : 0 ≤ f ∧ f ≤ 15) (ht : 0 ≤ t ∧ t ≤ 15) (hn : 0 ≤ n ∧ n ≤ 15) (hk : 0 ≤ k ∧ k ≤ n) :
    Calls Tryz.prog 127 #[.agg #[.int .i64 a1, .int .i64 a2, .int .i64 b1, .int .i64 b2, .int .i64 n], .int .i64 f, .int .i64 t, .int .i64 k] w fun e w' => e = .returned (.int .i64 (nearOf n f t k)) ∧ Below w.heap.size w w' := by
  have HB : Below w.heap.size w (w.alloc (.cells #[.int .i64 a1, .int .i64 a2, .int .i64 b1, .int .i64 b2, .int .i64 n] 203)) := (Below.refl _ _).alloc (Nat.le_refl _) _
  by_cases h0 : n = 0
  · subst h0
    go_enter Tryz.func127, Tryz.ntmps127
    go_wp2
    go_ret
    exact ⟨by simp [nearOf], HB⟩
  · have hnb : (n == 0) = false := by simp [h0]
    have p1 : 0 ≤ f * n := Int.mul_nonneg hf.1 hn.1
    have p2 : f * n ≤ 225 := by
      have h := Int.mul_le_mul hf.2 hn.2 hn.1 (by omega : (0 : Int) ≤ 15)
      omega
    have q1 : -(f * n) ≤ (t - f) * k := by
      have e1 : (t - f) * k = t * k - f * k := Int.sub_mul ..
      have e2 : 0 ≤ t * k := Int.mul_nonneg ht.1 hk.1
      have e3 : f * k ≤ f * n := Int.mul_le_mul_of_nonneg_left hk.2 hf.1
      omega
    have q2 : (t - f) * k ≤ 225 := by
      have e1 : (t - f) * k = t * k - f * k := Int.sub_mul ..
      have e2 : 0 ≤ f * k := Int.mul_nonneg hf.1 hk.1
      have e3 : t * k ≤ 15 * 15 := Int.mul_le_mul ht.2 (by omega) hk.1 (by omega)
      omega
    obtain ⟨hf1, hf2⟩ := hf
    obtain ⟨ht1, ht2⟩ := ht
    obtain ⟨hn1, hn2⟩ := hn
    obtain ⟨hk1, hk2⟩ := hk
    go_enter Tryz.func127, Tryz.ntmps127
    go_wp2
    go_ret
    exact ⟨by simp [nearOf, h0], HB⟩

end Leg
end Go.Proofs.YtgnjkpmbppmoeaaGreat

/- DERIVED. The program's cell of a line: its walk. -/
namespace Go.Proofs.YtgnjkpmbppmoeaaGreat
namespace Leg
open Go.RowKit
set_option linter.unusedSimpArgs false
set_option linter.unusedVariables false

theorem mixedL : Tryz.prog.follows .mixedOrders = true := by kernel_rfl
/-- The box of a line. -/
def LineC (b : Nat) (f t : DCell) (n : Int) (W : World) : Prop :=
  W.cell? ⟨b, 0, none⟩ = some (.int .i64 f.1) ∧ W.cell? ⟨b, 1, none⟩ = some (.int .i64 f.2) ∧ W.cell? ⟨b, 2, none⟩ = some (.int .i64 t.1) ∧ W.cell? ⟨b, 3, none⟩ = some (.int .i64 t.2) ∧ W.cell? ⟨b, 4, none⟩ = some (.int .i64 n)
theorem LineC.below {b m : Nat} {f t : DCell} {n : Int} {w w' : World} (h : LineC b f t n w) (hb : Below m w w') (hn : b < m) : LineC b f t n w' := by
  obtain ⟨h0, h1, h2, h3, h4⟩ := h
  exact ⟨(hb.cell (p := ⟨b, 0, none⟩) hn).trans h0, (hb.cell (p := ⟨b, 1, none⟩) hn).trans h1, (hb.cell (p := ⟨b, 2, none⟩) hn).trans h2, (hb.cell (p := ⟨b, 3, none⟩) hn).trans h3, (hb.cell (p := ⟨b, 4, none⟩) hn).trans h4⟩

set_option maxHeartbeats 2000000 in
theorem cell_any (f t : DCell) (n k : Int) (w : World) (hf : InLeg f) (ht : InLeg t) (hn : 0 ≤ n ∧ n ≤ 15) (hk : 0 ≤ k ∧ k ≤ n) :
    Calls Tryz.prog 121 #[.agg (lineCells f t n), .int .i64 k] w fun e w' => e = .returned (vCe (cellOf n f t k)) ∧ Below w.heap.size w w' := by
  obtain ⟨x, y⟩ := f
  obtain ⟨x', y'⟩ := t
  have HX := fun W => nearest x y x' y' n x x' k W hf.1 ht.1 hn hk
  have HY := fun W => nearest x y x' y' n y y' k W hf.2 ht.2 hn hk
  simp only [vCe, cellOf, lineCells] at *
  generalize nearOf n x x' k = u at *
  generalize nearOf n y y' k = v at *
  obtain ⟨w0, hw0⟩ : ∃ w0, w0 = (w.alloc (.cells #[.int .i64 x, .int .i64 y, .int .i64 x', .int .i64 y', .int .i64 n] 203)).alloc (.cells #[.int .i64 0, .int .i64 0] 201) := ⟨_, rfl⟩
  have hb0 : Below w.heap.size w w0 := by rw [hw0]; exact ((Below.refl _ _).alloc (Nat.le_refl _) _).alloc (by simp) _
  have hsz : Hid (w0.heap.size = w.heap.size + 2) := by rw [hw0]; show _ = _; simp
  have HC0 : LineC w.heap.size (x, y) (x', y') n w0.drew := by rw [hw0]; exact ⟨by go_simp, by go_simp, by go_simp, by go_simp, by go_simp⟩
  have c0 : w0.drew.cell? ⟨w.heap.size + 1, 0, none⟩ = some (.int .i64 0) := by rw [hw0]; go_simp
  have c1 : w0.drew.cell? ⟨w.heap.size + 1, 1, none⟩ = some (.int .i64 0) := by rw [hw0]; go_simp
  have f0 : w0.drew.frozen? ⟨w.heap.size + 1, 0, none⟩ = false := by rw [hw0]; go_simp
  have f1 : w0.drew.frozen? ⟨w.heap.size + 1, 1, none⟩ = false := by rw [hw0]; go_simp
  clear hf ht hn hk
  go_enter Tryz.func121, Tryz.ntmps121
  go_wp2_with fail
  rw [← hw0]
  clear hw0
  have hbd := hb0.drew
  have hle : w.heap.size + 2 ≤ w0.drew.heap.size := by have := hsz.out; simp; omega
  clear hb0 hsz
  refine wp_region_RC (LineC w.heap.size (x, y) (x', y') n) mixedL ?_
  refine RC.take (i := 0) (v := ?va0) rfl (by kernel_rfl) (by kernel_rfl) (by kernel_rfl) (fun _ _ _ h => h) HC0 (by rfl) ?ya0 ?ra0
  case ya0 => (intro W hW; obtain ⟨c0, c1, c2, c3, c4⟩ := hW; go_simp; try with_reducible rfl)
  refine RC.take (i := 1) (v := ?va1) rfl (by kernel_rfl) (by kernel_rfl) (by kernel_rfl) (fun _ _ _ h => h) HC0 (by rfl) ?ya1 ?ra1
  case ya1 => (intro W hW; obtain ⟨c0, c1, c2, c3, c4⟩ := hW; go_simp; try with_reducible rfl)
  refine RC.take (i := 2) (v := ?va2) rfl (by kernel_rfl) (by kernel_rfl) (by kernel_rfl) (fun _ _ _ h => h) HC0 (by rfl) ?ya2 ?ra2
  case ya2 => (intro W hW; obtain ⟨c0, c1, c2, c3, c4⟩ := hW; go_simp; try with_reducible rfl)
  refine RC.take (i := 3) (v := ?va3) rfl (by kernel_rfl) (by kernel_rfl) (by kernel_rfl) (fun _ _ _ h => h) HC0 (by rfl) ?ya3 ?ra3
  case ya3 => (intro W hW; obtain ⟨c0, c1, c2, c3, c4⟩ := hW; go_simp; try with_reducible rfl)
  refine RC.take (i := 4) (v := ?va4) rfl (by kernel_rfl) (by kernel_rfl) (by kernel_rfl) (fun _ _ _ h => h) HC0 (by rfl) ?ya4 ?ra4
  case ya4 => (intro W hW; obtain ⟨c0, c1, c2, c3, c4⟩ := hW; go_simp; try with_reducible rfl)
  refine RC.take (i := 5) (v := ?va5) rfl (by kernel_rfl) (by kernel_rfl) (by kernel_rfl) (fun _ _ _ h => h) HC0 (by rfl) ?ya5 ?ra5
  case ya5 => (intro W hW; obtain ⟨c0, c1, c2, c3, c4⟩ := hW; go_simp; try with_reducible rfl)
  refine RC.take (i := 6) (v := ?va6) rfl (by kernel_rfl) (by kernel_rfl) (by kernel_rfl) (fun _ _ _ h => h) HC0 (by rfl) ?ya6 ?ra6
  case ya6 => (intro W hW; obtain ⟨c0, c1, c2, c3, c4⟩ := hW; go_simp; try with_reducible rfl)
  refine RC.take (i := 7) (v := ?va7) rfl (by kernel_rfl) (by kernel_rfl) (by kernel_rfl) (fun _ _ _ h => h) HC0 (by rfl) ?ya7 ?ra7
  case ya7 => (intro W hW; obtain ⟨c0, c1, c2, c3, c4⟩ := hW; go_simp; try with_reducible rfl)
  refine RC.take (i := 9) (v := ?va9) rfl (by kernel_rfl) (by kernel_rfl) (by kernel_rfl) (fun _ _ _ h => h) HC0 (by rfl) ?ya9 ?ra9
  case ya9 => (intro W hW; obtain ⟨c0, c1, c2, c3, c4⟩ := hW; go_simp; try with_reducible rfl)
  refine RC.take (i := 10) (v := ?va10) rfl (by kernel_rfl) (by kernel_rfl) (by kernel_rfl) (fun _ _ _ h => h) HC0 (by rfl) ?ya10 ?ra10
  case ya10 => (intro W hW; obtain ⟨c0, c1, c2, c3, c4⟩ := hW; go_simp; try with_reducible rfl)
  refine RC.take (i := 11) (v := ?va11) rfl (by kernel_rfl) (by kernel_rfl) (by kernel_rfl) (fun _ _ _ h => h) HC0 (by rfl) ?ya11 ?ra11
  case ya11 => (intro W hW; obtain ⟨c0, c1, c2, c3, c4⟩ := hW; go_simp; try with_reducible rfl)
  refine RC.take (i := 12) (v := ?va12) rfl (by kernel_rfl) (by kernel_rfl) (by kernel_rfl) (fun _ _ _ h => h) HC0 (by rfl) ?ya12 ?ra12
  case ya12 => (intro W hW; obtain ⟨c0, c1, c2, c3, c4⟩ := hW; go_simp; try with_reducible rfl)
  refine RC.take (i := 13) (v := ?va13) rfl (by kernel_rfl) (by kernel_rfl) (by kernel_rfl) (fun _ _ _ h => h) HC0 (by rfl) ?ya13 ?ra13
  case ya13 => (intro W hW; obtain ⟨c0, c1, c2, c3, c4⟩ := hW; go_simp; try with_reducible rfl)
  refine RC.take (i := 14) (v := ?va14) rfl (by kernel_rfl) (by kernel_rfl) (by kernel_rfl) (fun _ _ _ h => h) HC0 (by rfl) ?ya14 ?ra14
  case ya14 => (intro W hW; obtain ⟨c0, c1, c2, c3, c4⟩ := hW; go_simp; try with_reducible rfl)
  refine RC.take (i := 15) (v := ?va15) rfl (by kernel_rfl) (by kernel_rfl) (by kernel_rfl) (fun _ _ _ h => h) HC0 (by rfl) ?ya15 ?ra15
  case ya15 => (intro W hW; obtain ⟨c0, c1, c2, c3, c4⟩ := hW; go_simp; try with_reducible rfl)
  refine RC.take (i := 16) (v := ?va16) rfl (by kernel_rfl) (by kernel_rfl) (by kernel_rfl) (fun _ _ _ h => h) HC0 (by rfl) ?ya16 ?ra16
  case ya16 => (intro W hW; obtain ⟨c0, c1, c2, c3, c4⟩ := hW; go_simp; try with_reducible rfl)
  refine RC.want (i := 8) (by kernel_rfl) rfl (by rfl) (fun K hK => ?_)
  go_simp
  refine (HX _).mono ?_
  rintro e w1 ⟨rfl, hc⟩
  simp only
  have HC1 := HC0.below hc (by omega)
  have hle1 : w.heap.size + 2 ≤ w1.heap.size := Nat.le_trans hle hc.size
  have hbe := hbd.trans (hc.mono (by omega))
  have d0 := (hc.cell (p := ⟨w.heap.size + 1, 0, none⟩) (by show w.heap.size + 1 < _; omega)).trans c0
  have d1 := (hc.cell (p := ⟨w.heap.size + 1, 1, none⟩) (by show w.heap.size + 1 < _; omega)).trans c1
  have g0 := (hc.frozen (p := ⟨w.heap.size + 1, 0, none⟩) (by show w.heap.size + 1 < _; omega)).trans f0
  have g1 := (hc.frozen (p := ⟨w.heap.size + 1, 1, none⟩) (by show w.heap.size + 1 < _; omega)).trans f1
  clear hc HC0 hle hbd c0 c1 f0 f1
  refine hK _ _ HC1 ?_
  clear hK K
  have HC0 := HC1
  have hle := hle1
  have hbd := hbe
  have c0 := d0
  have c1 := d1
  have f0 := g0
  have f1 := g1
  clear HC1 hle1 hbe d0 d1 g0 g1
  refine RC.want (i := 17) (by kernel_rfl) rfl (by rfl) (fun K hK => ?_)
  go_simp
  refine (HY _).mono ?_
  rintro e w2 ⟨rfl, hc⟩
  simp only
  have HC1 := HC0.below hc (by omega)
  have hle1 : w.heap.size + 2 ≤ w2.heap.size := Nat.le_trans hle hc.size
  have hbe := hbd.trans (hc.mono (by omega))
  have d0 := (hc.cell (p := ⟨w.heap.size + 1, 0, none⟩) (by show w.heap.size + 1 < _; omega)).trans c0
  have d1 := (hc.cell (p := ⟨w.heap.size + 1, 1, none⟩) (by show w.heap.size + 1 < _; omega)).trans c1
  have g0 := (hc.frozen (p := ⟨w.heap.size + 1, 0, none⟩) (by show w.heap.size + 1 < _; omega)).trans f0
  have g1 := (hc.frozen (p := ⟨w.heap.size + 1, 1, none⟩) (by show w.heap.size + 1 < _; omega)).trans f1
  clear hc HC0 hle hbd c0 c1 f0 f1
  refine hK _ _ HC1 ?_
  clear hK K
  have HC0 := HC1
  have hle := hle1
  have hbd := hbe
  have c0 := d0
  have c1 := d1
  have f0 := g0
  have f1 := g1
  clear HC1 hle1 hbe d0 d1 g0 g1
  refine RC.take (i := 18) (v := ?va18) rfl (by kernel_rfl) (by kernel_rfl) (by kernel_rfl) (fun _ _ _ h => h) HC0 (by rfl) ?ya18 ?ra18
  case ya18 => (intro W hW; obtain ⟨c0, c1, c2, c3, c4⟩ := hW; go_simp; try with_reducible rfl)
  refine RC.want (i := 19) (by kernel_rfl) rfl (by rfl) (fun K hK => ?_)
  go_simp
  have hb3 : Below (w.heap.size + 1) w2 ((w2.setCell ⟨w.heap.size + 1, 0, none⟩ (.int .i64 u)).setCell ⟨w.heap.size + 1, 1, none⟩ (.int .i64 v)) := ((Below.refl _ _).setCell (p := ⟨w.heap.size + 1, 0, none⟩) (Nat.le_refl _) _).setCell (p := ⟨w.heap.size + 1, 1, none⟩) (Nat.le_refl _) _
  refine hK _ _ (HC0.below hb3 (by omega)) ?_
  clear hK K
  refine RC.done (by kernel_rfl) ?_
  have y1 : w.heap.size + 1 < w2.heap.size := by omega
  go_wp2
  exact bodyPost_ret (v := .agg #[.int .i64 u, .int .i64 v]) (by simp [results, Tryz.results121, go_sem, c0, c1, y1]) rfl ⟨rfl, hbd.trans (hb3.mono (by omega))⟩

end Leg
end Go.Proofs.YtgnjkpmbppmoeaaGreat
