/- DERIVED. Legs on plain data; the program's small functions over cells: skyHasLegs, skyStepsApart, skyLineOf, nearest, cell: their walks. -/
import Derived.Test.YtohgkiljdehefaaNd0
import Derived.Test.YtohgkiljdehefaaPQ0
namespace Go.Proofs.Ytohgkiljdehefaa
namespace Leg
open Go.RowKit
set_option linter.unusedSimpArgs false
set_option linter.unusedVariables false

abbrev DCell := Int × Int
def vCe (c : DCell) : Value := .agg #[.int .i64 c.1, .int .i64 c.2]
/-- A cell that has legs. -/
def InLeg (c : DCell) : Prop := (0 ≤ c.1 ∧ c.1 ≤ 15) ∧ 0 ≤ c.2 ∧ c.2 ≤ 15
instance (c : DCell) : Decidable (InLeg c) := by unfold InLeg; infer_instance
def stepsOf (a b : DCell) : Int := if apartOf a.1 b.1 < apartOf a.2 b.2 then apartOf a.2 b.2 else apartOf a.1 b.1
def nearOf (n f t k : Int) : Int := if n = 0 then f else (2 * (f * n + (t - f) * k) + n) / (2 * n)
def cellOf (n : Int) (a b : DCell) (k : Int) : DCell := (nearOf n a.1 b.1 k, nearOf n a.2 b.2 k)
/-- The lesser one, by X, then by Y (or the same). -/
def Lesser (a b : DCell) : Prop := a.1 < b.1 ∨ (a.1 = b.1 ∧ a.2 ≤ b.2)
instance (a b : DCell) : Decidable (Lesser a b) := by unfold Lesser; infer_instance
def legUp (a b : DCell) : List DCell := (List.range ((stepsOf a b).toNat + 1)).map fun (k : Nat) => cellOf (stepsOf a b) a b (k : Int)
def legOf (a b : DCell) : List DCell := if InLeg a ∧ InLeg b then (if Lesser a b then legUp a b else (legUp b a).reverse) else []

theorem from_is (n lo hi : Int) (w : World) :
    Calls Try.prog 78 #[.int .i64 n, .int .i64 lo, .int .i64 hi] w fun e w' => e = .returned (.bool (decide (lo ≤ n ∧ n ≤ hi))) ∧ w = w' := by
  by_cases h1 : lo ≤ n
  · by_cases h2 : n ≤ hi
    · go_enter Try.func78, Try.ntmps78
      go_wp2
      go_ret
      exact ⟨by simp [h1, h2], rfl⟩
    · go_enter Try.func78, Try.ntmps78
      go_wp2
      go_ret
      exact ⟨by simp [h1, h2]; try omega, rfl⟩
  · go_enter Try.func78, Try.ntmps78
    go_wp2
    go_ret
    exact ⟨by simp [h1]; try omega, rfl⟩

theorem from_b (n lo hi : Int) (w : World) (v : Bool) (h : v = decide (lo ≤ n ∧ n ≤ hi)) :
    Calls Try.prog 78 #[.int .i64 n, .int .i64 lo, .int .i64 hi] w fun e w' => e = .returned (.bool v) ∧ w = w' := by rw [h]; exact from_is n lo hi w

theorem apart_le {a b : Int} (ha : 0 ≤ a ∧ a ≤ 15) (hb : 0 ≤ b ∧ b ≤ 15) : 0 ≤ apartOf a b ∧ apartOf a b ≤ 15 := by unfold apartOf; split <;> omega
theorem steps_le {a b : DCell} (ha : InLeg a) (hb : InLeg b) : 0 ≤ stepsOf a b ∧ stepsOf a b ≤ 15 := by
  have h1 := apart_le ha.1 hb.1
  have h2 := apart_le ha.2 hb.2
  unfold stepsOf
  split <;> assumption
theorem whole_of {a : Int} (ha : 0 ≤ a ∧ a ≤ 15) : Whole a := ⟨by omega, by omega⟩

theorem dist_b (a b d : Int) (w : World) (ha : Whole a) (hb : Whole b) (hd : apartOf a b = d) :
    Calls Try.prog 102 #[.int .i64 a, .int .i64 b] w fun e w' => e = .returned (.int .u64 d) ∧ w = w' := hd ▸ dist_any a b w ha hb

set_option maxHeartbeats 1000000 in
theorem stepsApart (a b : DCell) (w : World) (ha : InLeg a) (hb : InLeg b) :
    Calls Try.prog 100 #[vCe a, vCe b] w fun e w' => e = .returned (.int .i64 (stepsOf a b)) ∧ Below w.heap.size w w' := by
  obtain ⟨x, y⟩ := a
  obtain ⟨x', y'⟩ := b
  have h1 := apart_le ha.1 hb.1
  have h2 := apart_le ha.2 hb.2
  have hx := whole_of ha.1
  have hx' := whole_of hb.1
  have hy := whole_of ha.2
  have hy' := whole_of hb.2
  simp only [vCe, stepsOf] at *
  generalize hd : apartOf x x' = d at *
  generalize he : apartOf y y' = e at *
  have HB : Below w.heap.size w ((w.alloc (.cells #[.int .i64 x, .int .i64 y] 148)).alloc (.cells #[.int .i64 x', .int .i64 y'] 148)).drew := (((Below.refl _ _).alloc (Nat.le_refl _) _).alloc (by simp) _).drew
  obtain ⟨hd1, hd2⟩ := h1
  obtain ⟨he1, he2⟩ := h2
  clear ha hb
  have HD : ∀ k, Below w.heap.size w (((w.alloc (.cells #[.int .i64 x, .int .i64 y] 148)).alloc (.cells #[.int .i64 x', .int .i64 y'] 148)).drewN k) := fun k => below_drewN (((Below.refl _ _).alloc (Nat.le_refl _) _).alloc (by simp) _) k
  clear HB
  go_enter Try.func100, Try.ntmps100
  go_wp2_with fail
  go_quiet ((go_at_call 102; refine (dist_b _ _ _ _ (by assumption) (by assumption) (by assumption)).mono ?_; rintro e w' ⟨rfl, rfl⟩; exact ⟨rfl, _, rfl⟩))
  go_wp2
  all_goals
    go_ret
    exact ⟨rfl, HD _⟩

/-- The values of a line. -/
def lineCells (a b : DCell) (n : Int) : Array Value := #[.int .i64 a.1, .int .i64 a.2, .int .i64 b.1, .int .i64 b.2, .int .i64 n]

set_option maxHeartbeats 1000000 in
theorem lineOf (a b : DCell) (w : World) (ha : InLeg a) (hb : InLeg b) :
    Calls Try.prog 94 #[vCe a, vCe b] w fun e w' => e = .returned (.tuple (if Lesser a b then #[.agg (lineCells a b (stepsOf a b)), .int .i64 1] else #[.agg (lineCells b a (stepsOf a b)), .int .i64 (-1)])) ∧ Below w.heap.size w w' := by
  have HS := fun W => stepsApart a b W ha hb
  generalize stepsOf a b = n at *
  obtain ⟨x, y⟩ := a
  obtain ⟨x', y'⟩ := b
  simp only [vCe, lineCells] at *
  obtain ⟨w0, hw0⟩ : ∃ w0, w0 = (((w.alloc (.cells #[.int .i64 x, .int .i64 y] 148)).alloc (.cells #[.int .i64 x', .int .i64 y'] 148)).alloc (.cells #[.int .i64 0, .int .i64 0, .int .i64 0, .int .i64 0, .int .i64 0] 150)) := ⟨_, rfl⟩
  have hb0 : Below w.heap.size w w0 := by rw [hw0]; exact (((Below.refl _ _).alloc (Nat.le_refl _) _).alloc (by simp) _).alloc (by simp; omega) _
  have HL : Lesser (x, y) (x', y') ↔ (x < x' ∨ (x = x' ∧ y ≤ y')) := Iff.rfl
  have e1 : w0.heap.size = w.heap.size + 3 := by rw [hw0]; simp
  clear hw0
  by_cases h1 : x < x'
  · rw [if_pos (HL.2 (.inl h1))]
    clear HL hb0 e1
    go_enter Try.func94, Try.ntmps94
    go_wp2_with fail
    refine (HS _).mono ?_
    rintro e w1 ⟨rfl, hb1⟩
    obtain ⟨bc, bf⟩ := bcell hb1
    have hb2 := (((Below.refl w.heap.size w).alloc (Nat.le_refl _) _).alloc (by simp) _).alloc (by simp; omega) _ |>.trans (hb1.mono (by simp; omega))
    have z1 := hb1.size
    simp at z1 bc bf
    have y10 : w.heap.size < w1.heap.size := by omega
    have y11 : w.heap.size + 1 < w1.heap.size := by omega
    have y12 : w.heap.size + 1 + 1 < w1.heap.size := by omega
    go_wp2
    refine bodyPost_ret (v := .tuple #[.agg #[.int .i64 x, .int .i64 y, .int .i64 x', .int .i64 y', .int .i64 n], .int .i64 1]) (by simp [results, Try.results94, go_sem, bc, bf, y10, y11, y12]) rfl ⟨rfl, ?_⟩
    repeat (first | refine Below.setCell ?_ (by simp; try omega) _ | exact hb2)
  · by_cases h2 : x = x'
    · by_cases h3 : y ≤ y'
      · rw [if_pos (HL.2 (.inr ⟨h2, h3⟩))]
        clear HL hb0 e1
        subst h2
        go_enter Try.func94, Try.ntmps94
        go_wp2_with fail
        refine (HS _).mono ?_
        rintro e w1 ⟨rfl, hb1⟩
        obtain ⟨bc, bf⟩ := bcell hb1
        have hb2 := (((Below.refl w.heap.size w).alloc (Nat.le_refl _) _).alloc (by simp) _).alloc (by simp; omega) _ |>.trans (hb1.mono (by simp; omega))
        have z1 := hb1.size
        simp at z1 bc bf
        have y10 : w.heap.size < w1.heap.size := by omega
        have y11 : w.heap.size + 1 < w1.heap.size := by omega
        have y12 : w.heap.size + 1 + 1 < w1.heap.size := by omega
        go_wp2
        refine bodyPost_ret (v := .tuple #[.agg #[.int .i64 x, .int .i64 y, .int .i64 x, .int .i64 y', .int .i64 n], .int .i64 1]) (by simp [results, Try.results94, go_sem, bc, bf, y10, y11, y12]) rfl ⟨rfl, ?_⟩
        repeat (first | refine Below.setCell ?_ (by simp; try omega) _ | exact hb2)
      · rw [if_neg (fun h => by rcases HL.1 h with h | h <;> omega)]
        clear HL hb0 e1
        subst h2
        go_enter Try.func94, Try.ntmps94
        go_wp2_with fail
        refine (HS _).mono ?_
        rintro e w1 ⟨rfl, hb1⟩
        obtain ⟨bc, bf⟩ := bcell hb1
        have hb2 := (((Below.refl w.heap.size w).alloc (Nat.le_refl _) _).alloc (by simp) _).alloc (by simp; omega) _ |>.trans (hb1.mono (by simp; omega))
        have z1 := hb1.size
        simp at z1 bc bf
        have y10 : w.heap.size < w1.heap.size := by omega
        have y11 : w.heap.size + 1 < w1.heap.size := by omega
        have y12 : w.heap.size + 1 + 1 < w1.heap.size := by omega
        go_wp2
        refine bodyPost_ret (v := .tuple #[.agg #[.int .i64 x, .int .i64 y', .int .i64 x, .int .i64 y, .int .i64 n], .int .i64 (-1)]) (by simp [results, Try.results94, go_sem, bc, bf, y10, y11, y12]) rfl ⟨rfl, ?_⟩
        repeat (first | refine Below.setCell ?_ (by simp; try omega) _ | exact hb2)
    · rw [if_neg (fun h => by rcases HL.1 h with h | h <;> omega)]
      clear HL hb0 e1
      have h2b : (x == x') = false := by simp [h2]
      go_enter Try.func94, Try.ntmps94
      go_wp2_with fail
      refine (HS _).mono ?_
      rintro e w1 ⟨rfl, hb1⟩
      obtain ⟨bc, bf⟩ := bcell hb1
      have hb2 := (((Below.refl w.heap.size w).alloc (Nat.le_refl _) _).alloc (by simp) _).alloc (by simp; omega) _ |>.trans (hb1.mono (by simp; omega))
      have z1 := hb1.size
      simp at z1 bc bf
      have y10 : w.heap.size < w1.heap.size := by omega
      have y11 : w.heap.size + 1 < w1.heap.size := by omega
      have y12 : w.heap.size + 1 + 1 < w1.heap.size := by omega
      go_wp2
      refine bodyPost_ret (v := .tuple #[.agg #[.int .i64 x', .int .i64 y', .int .i64 x, .int .i64 y, .int .i64 n], .int .i64 (-1)]) (by simp [results, Try.results94, go_sem, bc, bf, y10, y11, y12]) rfl ⟨rfl, ?_⟩
      repeat (first | refine Below.setCell ?_ (by simp; try omega) _ | exact hb2)

set_option maxHeartbeats 1000000 in
theorem nearest (a1 a2 b1 b2 n f t k : Int) (w : World) (hf : 0 ≤ f ∧ f ≤ 15) (ht : 0 ≤ t ∧ t ≤ 15) (hn : 0 ≤ n ∧ n ≤ 15) (hk : 0 ≤ k ∧ k ≤ n) :
    Calls Try.prog 101 #[.agg #[.int .i64 a1, .int .i64 a2, .int .i64 b1, .int .i64 b2, .int .i64 n], .int .i64 f, .int .i64 t, .int .i64 k] w fun e w' => e = .returned (.int .i64 (nearOf n f t k)) ∧ Below w.heap.size w w' := by
  have HB : Below w.heap.size w (w.alloc (.cells #[.int .i64 a1, .int .i64 a2, .int .i64 b1, .int .i64 b2, .int .i64 n] 150)) := (Below.refl _ _).alloc (Nat.le_refl _) _
  by_cases h0 : n = 0
  · subst h0
    go_enter Try.func101, Try.ntmps101
    go_wp2
    go_ret
    exact ⟨by simp [nearOf], HB⟩
  · have hnb : (n == 0) = false := by simp [h0]
    have p1 : 0 ≤ f * n := Int.mul_nonneg hf.1 hn.1
    have p2 : f * n ≤ 225 := by
      have h := Int.mul_le_mul hf.2 hn.2 hn.1 (by omega : (0 : Int) ≤ 15)
      omega
    have q1 : -(f * n) ≤ (t - f) * k := by
      have e1 : (t - f) * k = t * k - f * k := Int.sub_mul ..
      have e2 : 0 ≤ t * k := Int.mul_nonneg ht.1 hk.1
      have e3 : f * k ≤ f * n := Int.mul_le_mul_of_nonneg_left hk.2 hf.1
      omega
    have q2 : (t - f) * k ≤ 225 := by
      have e1 : (t - f) * k = t * k - f * k := Int.sub_mul ..
      have e2 : 0 ≤ f * k := Int.mul_nonneg hf.1 hk.1
      have e3 : t * k ≤ 15 * 15 := Int.mul_le_mul ht.2 (by omega) hk.1 (by omega)
      omega
    obtain ⟨hf1, hf2⟩ := hf
    obtain ⟨ht1, ht2⟩ := ht
    obtain ⟨hn1, hn2⟩ := hn
    obtain ⟨hk1, hk2⟩ := hk
    go_enter Try.func101, Try.ntmps101
    go_wp2
    go_ret
    exact ⟨by simp [nearOf, h0], HB⟩

end Leg
end Go.Proofs.Ytohgkiljdehefaa
