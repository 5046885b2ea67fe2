/- DERIVED. An append at one operation (as 'wpList_append_own_at' does it in a row), for regions that draw. -/
import Derived.Test.YtgnjkpmbppmoeaaGreatKPQ0
import Derived.Maps.AppendAt
import Derived.Test.YtgnjkpmbppmoeaaGreatKGPq
namespace Go.Proofs.YtgnjkpmbppmoeaaGreat
open Go.RowKit
set_option linter.unusedSimpArgs false
set_option linter.unusedVariables false

theorem wpOp_append {P : Program} (w : World) {o : Oper} {a : Act} {K : Act → World → Prop} {Q : Exit → Act → World → Prop} (s x : Operand) (t : TypeId)
    (ho : o.op = .call { callee := .builtin .append, args := #[s, x], argTypes := #[t, t] })
    (base : Nat) (e : TypeId) (i : TypeInfo) (z : Value) (size bytes : Nat) (ht : P.underlying t = some (.slice e)) (hi : P.info? e = some i) (hz : i.zero = some z)
    (hsize : i.size = size) (hby : i.bytes = bytes) (hzs : z.cells.size = size) (hsz : 0 < size)
    (v : Value) (n : Nat) (xs : List Value) (hs : a.eval s = v) (hown : w.ownsRow base e size v n xs)
    (ad : Addr) (m c : Nat) (news : List Value) (hx : a.eval x = .slice (some ad) m c) (hl : news.length = m * size) (hnews : ∀ j u, news[j]? = some u → w.cell? (ad.add j) = some u) (h1 : ∀ u ∈ news, u.oneCell' = true)
    (h63 : n + m ≤ maxLen) (hbytes : (n + m) * bytes ≤ 140737488355328) (hbase : base ≤ w.heap.size)
    (h : ∀ v' w', w'.ownsRow base e size v' (n + m) (xs ++ news) → w.grownBy w' v.ownBlock → (v'.ownBlock = v.ownBlock ∨ v'.ownBlock = some w.heap.size) → K (a.put o.dst v') w') :
    Oper.wp P o a w K Q := by
  obtain ⟨v', w', hr, h2, h3, h4, h5⟩ := run_append_own_at (P := P) w base t o.type e i z size bytes ht hi hz hsize hby hzs hsz v n xs hown ad m c news hl hnews h1 h63 hbytes hbase
  unfold Oper.wp execOp
  simp only [ho, resolve, invoke, builtin, Sem.run_bind, Sem.run_pure, Result.andThen_ok, List.map_toArray, List.map_cons, List.map_nil, hs, hx, hr]
  exact h v' w' h2 h3 h5

end Go.Proofs.YtgnjkpmbppmoeaaGreat

/- DERIVED. spec.l17Abs, l17Max, l17Part: their walks (cut out of the sky's by program: wip/tools/mk_sq.py). -/
namespace Go.Proofs.YtgnjkpmbppmoeaaGreat
namespace Pcl
open Go.RowKit Leg
set_option linter.unusedSimpArgs false
set_option linter.unusedVariables false

theorem sAbs (n d : Int) (w : World) (h : -100 ≤ n ∧ n ≤ 100) (hd : d = if n < 0 then -n else n) :
    Calls Tryz.prog 107 #[.int .i64 n] w fun e w' => e = .returned (.int .i64 d) ∧ w = w' := by
  obtain ⟨h1, h2⟩ := h
  by_cases hn : n < 0
  · rw [if_pos hn] at hd
    subst hd
    go_enter Tryz.func107, Tryz.ntmps107
    go_wp2
    go_ret
    exact ⟨rfl, rfl⟩
  · rw [if_neg hn] at hd
    subst hd
    go_enter Tryz.func107, Tryz.ntmps107
    go_wp2
    go_ret
    exact ⟨rfl, rfl⟩

theorem sMax (a b m : Int) (w : World) (h : m = if a < b then b else a) :
    Calls Tryz.prog 42 #[.int .i64 a, .int .i64 b] w fun e w' => e = .returned (.int .i64 m) ∧ w = w' := by
  by_cases h1 : b < a
  · have e : m = a := by rw [h, if_neg (by omega)]
    subst e
    clear h
    go_enter Tryz.func42, Tryz.ntmps42
    go_wp2
    go_ret
    exact ⟨rfl, rfl⟩
  · have e : m = b := by
      rw [h]
      split <;> omega
    subst e
    clear h
    go_enter Tryz.func42, Tryz.ntmps42
    go_wp2
    go_ret
    exact ⟨rfl, rfl⟩

theorem floor_of (v m q : Int) (hm : 0 < m) (h1 : q * m ≤ v) (h2 : v < q * m + m) : v / m = q := by
  apply Int.le_antisymm
  · exact Int.lt_add_one_iff.1 (Int.ediv_lt_of_lt_mul hm (by rw [Int.add_mul]; omega))
  · exact Int.le_ediv_of_mul_le hm h1
theorem tdiv_neg' (v m : Int) (hm : 0 < m) (hv : v < 0) : v ≤ v.tdiv m * m ∧ v.tdiv m * m < v + m := by
  have e : v.tdiv m = -((-v) / m) := by
    have h := Int.neg_tdiv (-v) m
    rw [Int.neg_neg] at h
    rw [h, Int.tdiv_eq_ediv_of_nonneg (by omega)]
  have h1 := Int.ediv_mul_le (-v) (Int.ne_of_gt hm)
  have h2 := Int.lt_ediv_add_one_mul_self (-v) hm
  rw [Int.add_mul] at h2
  rw [e, Int.neg_mul]
  omega

/-- A part, rounded; halves upward. -/
def partOf (d k n : Int) : Int := (2 * k * d + n) / (2 * n)

set_option maxHeartbeats 1000000 in
theorem sPart (d k n : Int) (w : World) (hd : -15 ≤ d ∧ d ≤ 15) (hn : 1 ≤ n ∧ n ≤ 15) (hk : 0 ≤ k ∧ k ≤ n) :
    Calls Tryz.prog 108 #[.int .i64 d, .int .i64 k, .int .i64 n] w fun e w' => e = .returned (.int .i64 (partOf d k n)) ∧ w = w' := by
  obtain ⟨hd1, hd2⟩ := hd
  obtain ⟨hn1, hn2⟩ := hn
  obtain ⟨hk1, hk2⟩ := hk
  have p1 : 2 * k * d ≤ 450 := by
    have h := Int.mul_le_mul_of_nonneg_left hd2 (by omega : 0 ≤ 2 * k)
    omega
  have p2 : -450 ≤ 2 * k * d := by
    have h := Int.mul_le_mul_of_nonneg_left hd1 (by omega : 0 ≤ 2 * k)
    omega
  by_cases hv : 0 ≤ 2 * k * d + n
  · go_enter Tryz.func108, Tryz.ntmps108
    go_wp2
    go_ret
    exact ⟨rfl, rfl⟩
  · obtain ⟨q1, q2⟩ := tdiv_neg' (2 * k * d + n) (2 * n) (by omega) (by omega)
    have HF : Hid (∀ q, q * (2 * n) ≤ 2 * k * d + n → 2 * k * d + n < q * (2 * n) + 2 * n → partOf d k n = q) := fun q h1 h2 => floor_of _ _ q (by omega) h1 h2
    generalize partOf d k n = r at *
    obtain ⟨q, hq⟩ : ∃ q, (2 * k * d + n).tdiv (2 * n) = q := ⟨_, rfl⟩
    rw [hq] at q1 q2
    have e1 : q * 2 * n = q * (2 * n) := Int.mul_assoc q 2 n
    have hq1 : -466 ≤ q := by
      rcases Int.lt_or_le q (-466) with h | h
      · have h3 := Int.mul_le_mul_of_nonneg_right (Int.le_of_lt h) (by omega : 0 ≤ 2 * n)
        omega
      · exact h
    have hq2 : q ≤ 0 := by
      rcases Int.lt_or_le 0 q with h | h
      · have h3 := Int.mul_le_mul_of_nonneg_right (by omega : 1 ≤ q) (by omega : 0 ≤ 2 * n)
        omega
      · exact h
    by_cases hqv : q * 2 * n = 2 * k * d + n
    · have hr : Hid (r = q) := HF.out q (by omega) (by omega)
      have hqb : (q * 2 * n != 2 * k * d + n) = false := by simp [hqv]
      clear HF e1
      go_enter Tryz.func108, Tryz.ntmps108
      go_wp2
      go_ret
      exact ⟨by rw [hr.out]; rfl, rfl⟩
    · have hr : Hid (r = q - 1) := HF.out (q - 1) (by rw [Int.sub_mul]; omega) (by rw [Int.sub_mul]; omega)
      have hqb : (q * 2 * n != 2 * k * d + n) = true := by simp [hqv]
      have b1 : q * 2 * n ≤ 1000 := by omega
      have b2 : -1000 ≤ q * 2 * n := by omega
      clear HF e1
      go_enter Tryz.func108, Tryz.ntmps108
      go_wp2
      go_ret
      exact ⟨by rw [hr.out]; rfl, rfl⟩

theorem near_zero (n f t : Int) (hn : 0 ≤ n) : nearOf n f t 0 = f := by
  unfold nearOf
  split
  · rfl
  · rename_i h
    have e : 2 * (f * n + (t - f) * 0) + n = n + f * (2 * n) := by
      rw [Int.mul_zero, Int.add_zero, Int.add_comm, Int.mul_left_comm]
    rw [e, Int.add_mul_ediv_right n f (by omega), Int.ediv_eq_zero_of_lt hn (by omega)]
    omega
theorem near_part (n f t k : Int) (hn : 1 ≤ n) : nearOf n f t k = f + partOf (t - f) k n := by
  unfold nearOf partOf
  rw [if_neg (by omega)]
  have e : 2 * (f * n + (t - f) * k) + n = (2 * k * (t - f) + n) + f * (2 * n) := by
    have e1 : 2 * (f * n + (t - f) * k) = 2 * (f * n) + 2 * ((t - f) * k) := Int.mul_add ..
    have e2 : 2 * k * (t - f) = 2 * ((t - f) * k) := by rw [Int.mul_assoc, Int.mul_comm k]
    have e3 : f * (2 * n) = 2 * (f * n) := Int.mul_left_comm ..
    omega
  rw [e, Int.add_mul_ediv_right _ f (by omega)]
  omega
theorem near_in (n f t k : Int) (hf : 0 ≤ f ∧ f ≤ 15) (ht : 0 ≤ t ∧ t ≤ 15) (hn : 1 ≤ n ∧ n ≤ 15) (hk : 0 ≤ k ∧ k ≤ n) : -20 ≤ partOf (t - f) k n ∧ partOf (t - f) k n ≤ 20 := by
  unfold partOf
  have p1 : 2 * k * (t - f) ≤ 2 * n * 15 := by
    rcases Int.lt_or_le (t - f) 0 with h | h
    · have h1 := Int.mul_le_mul_of_nonneg_left (Int.le_of_lt h) (by omega : 0 ≤ 2 * k)
      omega
    · have h1 := Int.mul_le_mul (by omega : 2 * k ≤ 2 * n) (by omega : t - f ≤ 15) h (by omega)
      omega
  have p2 : -(2 * n * 15) ≤ 2 * k * (t - f) := by
    rcases Int.lt_or_le (t - f) 0 with h | h
    · have h1 := Int.mul_le_mul (by omega : 2 * k ≤ 2 * n) (by omega : -(t - f) ≤ 15) (by omega) (by omega)
      rw [Int.mul_neg] at h1
      omega
    · have h1 := Int.mul_nonneg (by omega : 0 ≤ 2 * k) h
      omega
  constructor
  · exact Int.le_ediv_of_mul_le (by omega) (by omega)
  · exact Int.le_of_lt_add_one (Int.ediv_lt_of_lt_mul (by omega) (by omega))

/-- The two boxes of cells. -/
def BoxL (b : Nat) (p q : DCell) (W : World) : Prop :=
  W.cell? ⟨b, 0, none⟩ = some (.int .i64 p.1) ∧ W.cell? ⟨b, 1, none⟩ = some (.int .i64 p.2) ∧ W.cell? ⟨b + 1, 0, none⟩ = some (.int .i64 q.1) ∧ W.cell? ⟨b + 1, 1, none⟩ = some (.int .i64 q.2)
theorem BoxL.below {b n : Nat} {p q : DCell} {w w' : World} (h : BoxL b p q w) (hb : Below n w w') (hn : b + 2 ≤ n) : BoxL b p q w' := by
  obtain ⟨h0, h1, h2, h3⟩ := h
  exact ⟨(hb.cell (p := ⟨b, 0, none⟩) (by show b < n; omega)).trans h0, (hb.cell (p := ⟨b, 1, none⟩) (by show b < n; omega)).trans h1, (hb.cell (p := ⟨b + 1, 0, none⟩) (by show b + 1 < n; omega)).trans h2, (hb.cell (p := ⟨b + 1, 1, none⟩) (by show b + 1 < n; omega)).trans h3⟩

theorem empty_cells (w : World) (e : TypeId) (B : Nat) (hB : B ≤ w.heap.size) : (w.alloc (.cells #[] e)).ownsRow B e 2 (.slice (some ⟨w.heap.size, 0, none⟩) 0 0) 0 [] :=
  World.ownsRow_made w #[] 0 hB (Nat.zero_le _) rfl

end Pcl
end Go.Proofs.YtgnjkpmbppmoeaaGreat
