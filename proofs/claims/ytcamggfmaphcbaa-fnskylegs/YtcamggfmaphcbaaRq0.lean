/- DERIVED. The drawing's reader: l1Rd.pick: what it answers, as far as the laws need it. -/
import Derived.Test.YtcamggfmaphcbaaRows
import Derived.WalkKit
import Derived.WalkSpells
import Derived.WalkLawsBesides
import Derived.Deep.QuietTactic
import Derived.BigQuiet
import Derived.Deep.RegionWith
namespace Go.Proofs.Ytcamggfmaphcbaa
open Go.RowKit
set_option linter.unusedSimpArgs false
set_option linter.unusedVariables false

/-- The reader in block rb stands at place p of a code of len bytes. -/
structure Rd (w : World) (rb : Nat) (ao : Option Addr) (len cap p : Nat) : Prop where
  blk : w.heap[rb]? = some (.cells #[.slice ao len cap, .int .i64 p] 52 (0, 0))
  few : len ≤ 2000
  bytes : ∀ i, i < len → ∃ b off, ∃ z : Nat, ao = some ⟨b, off, none⟩ ∧ b ≠ rb ∧ z ≤ 255 ∧ w.cell? ⟨b, off + i, none⟩ = some (.int .u8 z)

theorem Rd.cell0 {w : World} {rb : Nat} {ao : Option Addr} {len cap p : Nat} (h : Rd w rb ao len cap p) : w.cell? ⟨rb, 0, none⟩ = some (.slice ao len cap) := by simp [World.cell?, h.blk]
theorem Rd.cell1 {w : World} {rb : Nat} {ao : Option Addr} {len cap p : Nat} (h : Rd w rb ao len cap p) : w.cell? ⟨rb, 1, none⟩ = some (.int .i64 p) := by simp [World.cell?, h.blk]
theorem Rd.free {w : World} {rb : Nat} {ao : Option Addr} {len cap p : Nat} (h : Rd w rb ao len cap p) : w.frozen? ⟨rb, 1, none⟩ = false := by simp [World.frozen?, h.blk]

theorem Rd.step {w : World} {rb : Nat} {ao : Option Addr} {len cap p : Nat} (h : Rd w rb ao len cap p) (n : Nat) : Rd ((w.setCell ⟨rb, 1, none⟩ (.int .i64 ((p : Int) + 1))).drewN n) rb ao len cap (p + 1) ∧ w.grownBy ((w.setCell ⟨rb, 1, none⟩ (.int .i64 ((p : Int) + 1))).drewN n) (some rb) := by
  refine ⟨⟨?_, h.few, fun i hi => ?_⟩, ⟨rfl, rfl, rfl, by simp [World.drewN, World.setCell], fun k _ hk => ?_⟩⟩
  · have e := heap_setCell_same w rb 1 _ _ (.int .i64 ((p : Int) + 1)) h.blk
    refine Eq.trans e ?_
    simp
  · obtain ⟨b, off, z, h1, h2, h3, h4⟩ := h.bytes i hi
    refine ⟨b, off, z, h1, h2, h3, ?_⟩
    rw [← h4]
    exact World.cell?_of_block (Below.heap_setCell w ⟨rb, 1, none⟩ _ b h2)
  · exact Below.heap_setCell w ⟨rb, 1, none⟩ _ k (fun e => hk (by rw [e]))

theorem Rd.other {w w' : World} {rb : Nat} {ao : Option Addr} {len cap p : Nat} (h : Rd w rb ao len cap p) (hb : Below w.heap.size w w') : Rd w' rb ao len cap p := by
  have hlt : rb < w.heap.size := (Array.getElem?_eq_some_iff.1 h.blk).1
  refine ⟨(hb.block rb hlt).trans h.blk, h.few, fun i hi => ?_⟩
  obtain ⟨b, off, z, h1, h2, h3, h4⟩ := h.bytes i hi
  exact ⟨b, off, z, h1, h2, h3, (hb.cell (p := ⟨b, off + i, none⟩) (World.block_lt_of_cell? w _ h4)).trans h4⟩

set_option maxHeartbeats 400000 in
theorem pick_none (rb cap p : Nat) (ao : Option Addr) (n : Int) (w : World) (h : Rd w rb ao 0 cap p) (hp : p ≤ 1000000) :
    Calls Try.prog 16 #[.pointer (some ⟨rb, 0, none⟩), .int .i64 n] w fun e w' => e = .returned (.int .i64 0) ∧ Rd w' rb ao 0 cap (p + 1) ∧ w.grownBy w' (some rb) := by
  have c0 := h.cell0
  have c1 := h.cell1
  have hf := h.free
  have hR := h.step 0
  by_cases hn : n < 1
  · have hd : decide (n < 1) = true := by simp [hn]
    go_enter Try.func16, Try.ntmps16
    go_wp2
    go_ret
    exact ⟨rfl, hR.1, hR.2⟩
  · go_enter Try.func16, Try.ntmps16
    go_wp2
    go_ret
    exact ⟨rfl, hR.1, hR.2⟩

theorem i64_xor_nat (a b : Nat) (ha : a < 4611686018427387904) (hb : b < 4611686018427387904) :
    bits .xor .i64 (a : Int) (b : Int) = ((a ^^^ b : Nat) : Int) := by
  have hx : a ^^^ b < 2 ^ 62 := Nat.xor_lt_two_pow (by omega) (by omega)
  have h1 : (BitVec.ofInt 64 (a : Int)).toNat = a := by
    rw [BitVec.ofInt_natCast, BitVec.toNat_ofNat]; exact Nat.mod_eq_of_lt (by omega)
  have h2 : (BitVec.ofInt 64 (b : Int)).toNat = b := by
    rw [BitVec.ofInt_natCast, BitVec.toNat_ofNat]; exact Nat.mod_eq_of_lt (by omega)
  show IntKind.i64.wrap ((BitVec.ofInt 64 (a : Int) ^^^ BitVec.ofInt 64 (b : Int)).toNat : Int) = _
  rw [BitVec.toNat_xor, h1, h2, IntKind.wrap_i64]
  omega

set_option maxHeartbeats 400000 in
theorem pick_near (rb cap len p : Nat) (ao : Option Addr) (n : Nat) (w : World) (h : Rd w rb ao len cap p) (hp : p < len) (hn : 1 ≤ n) (hn2 : n ≤ 1000000) :
    Calls Try.prog 16 #[.pointer (some ⟨rb, 0, none⟩), .int .i64 n] w fun e w' => ∃ q : Nat, e = .returned (.int .i64 q) ∧ q < n ∧ Rd w' rb ao len cap (p + 1) ∧ w.grownBy w' (some rb) := by
  have c0 := h.cell0
  have c1 := h.cell1
  have hf := h.free
  have hR := h.step 0
  obtain ⟨b, off, z, rfl, hb, hz, hc⟩ := h.bytes p hp
  have hfew := h.few
  have hd : decide ((n : Int) < 1) = false := by simp; omega
  have hl : ((len : Int) == 0) = false := by simp; omega
  have hcs : ∀ u, (w.setCell ⟨rb, 1, none⟩ u).cell? ⟨b, off + p, none⟩ = some (.int .u8 z) := fun u => (World.cell?_of_block (Below.heap_setCell w ⟨rb, 1, none⟩ u b hb)).trans hc
  clear h hc
  go_enter Try.func16, Try.ntmps16
  go_wp2
  go_ret
  exact ⟨z % n, by go_num, Nat.mod_lt _ hn, hR.1, hR.2⟩

set_option maxHeartbeats 1000000 in
theorem pick_far (rb cap len p : Nat) (ao : Option Addr) (n : Nat) (w : World) (h : Rd w rb ao len cap p) (hp : ¬ p < len) (hl0 : 0 < len) (hp2 : p ≤ 1000000) (hn : 1 ≤ n) (hn2 : n ≤ 1000000) :
    Calls Try.prog 16 #[.pointer (some ⟨rb, 0, none⟩), .int .i64 n] w fun e w' => ∃ q : Nat, e = .returned (.int .i64 q) ∧ q < n ∧ Rd w' rb ao len cap (p + 1) ∧ w.grownBy w' (some rb) := by
  have c0 := h.cell0
  have c1 := h.cell1
  have hf := h.free
  have hR := h.step
  have hfew := h.few
  obtain ⟨i1, h1, r1⟩ : ∃ i1 : Nat, i1 < len ∧ (p : Int) % (len : Int) = (i1 : Int) := ⟨p % len, Nat.mod_lt _ hl0, rfl⟩
  obtain ⟨i2, h2, r2⟩ : ∃ i2 : Nat, i2 < len ∧ ((p : Int) * 7 + 3) % (len : Int) = (i2 : Int) := ⟨(p * 7 + 3) % len, Nat.mod_lt _ hl0, rfl⟩
  obtain ⟨d, h3, r3⟩ : ∃ d : Nat, d ≤ 1000000 ∧ (p : Int) / (len : Int) = (d : Int) := ⟨p / len, Nat.le_trans (Nat.div_le_self _ _) hp2, rfl⟩
  obtain ⟨b, off, z1, rfl, hb, hz1, hc1⟩ := h.bytes i1 h1
  obtain ⟨b2, off2, z2, e2, _, hz2, hc2⟩ := h.bytes i2 h2
  cases e2
  obtain ⟨y, r4, h4⟩ : ∃ y : Nat, bits .xor .i64 ((z1 : Int) * 131 + (z2 : Int) * 1117 + (p : Int) * 29 + (d : Int) * 53) (((z1 : Int) * 131 + (z2 : Int) * 1117 + (p : Int) * 29 + (d : Int) * 53) / 64) = (y : Int) ∧ y < 4611686018427387904 := by
    have hX := i64_xor_nat (z1 * 131 + z2 * 1117 + p * 29 + d * 53) ((z1 * 131 + z2 * 1117 + p * 29 + d * 53) / 64) (by omega) (by omega)
    exact ⟨_, hX, Nat.xor_lt_two_pow (n := 62) (by omega) (by omega)⟩
  have hlI : (0 : Int) < (len : Int) := by omega
  have hlN : ¬ ((len : Int) = 0) := by omega
  have hlN' : ¬ (len = 0) := by omega
  have hd : decide ((n : Int) < 1) = false := by simp; omega
  have hl : ((len : Int) == 0) = false := by simp; omega
  have hcs1 : ∀ u, (w.setCell ⟨rb, 1, none⟩ u).cell? ⟨b, off + i1, none⟩ = some (.int .u8 z1) := fun u => (World.cell?_of_block (Below.heap_setCell w ⟨rb, 1, none⟩ u b hb)).trans hc1
  have hcs2 : ∀ u, (w.setCell ⟨rb, 1, none⟩ u).cell? ⟨b, off + i2, none⟩ = some (.int .u8 z2) := fun u => (World.cell?_of_block (Below.heap_setCell w ⟨rb, 1, none⟩ u b hb)).trans hc2
  clear h hc1 hc2 h4
  go_enter Try.func16, Try.ntmps16
  go_wp2
  go_quiet (fail)
  go_wp2
  go_ret
  exact ⟨y % n, by go_num, Nat.mod_lt _ hn, (hR _).1, (hR _).2⟩

theorem pick_any (rb cap len p : Nat) (ao : Option Addr) (n : Nat) (w : World) (h : Rd w rb ao len cap p) (hp2 : p ≤ 1000000) (hn : 1 ≤ n) (hn2 : n ≤ 1000000) :
    Calls Try.prog 16 #[.pointer (some ⟨rb, 0, none⟩), .int .i64 n] w fun e w' => ∃ q : Nat, e = .returned (.int .i64 q) ∧ q < n ∧ Rd w' rb ao len cap (p + 1) ∧ w.grownBy w' (some rb) := by
  by_cases hp : p < len
  · exact pick_near rb cap len p ao n w h hp hn hn2
  · by_cases hl : len = 0
    · subst hl
      exact (pick_none rb cap p ao n w h hp2).mono fun e w' ⟨h1, h2, h3⟩ => ⟨0, h1, hn, h2, h3⟩
    · exact pick_far rb cap len p ao n w h hp (by omega) hp2 hn hn2

end Go.Proofs.Ytcamggfmaphcbaa
