/- DERIVED. spec.l2Blocks: its walk. -/
import Derived.Test.YthkpjljhjdjbfaaDoorSkyS7
import Derived.Test.YthkpjljhjdjbfaaDoorSkyM
import Derived.OwnWalk
namespace Go.Proofs.YthkpjljhjdjbfaaDoor
open Go.RowKit
set_option linter.unusedSimpArgs false
set_option linter.unusedVariables false

def blkVals (b : DSkyBlock) : List Value := [.int .i64 b.1, .int .i64 b.2.1, .int .i64 b.2.2.1, .int .i64 b.2.2.2.1, .int .i64 b.2.2.2.2.1, .int .i64 b.2.2.2.2.2]
def blkCells (l : List DSkyBlock) : List Value := l.flatMap blkVals

theorem blkCells_len (l : List DSkyBlock) : (blkCells l).length = l.length * 6 := by
  induction l with
  | nil => rfl
  | cons b l ih =>
    have : blkCells (b :: l) = blkVals b ++ blkCells l := rfl
    rw [this, List.length_append, ih, List.length_cons]
    have : (blkVals b).length = 6 := rfl
    omega

theorem blkCells_at (l : List DSkyBlock) : ∀ (i : Nat) (h : i < l.length) (j : Nat), j < 6 → (blkCells l)[i * 6 + j]? = (blkVals (l[i]'h))[j]? := by
  induction l with
  | nil => intro i h; simp at h
  | cons b l ih =>
    intro i h j hj
    have e : blkCells (b :: l) = blkVals b ++ blkCells l := rfl
    have e6 : (blkVals b).length = 6 := rfl
    cases i with
    | zero =>
      rw [e, List.getElem?_append_left (by omega)]
      simp
    | succ i =>
      rw [e, List.getElem?_append_right (by omega), show (i + 1) * 6 + j - (blkVals b).length = i * 6 + j by rw [e6]; omega, ih i (by simpa using h) j hj]
      rfl

theorem blkCells_one (l : List DSkyBlock) : ∀ u ∈ blkCells l, u.oneCell' = true := by
  intro u hu
  obtain ⟨b, _, hb⟩ := List.mem_flatMap.1 hu
  simp only [blkVals, List.mem_cons, List.not_mem_nil, or_false] at hb
  rcases hb with rfl | rfl | rfl | rfl | rfl | rfl <;> rfl

theorem blkCells_app (a b : List DSkyBlock) : blkCells (a ++ b) = blkCells a ++ blkCells b := by simp [blkCells]

theorem ownsS_pos {w : World} {base : Nat} {e : TypeId} {size : Nat} {v : Value} {n : Nat} {xs : List Value} (h : w.ownsRow base e size v n xs) (hn : 0 < n) : ∃ g cap, v = .slice (some ⟨g, 0, none⟩) n cap := by
  rcases h.2 with ⟨_, h0⟩ | ⟨g, cap, cur, hv, _⟩
  · omega
  · exact ⟨g, cap, hv⟩

theorem empty_ownS (w : World) (e : TypeId) (B size : Nat) (hB : B ≤ w.heap.size) : (w.alloc (.cells #[] e)).ownsRow B e size (.slice (some ⟨w.heap.size, 0, none⟩) 0 0) 0 [] :=
  World.ownsRow_made w #[] 0 hB (Nat.zero_le _) (by simp)

theorem cells_of_slice {w : World} {b off cap : Nat} {l : List DSkyBlock} {ok : Nat → Prop} (h : SliceAt vSkyBlock ok w (some ⟨b, off, none⟩) cap l) : ∀ j u, (blkCells l)[j]? = some u → w.cell? ((⟨b, off, none⟩ : Addr).add j) = some u := by
  intro j u hj
  have hlt : j < l.length * 6 := by rw [← blkCells_len]; exact (List.getElem?_eq_some_iff.1 hj).1
  have hi : j / 6 < l.length := by omega
  obtain ⟨b', off', hbo, hok, c0, c1, c2, c3, c4, c5, _⟩ := elem_SkyBlock h hi
  cases hbo
  have hm : j % 6 = 0 ∨ j % 6 = 1 ∨ j % 6 = 2 ∨ j % 6 = 3 ∨ j % 6 = 4 ∨ j % 6 = 5 := by omega
  have hj2 : j = j / 6 * 6 + j % 6 := by omega
  rw [hj2, blkCells_at l (j / 6) hi (j % 6) (by omega)] at hj
  rw [add_none, hj2]
  rcases hm with e | e | e | e | e | e <;> rw [e] at hj ⊢ <;> simp [blkVals] at hj <;> subst hj
  · simpa [Nat.add_assoc] using c0
  · simpa [Nat.add_assoc] using c1
  · simpa [Nat.add_assoc] using c2
  · simpa [Nat.add_assoc] using c3
  · simpa [Nat.add_assoc] using c4
  · simpa [Nat.add_assoc] using c5

set_option maxRecDepth 100000 in
set_option maxHeartbeats 2000000 in
theorem specBlocks_any (W H L : Int) (a b : Value) (ao5 : Option Addr) (cap5 : Nat) (ss : List DSkySector) (d : Value) (w : World)
    (h : SliceAt vSkySector (old w) w ao5 cap5 ss) (hn : ss.length ≤ 6) (hb : ∀ j (hj : j < ss.length), 1 ≤ (ss[j]'hj).2.length ∧ (ss[j]'hj).2.length ≤ 4) :
    Calls Tryd.prog 59 #[.agg #[.int .i64 W, .int .i64 H, .int .i64 L, a, b, .slice ao5 ss.length cap5, d]] w fun e w' => ∃ g cap, e = .returned (.slice (some ⟨g, 0, none⟩) (allBlocks ss).length cap) ∧ w'.ownsRow (w.heap.size + 1) 77 6 (.slice (some ⟨g, 0, none⟩) (allBlocks ss).length cap) (allBlocks ss).length (blkCells (allBlocks ss)) ∧ Below w.heap.size w w' := by
  obtain ⟨i0, hi, hz0, hz1, hz2⟩ := info_parts Tryd.info_SkyBlock
  have HBD : Hid (∀ j (hj : j < ss.length), 1 ≤ (ss[j]'hj).2.length ∧ (ss[j]'hj).2.length ≤ 4) := hb
  clear hb
  have hown0 : ((w.alloc (.cells #[.int .i64 W, .int .i64 H, .int .i64 L, a, b, .slice ao5 ss.length cap5, d] 38)).alloc (.cells #[] 77)).ownsRow (w.heap.size + 1) 77 6 (.slice (some ⟨w.heap.size + 1, 0, none⟩) 0 0) 0 (blkCells (allBlocks (ss.take 0))) := by
    have := empty_ownS (w.alloc (.cells #[.int .i64 W, .int .i64 H, .int .i64 L, a, b, .slice ao5 ss.length cap5, d] 38)) 77 (w.heap.size + 1) 6 (by simp)
    simpa [allBlocks, blkCells] using this
  have hb0 : Below (w.heap.size + 1) (w.alloc (.cells #[.int .i64 W, .int .i64 H, .int .i64 L, a, b, .slice ao5 ss.length cap5, d] 38)) ((w.alloc (.cells #[.int .i64 W, .int .i64 H, .int .i64 L, a, b, .slice ao5 ss.length cap5, d] 38)).alloc (.cells #[] 77)) := (Below.refl _ _).alloc (by simp) _
  go_enter Tryd.func59, Tryd.ntmps59
  go_wp2
  go_loopw [3, 4] (fun v i wr => ∃ (k n g cap : Nat), k ≤ ss.length ∧ i = .int .i64 k ∧ v = .slice (some ⟨g, 0, none⟩) n cap ∧ Hid (n = (allBlocks (ss.take k)).length) ∧ n ≤ 4 * k ∧ wr.ownsRow (w.heap.size + 1) 77 6 (.slice (some ⟨g, 0, none⟩) n cap) n (blkCells (allBlocks (ss.take k))) ∧ Below (w.heap.size + 1) (w.alloc (.cells #[.int .i64 W, .int .i64 H, .int .i64 L, a, b, .slice ao5 ss.length cap5, d] 38)) wr) (fun _ i _ => ss.length - (intOf i).toNat)
  case atStart => exact ⟨0, 0, w.heap.size + 1, 0, Nat.zero_le _, rfl, rfl, by show _ = _; simp [allBlocks], by omega, hown0, hb0⟩
  case round =>
    clear hown0 hb0
    obtain ⟨k, n, g, cap, hk, rfl, rfl, hnn, hn4, hown, hbel⟩ := hrel
    have hB := box_below hbel
    have x5 := box_cell hbel 5
    simp at x5
    have hsz : w.heap.size < wr.heap.size := by have := hbel.size; simp at this; omega
    by_cases hlt : k < ss.length
    · obtain ⟨b1, off, ao1, cap1, rfl, hok, c0, c1, q0, p1⟩ := elem_SkySector h hlt
      have f1 := (hB.cell (p := ⟨b1, off + k * 2 + 1, none⟩) hok).trans c1
      have hkI : (k : Int) < (ss.length : Int) := by omega
      obtain ⟨hm1, hm4⟩ := HBD.out k hlt
      have hall := all_take_snoc ss k hlt
      generalize (ss[k]'hlt).2 = bs at *
      obtain ⟨b2, off2, rfl, hok2, _⟩ := elem_SkyBlock p1 (show 0 < bs.length by omega)
      have hcl := cells_of_slice p1
      have HN1 : Hid (n + bs.length = (allBlocks (ss.take (k + 1))).length) := by show _ = _; rw [hall, List.length_append, ← hnn.out]
      have HC1 : Hid (blkCells (allBlocks (ss.take (k + 1))) = blkCells (allBlocks (ss.take k)) ++ blkCells bs) := by show _ = _; rw [hall, blkCells_app]
      have HCL : Hid (∀ j u, (blkCells bs)[j]? = some u → wr.cell? ((⟨b2, off2, none⟩ : Addr).add j) = some u) := fun j u hj => by
        have := hcl j u hj
        rw [add_none] at this ⊢
        exact (hB.cell (p := ⟨b2, off2 + j, none⟩) hok2).trans this
      clear hall hcl hnn c0 c1
      go_wp2_with (at_builtin; refine wpList_append_own _ rfl _ _ 72 rfl (w.heap.size + 1) 77 i0 (.agg #[.int .i64 0, .int .i64 0, .int .i64 0, .int .i64 0, .int .i64 0, .int .i64 0]) 6 48 Tryd.underlying72 hi hz0 hz1 hz2 rfl (by decide) _ _ _ rfl hown ⟨b2, off2, none⟩ bs.length cap1 (blkCells bs) rfl (blkCells_len bs) ?c1 (blkCells_one bs) ?c3 ?c4 ?c5 ?_)
      case c1 => exact HCL.out
      case c3 => unfold maxLen; omega
      case c4 => omega
      case c5 => omega
      intro v' w1 hown' hgrow _
      obtain ⟨g', cap', rfl⟩ := ownsS_pos hown' (by omega)
      have hB1 : Below (w.heap.size + 1) (w.alloc (.cells #[.int .i64 W, .int .i64 H, .int .i64 L, a, b, .slice (some ⟨b1, off, none⟩) ss.length cap5, d] 38)) w1 := hbel.grown hgrow (by omega) (fun j hj => (hown.lt j hj).1)
      have hO : w1.ownsRow (w.heap.size + 1) 77 6 (.slice (some ⟨g', 0, none⟩) (n + bs.length) cap') (n + bs.length) (blkCells (allBlocks (ss.take (k + 1)))) := by rw [HC1.out]; exact hown'
      clear hgrow hown' hown hbel
      go_wp2
      go_roundw
      case rel => exact ⟨k + 1, n + bs.length, g', cap', by omega, by go_num, rfl, HN1, by omega, hO, hB1⟩
      case measure => simp [intOf]; omega
    · have hke : k = ss.length := by omega
      subst hke
      have hnn' := hnn.out
      rw [List.take_length] at hnn' hown
      subst hnn'
      clear hnn
      go_wp2
      go_ret
      exact ⟨g, cap, rfl, hown, hB⟩

end Go.Proofs.YthkpjljhjdjbfaaDoor
