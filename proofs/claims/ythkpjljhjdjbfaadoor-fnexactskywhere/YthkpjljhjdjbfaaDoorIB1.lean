/- DERIVED. (impl.skyChecker).sectorsOk: its walk. -/
import Derived.Test.YthkpjljhjdjbfaaDoorIN3
namespace Go.Proofs.YthkpjljhjdjbfaaDoor
open Go.RowKit Go.Maps
set_option linter.unusedSimpArgs false
set_option linter.unusedVariables false

theorem blocksOk_iff {W H L : Int} {bs : List DSkyBlock} : BlocksOk W H L bs ↔ InR (bs.length : Int) 1 4 ∧ BlocksTo W H L bs bs.length := by
  unfold BlocksOk InR BlocksTo
  constructor
  · rintro ⟨h1, h2, h3⟩
    exact ⟨⟨by omega, by omega⟩, fun j hj _ => h3 j hj⟩
  · rintro ⟨⟨h1, h2⟩, h3⟩
    exact ⟨by omega, by omega, fun j hj => h3 j hj hj⟩

theorem someB_app (bs cs : List DSkyBlock) (s : Spot) : SomeB (bs ++ cs) s ↔ SomeB bs s ∨ SomeB cs s := by
  unfold SomeB
  constructor
  · rintro ⟨b, hb, h⟩
    rcases List.mem_append.1 hb with hb | hb
    · exact .inl ⟨b, hb, h⟩
    · exact .inr ⟨b, hb, h⟩
  · rintro (⟨b, hb, h⟩ | ⟨b, hb, h⟩)
    · exact ⟨b, List.mem_append.2 (.inl hb), h⟩
    · exact ⟨b, List.mem_append.2 (.inr hb), h⟩

theorem apart_new {W H L : Int} {bs cs : List DSkyBlock} (hb : ∀ b ∈ bs, BlockOk W H L b) (hc : ∀ c ∈ cs, BlockOk W H L c) : ∀ k, k ≤ cs.length → (Apart (bs ++ cs.take k) ↔ Apart bs ∧ NewTo (SomeB bs) cs k)
  | 0, _ => by
    simp only [List.take_zero, List.append_nil]
    exact ⟨fun h => ⟨h, fun j _ hj => by omega⟩, fun h => h.1⟩
  | k + 1, hk => by
    have hlt : k < cs.length := by omega
    have ih := apart_new hb hc k (by omega)
    rw [take_snoc' cs k hlt, ← List.append_assoc, apart_snoc, ih, ← apart_free (W := W) (H := H) (L := L) (fun a ha => by
      rcases List.mem_append.1 ha with h | h
      · exact hb a h
      · exact hc a (List.mem_of_mem_take h)) (hc _ (List.getElem_mem hlt))]
    constructor
    · rintro ⟨⟨h1, h2⟩, h3⟩
      refine ⟨h1, fun j hj h4 => ?_⟩
      by_cases e : j = k
      · subst e
        exact fun s hs h => h3 s hs ((someB_app _ _ s).2 h)
      · exact h2 j hj (by omega)
    · rintro ⟨h1, h2⟩
      exact ⟨⟨h1, fun j hj h4 => h2 j hj (by omega)⟩, fun s hs h => h2 k hlt (by omega) s hs ((someB_app _ _ s).1 h)⟩

def SecsTo (W H L : Int) (ss : List DSkySector) (k : Nat) : Prop := ∀ j (h : j < ss.length), j < k → BlocksOk W H L (ss[j]'h).2 ∧ NewTo (SomeB (allBlocks (ss.take j))) (ss[j]'h).2 (ss[j]'h).2.length

theorem all_ok {W H L : Int} {ss : List DSkySector} {k : Nat} (hk : k ≤ ss.length) (h : ∀ j (hj : j < ss.length), j < k → BlocksOk W H L (ss[j]'hj).2) : ∀ b ∈ allBlocks (ss.take k), BlockOk W H L b := by
  intro b hb
  unfold allBlocks at hb
  obtain ⟨x, hx, hbx⟩ := List.mem_flatMap.1 hb
  obtain ⟨i, hi, rfl⟩ := List.getElem_of_mem hx
  rw [List.getElem_take] at hbx
  obtain ⟨t, ht, rfl⟩ := List.getElem_of_mem hbx
  exact ((h i (by simp at hi; omega) (by simp at hi; omega)).2.2 t ht).1

theorem apart_secs {W H L : Int} {ss : List DSkySector} (hall : ∀ j (hj : j < ss.length), BlocksOk W H L (ss[j]'hj).2) : ∀ k, k ≤ ss.length → (Apart (allBlocks (ss.take k)) ↔ ∀ j (h : j < ss.length), j < k → NewTo (SomeB (allBlocks (ss.take j))) (ss[j]'h).2 (ss[j]'h).2.length)
  | 0, _ => by
    simp only [List.take_zero]
    exact ⟨fun _ j _ hj => by omega, fun _ => by simp [Apart, allBlocks]⟩
  | k + 1, hk => by
    have hlt : k < ss.length := by omega
    have ih := apart_secs hall k (by omega)
    have h1 := apart_new (W := W) (H := H) (L := L) (bs := allBlocks (ss.take k)) (cs := (ss[k]'hlt).2) (all_ok (by omega) (fun j hj _ => hall j hj)) (fun c hc => by
      obtain ⟨t, ht, rfl⟩ := List.getElem_of_mem hc
      exact ((hall k hlt).2.2 t ht).1) (ss[k]'hlt).2.length (Nat.le_refl _)
    rw [List.take_length] at h1
    rw [all_take_snoc ss k hlt, h1, ih]
    constructor
    · rintro ⟨h2, h3⟩ j hj h4
      by_cases e : j = k
      · subst e; exact h3
      · exact h2 j hj (by omega)
    · intro h2
      exact ⟨fun j hj h4 => h2 j hj (by omega), h2 k hlt (by omega)⟩

theorem sectors_iff {W H L : Int} {ss : List DSkySector} : (SectorsOk W H L ss ∧ Covers W H L (allBlocks ss)) ↔ ((ss.length ≤ 6 ∧ NamesTo (fun x : DSkySector => x.1) ss ss.length) ∧ SecsTo W H L ss ss.length) ∧ ((allBlocks ss).map vol).sum = W * H * L := by
  constructor
  · rintro ⟨h1, h2⟩
    rw [covers_iff] at h2
    have hall : ∀ j (hj : j < ss.length), BlocksOk W H L (ss[j]'hj).2 := fun j hj => (h1.2 j hj).2.2
    have h3 := (apart_secs hall ss.length (Nat.le_refl _)).1 (by rw [List.take_length]; exact h2.1)
    exact ⟨⟨⟨h1.1, fun j hj _ => ⟨(h1.2 j hj).1, (h1.2 j hj).2.1⟩⟩, fun j hj h4 => ⟨hall j hj, h3 j hj h4⟩⟩, h2.2⟩
  · rintro ⟨⟨⟨h1, h2⟩, h3⟩, h4⟩
    have hall : ∀ j (hj : j < ss.length), BlocksOk W H L (ss[j]'hj).2 := fun j hj => (h3 j hj hj).1
    have h5 := (apart_secs hall ss.length (Nat.le_refl _)).2 (fun j hj _ => (h3 j hj hj).2)
    rw [List.take_length] at h5
    exact ⟨⟨h1, fun i hi => ⟨(h2 i hi hi).1, (h2 i hi hi).2, hall i hi⟩⟩, covers_iff.2 ⟨h5, h4⟩⟩

set_option maxHeartbeats 1000000 in
theorem blocksOk_any (W H L : Int) (a b c d : Value) (ao : Option Addr) (cap : Nat) (bs : List DSkyBlock) (B n : Nat) (S : Spot → Prop) (w : World) (hW : 1 ≤ W ∧ W ≤ 16) (hH : 1 ≤ H ∧ H ≤ 16) (hL : 1 ≤ L ∧ L ≤ 6)
    (h : SliceAt vSkyBlock (old w) w ao cap bs) (hT : Taken w B S n) (hn : n ≤ 800000) :
    Calls Tryd.prog 75 #[.agg #[.int .i64 W, .int .i64 H, .int .i64 L, a, b, c, d], .slice ao bs.length cap, .map (some B)] w fun e w' =>
      ((e = .returned (.bool true) ∧ (BlocksOk W H L bs ∧ NewTo S bs bs.length) ∧ ∃ m : Nat, Taken w' B (fun s => S s ∨ SomeB bs s) m ∧ (m : Int) = n + (bs.map vol).sum) ∨ (e = .returned (.bool false) ∧ ¬ (BlocksOk W H L bs ∧ NewTo S bs bs.length))) ∧ w.grownBy w' (some B) := by
  by_cases hl : InR (bs.length : Int) 1 4
  · refine (blocksOk_t W H L a b c d ao cap bs B n S w hW hH hL h hT hn hl).mono ?_
    rintro e w' ⟨⟨he, h1, h2, h3⟩ | ⟨he, h1⟩, hg⟩
    · exact ⟨.inl ⟨he, ⟨blocksOk_iff.2 ⟨hl, h1⟩, h2⟩, h3⟩, hg⟩
    · exact ⟨.inr ⟨he, fun h => h1 ⟨(blocksOk_iff.1 h.1).2, h.2⟩⟩, hg⟩
  · have HF : Hid (¬ (BlocksOk W H L bs ∧ NewTo S bs bs.length)) := fun h => hl (blocksOk_iff.1 h.1).1
    have hmax : bs.length ≤ 9223372036854775807 := Nat.le_trans h.1 h.2.1
    clear h hT
    go_enter Tryd.func75, Tryd.ntmps75
    go_wp2_with (go_at_call 65; refine (from_no _ _ _ _ hl).mono ?_; rintro e w' ⟨rfl, rfl⟩)
    go_ret
    exact ⟨.inr ⟨rfl, HF.out⟩, World.grownBy_alloc w _ _⟩

theorem prod_bd {W H L : Int} (hW : 1 ≤ W ∧ W ≤ 16) (hH : 1 ≤ H ∧ H ≤ 16) (hL : 1 ≤ L ∧ L ≤ 6) : (0 ≤ W * H ∧ W * H ≤ 256) ∧ 0 ≤ W * H * L ∧ W * H * L ≤ 1536 := by
  have k0 : 0 ≤ W * H := Int.mul_nonneg (by omega) (by omega)
  have k1 : W * H ≤ 16 * 16 := Int.mul_le_mul hW.2 hH.2 (by omega) (by omega)
  have k2 : 0 ≤ W * H * L := Int.mul_nonneg k0 (by omega)
  have k3 : W * H * L ≤ 16 * 16 * 6 := Int.mul_le_mul k1 hL.2 (by omega) (by omega)
  omega

end Go.Proofs.YthkpjljhjdjbfaaDoor
