/- DERIVED. spec.DrawSkyWords: it answers some text, not too long. -/
import Derived.Test.YtlkalmpmfblnfaaRd1
namespace Go.Proofs.Ytlkalmpmfblnfaa
open Go.RowKit
set_option linter.unusedSimpArgs false
set_option linter.unusedVariables false

theorem manySp (a c : Int) (w : World) (h0 : 0 ≤ a) (h1 : a ≤ 2) (h2 : 0 ≤ c) (h3 : c ≤ 1) :
    Calls Try.prog 15 #[.string ⟨#[32]⟩, .int .i64 (a + c)] w fun e w' => ∃ t, e = .returned (.string t) ∧ t.size ≤ 3 ∧ w' = w := by
  obtain ⟨n, hn⟩ := Int.eq_ofNat_of_zero_le (show 0 ≤ a + c by omega)
  rw [hn]
  refine (many_any ⟨#[32]⟩ n w (by decide) (by omega)).mono ?_
  rintro e w' ⟨t, h1, h2, h3⟩
  have h4 : (⟨#[32]⟩ : ByteArray).size = 1 := rfl
  rw [h4] at h2
  exact ⟨t, h1, by omega, h3⟩

theorem manyW (a : Int) (w : World) (h0 : 0 ≤ a) (h1 : a ≤ 1) :
    Calls Try.prog 15 #[.string ⟨#[119]⟩, .int .i64 (24 + a)] w fun e w' => ∃ t, e = .returned (.string t) ∧ t.size ≤ 25 ∧ w' = w := by
  obtain ⟨n, hn⟩ := Int.eq_ofNat_of_zero_le (show 0 ≤ 24 + a by omega)
  rw [hn]
  refine (many_any ⟨#[119]⟩ n w (by decide) (by omega)).mono ?_
  rintro e w' ⟨t, h1, h2, h3⟩
  have h4 : (⟨#[119]⟩ : ByteArray).size = 1 := rfl
  rw [h4] at h2
  exact ⟨t, h1, by omega, h3⟩

/-- The texts of a list that was just laid. -/
theorem list_cells (w : World) (cs : Array Value) (e : TypeId) (S n : Nat) (hn : n = cs.size) (h : ∀ v ∈ cs.toList, ∃ s : ByteArray, v = .string s ∧ s.size ≤ S) :
    ∀ i, i < n → ∃ s : ByteArray, s.size ≤ S ∧ (w.alloc (.cells cs e)).cell? ⟨w.heap.size, i, none⟩ = some (.string s) := by
  intro i hi
  have hi2 : i < cs.size := by omega
  obtain ⟨s, h1, h2⟩ := h cs[i] (by simp)
  refine ⟨s, h2, ?_⟩
  have : (w.alloc (.cells cs e)).heap[w.heap.size]? = some (.cells cs e (0, 0)) := heap_alloc_new w _
  simp only [World.cell?, this]
  simp [hi2, h1]

set_option maxHeartbeats 2000000 in
theorem drawWords_any (ao : Option Addr) (len cap : Nat) (w : World) (h : Code8 w ao len cap) :
    Calls Try.prog 5 #[.slice ao len cap] w fun e w' => ∃ s : ByteArray, e = .returned (.string s) ∧ s.size ≤ 600 ∧ Below w.heap.size w w' := by
  go_enter Try.func5, Try.ntmps5
  go_wp2_with fail
  refine (open_any ao len cap _ h).mono ?_
  rintro e w1 ⟨rfl, hb1, _, m, hR1⟩
  clear h
  obtain ⟨rb, hrbe⟩ : ∃ rb, rb = w.heap.size := ⟨_, rfl⟩
  rw [← hrbe] at hR1 ⊢
  have hrb : w.heap.size ≤ rb := by omega
  clear hrbe
  go_wp2_with fail
  refine (pick_any rb cap m 0 ao 15 _ hR1 (by omega) (by omega) (by omega)).mono ?_
  rintro e w2 ⟨n, rfl, hn, hR2, hg2⟩
  have hb2 := hb1.grown hg2 hb1.size (by intro k hk; cases hk; exact hrb)
  clear hg2 hR1 hb1
  go_wp2
  go_loopw [4, 5] (fun a b wr => ∃ (k : Nat) (o : ByteArray) (p : Nat), k ≤ 14 ∧ b = .int .i64 k ∧ a = .string o ∧ o.size ≤ 600 - 40 * k ∧ p + 10 * k ≤ 200 ∧ Rd wr rb ao m cap p ∧ Below w.heap.size w wr) (fun _ b _ => (intOf b).toNat)
  case atStart => exact ⟨n, ⟨#[]⟩, 1, by omega, rfl, rfl, Nat.zero_le _, by omega, hR2, hb2⟩
  case round =>
    obtain ⟨k, o, p, hk, rfl, rfl, ho, hp, hR, hb⟩ := hrel
    by_cases hpos : 0 < k
    · go_wp2_with fail
      refine (pick_any rb cap m p ao 24 _ hR (by omega) (by omega) (by omega)).mono ?_
      rintro e w1 ⟨q, rfl, hq, hR1, hg1⟩
      have hb1 := hb.grown hg1 (by have := hb.size; omega) (by intro k hk; cases hk; exact hrb)
      have hrlt : rb < w1.heap.size := (Array.getElem?_eq_some_iff.1 hR1.blk).1
      clear hg1 hR hb
      by_cases h0 : q = 0
      · subst h0
        have hadd0 := fun W => run_string_add_sum (P := Try.prog) W o ⟨#[35]⟩ (by have : (⟨#[35]⟩ : ByteArray).size = 1 := rfl
                                                                                  omega)
        obtain ⟨o2, ho2⟩ : ∃ o2, o2 = o ++ ⟨#[35]⟩ := ⟨_, rfl⟩
        have hs2 : o2.size ≤ o.size + 25 := by
          have : (⟨#[35]⟩ : ByteArray).size = 1 := rfl
          rw [ho2, ByteArray.size_append]; omega
        rw [← ho2] at hadd0
        have hR2 := hR1
        have hb2 := hb1
        clear ho2 hR1 hb1
        go_wp2_with fail
        refine (pick_any rb cap m _ ao 3 _ hR2 (by omega) (by omega) (by omega)).mono ?_
        rintro e w3 ⟨a, rfl, ha, hR3, hg3⟩
        have hb3 := hb2.grown hg3 (by have := hb2.size; omega) (by intro k hk; cases hk; exact hrb)
        clear hg3 hR2 hb2
        go_wp2_with fail
        refine (pick_any rb cap m _ ao 2 _ hR3 (by omega) (by omega) (by omega)).mono ?_
        rintro e w4 ⟨c, rfl, hc, hR4, hg4⟩
        have hb4 := hb3.grown hg4 (by have := hb3.size; omega) (by intro k hk; cases hk; exact hrb)
        clear hg4 hR3 hb3
        go_wp2_with fail
        refine (manySp (a : Int) (c : Int) _ (by omega) (by omega) (by omega) (by omega)).mono ?_
        rintro e w5 ⟨t, rfl, ht, rfl⟩
        have hadd := fun W => run_string_add_sum (P := Try.prog) W o2 t (by omega)
        have hsz : (o2 ++ t).size ≤ 600 - 40 * (k - 1) := by rw [ByteArray.size_append]; omega
        go_wp2
        go_roundw
        case rel => exact ⟨k - 1, o2 ++ t, _, by omega, by go_num, rfl, hsz, by omega, hR4, hb4⟩
        case measure => simp [intOf]; omega
      · have h0' : ((q : Int) == 0) = false := by simp; omega
        by_cases h1 : q = 1
        · subst h1
          go_wp2_with fail
          refine (of_any rb cap m _ w1.heap.size 4 5 ao _ (hR1.other ((Below.refl _ _).alloc (Nat.le_refl _) _)) (by omega) (by omega) (by omega) (by omega) (list_cells w1 _ _ 5 4 rfl (by
            intro v hv; simp at hv; rcases hv with rfl | rfl | rfl | rfl <;> exact ⟨_, rfl, by decide⟩))).mono ?_
          rintro e w2 ⟨s, rfl, hs, hR2, hg2⟩
          have hb2 := (hb1.alloc hb1.size _).grown hg2 (by have := hb1.size; simp; omega) (by intro k hk; cases hk; exact hrb)
          have hadd0 := fun W => run_string_add_sum (P := Try.prog) W o s (by omega)
          obtain ⟨o2, ho2⟩ : ∃ o2, o2 = o ++ s := ⟨_, rfl⟩
          have hs2 : o2.size ≤ o.size + 25 := by rw [ho2, ByteArray.size_append]; omega
          rw [← ho2] at hadd0
          clear hg2 hR1 hb1 ho2
          go_wp2_with fail
          refine (pick_any rb cap m _ ao 3 _ hR2 (by omega) (by omega) (by omega)).mono ?_
          rintro e w3 ⟨a, rfl, ha, hR3, hg3⟩
          have hb3 := hb2.grown hg3 (by have := hb2.size; omega) (by intro k hk; cases hk; exact hrb)
          clear hg3 hR2 hb2
          go_wp2_with fail
          refine (pick_any rb cap m _ ao 2 _ hR3 (by omega) (by omega) (by omega)).mono ?_
          rintro e w4 ⟨c, rfl, hc, hR4, hg4⟩
          have hb4 := hb3.grown hg4 (by have := hb3.size; omega) (by intro k hk; cases hk; exact hrb)
          clear hg4 hR3 hb3
          go_wp2_with fail
          refine (manySp (a : Int) (c : Int) _ (by omega) (by omega) (by omega) (by omega)).mono ?_
          rintro e w5 ⟨t, rfl, ht, rfl⟩
          have hadd := fun W => run_string_add_sum (P := Try.prog) W o2 t (by omega)
          have hsz : (o2 ++ t).size ≤ 600 - 40 * (k - 1) := by rw [ByteArray.size_append]; omega
          go_wp2
          go_roundw
          case rel => exact ⟨k - 1, o2 ++ t, _, by omega, by go_num, rfl, hsz, by omega, hR4, hb4⟩
          case measure => simp [intOf]; omega
        · have h1' : ((q : Int) == 1) = false := by simp; omega
          by_cases h2 : q = 2
          · subst h2
            go_wp2_with fail
            refine (pick_any rb cap m _ ao 2 _ hR1 (by omega) (by omega) (by omega)).mono ?_
            rintro e w2 ⟨x, rfl, hx, hR2, hg2⟩
            have hb2 := hb1.grown hg2 (by have := hb1.size; omega) (by intro k hk; cases hk; exact hrb)
            clear hg2 hR1 hb1
            go_wp2_with fail
            refine (manyW (x : Int) _ (by omega) (by omega)).mono ?_
            rintro e w6 ⟨s, rfl, hs, rfl⟩
            have hadd0 := fun W => run_string_add_sum (P := Try.prog) W o s (by omega)
            obtain ⟨o2, ho2⟩ : ∃ o2, o2 = o ++ s := ⟨_, rfl⟩
            have hs2 : o2.size ≤ o.size + 25 := by rw [ho2, ByteArray.size_append]; omega
            rw [← ho2] at hadd0
            clear ho2
            go_wp2_with fail
            refine (pick_any rb cap m _ ao 3 _ hR2 (by omega) (by omega) (by omega)).mono ?_
            rintro e w3 ⟨a, rfl, ha, hR3, hg3⟩
            have hb3 := hb2.grown hg3 (by have := hb2.size; omega) (by intro k hk; cases hk; exact hrb)
            clear hg3 hR2 hb2
            go_wp2_with fail
            refine (pick_any rb cap m _ ao 2 _ hR3 (by omega) (by omega) (by omega)).mono ?_
            rintro e w4 ⟨c, rfl, hc, hR4, hg4⟩
            have hb4 := hb3.grown hg4 (by have := hb3.size; omega) (by intro k hk; cases hk; exact hrb)
            clear hg4 hR3 hb3
            go_wp2_with fail
            refine (manySp (a : Int) (c : Int) _ (by omega) (by omega) (by omega) (by omega)).mono ?_
            rintro e w5 ⟨t, rfl, ht, rfl⟩
            have hadd := fun W => run_string_add_sum (P := Try.prog) W o2 t (by omega)
            have hsz : (o2 ++ t).size ≤ 600 - 40 * (k - 1) := by rw [ByteArray.size_append]; omega
            go_wp2
            go_roundw
            case rel => exact ⟨k - 1, o2 ++ t, _, by omega, by go_num, rfl, hsz, by omega, hR4, hb4⟩
            case measure => simp [intOf]; omega
          · have h2' : ((q : Int) == 2) = false := by simp; omega
            go_wp2_with fail
            refine (of_any rb cap m _ w1.heap.size 5 5 ao _ (hR1.other ((Below.refl _ _).alloc (Nat.le_refl _) _)) (by omega) (by omega) (by omega) (by omega) (list_cells w1 _ _ 5 5 rfl (by
              intro v hv; simp at hv; rcases hv with rfl | rfl | rfl | rfl | rfl <;> exact ⟨_, rfl, by decide⟩))).mono ?_
            rintro e w2 ⟨s, rfl, hs, hR2, hg2⟩
            have hb2 := (hb1.alloc hb1.size _).grown hg2 (by have := hb1.size; simp; omega) (by intro k hk; cases hk; exact hrb)
            have hadd0 := fun W => run_string_add_sum (P := Try.prog) W o s (by omega)
            obtain ⟨o2, ho2⟩ : ∃ o2, o2 = o ++ s := ⟨_, rfl⟩
            have hs2 : o2.size ≤ o.size + 25 := by rw [ho2, ByteArray.size_append]; omega
            rw [← ho2] at hadd0
            clear hg2 hR1 hb1 ho2
            go_wp2_with fail
            refine (pick_any rb cap m _ ao 3 _ hR2 (by omega) (by omega) (by omega)).mono ?_
            rintro e w3 ⟨a, rfl, ha, hR3, hg3⟩
            have hb3 := hb2.grown hg3 (by have := hb2.size; omega) (by intro k hk; cases hk; exact hrb)
            clear hg3 hR2 hb2
            go_wp2_with fail
            refine (pick_any rb cap m _ ao 2 _ hR3 (by omega) (by omega) (by omega)).mono ?_
            rintro e w4 ⟨c, rfl, hc, hR4, hg4⟩
            have hb4 := hb3.grown hg4 (by have := hb3.size; omega) (by intro k hk; cases hk; exact hrb)
            clear hg4 hR3 hb3
            go_wp2_with fail
            refine (manySp (a : Int) (c : Int) _ (by omega) (by omega) (by omega) (by omega)).mono ?_
            rintro e w5 ⟨t, rfl, ht, rfl⟩
            have hadd := fun W => run_string_add_sum (P := Try.prog) W o2 t (by omega)
            have hsz : (o2 ++ t).size ≤ 600 - 40 * (k - 1) := by rw [ByteArray.size_append]; omega
            go_wp2
            go_roundw
            case rel => exact ⟨k - 1, o2 ++ t, _, by omega, by go_num, rfl, hsz, by omega, hR4, hb4⟩
            case measure => simp [intOf]; omega
    · have hk0 : k = 0 := by omega
      subst hk0
      go_wp2
      go_ret
      exact ⟨o, rfl, by omega, hb⟩

end Go.Proofs.Ytlkalmpmfblnfaa
