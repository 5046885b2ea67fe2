/- DERIVED. laws.markText: it returns some short text, and turns nothing that was there. -/
import Derived.Test.YthbjofobilfbpaaRows
import Derived.Test.YthbjofobilfbpaaMk0
import Derived.Laws.IdiomStrings
namespace Go.Proofs.Ythbjofobilfbpaa
open Go.RowKit
set_option linter.unusedSimpArgs false
set_option linter.unusedVariables false

/-- The decimal digits of k, as bytes. -/
def digs : Nat → Nat → List UInt8
  | 0, _ => []
  | f + 1, k => if k = 0 then [] else digs f (k / 10) ++ [UInt8.ofNat (48 + k % 10)]

theorem digs_zero (f : Nat) : digs f 0 = [] := by cases f <;> simp [digs]
theorem digs_len : ∀ f k, (digs f k).length ≤ f
  | 0, _ => Nat.le_refl _
  | f + 1, k => by
    have := digs_len f (k / 10)
    unfold digs
    split <;> simp <;> omega

def markL (k : Nat) : List UInt8 := if k = 0 then [109, 48] else 109 :: digs k k

theorem cons_byte (c : UInt8) (l : List UInt8) : ((⟨#[c]⟩ : ByteArray) ++ (⟨l.toArray⟩ : ByteArray)) = ⟨(c :: l).toArray⟩ := by
  apply ByteArray.ext
  simp [ByteArray.data_append]

theorem size_list (l : List UInt8) : (⟨l.toArray⟩ : ByteArray).size = l.length := by simp [ByteArray.size]

theorem dig_cell (k : Nat) : ((UInt8.ofNat (48 + k % 10)).toNat : Int) = 48 + (k : Int) % 10 := by
  have : (UInt8.ofNat (48 + k % 10)).toNat = 48 + k % 10 := by
    rw [UInt8.toNat_ofNat']; omega
  rw [this]; omega

theorem conv_dig (w : World) (k : Nat) :
    (convert 76 9 (.slice (some ⟨w.heap.size, 0, none⟩) 1 1)).run Try.prog (w.alloc (.cells #[.int .u8 (48 + (k : Int) % 10)] 5)) = .ok (.string ⟨#[UInt8.ofNat (48 + k % 10)]⟩) (w.alloc (.cells #[.int .u8 (48 + (k : Int) % 10)] 5)) := by
  refine run_convert_bytes_back (P := Try.prog) (w.alloc (.cells #[.int .u8 (48 + (k : Int) % 10)] 5)) 76 9 5 ⟨w.heap.size, 0, none⟩ 1 [UInt8.ofNat (48 + k % 10)] Try.underlying76 Try.underlying5 Try.underlying9 ?_
  intro j hj
  match j, hj with
  | 0, _ => simp only [List.getElem_cons_zero, dig_cell]; simp [Addr.add]

theorem digs_next (f k : Nat) (s D : List UInt8) (hk : 0 < k) (h : digs (f + 1) k ++ s = D) : digs f (k / 10) ++ (UInt8.ofNat (48 + k % 10) :: s) = D := by
  rw [← h]
  have : ¬ k = 0 := by omega
  simp [digs, this]

set_option maxHeartbeats 400000 in
theorem markText_any (K : Nat) (w : World) (hK : K ≤ 1099511627776) :
    Calls Try.prog 29 #[.int .i64 K] w fun e w' => e = .returned (.string ⟨(markL K).toArray⟩) ∧ Below w.heap.size w w' := by
  by_cases h0 : K = 0
  · subst h0
    go_enter Try.func29, Try.ntmps29
    go_wp2
    go_ret
    exact ⟨rfl, Below.refl _ _⟩
  · have hpos : 0 < K := by omega
    have hL := digs_len K K
    obtain ⟨D, hD⟩ : ∃ D, D = digs K K := ⟨_, rfl⟩
    rw [← hD] at hL
    have HM : Hid (markL K = 109 :: D) := by show _ = _; simp [markL, h0, hD]
    have HD : Hid (D = digs K K) := hD
    have h5 : decide ((K : Int) ≤ 0) = false := by simp; omega
    clear hD h0
    go_enter Try.func29, Try.ntmps29
    go_wp2
    go_loopw [0, 3] (fun a b wr => ∃ (f k : Nat) (s : List UInt8), k ≤ f ∧ k ≤ K ∧ a = .int .i64 k ∧ b = .string ⟨s.toArray⟩ ∧ Hid (digs f k ++ s = D) ∧ Below w.heap.size w wr) (fun a _ _ => (intOf a).toNat)
    case atStart => exact ⟨K, K, [], Nat.le_refl _, Nat.le_refl _, rfl, rfl, by show _ = _; rw [List.append_nil, HD.out], Below.refl _ _⟩
    case round =>
      obtain ⟨f, k, s, hkf, hkK, rfl, rfl, hs, hbel⟩ := hrel
      have hsl : s.length ≤ K := by have := congrArg List.length hs.out; simp at this; omega
      have hsz := hbel.size
      by_cases hk : 0 < k
      · obtain ⟨f', rfl⟩ : ∃ f', f = f' + 1 := ⟨f - 1, by omega⟩
        have hcv := conv_dig wr k
        have HN : Hid _ := digs_next f' k s D hk hs.out
        obtain ⟨c, hc⟩ : ∃ c, c = UInt8.ofNat (48 + k % 10) := ⟨_, rfl⟩
        rw [← hc] at hcv HN
        have hadd := fun W => run_string_add_sum (P := Try.prog) W ⟨#[c]⟩ ⟨s.toArray⟩ (by
          have h1 : (⟨#[c]⟩ : ByteArray).size = 1 := rfl
          have h2 := size_list s
          omega)
        rw [cons_byte] at hadd
        clear hs hc
        go_wp2
        go_roundw
        case rel => exact ⟨f', k / 10, c :: s, by omega, by omega, by go_num, rfl, HN, hbel.alloc hsz _⟩
        case measure => simp [intOf]; omega
      · have hk0 : k = 0 := by omega
        subst hk0
        have HS : Hid (s = D) := by have := hs.out; rw [digs_zero] at this; exact this
        have hadd := fun W => run_string_add_sum (P := Try.prog) W ⟨#[109]⟩ ⟨s.toArray⟩ (by
          have h1 : (⟨#[109]⟩ : ByteArray).size = 1 := rfl
          have h2 := size_list s
          omega)
        rw [cons_byte] at hadd
        go_wp2
        go_ret
        exact ⟨by rw [HM.out, ← HS.out]; rfl, hbel⟩

theorem markText_int (m : Int) (w : World) (h0 : 0 ≤ m) (h1 : m ≤ 1099511627776) :
    Calls Try.prog 29 #[.int .i64 m] w fun e w' => e = .returned (.string ⟨(markL m.toNat).toArray⟩) ∧ Below w.heap.size w w' := by
  obtain ⟨K, rfl⟩ := Int.eq_ofNat_of_zero_le h0
  exact markText_any K w (by omega)

theorem markText_ex (m : Int) (w : World) (h0 : 0 ≤ m) (h1 : m ≤ 1099511627776) :
    Calls Try.prog 29 #[.int .i64 m] w fun e w' => ∃ s : ByteArray, e = .returned (.string s) ∧ Below w.heap.size w w' :=
  (markText_int m w h0 h1).mono fun e w' h => ⟨_, h.1, h.2⟩

end Go.Proofs.Ythbjofobilfbpaa
