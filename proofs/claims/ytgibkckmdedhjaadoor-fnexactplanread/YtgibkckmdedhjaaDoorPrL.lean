/- DERIVED. laws.FnExactPlanRead: its walk. -/
import Derived.Test.YtgibkckmdedhjaaDoorPrI0
import Derived.Test.YtgibkckmdedhjaaDoorPrS0
namespace Go.Proofs.YtgibkckmdedhjaaDoor
open Go.RowKit
set_option linter.unusedSimpArgs false
set_option linter.unusedVariables false

abbrev DChangeR := ByteArray × Int × Int × ByteArray

set_option maxHeartbeats 400000 in
theorem eqChange (x : DChangeR) (w : World) :
    Calls Tryd.prog 6 #[.agg #[.string x.1, .int .i64 x.2.1, .int .i64 x.2.2.1, .string x.2.2.2], .agg #[.string x.1, .int .i64 x.2.1, .int .i64 x.2.2.1, .string x.2.2.2]] w fun e w' => e = .returned (.bool true) ∧ Below w.heap.size w w' := by
  go_enter Tryd.func6, Tryd.ntmps6
  go_wp2
  go_ret
  exact ⟨rfl, by repeat (first | exact Below.refl _ _ | refine Below.alloc ?_ (by simp; try omega) _)⟩

theorem rdVal_eq (b : ByteArray) (wh n : Int) (v : ByteArray) (ok : Bool) : ∃ x : DChangeR, rdVal b wh n v ok = .tuple #[.agg #[.string x.1, .int .i64 x.2.1, .int .i64 x.2.2.1, .string x.2.2.2], .bool ok] := by
  cases ok
  · exact ⟨(⟨#[]⟩, 0, 0, ⟨#[]⟩), rfl⟩
  · exact ⟨(b, wh, n, v), rfl⟩

/-- Both sides read a number alike, as far as it can matter. -/
theorem same_read (s b c d v : ByteArray) (hs : ¬ ByteArray.empty = s) : rdVal b (whatOf c) (decM d) v (pb (formOf b (whatOf c) (decM d) v = s)) = rdVal b (whatOf c) (decZ d) v (pb (formOf b (whatOf c) (decZ d) v = s)) := by
  by_cases hd : DecOk d
  · rw [(decM_yes hd).out, (decZ_yes hd).out.2]
  · rw [(decM_no hd).out, (decZ_no hd).out.2]
    rw [(formOf_no (n := -1) (fun h => by have := h.2.1.1; omega)).out, (formOf_no (n := 0) (fun h => by have := h.2.1.1; omega)).out, pb_no hs]
    rfl

theorem readBoth (s : ByteArray) (hs : s.size ≤ 1048576) : ∃ (x : DChangeR) (ok : Bool), (∀ W : World, Calls Tryd.prog 4 #[.string s] W fun e w' => e = .returned (.tuple #[.agg #[.string x.1, .int .i64 x.2.1, .int .i64 x.2.2.1, .string x.2.2.2], .bool ok]) ∧ Below W.heap.size W w') ∧
    (∀ W : World, MaxHeld W → FormLaid W → Calls Tryd.prog 5 #[.string s] W fun e w' => e = .returned (.tuple #[.agg #[.string x.1, .int .i64 x.2.1, .int .i64 x.2.2.1, .string x.2.2.2], .bool ok]) ∧ Below W.heap.size W w') := by
  by_cases h : (wordsP s).length < 5
  · obtain ⟨x, hx⟩ := rdVal_eq ByteArray.empty 0 0 ByteArray.empty false
    refine ⟨x, false, fun W => ?_, fun W hM hL => ?_⟩
    · rw [← hx]; exact sRead_few s W hs h
    · rw [← hx]; exact iRead_few s W hs hM h
  · obtain ⟨a, b, c, d, e5, r, hw⟩ := five_of (by omega : 5 ≤ (wordsP s).length)
    have hne : ¬ ByteArray.empty = s := fun e => by
      have h1 := wordsP_len s
      rw [← e] at h1 h
      have : ByteArray.empty.size = 0 := rfl
      omega
    obtain ⟨v, hv⟩ : ∃ v, v = s.extract (pre (wordsP s) 4) s.size := ⟨_, rfl⟩
    obtain ⟨x, hx⟩ := rdVal_eq b (whatOf c) (decZ d) v (pb (formOf b (whatOf c) (decZ d) v = s))
    refine ⟨x, pb (formOf b (whatOf c) (decZ d) v = s), fun W => ?_, fun W hM hL => ?_⟩
    · rw [← hx, ← same_read s b c d v hne]; exact sRead_many s a b c d e5 r W hs hw v hv
    · rw [← hx]; exact iRead_many s a b c d e5 r W hs hM hL hw v hv

set_option maxRecDepth 100000 in
set_option maxHeartbeats 2000000 in
theorem readLaw (s : ByteArray) (w : World) (hsm : s.size ≤ maxLen) (hM : MaxHeld w) (hL : FormLaid w) :
    Calls Tryd.prog 3 #[.string s] w fun e w' => e = .returned (.bool true) ∧ Below w.heap.size w w' := by
  unfold maxLen at hsm
  by_cases hs : s.size ≤ 1048576
  · have hsI : ¬ (1048576 : Int) < (s.size : Int) := by omega
    obtain ⟨x, ok, HS, HI⟩ := readBoth s hs
    have HE := fun W => eqChange x W
    obtain ⟨b, wh, n, v⟩ := x
    simp only at HS HI HE
    go_enter Tryd.func3, Tryd.ntmps3
    go_wp2_with fail
    refine (HS _).mono ?_
    rintro e w1 ⟨rfl, hb1⟩
    have hb2 : Below w.heap.size w (w1.alloc (.cells #[.string b, .int .i64 wh, .int .i64 n, .string v] 23)) := hb1.alloc hb1.size _
    have HB2 := BxC.new w1 #[.string b, .int .i64 wh, .int .i64 n, .string v] 23
    have HI2 := HI _ (hM.later hb2) (hL.later hb2)
    clear HS HI
    go_wp2_with fail
    refine HI2.mono ?_
    rintro e w3 ⟨rfl, hb3⟩
    have hB3 := hb2.trans (hb3.mono hb2.size)
    have HB3 := HB2.below hb3 (by simp)
    have hz3 : w1.heap.size < w3.heap.size := by have := hb3.size; simp at this; omega
    have b0 := HB3 0
    have b1 := HB3 1
    have b2 := HB3 2
    have b3 := HB3 3
    simp at b0 b1 b2 b3
    have hne : (ok != ok) = false := by simp
    clear hb1 hb2 hb3 HB2 HB3 HI2
    go_wp2_with fail
    refine (HE _).mono ?_
    rintro e w5 ⟨rfl, hb5⟩
    have hB5 : Below w.heap.size w w5 := (hB3.alloc hB3.size _).trans (hb5.mono (by have := hB3.size; simp; omega))
    clear hb5 hB3 b0 b1 b2 b3 HE
    go_wp2
    go_ret
    exact ⟨rfl, hB5⟩
  · have hsI : (1048576 : Int) < (s.size : Int) := by omega
    go_enter Tryd.func3, Tryd.ntmps3
    go_wp2
    go_ret
    exact ⟨rfl, Below.refl _ _⟩

end Go.Proofs.YtgibkckmdedhjaaDoor
