/- DERIVED. strings.Cut at one byte, impl.SkyWords: their walks. -/
import Derived.Test.YtlkalmpmfblnfaaSw2
import Derived.Lib.IndexBytes
import Derived.Lib.IndexLaws
import Derived.Deep.QuietTactic
import Derived.BigQuiet
namespace Go.Proofs.Ytlkalmpmfblnfaa
open Go.RowKit
set_option linter.unusedSimpArgs false
set_option linter.unusedVariables false

set_option maxHeartbeats 400000 in
theorem indexByte_any (s : ByteArray) (w : World) :
    Calls Try.prog 23 #[.string s, .int .u8 35] w fun e w' => e = .returned (.int .i64 (Lib.indexByte s.data.toList 35)) ∧ w' = w := by
  go_enter Try.func23, Try.ntmps23
  go_wp2
  rw [run_callFunc_extern Try.func27 (by kernel_rfl) (by kernel_rfl) (by kernel_rfl) (e := Extern.BytealgIndexByte.indexByte) (by kernel_rfl), Lib.run_indexByteString]
  simp only [Result.andThen]
  rw [Oper.upon_value]
  go_wp2
  go_ret
  exact ⟨rfl, rfl⟩

set_option maxHeartbeats 400000 in
theorem index_any (s : ByteArray) (w : World) :
    Calls Try.prog 22 #[.string s, .string ⟨#[35]⟩] w fun e w' => e = .returned (.int .i64 (Lib.indexByte s.data.toList 35)) ∧ w' = w := by
  by_cases h : ([35] == s.toList) = true
  · have h0 : Lib.indexByte s.data.toList 35 = 0 := by
      rw [← Lib.toList_data, ← eq_of_beq h]; decide
    rw [h0]
    clear h0
    go_enter Try.func22, Try.ntmps22
    go_wp2_with fail
    go_ret
    exact ⟨rfl, rfl⟩
  · have h : ([35] == s.toList) = false := by simpa using h
    go_enter Try.func22, Try.ntmps22
    go_wp2_with (go_at_call 23; refine (indexByte_any _ _).mono ?_; rintro e w' ⟨rfl, rfl⟩)
    go_ret
    exact ⟨rfl, rfl⟩

theorem bare_none : ∀ (l : List UInt8), (∀ k : Nat, l[k]? ≠ some 35) → Sw.bare l = l
  | [], _ => rfl
  | a :: l, h => by
    have ha : a ≠ 35 := by have := h 0; simpa using this
    have := bare_none l (fun k => by have := h (k + 1); simpa using this)
    simp only [Sw.bare, List.takeWhile_cons, ne_eq, ha, not_false_eq_true, decide_true, if_true] at this ⊢
    rw [this]

theorem bare_take : ∀ (l : List UInt8) (k : Nat), l[k]? = some 35 → (∀ j, j < k → l[j]? ≠ some 35) → Sw.bare l = l.take k
  | [], k, h, _ => by simp at h
  | a :: l, 0, h, _ => by
    simp at h; subst h; simp [Sw.bare]
  | a :: l, k + 1, h, hj => by
    have ha : a ≠ 35 := by have := hj 0 (by omega); simpa using this
    have := bare_take l k (by simpa using h) (fun j h1 => by have := hj (j + 1) (by omega); simpa using this)
    simp only [Sw.bare, List.takeWhile_cons, ne_eq, ha, not_false_eq_true, decide_true, if_true, List.take_succ_cons] at this ⊢
    rw [this]

set_option maxHeartbeats 400000 in
theorem cut1_any (s : ByteArray) (w : World) (hs : s.size ≤ 1073741824) :
    Calls Try.prog 21 #[.string s, .string ⟨#[35]⟩] w fun e w' => ∃ b a f, e = .returned (.tuple #[.string b, .string a, .bool f]) ∧ b.data.toList = Sw.bare s.data.toList ∧ ∃ n, w' = w.drewN n := by
  by_cases h : Lib.indexByte s.data.toList 35 = -1
  · have hb : Hid _ := (bare_none _ (Lib.indexByte_none h)).symm
    go_enter Try.func21, Try.ntmps21
    go_wp2_with (go_at_call 22; refine (index_any _ _).mono ?_; rintro e w' ⟨rfl, rfl⟩)
    go_ret3
    exact ⟨_, _, _, rfl, hb.out, 0, rfl⟩
  · obtain ⟨k, hk⟩ : ∃ k : Nat, Lib.indexByte s.data.toList 35 = k := ⟨(Lib.indexByte s.data.toList 35).toNat, by have := Lib.indexByte_ge s.data.toList 35; omega⟩
    have hi := Lib.indexByte_some hk
    have hb : Hid _ := (bare_take _ k hi.1 hi.2).symm
    have hlt : k < s.size := by have := (List.getElem?_eq_some_iff.1 hi.1).1; simpa using this
    clear hi h
    go_enter Try.func21, Try.ntmps21
    go_wp2_with (go_at_call 22; refine (index_any _ _).mono ?_; rintro e w' ⟨rfl, rfl⟩)
    go_quiet (fail)
    go_goals
    go_wp2
    go_ret3
    exact ⟨_, _, _, rfl, by rw [← hb.out]; simp [Lib.extract_data], _, rfl⟩

set_option maxHeartbeats 400000 in
theorem cut_any (s : ByteArray) (w : World) (hs : s.size ≤ 1073741824) :
    Calls Try.prog 16 #[.string s, .string ⟨#[35]⟩] w fun e w' => ∃ b a f, e = .returned (.tuple #[.string b, .string a, .bool f]) ∧ b.data.toList = Sw.bare s.data.toList ∧ ∃ n, w' = w.drewN n := by
  go_enter Try.func16, Try.ntmps16
  go_wp2_with fail
  refine (cut1_any s _ hs).mono ?_
  rintro e w' ⟨b, a, f, rfl, hb, n, rfl⟩
  have HB : Hid _ := hb
  clear hb
  go_wp2
  go_ret3
  exact ⟨b, a, f, rfl, HB.out, n, rfl⟩

theorem bare_le (l : List UInt8) : (Sw.bare l).length ≤ l.length := by
  unfold Sw.bare
  exact (List.takeWhile_sublist _).length_le

theorem below_drewN' (w : World) (n : Nat) : Below w.heap.size w (w.drewN n) := below_drewN (Below.refl _ _) n

set_option maxHeartbeats 400000 in
theorem skyWords_any (s : ByteArray) (w : World) (hs : s.size ≤ 1073741824) :
    Calls Try.prog 6 #[.string s] w fun e w' =>
      Below w.heap.size w w' ∧
      ((Sw.wordsC (Sw.bare s.data.toList) = none ∧ e = .returned (.tuple #[.slice none 0 0, .bool false])) ∨
       ∃ ws ao cap, Sw.wordsC (Sw.bare s.data.toList) = some ws ∧ e = .returned (.tuple #[.slice ao ws.length cap, .bool true]) ∧ w'.ownsRow w.heap.size 9 1 (.slice ao ws.length cap) ws.length (strs ws)) := by
  go_enter Try.func6, Try.ntmps6
  go_wp2_with fail
  refine (cut_any s _ hs).mono ?_
  rintro e w' ⟨b, a, f, rfl, hb, n, rfl⟩
  have HB : Hid _ := hb
  have hbs : b.size ≤ 1073741824 := by
    have := bare_le s.data.toList
    rw [← hb] at this
    simp at this
    omega
  clear hb
  go_wp2_with fail
  refine (scan_any b _ hbs).mono ?_
  rw [HB.out]
  rintro e w2 ⟨hbel, ⟨hw, rfl⟩ | ⟨ws, ao, cap, hw, rfl, hO⟩⟩
  · have HW : Hid _ := hw
    clear hw
    go_wp2
    go_ret2
    exact ⟨(below_drewN' w n).trans hbel, .inl ⟨HW.out, rfl⟩⟩
  · have HW : Hid _ := hw
    clear hw
    go_wp2
    go_ret2
    exact ⟨(below_drewN' w n).trans hbel, .inr ⟨ws, ao, cap, HW.out, rfl, hO⟩⟩

end Go.Proofs.Ytlkalmpmfblnfaa
