/- DERIVED. Words between single spaces against strings.SplitN's pieces; what a text reads as, on plain data. -/
import Derived.Test.YtgibkckmdedhjaaDoorFmD
import Derived.Lib.Split
import Derived.Lib.IndexBytes
import Derived.Lib.IndexLaws
namespace Go.Proofs.YtgibkckmdedhjaaDoor
open Go.RowKit
set_option linter.unusedSimpArgs false
set_option linter.unusedVariables false

def spB : ByteArray := ⟨#[32]⟩
theorem indexB_sp (s : ByteArray) : Lib.indexB s spB = Lib.indexByte s.data.toList 32 := by
  show Lib.index s.data.toList [32] = _
  exact Lib.index_one s.data.toList 32

theorem at_iff {s : ByteArray} {k : Nat} : s.data.toList[k]? = some 32 ↔ (k < s.size ∧ bAt s k = 32) := by
  constructor
  · intro h
    have hk : k < s.size := by
      have := (List.getElem?_eq_some_iff.1 h).1
      simpa using this
    refine ⟨hk, ?_⟩
    rw [bAt_eq hk]
    rw [List.getElem?_eq_getElem (by simpa using hk)] at h
    have : s[k] = 32 := Option.some.inj h
    rw [this]; rfl
  · rintro ⟨hk, h⟩
    rw [bAt_eq hk] at h
    rw [List.getElem?_eq_getElem (by simpa using hk)]
    have e : s[k] = 32 := UInt8.toNat_inj.1 (by rw [h]; rfl)
    exact congrArg some e

/-- No space, or the first one. -/
theorem sp_cases (s : ByteArray) : (Lib.indexB s spB = -1 ∧ ∀ j, j < s.size → ¬ bAt s j = 32) ∨ ∃ i : Nat, Lib.indexB s spB = (i : Int) ∧ i < s.size ∧ bAt s i = 32 ∧ ∀ j, j < i → ¬ bAt s j = 32 := by
  rw [indexB_sp]
  have hge := Lib.indexByte_ge s.data.toList 32
  by_cases h : 0 ≤ Lib.indexByte s.data.toList 32
  · obtain ⟨o, ho⟩ := Int.eq_ofNat_of_zero_le h
    have h1 := Lib.indexByte_some ho
    have h2 := at_iff.1 h1.1
    exact .inr ⟨o, ho, h2.1, h2.2, fun j hj hb => h1.2 j hj (at_iff.2 ⟨by omega, hb⟩)⟩
  · have e : Lib.indexByte s.data.toList 32 = -1 := by omega
    exact .inl ⟨e, fun j hj hb => Lib.indexByte_none e j (at_iff.2 ⟨hj, hb⟩)⟩

theorem len_data (s : ByteArray) : s.data.toList.length = s.size := by rw [Array.length_toList]; rfl

theorem cutTo_none {s : ByteArray} {k : Nat} (h : ∀ j, j < k → ¬ bAt s j = 32) : cutTo s k = ([], 0) := by
  have := cutTo_skip (s := s) (k := 0) (d := k) (fun j hj => by rw [Nat.zero_add]; exact h j hj)
  rwa [Nat.zero_add] at this

theorem extract_all (s : ByteArray) : s.extract 0 s.size = s := by
  apply ByteArray.ext
  apply Array.ext'
  rw [Lib.extract_data]
  simp
  rw [List.take_of_length_le (by rw [len_data]; exact Nat.le_refl _)]

theorem words_one {s : ByteArray} (h : ∀ j, j < s.size → ¬ bAt s j = 32) : wordsP s = [s] := by
  rw [wordsP_of (cutTo_none h), extract_all]
  rfl

theorem tail_size (s : ByteArray) (i : Nat) : (s.extract i s.size).size = s.size - i := by simp [ByteArray.size_extract]
theorem tail_bAt {s : ByteArray} {i j : Nat} (h : i + j < s.size) : bAt (s.extract i s.size) j = bAt s (i + j) := by
  have hj : j < (s.extract i s.size).size := by rw [tail_size]; omega
  rw [bAt_eq hj, bAt_eq h]
  congr 1
  have e1 : (s.extract i s.size).data.toList[j]? = s.data.toList[i + j]? := by
    rw [Lib.extract_data, List.getElem?_take, if_pos (by omega), List.getElem?_drop]
  rw [List.getElem?_eq_getElem (by rw [len_data]; exact hj), List.getElem?_eq_getElem (by rw [len_data]; exact h)] at e1
  exact Option.some.inj e1
theorem tail_extract {s : ByteArray} {i a b : Nat} (hb : i + b ≤ s.size) : (s.extract i s.size).extract a b = s.extract (i + a) (i + b) := by
  apply ByteArray.ext
  apply Array.ext'
  rw [Lib.extract_data, Lib.extract_data, Lib.extract_data, List.drop_take, List.drop_drop, List.take_take]
  congr 1
  omega

theorem cutTo_tail {s : ByteArray} {i : Nat} (hi : i < s.size) (h32 : bAt s i = 32) (hno : ∀ j, j < i → ¬ bAt s j = 32) (j : Nat) (hj : i + 1 + j ≤ s.size) :
    cutTo s (i + 1 + j) = (s.extract 0 i :: (cutTo (s.extract (i + 1) s.size) j).1, i + 1 + (cutTo (s.extract (i + 1) s.size) j).2) := by
  induction j with
  | zero =>
    rw [Nat.add_zero, cutTo_hit (cutTo_none hno) h32]
    rfl
  | succ j ih =>
    have ih' := ih (by omega)
    have hb : bAt (s.extract (i + 1) s.size) j = bAt s (i + 1 + j) := tail_bAt (by omega)
    have hle := (cutTo_le (s.extract (i + 1) s.size) j).1
    by_cases hc : bAt s (i + 1 + j) = 32
    · rw [← Nat.add_assoc, cutTo_hit ih' hc]
      obtain ⟨ws, fr, hw⟩ : ∃ ws fr, cutTo (s.extract (i + 1) s.size) j = (ws, fr) := ⟨_, _, rfl⟩
      rw [cutTo_hit hw (by rw [hb]; exact hc), hw]
      simp only [List.cons_append, Prod.mk.injEq, List.cons.injEq, true_and]
      refine ⟨?_, by omega⟩
      rw [tail_extract (by omega)]
    · rw [← Nat.add_assoc, cutTo_miss hc, ih', cutTo_miss (by rw [hb]; exact hc)]

theorem words_more {s : ByteArray} {i : Nat} (hi : i < s.size) (h32 : bAt s i = 32) (hno : ∀ j, j < i → ¬ bAt s j = 32) : wordsP s = s.extract 0 i :: wordsP (s.extract (i + 1) s.size) := by
  have h1 := cutTo_tail hi h32 hno (s.size - (i + 1)) (by omega)
  rw [show i + 1 + (s.size - (i + 1)) = s.size by omega] at h1
  have hts := tail_size s (i + 1)
  rw [wordsP_of h1]
  unfold wordsP
  rw [hts]
  have hle := (cutTo_le (s.extract (i + 1) s.size) (s.size - (i + 1))).1
  rw [tail_extract (by omega), show i + 1 + (s.size - (i + 1)) = s.size by omega]
  rfl

theorem words_pos (s : ByteArray) : 1 ≤ (wordsP s).length := by unfold wordsP; simp

/-- All the words, where the pieces may be as many. -/
theorem split_all (k : Nat) (s : ByteArray) (h : (wordsP s).length ≤ k + 1) : Lib.splitB spB 0 k s = wordsP s := by
  induction k generalizing s with
  | zero =>
    rw [Lib.splitB_zero]
    rcases sp_cases s with ⟨_, h2⟩ | ⟨i, h1, h2, h3, h4⟩
    · rw [words_one h2]
    · rw [words_more h2 h3 h4] at h
      have := words_pos (s.extract (i + 1) s.size)
      rw [List.length_cons] at h
      omega
  | succ k ih =>
    rcases sp_cases s with ⟨h1, h2⟩ | ⟨i, h1, h2, h3, h4⟩
    · rw [Lib.splitB_miss _ _ _ _ h1, words_one h2]
    · rw [words_more h2 h3 h4] at h ⊢
      rw [Lib.splitB_hit _ _ _ _ i h1, Nat.add_zero]
      rw [show spB.size = 1 from rfl]
      rw [ih _ (by rw [List.length_cons] at h; omega)]

/-- The sizes of the first k words, and a space behind each. -/
def pre (ws : List ByteArray) (k : Nat) : Nat := ((ws.take k).map ByteArray.size).sum + k

/-- The first k words and the rest. -/
theorem split_some (k : Nat) (s : ByteArray) (h : k + 1 ≤ (wordsP s).length) : Lib.splitB spB 0 k s = (wordsP s).take k ++ [s.extract (pre (wordsP s) k) s.size] ∧ pre (wordsP s) k ≤ s.size := by
  induction k generalizing s with
  | zero =>
    rw [Lib.splitB_zero]
    refine ⟨?_, by simp [pre]⟩
    simp only [List.take_zero, List.nil_append, pre, List.map_nil, List.sum_nil, Nat.zero_add]
    rw [extract_all]
  | succ k ih =>
    rcases sp_cases s with ⟨h1, h2⟩ | ⟨i, h1, h2, h3, h4⟩
    · rw [words_one h2] at h; simp at h
    · rw [words_more h2 h3 h4] at h ⊢
      have h' := ih (s.extract (i + 1) s.size) (by rw [List.length_cons] at h; omega)
      rw [Lib.splitB_hit _ _ _ _ i h1, Nat.add_zero, show spB.size = 1 from rfl, h'.1]
      have hp : pre (s.extract 0 i :: wordsP (s.extract (i + 1) s.size)) (k + 1) = i + 1 + pre (wordsP (s.extract (i + 1) s.size)) k := by
        unfold pre
        simp only [List.take_succ_cons, List.map_cons, List.sum_cons, ByteArray.size_extract]
        omega
      have hle := h'.2
      rw [tail_size] at hle
      rw [hp]
      refine ⟨?_, by omega⟩
      simp only [List.take_succ_cons, List.cons_append]
      rw [tail_size, tail_extract (by omega), show i + 1 + (s.size - (i + 1)) = s.size by omega]

/-- What a text that has five words at least is cut into. -/
theorem five_of {ws : List ByteArray} (h : 5 ≤ ws.length) : ∃ a b c d e r, ws = a :: b :: c :: d :: e :: r := by
  match ws, h with
  | a :: b :: c :: d :: e :: r, _ => exact ⟨a, b, c, d, e, r, rfl⟩

/-- The place of a word among those of what a change is about, 0 if it is none. -/
def whatTo (c : ByteArray) : Nat → Int
  | 0 => 0
  | k + 1 => if whatL[k]? = some c.data.toList then (k : Int) + 1 else whatTo c k
def whatOf (c : ByteArray) : Int := whatTo c 5
theorem whatTo_bound (c : ByteArray) (k : Nat) : 0 ≤ whatTo c k ∧ whatTo c k ≤ k := by
  induction k with
  | zero => exact ⟨Int.le_refl _, Int.le_refl _⟩
  | succ k ih =>
    have e : whatTo c (k + 1) = if whatL[k]? = some c.data.toList then (k : Int) + 1 else whatTo c k := rfl
    rw [e]
    split
    · omega
    · omega
theorem whatL_inj {i j : Nat} {x : List UInt8} (hi : whatL[i]? = some x) (hj : whatL[j]? = some x) : i = j := by
  have h5 : ∀ k, whatL[k]? = some x → k < 5 := fun k hk => (List.getElem?_eq_some_iff.1 hk).1
  have hnd : whatL.Nodup := by decide
  exact (List.getElem?_inj (h5 i hi) hnd).1 (hi.trans hj.symm)
/-- One hit: it stays. -/
theorem whatTo_hit {c : ByteArray} {k : Nat} (h : whatL[k]? = some c.data.toList) (m : Nat) : whatTo c (k + 1 + m) = (k : Int) + 1 := by
  induction m with
  | zero =>
    show (if whatL[k]? = some c.data.toList then (k : Int) + 1 else whatTo c k) = _
    rw [if_pos h]
  | succ m ih =>
    show (if whatL[k + 1 + m]? = some c.data.toList then _ else whatTo c (k + 1 + m) : Int) = _
    rw [if_neg (fun h2 => by have := whatL_inj h h2; omega)]
    exact ih
theorem whatOf_hit {c : ByteArray} {k : Nat} (hk : k < 5) (h : whatL[k]? = some c.data.toList) : whatOf c = (k : Int) + 1 := by
  have := whatTo_hit h (5 - (k + 1))
  rwa [show k + 1 + (5 - (k + 1)) = 5 by omega] at this

end Go.Proofs.YtgibkckmdedhjaaDoor
