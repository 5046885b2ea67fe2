/- DERIVED. Words of a line, as plain lists of bytes: the program's way and the specification's, and that they are one. No program is named here. -/
import Derived.WalkKit
namespace Go.Proofs.Ytlkalmpmfblnfaa.Sw
set_option linter.unusedSimpArgs false
set_option linter.unusedVariables false

def okB (c : UInt8) : Bool := decide (33 ≤ c.toNat) && decide (c.toNat ≤ 126)

/-- The program's step. -/
def stepC (st : List (List UInt8) × List UInt8) (c : UInt8) : Option (List (List UInt8) × List UInt8) :=
  if st.2 = [] then
    (if c = 32 then some (st.1, []) else if okB c = true ∧ st.1.length < 12 then some (st.1, [c]) else none)
  else
    (if c = 32 then some (st.1 ++ [st.2], []) else if okB c = true ∧ st.2.length < 24 then some (st.1, st.2 ++ [c]) else none)

def runC (st : List (List UInt8) × List UInt8) : List UInt8 → Option (List (List UInt8) × List UInt8)
  | [] => some st
  | c :: l => match stepC st c with
    | none => none
    | some st' => runC st' l

def endC (st : List (List UInt8) × List UInt8) : List (List UInt8) := if st.2 = [] then st.1 else st.1 ++ [st.2]

def wordsC (l : List UInt8) : Option (List (List UInt8)) := (runC ([], []) l).map endC

theorem runC_snoc (st : List (List UInt8) × List UInt8) (l : List UInt8) (c : UInt8) : runC st (l ++ [c]) = (runC st l).bind fun st' => stepC st' c := by
  induction l generalizing st with
  | nil => simp only [List.nil_append, runC, Option.bind]; cases stepC st c <;> rfl
  | cons d l ih =>
    simp only [List.cons_append, runC]
    cases h : stepC st d with
    | none => rfl
    | some st' => exact ih st'

theorem runC_app_none (st : List (List UInt8) × List UInt8) (l m : List UInt8) (h : runC st l = none) : runC st (l ++ m) = none := by
  induction l generalizing st with
  | nil => simp [runC] at h
  | cons d l ih =>
    simp only [List.cons_append, runC] at h ⊢
    cases h2 : stepC st d with
    | none => rfl
    | some st' => rw [h2] at h; exact ih st' h

/-- What a state is: few words, none too long. -/
def Fine (st : List (List UInt8) × List UInt8) : Prop := st.1.length ≤ 12 ∧ (st.2 ≠ [] → st.1.length < 12) ∧ st.2.length ≤ 24

theorem fine_step {st st' : List (List UInt8) × List UInt8} {c : UInt8} (h : Fine st) (hs : stepC st c = some st') : Fine st' := by
  obtain ⟨h1, h2, h3⟩ := h
  unfold stepC at hs
  split at hs
  · split at hs
    · cases hs; exact ⟨h1, fun h => absurd rfl h, by simp⟩
    · split at hs
      · cases hs; rename_i hc; exact ⟨h1, fun _ => hc.2, by simp⟩
      · cases hs
  · rename_i hw
    split at hs
    · cases hs; have := h2 hw; exact ⟨by simp; omega, fun h => absurd rfl h, by simp⟩
    · split at hs
      · cases hs; rename_i hc; exact ⟨h1, fun _ => h2 hw, by simp; omega⟩
      · cases hs

theorem fine_run {l : List UInt8} : ∀ {st st' : List (List UInt8) × List UInt8}, Fine st → runC st l = some st' → Fine st' := by
  induction l with
  | nil => intro st st' h hr; simp only [runC, Option.some.injEq] at hr; subst hr; exact h
  | cons c l ih =>
    intro st st' h hr
    simp only [runC] at hr
    cases h2 : stepC st c with
    | none => rw [h2] at hr; cases hr
    | some s2 => rw [h2] at hr; exact ih (fine_step h h2) hr

theorem fine_nil : Fine ([], []) := ⟨by simp, fun h => absurd rfl h, by simp⟩

/-! The specification's way: byte by byte, over the line and one space. -/
def stepS (st : List (List UInt8) × List UInt8) (c : UInt8) : Option (List (List UInt8) × List UInt8) :=
  if c = 32 then some (if st.2 = [] then st.1 else st.1 ++ [st.2], [])
  else if okB c = true ∧ st.2.length < 24 then some (st.1, st.2 ++ [c]) else none

def runS (st : List (List UInt8) × List UInt8) : List UInt8 → Option (List (List UInt8) × List UInt8)
  | [] => some st
  | c :: l => match stepS st c with
    | none => none
    | some st' => runS st' l

theorem runS_snoc (st : List (List UInt8) × List UInt8) (l : List UInt8) (c : UInt8) : runS st (l ++ [c]) = (runS st l).bind fun st' => stepS st' c := by
  induction l generalizing st with
  | nil => simp only [List.nil_append, runS, Option.bind]; cases stepS st c <;> rfl
  | cons d l ih =>
    simp only [List.cons_append, runS]
    cases h : stepS st d with
    | none => rfl
    | some st' => exact ih st'

theorem runS_app_none (st : List (List UInt8) × List UInt8) (l m : List UInt8) (h : runS st l = none) : runS st (l ++ m) = none := by
  induction l generalizing st with
  | nil => simp [runS] at h
  | cons d l ih =>
    simp only [List.cons_append, runS] at h ⊢
    cases h2 : stepS st d with
    | none => rfl
    | some st' => rw [h2] at h; exact ih st' h

/-- How many words there are at the end of it, if one more byte, a space, came. -/
def cnt (st : List (List UInt8) × List UInt8) : Nat := (endC st).length

theorem stepS_cnt {st st' : List (List UInt8) × List UInt8} {c : UInt8} (h : stepS st c = some st') : cnt st ≤ cnt st' := by
  unfold stepS at h
  split at h
  · cases h; simp only [cnt, endC]; split <;> simp
  · split at h
    · cases h; simp only [cnt, endC]; split <;> simp
    · cases h

theorem runS_cnt {l : List UInt8} : ∀ {st st' : List (List UInt8) × List UInt8}, runS st l = some st' → cnt st ≤ cnt st' := by
  induction l with
  | nil => intro st st' h; simp only [runS, Option.some.injEq] at h; subst h; exact Nat.le_refl _
  | cons c l ih =>
    intro st st' h
    simp only [runS] at h
    cases h2 : stepS st c with
    | none => rw [h2] at h; cases h
    | some s2 => rw [h2] at h; exact Nat.le_trans (stepS_cnt h2) (ih h)

/-- The two steps are one but where a thirteenth word begins. -/
theorem step_same (st : List (List UInt8) × List UInt8) (c : UInt8) (h : Fine st) : stepC st c = stepS st c ∨ (stepC st c = none ∧ ∃ st', stepS st c = some st' ∧ 13 ≤ cnt st') := by
  unfold stepC stepS
  by_cases hw : st.2 = []
  · by_cases hc : c = 32
    · left; simp [hw, hc]
    · by_cases ho : okB c = true
      · by_cases hl : st.1.length < 12
        · left; simp [hw, hc, ho, hl]
        · right; refine ⟨by simp [hw, hc, ho, hl], (st.1, st.2 ++ [c]), by simp [hw, hc, ho], ?_⟩
          simp [cnt, endC, hw]; have := h.1; omega
      · left; simp [hw, hc, ho]
  · by_cases hc : c = 32
    · left; simp [hw, hc]
    · by_cases ho : okB c = true
      · by_cases hl : st.2.length < 24
        · left; simp [hw, hc, ho, hl]
        · left; simp [hw, hc, ho, hl]
      · left; simp [hw, hc, ho]

def wordsS (l : List UInt8) : Option (List (List UInt8)) :=
  match runS ([], []) (l ++ [32]) with
  | none => none
  | some st => if 12 < st.1.length then none else some st.1

theorem run_same (l : List UInt8) : ∀ st, Fine st → ((runC st l).map endC = ((runS st l).bind fun s => if 12 < cnt s then none else some (endC s))) := by
  induction l with
  | nil =>
    intro st h
    have h2 : ¬ 12 < cnt st := by
      simp only [cnt, endC]
      split
      · have := h.1; omega
      · rename_i hw; have := h.2.1 hw; simp; omega
    simp [runC, runS, h2]
  | cons c l ih =>
    intro st h
    simp only [runC, runS]
    rcases step_same st c h with e | ⟨e, s2, e2, hn⟩
    · rw [e]
      cases h2 : stepS st c with
      | none => rfl
      | some s2 => rw [h2] at e; exact ih s2 (fine_step h e)
    · rw [e, e2]
      simp only [Option.map_none]
      cases h3 : runS s2 l with
      | none => rfl
      | some s3 => have := runS_cnt h3; simp; omega

theorem words_same (l : List UInt8) : wordsC l = wordsS l := by
  unfold wordsC wordsS
  rw [run_same l _ fine_nil, runS_snoc]
  cases h : runS ([], []) l with
  | none => rfl
  | some st =>
    simp only [Option.bind_some, stepS, if_pos]
    rfl

theorem wordsC_le {l : List UInt8} {ws : List (List UInt8)} (h : wordsC l = some ws) : ws.length ≤ 12 := by
  rw [words_same] at h
  unfold wordsS at h
  split at h
  · cases h
  · split at h
    · cases h
    · cases h; omega

/-- A line without its remark. -/
def bare (l : List UInt8) : List UInt8 := l.takeWhile (· ≠ 35)

end Go.Proofs.Ytlkalmpmfblnfaa.Sw
