/- DERIVED. Words, written with one space between and cut again: plain lists. -/
import Derived.Test.YtlkalmpmfblnfaaSw1
namespace Go.Proofs.Ytlkalmpmfblnfaa.Sw
set_option linter.unusedSimpArgs false
set_option linter.unusedVariables false

/-- What is answered: the words and true, or nothing and false. -/
def res (l : List UInt8) : List (List UInt8) × Bool := match wordsC l with | none => ([], false) | some ws => (ws, true)

def GoodW (wd : List UInt8) : Prop := wd.length ≤ 24 ∧ ∀ c ∈ wd, okB c = true ∧ c ≠ 35
def GoodSt (st : List (List UInt8) × List UInt8) : Prop := (∀ wd ∈ st.1, wd ≠ [] ∧ GoodW wd) ∧ GoodW st.2

theorem good_step {st st' : List (List UInt8) × List UInt8} {c : UInt8} (hc : c ≠ 35) (h : GoodSt st) (hs : stepC st c = some st') : GoodSt st' := by
  obtain ⟨h1, h2⟩ := h
  have h0 : GoodW [] := ⟨by simp, by simp⟩
  unfold stepC at hs
  split at hs
  · split at hs
    · cases hs; exact ⟨h1, h0⟩
    · split at hs
      · cases hs; rename_i hk; exact ⟨h1, by simp, by simp [hk.1, hc]⟩
      · cases hs
  · rename_i hw
    split at hs
    · cases hs
      refine ⟨fun wd hwd => ?_, h0⟩
      rcases List.mem_append.1 hwd with h | h
      · exact h1 wd h
      · simp at h; subst h; exact ⟨hw, h2⟩
    · split at hs
      · cases hs; rename_i hk
        refine ⟨h1, by simp; omega, fun d hd => ?_⟩
        rcases List.mem_append.1 hd with h | h
        · exact h2.2 d h
        · simp at h; subst h; exact ⟨hk.1, hc⟩
      · cases hs

theorem good_run {l : List UInt8} : (∀ c ∈ l, c ≠ 35) → ∀ {st st' : List (List UInt8) × List UInt8}, GoodSt st → runC st l = some st' → GoodSt st' := by
  induction l with
  | nil => intro _ st st' h hr; simp only [runC, Option.some.injEq] at hr; subst hr; exact h
  | cons c l ih =>
    intro hl st st' h hr
    simp only [runC] at hr
    cases h2 : stepC st c with
    | none => rw [h2] at hr; cases hr
    | some s2 => rw [h2] at hr; exact ih (fun d hd => hl d (List.mem_cons_of_mem _ hd)) (good_step (hl c List.mem_cons_self) h h2) hr

theorem bare_no (l : List UInt8) : ∀ c ∈ bare l, c ≠ 35 := by
  induction l with
  | nil => intro c h; simp [bare] at h
  | cons a l ih =>
    intro c h
    simp only [bare, List.takeWhile_cons] at h
    split at h
    · rename_i ha
      rcases List.mem_cons.1 h with h | h
      · subst h; simpa using ha
      · exact ih c h
    · simp at h

theorem res_good (l : List UInt8) : (∀ wd ∈ (res (bare l)).1, wd ≠ [] ∧ GoodW wd) ∧ (res (bare l)).1.length ≤ 12 := by
  unfold res
  cases h : wordsC (bare l) with
  | none => exact ⟨by simp, by simp⟩
  | some ws =>
    refine ⟨?_, wordsC_le h⟩
    unfold wordsC at h
    cases hr : runC ([], []) (bare l) with
    | none => rw [hr] at h; simp at h
    | some st =>
      rw [hr] at h
      simp at h
      subst h
      have hg := good_run (bare_no l) (st := ([], [])) ⟨by simp, by simp, by simp⟩ hr
      simp only [endC]
      intro wd hwd
      split at hwd
      · exact hg.1 wd hwd
      · rename_i hw
        rcases List.mem_append.1 hwd with h | h
        · exact hg.1 wd h
        · simp at h; subst h; exact ⟨hw, hg.2⟩

/-- A space ahead of each word. -/
def joined (ws : List (List UInt8)) : List UInt8 := ws.flatMap fun wd => 32 :: wd

theorem joined_snoc (ws : List (List UInt8)) (wd : List UInt8) : joined (ws ++ [wd]) = joined ws ++ (32 :: wd) := by simp [joined]

theorem joined_len (ws : List (List UInt8)) (h : ∀ wd ∈ ws, wd.length ≤ 24) : (joined ws).length ≤ 25 * ws.length := by
  induction ws with
  | nil => simp [joined]
  | cons wd ws ih =>
    have h1 := ih (fun x hx => h x (List.mem_cons_of_mem _ hx))
    have h2 := h wd List.mem_cons_self
    simp only [joined, List.flatMap_cons, List.length_append, List.length_cons] at h1 ⊢
    omega

theorem run_word (cut : List (List UInt8)) (hc : cut.length < 12) (wd : List UInt8) : ∀ (a b : List UInt8), a ++ b = wd → GoodW wd → a ≠ [] → ∀ rest, runC (cut, a) (b ++ rest) = runC (cut, wd) rest := by
  intro a b
  induction b generalizing a with
  | nil => intro h _ _ rest; simp at h; subst h; rfl
  | cons c b ih =>
    intro h hg ha rest
    have hcw : c ∈ wd := by rw [← h]; simp
    have hok := (hg.2 c hcw).1
    have h32 : c ≠ 32 := by intro e; rw [e] at hok; revert hok; decide
    have hlen : a.length < 24 := by
      have := hg.1
      rw [← h] at this
      simp at this
      omega
    have hs : stepC (cut, a) c = some (cut, a ++ [c]) := by simp [stepC, ha, h32, hok, hlen]
    simp only [List.cons_append, runC, hs]
    exact ih (a ++ [c]) (by simp [h]) hg (by simp) rest

theorem run_first (cut : List (List UInt8)) (hc : cut.length < 12) (wd : List UInt8) (hg : GoodW wd) (hw : wd ≠ []) (rest : List UInt8) : runC (cut, []) (wd ++ rest) = runC (cut, wd) rest := by
  cases wd with
  | nil => exact absurd rfl hw
  | cons c t =>
    have hok := (hg.2 c List.mem_cons_self).1
    have h32 : c ≠ 32 := by intro e; rw [e] at hok; revert hok; decide
    have hs : stepC (cut, []) c = some (cut, [c]) := by simp [stepC, h32, hok, hc]
    simp only [List.cons_append, runC, hs]
    exact run_word cut hc (c :: t) [c] t rfl hg (by simp) rest

theorem step_space (st : List (List UInt8) × List UInt8) : stepC st 32 = some (endC st, []) := by
  unfold stepC endC
  split <;> simp

theorem run_joined (ws : List (List UInt8)) (hg : ∀ wd ∈ ws, wd ≠ [] ∧ GoodW wd) : ∀ st, (endC st).length + ws.length ≤ 12 → runC st (joined ws ++ [32]) = some (endC st ++ ws, []) := by
  induction ws with
  | nil => intro st _; simp [joined, runC, step_space]
  | cons wd ws ih =>
    intro st hl
    have h1 := hg wd List.mem_cons_self
    have e : joined (wd :: ws) ++ [32] = 32 :: (wd ++ (joined ws ++ [32])) := by simp [joined]
    rw [e]
    simp only [runC, step_space]
    simp only [List.length_cons] at hl
    rw [run_first _ (by omega) wd h1.2 h1.1]
    have h2 := ih (fun x hx => hg x (List.mem_cons_of_mem _ hx)) (endC st, wd) (by simp [endC, h1.1]; simp [endC] at hl; omega)
    rw [h2]
    simp [endC, h1.1]

theorem bare_joined (ws : List (List UInt8)) (hg : ∀ wd ∈ ws, wd ≠ [] ∧ GoodW wd) (rest : List UInt8) : bare (joined ws ++ [32, 35, 32] ++ rest) = joined ws ++ [32] := by
  have h : ∀ c ∈ joined ws, c ≠ 35 := by
    intro c hc
    simp only [joined, List.mem_flatMap] at hc
    obtain ⟨wd, h1, h2⟩ := hc
    rcases List.mem_cons.1 h2 with h | h
    · subst h; decide
    · exact ((hg wd h1).2.2 c h).2
  have key : ∀ (l : List UInt8), (∀ c ∈ l, c ≠ 35) → bare (l ++ [32, 35, 32] ++ rest) = l ++ [32] := by
    intro l
    induction l with
    | nil => intro _; simp [bare, List.takeWhile_cons]
    | cons a l ih =>
      intro hl
      have ha := hl a List.mem_cons_self
      have := ih (fun c hc => hl c (List.mem_cons_of_mem _ hc))
      simp only [bare, List.cons_append, List.takeWhile_cons, ne_eq, ha, not_false_eq_true, decide_true, if_true] at this ⊢
      rw [this]
  exact key _ h

theorem res_joined (l rest : List UInt8) : res (bare (joined (res (bare l)).1 ++ [32, 35, 32] ++ rest)) = ((res (bare l)).1, true) := by
  have hg := res_good l
  rw [bare_joined _ hg.1]
  have hr := run_joined _ hg.1 ([], []) (by simpa [endC] using hg.2)
  have : wordsC (joined (res (bare l)).1 ++ [32]) = some (res (bare l)).1 := by
    unfold wordsC
    rw [hr]
    simp [endC]
  generalize (res (bare l)).1 = ws at this ⊢
  simp only [res, this]

end Go.Proofs.Ytlkalmpmfblnfaa.Sw
