/- DERIVED. What stands, told by the values of an entry: the same as told by a draft. -/
import Derived.Test.YtgnjkpmbppmoeaaGreatDf8
import Derived.Test.YtgnjkpmbppmoeaaGreatDf7
namespace Go.Proofs.YtgnjkpmbppmoeaaGreat
namespace Std
open Go.RowKit
set_option linter.unusedSimpArgs false
set_option linter.unusedVariables false

def AllSaid (fs : List DPlanField) : Prop := ∀ wh : Int, 1 ≤ wh → wh ≤ 4 → ¬ valP fs wh = ByteArray.empty
noncomputable def stdE (x : DPlanBase) (n : ByteArray) (fs : List DPlanField) : DFlight × Bool :=
  if pb (AllSaid fs ∧ ¬ valP fs 5 = closB) then ((n, findD nmK zK x.1 (valP fs 1), decZ ((wordsP (valP fs 2)).getD 0 ByteArray.empty), decZ ((wordsP (valP fs 2)).getD 1 ByteArray.empty), decZ (valP fs 3), wordsP (valP fs 4)), true) else (zF, false)

theorem words_empty : (wordsP ByteArray.empty).length = 1 := by decide +kernel
theorem fits_some {x : DPlanBase} {wh : Int} {v : ByteArray} (h : FitsOk x wh v) (h4 : wh ≤ 4) : ¬ v = ByteArray.empty := by
  rintro rfl
  obtain ⟨hb, h⟩ := h
  have hz : ByteArray.empty.size = 0 := rfl
  rcases h with ⟨rfl, h⟩ | ⟨rfl, h⟩ | ⟨rfl, h⟩ | ⟨rfl, h⟩ | ⟨rfl, h⟩
  · obtain ⟨i, hi, e⟩ := h
    have h1 := (hb.2.1 i hi hi).1.1.1
    have e : (x.1[i]'hi).1 = ByteArray.empty := e
    rw [e, hz] at h1
    omega
  · obtain ⟨a, b, e, _⟩ := h
    have := words_empty
    rw [e] at this
    simp at this
  · have := h.1.1.1
    rw [hz] at this
    omega
  · have := h.1.1
    rw [words_empty] at this
    omega
  · omega
theorem said_or {fs : List DPlanField} {wh : Int} : NoF fs wh fs.length ∨ ∃ j, ∃ h : j < fs.length, (fs[j]'h).1 = wh := by
  by_cases h : ∃ j, ∃ h : j < fs.length, (fs[j]'h).1 = wh
  · exact .inr h
  · exact .inl (fun j hj _ e => h ⟨j, hj, e⟩)
theorem val_at {x : DPlanBase} {n : ByteArray} {fs : List DPlanField} (h : FldTo x n fs fs.length) {wh : Int} {j : Nat} (hj : j < fs.length) (e : (fs[j]'hj).1 = wh) : valP fs wh = (fs[j]'hj).2.2 :=
  valP_hit (e ▸ fld_noF h hj) hj e
theorem val_some {x : DPlanBase} {n : ByteArray} {fs : List DPlanField} (h : FldTo x n fs fs.length) {wh : Int} (h4 : wh ≤ 4) : (¬ valP fs wh = ByteArray.empty) ↔ ¬ NoF fs wh fs.length := by
  constructor
  · exact fun h1 h2 => h1 (valP_none h2)
  · intro h1
    rcases said_or (fs := fs) (wh := wh) with h2 | ⟨j, hj, e⟩
    · exact absurd h2 h1
    · rw [val_at h hj e]
      have hf : FitsOk x (fs[j]'hj).1 (fs[j]'hj).2.2 := (h j hj hj).1.2.2
      exact fits_some hf (by omega)
theorem val_fits {x : DPlanBase} {n : ByteArray} {fs : List DPlanField} (h : FldTo x n fs fs.length) {wh : Int} (hs : ¬ valP fs wh = ByteArray.empty) : FitsOk x wh (valP fs wh) := by
  rcases said_or (fs := fs) (wh := wh) with h2 | ⟨j, hj, e⟩
  · exact absurd (valP_none h2) hs
  · rw [val_at h hj e]
    have hf : FitsOk x (fs[j]'hj).1 (fs[j]'hj).2.2 := (h j hj hj).1.2.2
    rw [e] at hf
    exact hf
theorem says_val {x : DPlanBase} {n : ByteArray} {fs : List DPlanField} {d : DDraft} (h : FldTo x n fs fs.length) (hd : DftTo x fs fs.length d) {wh : Int} (hs : ¬ NoF fs wh fs.length) : SaysD x d wh (valP fs wh) := by
  rcases said_or (fs := fs) (wh := wh) with h2 | ⟨j, hj, e⟩
  · exact absurd h2 hs
  · rw [val_at h hj e]
    have := hd.s j hj hj
    rw [e] at this
    exact this
theorem outD_eq {x : DPlanBase} {n : ByteArray} {fs : List DPlanField} {d : DDraft} (h : FldTo x n fs fs.length) (hd : DftTo x fs fs.length d) : outD n d = stdE x n fs := by
  have hall : d.m.length = 0 ↔ AllSaid fs := by
    constructor
    · intro h0 wh h1 h4
      rw [val_some h h4, ← hd.m wh h1 h4]
      rw [List.length_eq_zero_iff.1 h0]
      simp
    · intro ha
      rw [List.length_eq_zero_iff, List.eq_nil_iff_forall_not_mem]
      intro a hm
      have hr := hd.v a hm
      exact ((val_some h hr.2).1 (ha a hr.1 hr.2)) ((hd.m a hr.1 hr.2).1 hm)
  have hcl : d.c = false ↔ ¬ valP fs 5 = closB := by
    by_cases h5 : NoF fs 5 fs.length
    · rw [hd.c h5, valP_none h5]
      exact ⟨fun _ e => absurd (congrArg ByteArray.size e) (by decide), fun _ => rfl⟩
    · rw [(says_val h hd h5).c rfl, decide_eq_false_iff_not]
  unfold outD stdE
  by_cases hst : AllSaid fs ∧ ¬ valP fs 5 = closB
  · rw [if_pos ⟨hall.2 hst.1, hcl.2 hst.2⟩, if_pos (pb_yes hst)]
    have hs := fun wh (h1 : 1 ≤ wh) (h4 : wh ≤ 4) => says_val h hd ((val_some h h4).1 (hst.1 wh h1 h4))
    rw [(hs 1 (by decide) (by decide)).k rfl, (hs 2 (by decide) (by decide)).f rfl, (hs 2 (by decide) (by decide)).b rfl, (hs 3 (by decide) (by decide)).l rfl, (hs 4 (by decide) (by decide)).r rfl]
  · rw [if_neg (fun e => hst ⟨hall.1 e.1, hcl.1 e.2⟩), if_neg (by rw [pb_no hst]; decide)]

/-- What stands, told by the entry's values. -/
def StdOf (bk : DPlanBook) (nm : ByteArray) (o : DFlight × Bool) : Prop :=
  (¬ BookOk bk ∧ o = (zF, false)) ∨ (BookOk bk ∧ NoNm nm1 bk.2 nm bk.2.length ∧ o = (zF, false)) ∨
  (BookOk bk ∧ ∃ k, ∃ h : k < bk.2.length, NoNm nm1 bk.2 nm k ∧ (bk.2[k]'h).1 = nm ∧ o = stdE bk.1 nm (bk.2[k]'h).2)
theorem StdIs.of {bk : DPlanBook} {nm : ByteArray} {o : DFlight × Bool} (h : StdIs bk nm o) : StdOf bk nm o := by
  rcases h with h | h | ⟨h1, k, h2, h3, h4, d, h5, h6⟩
  · exact .inl h
  · exact .inr (.inl h)
  · exact .inr (.inr ⟨h1, k, h2, h3, h4, by rw [h6]; exact outD_eq ((h4 ▸ (h1.2.2 k h2 h2).1.2.2 : FldTo bk.1 nm _ _)) h5⟩)
theorem StdOf.one {bk : DPlanBook} {nm : ByteArray} {o o' : DFlight × Bool} (h : StdOf bk nm o) (h' : StdOf bk nm o') : o = o' := by
  rcases h with ⟨a1, rfl⟩ | ⟨a1, a2, rfl⟩ | ⟨a1, k, a2, a3, a4, rfl⟩
  all_goals rcases h' with ⟨b1, rfl⟩ | ⟨b1, b2, rfl⟩ | ⟨b1, k', b2, b3, b4, rfl⟩
  all_goals first
    | rfl
    | exact absurd ‹BookOk bk› ‹¬ BookOk bk›
    | exact absurd b4 (b2' b2)
    | skip
  · exact absurd b4 (a2 k' b2 b2)
  · exact absurd a4 (b2 k a2 a2)
  · have e : k = k' := by
      rcases Nat.lt_trichotomy k k' with hlt | e | hlt
      · exact absurd a4 (b3 k a2 hlt)
      · exact e
      · exact absurd b4 (a3 k' b2 hlt)
    subst e
    rfl

end Std
end Go.Proofs.YtgnjkpmbppmoeaaGreat
