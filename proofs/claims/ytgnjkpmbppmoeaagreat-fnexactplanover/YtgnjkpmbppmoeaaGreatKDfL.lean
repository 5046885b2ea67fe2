/- DERIVED. impl.PlanStands, spec.PlanStands: one answer, as a function of a book and a name. -/
import Derived.Test.YtgnjkpmbppmoeaaGreatKDf11
import Derived.Test.YtgnjkpmbppmoeaaGreatKGDc
import Derived.Test.YtgnjkpmbppmoeaaGreatKGSt
import Derived.Test.YtgnjkpmbppmoeaaGreatKGMc
namespace Go.Proofs.YtgnjkpmbppmoeaaGreat
namespace Std
open Go.RowKit
set_option linter.unusedSimpArgs false
set_option linter.unusedVariables false

open Classical in
noncomputable def stdF (bk : DPlanBook) (nm : ByteArray) : DFlight × Bool := if h : ∃ o, StdOf bk nm o then Classical.choose h else (zF, false)
theorem stdF_eq {bk : DPlanBook} {nm : ByteArray} {o : DFlight × Bool} (h : StdOf bk nm o) : stdF bk nm = o := by
  have he : ∃ o, StdOf bk nm o := ⟨o, h⟩
  unfold stdF
  rw [dif_pos he]
  exact StdOf.one (Classical.choose_spec he) h
theorem stdE_len {x : DPlanBase} {n : ByteArray} {fs : List DPlanField} (h : FldTo x n fs fs.length) : (stdE x n fs).1.2.2.2.2.2.length ≤ 8 := by
  unfold stdE
  by_cases hs : AllSaid fs ∧ ¬ valP fs 5 = closB
  · rw [if_pos (pb_yes hs)]
    have h4 := val_fits h (hs.1 4 (by decide) (by decide))
    have h5 := (fits4 x (valP fs 4)).1 h4.2
    have h6 := h5.1.2
    show (wordsP (valP fs 4)).length ≤ 8
    omega
  · rw [if_neg (by rw [pb_no hs]; decide)]
    exact Nat.zero_le _
theorem stdF_len (bk : DPlanBook) (nm : ByteArray) : (stdF bk nm).1.2.2.2.2.2.length ≤ 8 := by
  by_cases h : ∃ o, StdOf bk nm o
  · obtain ⟨o, ho⟩ := h
    rw [stdF_eq ho]
    rcases ho with ⟨_, rfl⟩ | ⟨_, _, rfl⟩ | ⟨g1, k, h2, h3, h4, rfl⟩
    · exact Nat.zero_le _
    · exact Nat.zero_le _
    · exact stdE_len (h4 ▸ (g1.2.2 k h2 h2).1.2.2 : FldTo bk.1 nm _ _)
  · unfold stdF
    rw [dif_neg h]
    exact Nat.zero_le _

theorem iStandsF (bk : DPlanBook) (nm : ByteArray) (ao0 : Option Addr) (cap0 : Nat) (ao1 : Option Addr) (cap1 : Nat) (ao2 : Option Addr) (cap2 : Nat) (w : World) (p0 : SliceAt vPlanKind (old w) w ao0 cap0 bk.1.1) (p1 : SliceAt vPlanPoint (old w) w ao1 cap1 bk.1.2) (p2 : SliceAt vPlanEntry (old w) w ao2 cap2 bk.2) (hs : wPlanEntryS bk.2 ≤ 1048576) :
    Calls Tryz.prog 9 #[.agg #[.slice ao0 bk.1.1.length cap0, .slice ao1 bk.1.2.length cap1, .slice ao2 bk.2.length cap2], .string nm] w fun r w' => ∃ ao cap, r = .returned (.tuple #[.agg #[.string (stdF bk nm).1.1, .string (stdF bk nm).1.2.1.1, .int .i64 (stdF bk nm).1.2.1.2.1, .int .i64 (stdF bk nm).1.2.1.2.2, .int .i64 (stdF bk nm).1.2.2.1, .int .i64 (stdF bk nm).1.2.2.2.1, .int .i64 (stdF bk nm).1.2.2.2.2.1, .slice ao (stdF bk nm).1.2.2.2.2.2.length cap], .bool (stdF bk nm).2]) ∧
      w'.ownsRow w.heap.size 9 1 (.slice ao (stdF bk nm).1.2.2.2.2.2.length cap) (stdF bk nm).1.2.2.2.2.2.length (strB (stdF bk nm).1.2.2.2.2.2) ∧ Below w.heap.size w w' := by
  refine (iStands bk nm ao0 cap0 ao1 cap1 ao2 cap2 w ⟨p0, p1⟩ p2 hs).mono ?_
  rintro r w' ⟨o, ho, rv, hr, hO, hb⟩
  have he := stdF_eq ho.of
  rw [he]
  obtain ⟨ao, cap, rfl⟩ : ∃ ao cap, rv = .slice ao o.1.2.2.2.2.2.length cap := by
    rcases hO.2 with ⟨h1, h2⟩ | ⟨g, cap, cur, h1, _⟩
    · exact ⟨none, 0, by rw [h1, h2]⟩
    · exact ⟨_, cap, h1⟩
  exact ⟨ao, cap, hr, hO, hb⟩
theorem sStandsF (bk : DPlanBook) (nm : ByteArray) (ao0 : Option Addr) (cap0 : Nat) (ao1 : Option Addr) (cap1 : Nat) (ao2 : Option Addr) (cap2 : Nat) (w : World) (p0 : SliceAt vPlanKind (old w) w ao0 cap0 bk.1.1) (p1 : SliceAt vPlanPoint (old w) w ao1 cap1 bk.1.2) (p2 : SliceAt vPlanEntry (old w) w ao2 cap2 bk.2) (hs : wPlanEntryS bk.2 ≤ 1048576) :
    Calls Tryz.prog 7 #[.agg #[.slice ao0 bk.1.1.length cap0, .slice ao1 bk.1.2.length cap1, .slice ao2 bk.2.length cap2], .string nm] w fun r w' => ∃ ao cap, r = .returned (.tuple #[.agg #[.string (stdF bk nm).1.1, .string (stdF bk nm).1.2.1.1, .int .i64 (stdF bk nm).1.2.1.2.1, .int .i64 (stdF bk nm).1.2.1.2.2, .int .i64 (stdF bk nm).1.2.2.1, .int .i64 (stdF bk nm).1.2.2.2.1, .int .i64 (stdF bk nm).1.2.2.2.2.1, .slice ao (stdF bk nm).1.2.2.2.2.2.length cap], .bool (stdF bk nm).2]) ∧
      TxtAt w' ao (stdF bk nm).1.2.2.2.2.2 ∧ Below w.heap.size w w' := by
  refine (sStands bk nm ao0 cap0 ao1 cap1 ao2 cap2 w ⟨p0, p1⟩ p2 hs).mono ?_
  rintro r w' ⟨o, ho, ao, cap, hr, hT, _, hb⟩
  have he := stdF_eq ho
  rw [he]
  exact ⟨ao, cap, hr, hT, hb⟩

end Std
end Go.Proofs.YtgnjkpmbppmoeaaGreat
