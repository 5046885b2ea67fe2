/- DERIVED. laws.FnExactPlanNews at books of whatever size (written by wip/tools/mk_law3.py). -/
import Derived.Test.YtohgkiljdehefaaGreatNwL
namespace Go.Proofs.YtohgkiljdehefaaGreat
open Go.RowKit
set_option linter.unusedSimpArgs false
set_option linter.unusedVariables false

set_option maxRecDepth 100000 in
set_option maxHeartbeats 4000000 in
theorem newsLaw_long (a b : DPlanBook) (ao0 : Option Addr) (cap0 : Nat) (ao1 : Option Addr) (cap1 : Nat) (ao2 : Option Addr) (cap2 : Nat) (bo0 : Option Addr) (cbp0 : Nat) (bo1 : Option Addr) (cbp1 : Nat) (bo2 : Option Addr) (cbp2 : Nat) (w : World) (ha : BookAt w a ao0 cap0 ao1 cap1 ao2 cap2) (hb : BookAt w b bo0 cbp0 bo1 cbp1 bo2 cbp2) (hna : wPlanBook a ≤ 1048576) (hn : ¬ wPlanBook a + wPlanBook b ≤ 1048576) :
    Calls Tryz.prog 3 #[.agg #[.slice ao0 a.1.1.length cap0, .slice ao1 a.1.2.length cap1, .slice ao2 a.2.length cap2], .agg #[.slice bo0 b.1.1.length cbp0, .slice bo1 b.1.2.length cbp1, .slice bo2 b.2.length cbp2]] w fun e w' => e = .returned (.bool true) ∧ Below w.heap.size w w' := by
  have hsz : szR 1048576 (wPlanBook a) = 1048576 - (wPlanBook a : Int) := szR_yes (by omega)
  have hsz2 : szR (1048576 - (wPlanBook a : Int)) (wPlanBook b) = -1 := szR_no (by omega)
  have hnn : decide ((1048576 - (wPlanBook a : Int)) < 0) = false := by simp; omega
  obtain ⟨w0, hw0⟩ : ∃ w0, w0 = (w.alloc (.cells #[.slice ao0 a.1.1.length cap0, .slice ao1 a.1.2.length cap1, .slice ao2 a.2.length cap2] 28)).alloc (.cells #[.slice bo0 b.1.1.length cbp0, .slice bo1 b.1.2.length cbp1, .slice bo2 b.2.length cbp2] 28) := ⟨_, rfl⟩
  have A0 : ArgsAt w #[.slice ao0 a.1.1.length cap0, .slice ao1 a.1.2.length cap1, .slice ao2 a.2.length cap2] #[.slice bo0 b.1.1.length cbp0, .slice bo1 b.1.2.length cbp1, .slice bo2 b.2.length cbp2] w0 := by
    rw [hw0]
    refine ⟨((Below.refl _ _).alloc (Nat.le_refl _) _).alloc (by simp) _, (BxC.new w _ _).below ((Below.refl (w.heap.size + 1) _).alloc (by simp) _) (by omega), ?_, by simp⟩
    have := BxC.new (w.alloc (.cells #[.slice ao0 a.1.1.length cap0, .slice ao1 a.1.2.length cap1, .slice ao2 a.2.length cap2] 28)) #[.slice bo0 b.1.1.length cbp0, .slice bo1 b.1.2.length cbp1, .slice bo2 b.2.length cbp2] 28
    rwa [World.size_alloc] at this
  have hI := ha.later A0.bel
  have HSZ := szPlanBook_any a ao0 cap0 ao1 cap1 ao2 cap2 1048576 w0 (by omega) (by omega) hI.p0 hI.p1 hI.p2
  rw [hw0, hsz] at HSZ
  clear hI
  go_enter Tryz.func3, Tryz.ntmps3
  go_wp2_with fail
  refine HSZ.mono ?_
  rw [← hw0]
  rintro e w1 ⟨rfl, hb1⟩
  clear hw0 HSZ hsz
  have A1 := A0.later hb1
  have hI := hb.later A1.bel
  have HSL := szPlanBook_any b bo0 cbp0 bo1 cbp1 bo2 cbp2 (1048576 - (wPlanBook a : Int)) w1 (by omega) (by omega) hI.p0 hI.p1 hI.p2
  rw [hsz2] at HSL
  have HH := A1.pb
  have hs := A1.sz
  have z0 := HH 0
  have z1 := HH 1
  have z2 := HH 2
  simp at z0 z1 z2
  clear hsz2 hb1 A0 hI HH
  go_wp2_with fail
  refine HSL.mono ?_
  rintro e w2 ⟨rfl, hb2⟩
  have A2 := A1.later hb2
  clear HSL hb2 A1 z0 z1 z2 hs
  generalize (1048576 - (wPlanBook a : Int)) = L1 at *
  go_wp2
  go_ret
  exact ⟨rfl, A2.bel⟩

set_option maxRecDepth 100000 in
set_option maxHeartbeats 4000000 in
theorem newsLaw_big (a b : DPlanBook) (ao0 : Option Addr) (cap0 : Nat) (ao1 : Option Addr) (cap1 : Nat) (ao2 : Option Addr) (cap2 : Nat) (bo0 : Option Addr) (cbp0 : Nat) (bo1 : Option Addr) (cbp1 : Nat) (bo2 : Option Addr) (cbp2 : Nat) (w : World) (ha : BookAt w a ao0 cap0 ao1 cap1 ao2 cap2) (hn : ¬ wPlanBook a ≤ 1048576) :
    Calls Tryz.prog 3 #[.agg #[.slice ao0 a.1.1.length cap0, .slice ao1 a.1.2.length cap1, .slice ao2 a.2.length cap2], .agg #[.slice bo0 b.1.1.length cbp0, .slice bo1 b.1.2.length cbp1, .slice bo2 b.2.length cbp2]] w fun e w' => e = .returned (.bool true) ∧ Below w.heap.size w w' := by
  have hsz : szR 1048576 (wPlanBook a) = -1 := szR_no (by omega)
  have hb0 : Below w.heap.size w ((w.alloc (.cells #[.slice ao0 a.1.1.length cap0, .slice ao1 a.1.2.length cap1, .slice ao2 a.2.length cap2] 28)).alloc (.cells #[.slice bo0 b.1.1.length cbp0, .slice bo1 b.1.2.length cbp1, .slice bo2 b.2.length cbp2] 28)) := ((Below.refl _ _).alloc (Nat.le_refl _) _).alloc (by simp) _
  have hI := ha.later hb0
  have HSZ := szPlanBook_any a ao0 cap0 ao1 cap1 ao2 cap2 1048576 _ (by omega) (by omega) hI.p0 hI.p1 hI.p2
  rw [hsz] at HSZ
  clear hI hsz
  go_enter Tryz.func3, Tryz.ntmps3
  go_wp2_with fail
  refine HSZ.mono ?_
  rintro e w1 ⟨rfl, hb1⟩
  have hB := hb0.trans (hb1.mono hb0.size)
  clear HSZ hb1
  go_wp2
  go_ret
  exact ⟨rfl, hB⟩

theorem newsLaw (a b : DPlanBook) (ao0 : Option Addr) (cap0 : Nat) (ao1 : Option Addr) (cap1 : Nat) (ao2 : Option Addr) (cap2 : Nat) (bo0 : Option Addr) (cbp0 : Nat) (bo1 : Option Addr) (cbp1 : Nat) (bo2 : Option Addr) (cbp2 : Nat) (w : World) (ha : BookAt w a ao0 cap0 ao1 cap1 ao2 cap2) (hb : BookAt w b bo0 cbp0 bo1 cbp1 bo2 cbp2) :
    Calls Tryz.prog 3 #[.agg #[.slice ao0 a.1.1.length cap0, .slice ao1 a.1.2.length cap1, .slice ao2 a.2.length cap2], .agg #[.slice bo0 b.1.1.length cbp0, .slice bo1 b.1.2.length cbp1, .slice bo2 b.2.length cbp2]] w fun e w' => e = .returned (.bool true) ∧ Below w.heap.size w w' := by
  by_cases hna : wPlanBook a ≤ 1048576
  · by_cases hn : wPlanBook a + wPlanBook b ≤ 1048576
    · exact newsLaw_small a b ao0 cap0 ao1 cap1 ao2 cap2 bo0 cbp0 bo1 cbp1 bo2 cbp2 w ha hb hn
    · exact newsLaw_long a b ao0 cap0 ao1 cap1 ao2 cap2 bo0 cbp0 bo1 cbp1 bo2 cbp2 w ha hb hna hn
  · exact newsLaw_big a b ao0 cap0 ao1 cap1 ao2 cap2 bo0 cbp0 bo1 cbp1 bo2 cbp2 w ha hna

end Go.Proofs.YtohgkiljdehefaaGreat
