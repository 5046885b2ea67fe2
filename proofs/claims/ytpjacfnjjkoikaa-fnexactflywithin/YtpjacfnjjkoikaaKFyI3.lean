/- DERIVED. The iterator of impl.flyTwoByTwo: its contract (written by wip/tools/mk_fyi3.py). -/
import Derived.Test.YtpjacfnjjkoikaaKGIa
import Derived.Test.YtpjacfnjjkoikaaKFC0
import Derived.Test.YtpjacfnjjkoikaaKFR0
namespace Go.Proofs.Ytpjacfnjjkoikaa
namespace Fly
open Go.RowKit
set_option linter.unusedSimpArgs false
set_option linter.unusedVariables false
attribute [local go_sem] Oper.semAt_some

def prE (x : DFlyStep × DFlyStep) : Array Value := #[vSt x.1, vSt x.2]
/-- Each with the one behind it. -/
def prs (l : List DFlyStep) : List (DFlyStep × DFlyStep) := l.zip (l.drop 1)
theorem prs_len (l : List DFlyStep) : (prs l).length = l.length - 1 := by unfold prs; simp; try omega
theorem prs_at (l : List DFlyStep) (j : Nat) (h : j + 1 < l.length) : (prs l)[j]'(by rw [prs_len]; omega) = (l[j], l[j + 1]) := by
  unfold prs
  simp [Nat.add_comm]
theorem prs_take (l : List DFlyStep) (j : Nat) (h : j + 1 < l.length) : (prs l).take (j + 1) = (prs l).take j ++ [(l[j], l[j + 1])] := by
  rw [List.take_add_one, List.getElem?_eq_getElem (by rw [prs_len]; omega), prs_at l j h]
  rfl
theorem prs_pre (l : List DFlyStep) (j : Nat) (h : j + 1 < l.length) : (prs l).take j ++ [(l[j], l[j + 1])] <+: prs l := by
  rw [← prs_take l j h]
  exact List.take_prefix _ _
theorem grown_of_below {W W' : World} (h : Below W.heap.size W W') : W.grownBy W' none := ⟨h.os, h.tape, h.output, h.size, fun k hk _ => h.block k hk⟩
theorem mixedF : Try.prog.follows .mixedOrders = true := by kernel_rfl

set_option maxRecDepth 100000 in
set_option maxHeartbeats 4000000 in
theorem two_seq (m Bb : Nat) (ok : Nat → Prop) (ao : Option Addr) (cap : Nat) (l : List DFlyStep) (w : World) (hm : 1 ≤ m) (hok0 : ∀ b, ok b → b < w.heap.size) (hBb : ok Bb) (zb0 : w.cell? ⟨Bb, 0, none⟩ = some (.slice ao l.length cap)) (hS : SliceAt vFlyStep ok w ao cap l) :
    SeqK Fence.wide m Try.prog 96 #[.pointer (some ⟨Bb, 0, none⟩)] prE (KpX ok) (prs l) w := by
  intro lp J Jx W hW hJ hJx hY h0
  have hcl := hS.1
  have hcm : cap ≤ 9223372036854775807 := hS.2.1
  have zb1 := (hW.cell (p := ⟨Bb, 0, none⟩) (hok0 _ hBb)).trans zb0
  have hS1 : SliceAt vFlyStep ok W ao cap l := hS.stays (fun b hb => hW.block b (hok0 b hb))
  have hokW : ∀ b, ok b → b < W.heap.size := fun b hb => Nat.lt_of_lt_of_le (hok0 b hb) hW.size
  clear zb0 hS hW hok0
  refine callsIn_of_wp Try.func96 rfl trivial ?_ rfl
  simp only [Try.ntmps96, List.size_toArray, List.length_cons, List.length_nil, Nat.reduceAdd, Nat.reduceSub, Array.replicate_succ, Array.replicate_zero, List.push_toArray, List.append_toArray, List.nil_append, List.cons_append]
  gi_wp2
  gi_loopw [3] (fun i wr => ∃ j : Nat, j ≤ l.length - 1 ∧ i = .int .i64 ((j : Int) + 1) ∧ Hid (J ((prs l).take j) wr) ∧ KpX ok W wr) (fun i _ => l.length + 1 - (intOf i).toNat)
  case atStart => exact ⟨0, Nat.zero_le _, rfl, (show J _ _ by simpa using h0), KpX.refl _ _⟩
  case round =>
    obtain ⟨j, hj, rfl, HJ, hB⟩ := hrel
    have hsz := hB.size
    have zb := (hB.cell (p := ⟨Bb, 0, none⟩) hBb).trans zb1
    by_cases hlt : j + 1 < l.length
    · have hlt0 : j < l.length := by omega
      obtain ⟨g, off, rfl, hok, c0, c1, c2, c3, c4, c5, c6, _⟩ := elem_FlyStep hS1 hlt0
      obtain ⟨g', off', hbo, _, d0, d1, d2, d3, d4, d5, d6, _⟩ := elem_FlyStep hS1 hlt
      cases hbo
      have hgW : ok g := hok
      have hbW : ok Bb := hBb
      have p0 := (hB.cell (p := ⟨g, off + j * 7, none⟩) hgW).trans c0
      have p1 := (hB.cell (p := ⟨g, off + j * 7 + 1, none⟩) hgW).trans c1
      have p2 := (hB.cell (p := ⟨g, off + j * 7 + 2, none⟩) hgW).trans c2
      have p3 := (hB.cell (p := ⟨g, off + j * 7 + 3, none⟩) hgW).trans c3
      have p4 := (hB.cell (p := ⟨g, off + j * 7 + 4, none⟩) hgW).trans c4
      have p5 := (hB.cell (p := ⟨g, off + j * 7 + 5, none⟩) hgW).trans c5
      have p6 := (hB.cell (p := ⟨g, off + j * 7 + 6, none⟩) hgW).trans c6
      have r0 := (hB.cell (p := ⟨g, off + (j + 1) * 7, none⟩) hgW).trans d0
      have r1 := (hB.cell (p := ⟨g, off + (j + 1) * 7 + 1, none⟩) hgW).trans d1
      have r2 := (hB.cell (p := ⟨g, off + (j + 1) * 7 + 2, none⟩) hgW).trans d2
      have r3 := (hB.cell (p := ⟨g, off + (j + 1) * 7 + 3, none⟩) hgW).trans d3
      have r4 := (hB.cell (p := ⟨g, off + (j + 1) * 7 + 4, none⟩) hgW).trans d4
      have r5 := (hB.cell (p := ⟨g, off + (j + 1) * 7 + 5, none⟩) hgW).trans d5
      have r6 := (hB.cell (p := ⟨g, off + (j + 1) * 7 + 6, none⟩) hgW).trans d6
      have hpre := prs_pre l j hlt
      have HTK : Hid ((prs l).take (j + 1) = (prs l).take j ++ [(l[j], l[j + 1])]) := prs_take l j hlt
      have hltI : (j : Int) + 1 < (l.length : Int) := by omega
      have hltI0 : (j : Int) < (l.length : Int) := by omega
      have hjW : IntKind.i64.wrap ((j : Int) + 1 - 1) = (j : Int) := by rw [IntKind.wrap_i64] <;> omega
      have hjW' : IntKind.i64.wrap (j : Int) = (j : Int) := by rw [IntKind.wrap_i64] <;> omega
      have hjnn : ¬ ((j : Int) + 1 < 0) := by omega
      have hjN : ((j : Int) + 1).toNat = j + 1 := by omega
      generalize l[j]'hlt0 = s at *
      generalize l[j + 1]'hlt = s' at *
      clear c0 c1 c2 c3 c4 c5 c6 d0 d1 d2 d3 d4 d5 d6 hok
      generalize hP : (prs l).take j = pre at *
      have HPT : Hid ((prs l).take (j + 1) = pre ++ [(s, s')]) := HTK
      clear hP HTK
      have HXS : Hid (pre ++ [(s, s')] <+: prs l) := hpre
      clear hpre
      have HY := fun W1 (h1 : J pre W1) => hY pre (s, s') W1 h1 HXS.out
      obtain ⟨x, y, lo, hi, fr, up, hd⟩ := s
      obtain ⟨x', y', lo', hi', fr', up', hd'⟩ := s'
      simp only at p0 p1 p2 p3 p4 p5 p6 r0 r1 r2 r3 r4 r5 r6
      dsimp only [prE, vSt, cSt] at HY
      gi_wp2_with fail
      have HC : KpX ok wr wr.drew := KpX.of_below ((Below.refl wr.heap.size wr).drew) (fun b hb => Nat.lt_of_lt_of_le (hokW b hb) hsz)
      have HJ1 : Hid (J pre wr.drew) := hJ _ wr _ none HJ.out (grown_of_below (Below.refl _ _).drew) (fun r h => by cases h)
      have hbd : KpX ok W wr.drew := hB.trans HC
      have HBW : Hid (∀ W', KpX ok wr.drew W' → KpX ok W W') := fun W' h => hbd.trans h
      clear HJ hB hbd hS1 hY
      refine wpIn_region_FC (fun W' => KpX ok wr W') mixedF ?_
      generalize hwd : wr.drew = wd at *
      refine FC.take (i := 0) (v := .func (.yield lp) #[] #[]) rfl rfl (by kernel_rfl) (by kernel_rfl) (by kernel_rfl) (fun _ _ _ h => h) HC (by kernel_rfl) (fun _ => rfl) ?y0 ?_
      case y0 => (intro W' hW'; clear HC HJ1 HBW HY; go_simp; try with_reducible rfl)
      refine FC.take (i := 1) (v := .slice (some ⟨g, off, none⟩) l.length cap) rfl rfl (by kernel_rfl) (by kernel_rfl) (by kernel_rfl) (fun _ _ _ h => h) HC (by kernel_rfl) (fun _ => rfl) ?y1 ?_
      case y1 => (intro W' hW'; clear HC HJ1 HBW HY; have qb := (hW'.cell (p := ⟨Bb, 0, none⟩) hbW).trans zb; go_simp; try with_reducible rfl)
      refine FC.take (i := 2) (v := .int .i64 ((j : Int) + 1)) rfl rfl (by kernel_rfl) (by kernel_rfl) (by kernel_rfl) (fun _ _ _ h => h) HC (by kernel_rfl) (fun _ => rfl) ?y2 ?_
      case y2 => (intro W' hW'; clear HC HJ1 HBW HY; go_simp; try with_reducible rfl)
      refine FC.take (i := 3) (v := .int .i64 (j : Int)) rfl rfl (by kernel_rfl) (by kernel_rfl) (by kernel_rfl) (fun _ _ _ h => h) HC (by kernel_rfl) (fun _ => rfl) ?y3 ?_
      case y3 => (intro W' hW'; clear HC HJ1 HBW HY; go_simp; try with_reducible rfl)
      refine FC.take (i := 4) (v := .pointer (some ⟨g, off + j * 7, none⟩)) rfl rfl (by kernel_rfl) (by kernel_rfl) (by kernel_rfl) (fun _ _ _ h => h) HC (by kernel_rfl) (fun _ => rfl) ?y4 ?_
      case y4 => (intro W' hW'; clear HC HJ1 HBW HY; go_simp; try with_reducible rfl)
      refine FC.take (i := 5) (v := .agg #[.int .i64 x, .int .i64 y, .int .i64 lo, .int .i64 hi, .int .i64 fr, .int .i64 up, .bool hd]) rfl rfl (by kernel_rfl) (by kernel_rfl) (by kernel_rfl) (fun _ _ _ h => h) HC (by kernel_rfl) (fun _ => rfl) ?y5 ?_
      case y5 => (intro W' hW'; clear HC HJ1 HBW HY; have q0 := (hW'.cell (p := ⟨g, off + j * 7, none⟩) hgW).trans p0; have q1 := (hW'.cell (p := ⟨g, off + j * 7 + 1, none⟩) hgW).trans p1; have q2 := (hW'.cell (p := ⟨g, off + j * 7 + 2, none⟩) hgW).trans p2; have q3 := (hW'.cell (p := ⟨g, off + j * 7 + 3, none⟩) hgW).trans p3; have q4 := (hW'.cell (p := ⟨g, off + j * 7 + 4, none⟩) hgW).trans p4; have q5 := (hW'.cell (p := ⟨g, off + j * 7 + 5, none⟩) hgW).trans p5; have q6 := (hW'.cell (p := ⟨g, off + j * 7 + 6, none⟩) hgW).trans p6; go_simp; try with_reducible rfl)
      refine FC.take (i := 6) (v := .slice (some ⟨g, off, none⟩) l.length cap) rfl rfl (by kernel_rfl) (by kernel_rfl) (by kernel_rfl) (fun _ _ _ h => h) HC (by kernel_rfl) (fun _ => rfl) ?y6 ?_
      case y6 => (intro W' hW'; clear HC HJ1 HBW HY; have qb := (hW'.cell (p := ⟨Bb, 0, none⟩) hbW).trans zb; go_simp; try with_reducible rfl)
      refine FC.take (i := 7) (v := .int .i64 ((j : Int) + 1)) rfl rfl (by kernel_rfl) (by kernel_rfl) (by kernel_rfl) (fun _ _ _ h => h) HC (by kernel_rfl) (fun _ => rfl) ?y7 ?_
      case y7 => (intro W' hW'; clear HC HJ1 HBW HY; go_simp; try with_reducible rfl)
      refine FC.take (i := 8) (v := .pointer (some ⟨g, off + (j + 1) * 7, none⟩)) rfl rfl (by kernel_rfl) (by kernel_rfl) (by kernel_rfl) (fun _ _ _ h => h) HC (by kernel_rfl) (fun _ => rfl) ?y8 ?_
      case y8 => (intro W' hW'; clear HC HJ1 HBW HY; go_simp; try with_reducible rfl)
      refine FC.take (i := 9) (v := .agg #[.int .i64 x', .int .i64 y', .int .i64 lo', .int .i64 hi', .int .i64 fr', .int .i64 up', .bool hd']) rfl rfl (by kernel_rfl) (by kernel_rfl) (by kernel_rfl) (fun _ _ _ h => h) HC (by kernel_rfl) (fun _ => rfl) ?y9 ?_
      case y9 => (intro W' hW'; clear HC HJ1 HBW HY; have q0 := (hW'.cell (p := ⟨g, off + (j + 1) * 7, none⟩) hgW).trans r0; have q1 := (hW'.cell (p := ⟨g, off + (j + 1) * 7 + 1, none⟩) hgW).trans r1; have q2 := (hW'.cell (p := ⟨g, off + (j + 1) * 7 + 2, none⟩) hgW).trans r2; have q3 := (hW'.cell (p := ⟨g, off + (j + 1) * 7 + 3, none⟩) hgW).trans r3; have q4 := (hW'.cell (p := ⟨g, off + (j + 1) * 7 + 4, none⟩) hgW).trans r4; have q5 := (hW'.cell (p := ⟨g, off + (j + 1) * 7 + 5, none⟩) hgW).trans r5; have q6 := (hW'.cell (p := ⟨g, off + (j + 1) * 7 + 6, none⟩) hgW).trans r6; go_simp; try with_reducible rfl)
      refine FC.one (i := 10) (by kernel_rfl) rfl (by kernel_rfl) (fun K hK => ?_)
      obtain ⟨fn, tmps, assign, body, hy, hR⟩ := HY wd HJ1.out
      go_simp
      refine hR.mono ?_
      rintro e W3 ⟨hk3, (⟨rfl, hJ3⟩ | ⟨rfl, hJx3⟩)⟩
      · have HC3 : KpX ok wr W3 := HC.trans hk3
        have hB3 := HBW.out W3 hk3
        have HJ3 : Hid (J ((prs l).take (j + 1)) W3) := by show J _ _; rw [HPT.out]; exact hJ3
        simp only
        refine hK _ _ HC3 ?_
        clear hK K hR hy hJ3 HY HJ1 HBW HPT
        refine FC.one (i := 11) (by kernel_rfl) rfl (by kernel_rfl) (fun K hK => ?_)
        go_simp
        refine hK _ _ HC3 ?_
        clear hK K
        refine FC.done (by kernel_rfl) ?_
        clear HC HC3 hwd p0 p1 p2 p3 p4 p5 p6 r0 r1 r2 r3 r4 r5 r6
        gi_wp2
        go_roundw
        case rel => exact ⟨j + 1, by omega, by go_num, HJ3, hB3⟩
        case measure => simp [intOf]; omega
      · have HC3 : KpX ok wr W3 := HC.trans hk3
        have HJ3 : Hid (Jx (pre ++ [((x, y, lo, hi, fr, up, hd), (x', y', lo', hi', fr', up', hd'))]) W3) := hJx3
        simp only
        refine hK _ _ HC3 ?_
        clear hK K hR hy hJx3 HY HJ1 HBW HPT
        refine FC.one (i := 11) (by kernel_rfl) rfl (by kernel_rfl) (fun K hK => ?_)
        go_simp
        refine hK _ _ HC3 ?_
        clear hK K
        refine FC.done (by kernel_rfl) ?_
        clear HC HC3 hwd p0 p1 p2 p3 p4 p5 p6 r0 r1 r2 r3 r4 r5 r6
        gi_wp2
        refine bodyPost_ret (results_none rfl _ _ _) rfl ?_
        exact ⟨⟨_, rfl⟩, .inr ⟨_, HXS.out, HJ3.out⟩⟩
    · have hltI : ¬ (j : Int) + 1 < (l.length : Int) := by omega
      have HE : Hid (J (prs l) wr) := by
        have h := HJ.out
        rwa [List.take_of_length_le (by rw [prs_len]; omega)] at h
      clear HJ hS1 hY
      gi_wp2
      go_end0
      exact ⟨⟨_, rfl⟩, .inl HE.out⟩

end Fly
end Go.Proofs.Ytpjacfnjjkoikaa
