/- DERIVED. impl.flyForward, slices.Reverse at int, impl.flyBack: their walks (written by wip/tools/mk_wk2.py). -/
import Derived.Test.YtpjacfnjjkoikaaKRD0
import Derived.Test.YtpjacfnjjkoikaaKApp0
import Derived.Test.YtpjacfnjjkoikaaKRIntD
import Derived.Test.YtpjacfnjjkoikaaKTsS2
import Derived.Test.YtpjacfnjjkoikaaKBl2
import Derived.Maps.AppendAt
namespace Go.Proofs.Ytpjacfnjjkoikaa
namespace Fly
open Go.RowKit
set_option linter.unusedSimpArgs false
set_option linter.unusedVariables false


def spI (T : Nat → Int) (m : Nat) : List Value := (List.range m).map fun k => .int .i64 (T k)
theorem spI_len (T : Nat → Int) (m : Nat) : (spI T m).length = m := by simp [spI]
theorem spI_get (T : Nat → Int) (m k : Nat) (h : k < m) : (spI T m)[k]? = some (.int .i64 (T k)) := by simp [spI, h]
theorem spI_snoc (T : Nat → Int) (m : Nat) : spI T m ++ [.int .i64 (T m)] = spI T (m + 1) := by simp [spI, List.range_succ]
theorem spI_same (T T' : Nat → Int) (m : Nat) (h : ∀ k, k < m → T k = T' k) : spI T m = spI T' m := by
  unfold spI
  exact List.map_congr_left fun k hk => by rw [h k (List.mem_range.1 hk)]
theorem spI_set2 (T T' : Nat → Int) (m i j : Nat) (hi : i < m) (hj : j < m) (h : ∀ k, k < m → T' k = if k = j then T' j else if k = i then T' i else T k) :
    ((spI T m).set i (.int .i64 (T' i))).set j (.int .i64 (T' j)) = spI T' m := by
  apply List.ext_getElem?
  intro k
  by_cases hk : k < m
  · rw [spI_get T' m k hk, List.getElem?_set, List.getElem?_set, h k hk]
    by_cases e1 : j = k
    · subst e1
      simp [hj, spI_len]
    · rw [if_neg e1, if_neg (show ¬ k = j from fun e => e1 e.symm)]
      by_cases e2 : i = k
      · subst e2
        simp [hi, spI_len, show ¬ i = j from fun e => e1 e.symm]
      · rw [if_neg e2, if_neg (show ¬ k = i from fun e => e2 e.symm), spI_get T m k hk]
  · rw [List.getElem?_eq_none (by rw [List.length_set, List.length_set, spI_len]; omega), List.getElem?_eq_none (by rw [spI_len]; omega)]
/-- What is turned round behind i rounds. -/
def revS (T : Nat → Int) (m i k : Nat) : Int := if k < i ∨ m ≤ k + i then T (m - 1 - k) else T k
theorem infoI1 : (Try.prog.info? 3).map (fun i => (i.zero, i.size, i.bytes)) = some (some (.int .i64 0), 1, 8) := by kernel_rfl

set_option maxRecDepth 100000 in
set_option maxHeartbeats 4000000 in
theorem iFwd (m : Nat) (w : World) (hm : m ≤ 1000) :
    Calls Try.prog 44 #[.int .i64 (m : Int)] w fun e w' => ∃ bo bc, e = .returned (.slice bo m bc) ∧ w'.ownsRow w.heap.size 3 1 (.slice bo m bc) m (spI (fun k => (k : Int)) m) ∧ Below w.heap.size w w' := by
  obtain ⟨i0, hi, hz0, hz1, hz2⟩ := info_parts infoI1
  go_enter Try.func44, Try.ntmps44
  go_wp2
  go_loopw [3, 6] (fun v i wr => ∃ (k : Nat) (bo : Option Addr) (bc : Nat), k ≤ m ∧ i = .int .i64 k ∧ v = .slice bo k bc ∧ wr.ownsRow w.heap.size 3 1 (.slice bo k bc) k (spI (fun k => (k : Int)) k) ∧ Below w.heap.size w wr) (fun _ i _ => m - (intOf i).toNat)
  case atStart => exact ⟨0, none, 0, Nat.zero_le _, rfl, rfl, World.ownsRow_nil _ _ _ _, Below.refl _ _⟩
  case round =>
    obtain ⟨k, bo, bc, hk, rfl, rfl, hO, hB⟩ := hrel
    by_cases hlt : k < m
    · have hkI : (k : Int) < (m : Int) := by omega
      have hbs := hB.size
      have HSN := hid (spI_snoc (fun k => (k : Int)) k)
      have hB_ := hid hB
      clear hB
      go_wp2_with (at_builtin; refine wpList_append_own_at _ rfl _ _ 41 rfl w.heap.size 3 i0 (.int .i64 0) 1 8 Try.underlying41 hi hz0 hz1 hz2 rfl (by decide) _ _ _ rfl (hO.alloc _) ⟨wr.heap.size, 0, none⟩ 1 1 [.int .i64 (k : Int)] rfl rfl (newRow _ _ _) (ones rfl) (by unfold maxLen; omega) (by omega) (by simp; omega) ?_)
      intro v' w5 hown hgrow _ hpos
      obtain ⟨g5, c5, rfl⟩ := owns_pos hown
      have hb5 := hid ((hB_.out.alloc hbs _).grown hgrow (by simp; omega) (fun j hj => own_ge hO j hj))
      have HO5 := hid (HSN.out ▸ hown)
      clear hown hgrow hO HSN
      go_wp2
      go_roundw
      case rel => exact ⟨k + 1, _, _, by omega, by go_num, rfl, HO5.out, hb5.out⟩
      case measure => simp [intOf]; omega
    · have hke : k = m := by omega
      subst hke
      have HO := hid hO
      have HB := hid hB
      clear hO hB
      go_wp2
      go_ret
      exact ⟨bo, bc, rfl, HO.out, HB.out⟩

set_option maxRecDepth 100000 in
set_option maxHeartbeats 8000000 in
theorem iReverse (T : Nat → Int) (g m c B : Nat) (w : World) (hm : 1 ≤ m) (hm2 : m ≤ 1000) (hB0 : B ≤ w.heap.size)
    (hown : w.ownsRow B 3 1 (.slice (some ⟨g, 0, none⟩) m c) m (spI T m)) :
    Calls Try.prog 84 #[.slice (some ⟨g, 0, none⟩) m c] w fun e w' => e = .returned (.tuple #[]) ∧ w'.ownsRow B 3 1 (.slice (some ⟨g, 0, none⟩) m c) m (spI (fun k => T (m - 1 - k)) m) ∧ Bel2 B g w w' := by
  have hcc := own_caps hown
  have hgB : B ≤ g := (hown.lt g rfl).1
  have hR0 : spI T m = spI (revS T m 0) m := spI_same _ _ _ fun k hk => by unfold revS; rw [if_neg (by omega)]
  rw [hR0] at hown
  go_enter Try.func84, Try.ntmps84
  go_wp2
  go_loopw [2, 3] (fun a b wr => ∃ (i j : Nat), i + j + 1 = m ∧ a = .int .i64 i ∧ b = .int .i64 j ∧ wr.ownsRow B 3 1 (.slice (some ⟨g, 0, none⟩) m c) m (spI (revS T m i) m) ∧ Bel2 B g w wr) (fun _ b _ => (intOf b).toNat)
  case atStart => exact ⟨0, m - 1, by omega, rfl, by congr 1; omega, hown, Bel2.refl _ _ _⟩
  case round =>
    clear hown hR0
    obtain ⟨i, j, hij, rfl, rfl, hO, hB⟩ := hrel
    by_cases hlt : i < j
    · have hI : (i : Int) < (j : Int) := by omega
      have him : (i : Int) < (m : Int) := by omega
      have hjm : (j : Int) < (m : Int) := by omega
      have HV := hid (spI_set2 (revS T m i) (revS T m (i + 1)) m i j (by omega) (by omega) (fun k hk => by
        by_cases e1 : k = j
        · subst e1; rw [if_pos rfl]
        · rw [if_neg e1]
          by_cases e2 : k = i
          · subst e2; rw [if_pos rfl]
          · rw [if_neg e2]
            unfold revS
            by_cases h1 : k < i ∨ m ≤ k + i
            · rw [if_pos h1, if_pos (by omega)]
            · rw [if_neg h1, if_neg (by omega)]))
      have e1 : revS T m (i + 1) i = revS T m i j := by
        unfold revS
        rw [if_pos (by omega), if_neg (by omega)]
        congr 1; omega
      have e2 : revS T m (i + 1) j = revS T m i i := by
        unfold revS
        rw [if_pos (by omega), if_neg (by omega)]
        congr 1; omega
      rw [e1, e2] at HV
      have g0 := (hO.cellAt i (by omega)).trans (spI_get _ m i (by omega))
      have g1 := (hO.cellAt j (by omega)).trans (spI_get _ m j (by omega))
      obtain ⟨V1, hV1e⟩ : ∃ V1, spI (revS T m (i + 1)) m = V1 := ⟨_, rfl⟩
      rw [hV1e] at HV
      have hV1 := hid hV1e
      clear hV1e e1 e2
      generalize revS T m i i = a at *
      generalize revS T m i j = b at *
      generalize spI (revS T m i) m = V0 at *
      have HIJ := hid hij
      have hO_ := hid hO
      have hB_ := hid hB
      clear hij hO hB
      go_wp2_with fail
      have HC : CL [(⟨g, i, none⟩, .int .i64 a), (⟨g, j, none⟩, .int .i64 b)] wr.drew := ⟨g0, g1, trivial⟩
      have hlt2 : g < wr.heap.size := (hO_.out.lt g rfl).2
      have hlc : CLlt wr.drew.heap.size [(⟨g, i, none⟩, .int .i64 a), (⟨g, j, none⟩, .int .i64 b)] := ⟨hlt2, hlt2, trivial⟩
      have hO := hO_.out.drew
      have hB := hB_.out.then (Below.refl wr.heap.size wr).drew hB0
      refine wp_region_RD (CL [(⟨g, i, none⟩, .int .i64 a), (⟨g, j, none⟩, .int .i64 b)]) [13, 15] mixedT ?_
      generalize wr.drew = wd at *
      clear hO_ hB_ g0 g1 hlt2 hlc
      refine RD.pure (i := 0) (v := .slice (some ⟨g, 0, none⟩) m c) rfl (by kernel_rfl) (by kernel_rfl) (by kernel_rfl) (by decide) (fun _ _ _ h => h) (fun _ => HC) (by kernel_rfl) ?y1 ?r1
      case y1 => (intro W; clear HC hO hB HV hV1; go_simp)
      refine RD.pure (i := 1) (v := .int .i64 (i : Int)) rfl (by kernel_rfl) (by kernel_rfl) (by kernel_rfl) (by decide) (fun _ _ _ h => h) (fun _ => HC) (by kernel_rfl) ?y2 ?r2
      case y2 => (intro W; clear HC hO hB HV hV1; go_simp)
      refine RD.pure (i := 2) (v := .slice (some ⟨g, 0, none⟩) m c) rfl (by kernel_rfl) (by kernel_rfl) (by kernel_rfl) (by decide) (fun _ _ _ h => h) (fun _ => HC) (by kernel_rfl) ?y3 ?r3
      case y3 => (intro W; clear HC hO hB HV hV1; go_simp)
      refine RD.pure (i := 3) (v := .int .i64 (j : Int)) rfl (by kernel_rfl) (by kernel_rfl) (by kernel_rfl) (by decide) (fun _ _ _ h => h) (fun _ => HC) (by kernel_rfl) ?y4 ?r4
      case y4 => (intro W; clear HC hO hB HV hV1; go_simp)
      refine RD.pure (i := 4) (v := .slice (some ⟨g, 0, none⟩) m c) rfl (by kernel_rfl) (by kernel_rfl) (by kernel_rfl) (by decide) (fun _ _ _ h => h) (fun _ => HC) (by kernel_rfl) ?y5 ?r5
      case y5 => (intro W; clear HC hO hB HV hV1; go_simp)
      refine RD.pure (i := 5) (v := .int .i64 (j : Int)) rfl (by kernel_rfl) (by kernel_rfl) (by kernel_rfl) (by decide) (fun _ _ _ h => h) (fun _ => HC) (by kernel_rfl) ?y6 ?r6
      case y6 => (intro W; clear HC hO hB HV hV1; go_simp)
      refine RD.pure (i := 6) (v := .pointer (some ⟨g, j, none⟩)) rfl (by kernel_rfl) (by kernel_rfl) (by kernel_rfl) (by decide) (fun _ _ _ h => h) (fun _ => HC) (by kernel_rfl) ?y7 ?r7
      case y7 => (intro W; clear HC hO hB HV hV1; go_simp)
      refine RD.take (i := 7) (v := .int .i64 b) rfl (by kernel_rfl) (by kernel_rfl) (by kernel_rfl) (by kernel_rfl) (fun _ _ _ h => h) HC (by kernel_rfl) ?y8 ?r8
      case y8 => (intro W hW; obtain ⟨u0, u1, _⟩ := hW; clear HC hO hB HV hV1; go_simp)
      refine RD.pure (i := 8) (v := .slice (some ⟨g, 0, none⟩) m c) rfl (by kernel_rfl) (by kernel_rfl) (by kernel_rfl) (by decide) (fun _ _ _ h => h) (fun _ => HC) (by kernel_rfl) ?y9 ?r9
      case y9 => (intro W; clear HC hO hB HV hV1; go_simp)
      refine RD.pure (i := 9) (v := .int .i64 (i : Int)) rfl (by kernel_rfl) (by kernel_rfl) (by kernel_rfl) (by decide) (fun _ _ _ h => h) (fun _ => HC) (by kernel_rfl) ?y10 ?r10
      case y10 => (intro W; clear HC hO hB HV hV1; go_simp)
      refine RD.pure (i := 10) (v := .pointer (some ⟨g, i, none⟩)) rfl (by kernel_rfl) (by kernel_rfl) (by kernel_rfl) (by decide) (fun _ _ _ h => h) (fun _ => HC) (by kernel_rfl) ?y11 ?r11
      case y11 => (intro W; clear HC hO hB HV hV1; go_simp)
      refine RD.take (i := 11) (v := .int .i64 a) rfl (by kernel_rfl) (by kernel_rfl) (by kernel_rfl) (by kernel_rfl) (fun _ _ _ h => h) HC (by kernel_rfl) ?y12 ?r12
      case y12 => (intro W hW; obtain ⟨u0, u1, _⟩ := hW; clear HC hO hB HV hV1; go_simp)
      refine RD.pure (i := 12) (v := .pointer (some ⟨g, i, none⟩)) rfl (by kernel_rfl) (by kernel_rfl) (by kernel_rfl) (by decide) (fun _ _ _ h => h) (fun _ => HC) (by kernel_rfl) ?y13 ?r13
      case y13 => (intro W; clear HC hO hB HV hV1; go_simp)
      refine RD.want (i := 13) (by kernel_rfl) rfl (by kernel_rfl) (fun K hK => ?_)
      have d0 := HC.1
      have f0 := hO.frozenAt i
      go_simp
      have hE := (hO.stored i (.int .i64 b)).1
      have hEB := hB.setCell (p := ⟨g, i, none⟩) hgB (.int .i64 b)
      have hd : (wd.setCell ⟨g, i, none⟩ (.int .i64 b)).cell? ⟨g, j, none⟩ = some (.int .i64 a) ∨ True := .inr trivial
      refine hK _ _ (not_clean (by kernel_rfl)) ?_
      clear hK K d0 f0 hd hO hB
      obtain ⟨v1, d1⟩ : ∃ v, (wd.setCell ⟨g, i, none⟩ (.int .i64 b)).cell? ⟨g, j, none⟩ = some v := ⟨_, by rw [hE.cellAt j (by omega)]; exact List.getElem?_eq_getElem (by rw [hE.1]; omega)⟩
      have f1 := hE.frozenAt j
      generalize wd.setCell ⟨g, i, none⟩ (.int .i64 b) = ws at *
      refine RD.pure (i := 14) (v := .pointer (some ⟨g, j, none⟩)) rfl (by kernel_rfl) (by kernel_rfl) (by kernel_rfl) (by decide) (fun _ _ _ h => h) (not_clean (by kernel_rfl)) (by kernel_rfl) ?y14 ?r14
      case y14 => (intro W; go_simp)
      refine RD.want (i := 15) (by kernel_rfl) rfl (by kernel_rfl) (fun K hK => ?_)
      go_simp
      have hE2 := (hE.stored j (.int .i64 a)).1
      rw [HV.out] at hE2
      have hEB2 := hEB.setCell (p := ⟨g, j, none⟩) hgB (.int .i64 a)
      have HE := hid hE2
      have HEB := hid hEB2
      clear hE2 hEB2 hE hEB
      refine hK _ _ (not_clean (by kernel_rfl)) ?_
      clear hK K d1 f1
      refine RD.done (by kernel_rfl) ?_
      try go_simp
      have HJ : Hid (i + 1 + (j - 1) + 1 = m) := by have := HIJ.out; show _ = _; omega
      have hj1 : (j : Int) - 1 = ((j - 1 : Nat) : Int) := by omega
      clear HC
      go_wp2
      go_roundw
      case rel => exact ⟨i + 1, j - 1, HJ.out, by go_num, by congr 1, by rw [hV1.out]; exact HE.out, HEB.out⟩
      case measure => simp [intOf]; omega
    · have hke : ¬ (i : Int) < (j : Int) := by omega
      have HE := hid (spI_same (revS T m i) (fun k => T (m - 1 - k)) m (fun k hk => by
        unfold revS
        by_cases h1 : k < i ∨ m ≤ k + i
        · rw [if_pos h1]
        · rw [if_neg h1]
          congr 1; omega))
      have HO := hid hO
      have HB := hid hB
      clear hO hB hij
      go_wp2
      go_end0
      exact ⟨rfl, by rw [← HE.out]; exact HO.out, HB.out⟩

end Fly
end Go.Proofs.Ytpjacfnjjkoikaa
