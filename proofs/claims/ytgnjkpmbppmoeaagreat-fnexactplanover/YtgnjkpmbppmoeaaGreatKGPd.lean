/- DERIVED. Paths of plans on plain data. -/
import Derived.Test.YtgnjkpmbppmoeaaGreatKDfL
import Derived.Test.YtgnjkpmbppmoeaaGreatKGPq
import Derived.Test.YtgnjkpmbppmoeaaGreatKGRi
import Derived.Test.YtgnjkpmbppmoeaaGreatKRPlanStep
import Derived.Test.YtgnjkpmbppmoeaaGreatKGFd
import Derived.Test.YtgnjkpmbppmoeaaGreatKGPs
namespace Go.Proofs.YtgnjkpmbppmoeaaGreat
namespace Pth
open Go.RowKit Leg Pcl Go.Proofs.YtgnjkpmbppmoeaaGreat.Std Lev
set_option linter.unusedSimpArgs false
set_option linter.unusedVariables false

def mn (a b : Int) : Int := if a < b then a else b
def mx (a b : Int) : Int := if a < b then b else a
theorem mn_same (a : Int) : mn a a = a := by unfold mn; split <;> rfl
theorem mx_same (a : Int) : mx a a = a := by unfold mx; split <;> rfl
/-- The level ahead of the k-th step's. -/
def lvB (n : Nat) (lev : Int) (k : Nat) : Int := lvAt (n : Int) lev (k - 1)
theorem lvB_zero (n : Nat) (lev : Int) : lvB n lev 0 = lvAt (n : Int) lev 0 := rfl
theorem lvB_next (n : Nat) (lev : Int) (k : Nat) : lvB n lev (k + 1) = lvAt (n : Int) lev k := rfl
/-- The k-th step. -/
def stepAt (fr up q s lev : Int) (cs : List DCell) (k : Nat) : RPlanStep :=
  ((cs.getD k (0, 0)).1, (cs.getD k (0, 0)).2, mn (lvB cs.length lev k) (lvAt (cs.length : Int) lev k), mx (lvB cs.length lev k) (lvAt (cs.length : Int) lev k), fr + (k : Int) * q, up + (k : Int) * s)
def stepsL (fr up q s lev : Int) (cs : List DCell) (k : Nat) : List RPlanStep := (List.range k).map (stepAt fr up q s lev cs)
theorem stepsL_len (fr up q s lev : Int) (cs : List DCell) (k : Nat) : (stepsL fr up q s lev cs k).length = k := by simp [stepsL]
theorem stepsL_succ (fr up q s lev : Int) (cs : List DCell) (k : Nat) : stepsL fr up q s lev cs (k + 1) = stepsL fr up q s lev cs k ++ [stepAt fr up q s lev cs k] := by simp [stepsL, List.range_succ]

/-- What a flight that stands has. -/
structure Fine (f : DFlight) : Prop where
  t0 : 0 ≤ f.2.2.1
  t1 : f.2.2.1 ≤ f.2.2.2.1
  t2 : f.2.2.2.1 ≤ 10000
  q0 : 1 ≤ f.2.1.2.1
  q1 : f.2.1.2.1 ≤ f.2.1.2.2
  q2 : f.2.1.2.2 ≤ 50
  l0 : 1 ≤ f.2.2.2.2.1
  l1 : f.2.2.2.2.1 ≤ 6
  r : f.2.2.2.2.2.length ≤ 8

theorem findD_some {α : Type} {nm : α → ByteArray} {z : α} {v : ByteArray} : ∀ {l : List α}, HasNm nm l v → ∃ i, ∃ h : i < l.length, findD nm z l v = l[i]'h
  | [], ⟨i, hi, _⟩ => by simp at hi
  | x :: l, h => by
    by_cases e : nm x = v
    · refine ⟨0, by simp, ?_⟩
      show (if pb (nm x = v) then x else findD nm z l v) = _
      rw [pb_yes e]
      rfl
    · obtain ⟨i, hi, h1⟩ := h
      have hi0 : 0 < i := by
        rcases Nat.eq_zero_or_pos i with h0 | h0
        · subst h0; exact absurd h1 e
        · exact h0
      obtain ⟨j, hj, h2⟩ := findD_some (nm := nm) (z := z) (v := v) (l := l) ⟨i - 1, by simp at hi; omega, by
        have : (x :: l)[i]'hi = l[i - 1]'(by simp at hi; omega) := by
          obtain ⟨m, rfl⟩ : ∃ m, i = m + 1 := ⟨i - 1, by omega⟩
          rfl
        rw [← this]; exact h1⟩
      refine ⟨j + 1, by simpa using hj, ?_⟩
      show (if pb (nm x = v) then x else findD nm z l v) = _
      rw [pb_no e]
      exact h2

theorem stdE_fine {x : DPlanBase} {n : ByteArray} {fs : List DPlanField} (h : FldTo x n fs fs.length) (h2 : (stdE x n fs).2 = true) : Fine (stdE x n fs).1 := by
  have hl := stdE_len h
  unfold stdE at h2 hl ⊢
  by_cases hs : AllSaid fs ∧ ¬ valP fs 5 = closB
  · rw [if_pos (pb_yes hs)] at h2 hl ⊢
    have f1 := val_fits h (hs.1 1 (by decide) (by decide))
    have g1 := (fits1 x (valP fs 1)).1 f1.2
    have g2 := (fits2 x (valP fs 2)).1 (val_fits h (hs.1 2 (by decide) (by decide))).2
    have g3 := (fits3 x (valP fs 3)).1 (val_fits h (hs.1 3 (by decide) (by decide))).2
    obtain ⟨i, hi, e1⟩ := findD_some (z := zK) g1
    have k1 := (f1.1.2.1 i hi hi).1
    obtain ⟨a, b, e2, d1, d2, t1, t2⟩ := g2
    have z1 : decZ a = decN a := (decZ_yes d1).out.2
    have z2 : decZ b = decN b := (decZ_yes d2).out.2
    have z3 : decZ (valP fs 3) = decN (valP fs 3) := (decZ_yes g3.1).out.2
    have s1 := decN_small d1
    have i1 := g3.2.1
    have i2 := g3.2.2
    have j1 := k1.2.1.1
    have j2 := k1.2.1.2
    have j3 := k1.2.2
    refine ⟨?_, ?_, ?_, ?_, ?_, ?_, ?_, ?_, hl⟩
    · show 0 ≤ decZ ((wordsP (valP fs 2)).getD 0 ByteArray.empty)
      rw [e2]; show 0 ≤ decZ a; omega
    · show decZ ((wordsP (valP fs 2)).getD 0 ByteArray.empty) ≤ decZ ((wordsP (valP fs 2)).getD 1 ByteArray.empty)
      rw [e2]; show decZ a ≤ decZ b; omega
    · show decZ ((wordsP (valP fs 2)).getD 1 ByteArray.empty) ≤ 10000
      rw [e2]; show decZ b ≤ 10000; omega
    · show 1 ≤ (findD nmK zK x.1 (valP fs 1)).2.1
      rw [e1]; exact j1
    · show (findD nmK zK x.1 (valP fs 1)).2.1 ≤ (findD nmK zK x.1 (valP fs 1)).2.2
      rw [e1]; exact j2
    · show (findD nmK zK x.1 (valP fs 1)).2.2 ≤ 50
      rw [e1]; exact j3
    · show 1 ≤ decZ (valP fs 3)
      omega
    · show decZ (valP fs 3) ≤ 6
      omega
  · rw [if_neg (by rw [pb_no hs]; decide)] at h2
    exact absurd h2 (by decide)
theorem stdF_fine (bk : DPlanBook) (nm : ByteArray) (h : (stdF bk nm).2 = true) : Fine (stdF bk nm).1 := by
  by_cases he : ∃ o, StdOf bk nm o
  · obtain ⟨o, ho⟩ := he
    rw [stdF_eq ho] at h ⊢
    rcases ho with ⟨_, rfl⟩ | ⟨_, _, rfl⟩ | ⟨g1, k, h2, h3, h4, rfl⟩
    · exact absurd h (by decide)
    · exact absurd h (by decide)
    · exact stdE_fine (h4 ▸ (g1.2.2 k h2 h2).1.2.2 : FldTo bk.1 nm _ _) h
  · unfold stdF at h
    rw [dif_neg he] at h
    exact absurd h (by decide)

/-- The cells of a flight's route; its steps; the answer. -/
noncomputable def cellsF (bk : DPlanBook) (nm : ByteArray) : List DCell := cellsOf bk.1 (stdF bk nm).1.2.2.2.2.2
noncomputable def pathF (bk : DPlanBook) (nm : ByteArray) : (List RPlanStep × Int × Int) × Int :=
  if pb (BookOk bk) then
    if (stdF bk nm).2 then
      if pb (CellsOk bk.1 (stdF bk nm).1.2.2.2.2.2) then
        if (stdF bk nm).1.2.2.2.1 + ((cellsF bk nm).length : Int) * (stdF bk nm).1.2.1.2.2 > 10000 then (([], 0, 0), 4)
        else ((stepsL (stdF bk nm).1.2.2.1 (stdF bk nm).1.2.2.2.1 (stdF bk nm).1.2.1.2.1 (stdF bk nm).1.2.1.2.2 (stdF bk nm).1.2.2.2.2.1 (cellsF bk nm) (cellsF bk nm).length, (stdF bk nm).1.2.2.1 + ((cellsF bk nm).length : Int) * (stdF bk nm).1.2.1.2.1, (stdF bk nm).1.2.2.2.1 + ((cellsF bk nm).length : Int) * (stdF bk nm).1.2.1.2.2), 0)
      else (([], 0, 0), 3)
    else (([], 0, 0), 2)
  else (([], 0, 0), 1)
theorem path1 {bk : DPlanBook} {nm : ByteArray} (h : ¬ BookOk bk) : pathF bk nm = (([], 0, 0), 1) := by unfold pathF; rw [pb_no h]; rfl
theorem path2 {bk : DPlanBook} {nm : ByteArray} (h : BookOk bk) (h2 : (stdF bk nm).2 = false) : pathF bk nm = (([], 0, 0), 2) := by unfold pathF; rw [pb_yes h, h2]; rfl
theorem path3 {bk : DPlanBook} {nm : ByteArray} (h : BookOk bk) (h2 : (stdF bk nm).2 = true) (h3 : ¬ CellsOk bk.1 (stdF bk nm).1.2.2.2.2.2) : pathF bk nm = (([], 0, 0), 3) := by unfold pathF; rw [pb_yes h, h2, pb_no h3]; rfl
theorem path4 {bk : DPlanBook} {nm : ByteArray} (h : BookOk bk) (h2 : (stdF bk nm).2 = true) (h3 : CellsOk bk.1 (stdF bk nm).1.2.2.2.2.2) (h4 : (stdF bk nm).1.2.2.2.1 + ((cellsF bk nm).length : Int) * (stdF bk nm).1.2.1.2.2 > 10000) : pathF bk nm = (([], 0, 0), 4) := by
  unfold pathF; rw [pb_yes h, h2, pb_yes h3]; simp only [if_true]; rw [if_pos h4]
theorem path0 {bk : DPlanBook} {nm : ByteArray} (h : BookOk bk) (h2 : (stdF bk nm).2 = true) (h3 : CellsOk bk.1 (stdF bk nm).1.2.2.2.2.2) (h4 : ¬ (stdF bk nm).1.2.2.2.1 + ((cellsF bk nm).length : Int) * (stdF bk nm).1.2.1.2.2 > 10000) :
    pathF bk nm = ((stepsL (stdF bk nm).1.2.2.1 (stdF bk nm).1.2.2.2.1 (stdF bk nm).1.2.1.2.1 (stdF bk nm).1.2.1.2.2 (stdF bk nm).1.2.2.2.2.1 (cellsF bk nm) (cellsF bk nm).length, (stdF bk nm).1.2.2.1 + ((cellsF bk nm).length : Int) * (stdF bk nm).1.2.1.2.1, (stdF bk nm).1.2.2.2.1 + ((cellsF bk nm).length : Int) * (stdF bk nm).1.2.1.2.2), 0) := by
  unfold pathF; rw [pb_yes h, h2, pb_yes h3]; simp only [if_true]; rw [if_neg h4]
theorem cellsF_len {bk : DPlanBook} {nm : ByteArray} (h3 : CellsOk bk.1 (stdF bk nm).1.2.2.2.2.2) : 1 ≤ (cellsF bk nm).length ∧ (cellsF bk nm).length ≤ 40 := by
  have e := (cells_yes h3).2
  unfold cellsF
  rw [e]
  refine ⟨?_, h3.2.2⟩
  have hin := ends_in h3.1 (stdF bk nm).1.2.2.2.2.2
  have hl := along_len hin ((stdF bk nm).1.2.2.2.2.2.length - 1)
  unfold cellsR
  omega
theorem pathF_len (bk : DPlanBook) (nm : ByteArray) : (pathF bk nm).1.1.length ≤ 40 := by
  by_cases h : BookOk bk
  · cases h2 : (stdF bk nm).2
    · rw [path2 h h2]; simp
    · by_cases h3 : CellsOk bk.1 (stdF bk nm).1.2.2.2.2.2
      · by_cases h4 : (stdF bk nm).1.2.2.2.1 + ((cellsF bk nm).length : Int) * (stdF bk nm).1.2.1.2.2 > 10000
        · rw [path4 h h2 h3 h4]; simp
        · rw [path0 h h2 h3 h4]
          show (stepsL _ _ _ _ _ _ _).length ≤ 40
          rw [stepsL_len]
          exact (cellsF_len h3).2
      · rw [path3 h h2 h3]; simp
  · rw [path1 h]; simp

end Pth
end Go.Proofs.YtgnjkpmbppmoeaaGreat

/- DERIVED. When a flight of a plan may be over a point, on plain data. -/
namespace Go.Proofs.YtgnjkpmbppmoeaaGreat
namespace Pth
open Go.RowKit Leg Pcl Go.Proofs.YtgnjkpmbppmoeaaGreat.Std Lev
set_option linter.unusedSimpArgs false
set_option linter.unusedVariables false

def overL (x y up : Int) : List RPlanStep → Int × Int × Bool
  | [] => (0, 0, false)
  | s :: l => if s.1 = x ∧ s.2.1 = y then (s.2.2.2.2.1, (match l with | [] => up | t :: _ => t.2.2.2.2.2) - 1, true) else overL x y up l
/-- Up to when the k-th step may be entered, or the path be left. -/
def byAt (L : List RPlanStep) (up : Int) (k : Nat) : Int := match L.drop k with | [] => up | t :: _ => t.2.2.2.2.2
theorem byAt_lt {L : List RPlanStep} {up : Int} {k : Nat} (hk : k < L.length) : byAt L up k = (L[k]'hk).2.2.2.2.2 := by unfold byAt; rw [List.drop_eq_getElem_cons hk]
theorem byAt_end (L : List RPlanStep) (up : Int) : byAt L up L.length = up := by unfold byAt; rw [List.drop_length]
def fromAt (L : List RPlanStep) (lo : Int) (k : Nat) : Int := match L.drop k with | [] => lo | t :: _ => t.2.2.2.2.1
theorem fromAt_lt {L : List RPlanStep} {lo : Int} {k : Nat} (hk : k < L.length) : fromAt L lo k = (L[k]'hk).2.2.2.2.1 := by unfold fromAt; rw [List.drop_eq_getElem_cons hk]
theorem fromAt_end (L : List RPlanStep) (lo : Int) : fromAt L lo L.length = lo := by unfold fromAt; rw [List.drop_length]
theorem overL_hit {x y up : Int} {L : List RPlanStep} {k : Nat} (hk : k < L.length) (h : (L[k]'hk).1 = x ∧ (L[k]'hk).2.1 = y) : overL x y up (L.drop k) = ((L[k]'hk).2.2.2.2.1, byAt L up (k + 1) - 1, true) := by
  rw [List.drop_eq_getElem_cons hk]
  show (if _ then _ else _) = _
  rw [if_pos h]
  rfl
theorem overL_miss {x y up : Int} {L : List RPlanStep} {k : Nat} (hk : k < L.length) (h : ¬ ((L[k]'hk).1 = x ∧ (L[k]'hk).2.1 = y)) : overL x y up (L.drop k) = overL x y up (L.drop (k + 1)) := by
  rw [List.drop_eq_getElem_cons hk]
  show (if _ then _ else _) = _
  rw [if_neg h]
theorem overL_end (x y up : Int) (L : List RPlanStep) : overL x y up (L.drop L.length) = (0, 0, false) := by rw [List.drop_length]; rfl

noncomputable def overF (bk : DPlanBook) (nm pt : ByteArray) : Int × Int × Bool :=
  if pb ((pathF bk nm).2 = 0 ∧ HasNm nmP bk.1.2 pt) then overL (findD nmP zP bk.1.2 pt).2.1 (findD nmP zP bk.1.2 pt).2.2 (pathF bk nm).1.2.2 (pathF bk nm).1.1 else (0, 0, false)
theorem over_yes {bk : DPlanBook} {nm pt : ByteArray} (h1 : (pathF bk nm).2 = 0) (h2 : HasNm nmP bk.1.2 pt) : overF bk nm pt = overL (findD nmP zP bk.1.2 pt).2.1 (findD nmP zP bk.1.2 pt).2.2 (pathF bk nm).1.2.2 (pathF bk nm).1.1 := by
  unfold overF; rw [if_pos (pb_yes ⟨h1, h2⟩)]
theorem over_no {bk : DPlanBook} {nm pt : ByteArray} (h : ¬ ((pathF bk nm).2 = 0 ∧ HasNm nmP bk.1.2 pt)) : overF bk nm pt = (0, 0, false) := by
  unfold overF; rw [if_neg (by rw [pb_no h]; decide)]

theorem mul_le2 (k n q : Int) (hk : 0 ≤ k) (hkn : k ≤ 40) (hq : 0 ≤ q) (hq5 : q ≤ 50) : 0 ≤ k * q ∧ k * q ≤ 2000 := by
  refine ⟨Int.mul_nonneg hk hq, ?_⟩
  calc k * q ≤ 40 * q := Int.mul_le_mul_of_nonneg_right hkn hq
    _ ≤ 40 * 50 := Int.mul_le_mul_of_nonneg_left hq5 (by omega)
theorem pathF_rng (bk : DPlanBook) (nm : ByteArray) : (0 ≤ (pathF bk nm).1.2.2 ∧ (pathF bk nm).1.2.2 ≤ 20000) ∧ ∀ k (h : k < (pathF bk nm).1.1.length), 0 ≤ ((pathF bk nm).1.1[k]'h).2.2.2.2.2 ∧ ((pathF bk nm).1.1[k]'h).2.2.2.2.2 ≤ 20000 := by
  by_cases h : BookOk bk
  · cases h2 : (stdF bk nm).2
    · rw [path2 h h2]; exact ⟨by decide, fun k hk => by simp at hk⟩
    · have hf := stdF_fine bk nm h2
      obtain ⟨t0, t1, t2, q0, q1, q2, l0, l1, hr⟩ := hf
      by_cases h3 : CellsOk bk.1 (stdF bk nm).1.2.2.2.2.2
      · have hcl := cellsF_len h3
        by_cases h4 : (stdF bk nm).1.2.2.2.1 + ((cellsF bk nm).length : Int) * (stdF bk nm).1.2.1.2.2 > 10000
        · rw [path4 h h2 h3 h4]; exact ⟨by decide, fun k hk => by simp at hk⟩
        · rw [path0 h h2 h3 h4]
          have hm := mul_le2 ((cellsF bk nm).length : Int) 0 (stdF bk nm).1.2.1.2.2 (by omega) (by omega) (by omega) (by omega)
          refine ⟨?_, fun k hk => ?_⟩
          · show 0 ≤ (stdF bk nm).1.2.2.2.1 + ((cellsF bk nm).length : Int) * (stdF bk nm).1.2.1.2.2 ∧ (stdF bk nm).1.2.2.2.1 + ((cellsF bk nm).length : Int) * (stdF bk nm).1.2.1.2.2 ≤ 20000
            omega
          · have hk' : k < (cellsF bk nm).length := by
              have h5 : k < (stepsL _ _ _ _ _ _ _).length := hk
              rw [stepsL_len] at h5
              exact h5
            have hk2 := mul_le2 (k : Int) 0 (stdF bk nm).1.2.1.2.2 (by omega) (by omega) (by omega) (by omega)
            have e : ((stepsL (stdF bk nm).1.2.2.1 (stdF bk nm).1.2.2.2.1 (stdF bk nm).1.2.1.2.1 (stdF bk nm).1.2.1.2.2 (stdF bk nm).1.2.2.2.2.1 (cellsF bk nm) (cellsF bk nm).length)[k]'hk).2.2.2.2.2 = (stdF bk nm).1.2.2.2.1 + (k : Int) * (stdF bk nm).1.2.1.2.2 := by
              simp [stepsL, stepAt]
            show 0 ≤ ((stepsL _ _ _ _ _ _ _)[k]'hk).2.2.2.2.2 ∧ ((stepsL _ _ _ _ _ _ _)[k]'hk).2.2.2.2.2 ≤ 20000
            rw [e]
            omega
      · rw [path3 h h2 h3]; exact ⟨by decide, fun k hk => by simp at hk⟩
  · rw [path1 h]; exact ⟨by decide, fun k hk => by simp at hk⟩
theorem byAt_rng {L : List RPlanStep} {up : Int} (h0 : 0 ≤ up ∧ up ≤ 20000) (h : ∀ k (h : k < L.length), 0 ≤ (L[k]'h).2.2.2.2.2 ∧ (L[k]'h).2.2.2.2.2 ≤ 20000) {k : Nat} (hk : k ≤ L.length) : 0 ≤ byAt L up k ∧ byAt L up k ≤ 20000 := by
  by_cases hlt : k < L.length
  · rw [byAt_lt hlt]; exact h k hlt
  · have e : k = L.length := by omega
    subst e
    rw [byAt_end]; exact h0

end Pth
end Go.Proofs.YtgnjkpmbppmoeaaGreat
