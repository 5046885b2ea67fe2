/- DERIVED. impl.planHas, and what fits a kind, a level, a state, a time: their walks (written by wip/tools/mk_pf.py). -/
import Derived.Test.YtgbfiffphapdaaaGreatPfD
import Derived.Test.YtgbfiffphapdaaaGreatPlI1
import Derived.Test.YtgbfiffphapdaaaGreatPlI2
import Derived.Test.YtgbfiffphapdaaaGreatGXd
namespace Go.Proofs.YtgbfiffphapdaaaGreat
open Go.RowKit
set_option linter.unusedSimpArgs false
set_option linter.unusedVariables false

set_option maxRecDepth 100000 in
set_option maxHeartbeats 2000000 in
theorem has_PlanKind (ao : Option Addr) (cap : Nat) (l : List DPlanKind) (v : ByteArray) (w : World) (h : SliceAt vPlanKind (old w) w ao cap l) :
    Calls Tryz.prog 175 #[.slice ao l.length cap, .string v] w fun e w' => e = .returned (.bool (pb (HasNm nmK l v))) ∧ Below w.heap.size w w' := by
  have hcm : l.length ≤ 9223372036854775807 := Nat.le_trans h.1 h.2.1
  have mN := methPlanKindN
  go_enter Tryz.func175, Tryz.ntmps175
  go_wp2
  go_loopw [9] (fun i wr => ∃ k : Nat, k ≤ l.length ∧ i = .int .i64 k ∧ Hid (NoNm nmK l v k) ∧ Below w.heap.size w wr) (fun i _ => l.length - (intOf i).toNat)
  case atStart => exact ⟨0, Nat.zero_le _, rfl, fun j _ hj => by omega, Below.refl _ _⟩
  case round =>
    obtain ⟨k, hk, rfl, hpre, hB⟩ := hrel
    by_cases hlt : k < l.length
    · obtain ⟨b, off, rfl, hok, c0, c1, c2, q0, _⟩ := elem_PlanKind h hlt
      have f0 := (hB.cell (p := ⟨b, off + k * 3, none⟩) hok).trans c0
      have f1 := (hB.cell (p := ⟨b, off + k * 3 + 1, none⟩) hok).trans c1
      have f2 := (hB.cell (p := ⟨b, off + k * 3 + 2, none⟩) hok).trans c2
      clear c0 c1 c2
      have hkI : (k : Int) < (l.length : Int) := by omega
      obtain ⟨n, q, s, hcur⟩ : ∃ n q s, l[k]'hlt = (n, q, s) := ⟨_, _, _, rfl⟩
      have HY : Hid (n = v → pb (HasNm nmK l v) = true) := fun e => pb_yes ⟨k, hlt, by rw [hcur]; exact e⟩
      have HN : Hid (¬ n = v → NoNm nmK l v (k + 1)) := fun e => hpre.out.next hlt (by rw [hcur]; exact e)
      rw [hcur] at f0 f1 f2
      simp only at f0 f1 f2
      clear hcur hpre h q0
      go_wp2_with fail
      refine (iNmKind _ _ _ _).mono ?_
      rintro e w1 ⟨rfl, hb1⟩
      have hB1 := (hB.alloc hB.size (.cells #[.string n, .int .i64 q, .int .i64 s] 142)).trans (hb1.mono (by have := hB.size; simp; omega))
      clear hb1 f0 f1 f2
      by_cases hq : n = v
      · have HR := HY.out hq
        have hqb : (n.toList == v.toList) = true := beqL.2 hq
        have HR' : Hid (pb (HasNm nmK l v) = true) := HR
        clear HY HN hq HR
        go_wp2
        go_ret
        exact ⟨by rw [HR'.out]; rfl, hB1⟩
      · have HN1 : Hid (NoNm nmK l v (k + 1)) := HN.out hq
        have hqb : (n.toList == v.toList) = false := beqL_no hq
        clear HY HN hq
        go_wp2
        go_roundw
        case rel => exact ⟨k + 1, by omega, by go_num, HN1, hB1⟩
        case measure => simp [intOf]; omega
    · have hke : k = l.length := by omega
      subst hke
      have HR : Hid (pb (HasNm nmK l v) = false) := pb_no hpre.out.all
      clear hpre
      go_wp2
      go_ret
      exact ⟨by rw [HR.out]; rfl, hB⟩

set_option maxRecDepth 100000 in
set_option maxHeartbeats 2000000 in
theorem has_PlanPoint (ao : Option Addr) (cap : Nat) (l : List DPlanPoint) (v : ByteArray) (w : World) (h : SliceAt vPlanPoint (old w) w ao cap l) :
    Calls Tryz.prog 181 #[.slice ao l.length cap, .string v] w fun e w' => e = .returned (.bool (pb (HasNm nmP l v))) ∧ Below w.heap.size w w' := by
  have hcm : l.length ≤ 9223372036854775807 := Nat.le_trans h.1 h.2.1
  have mN := methPlanPointN
  go_enter Tryz.func181, Tryz.ntmps181
  go_wp2
  go_loopw [9] (fun i wr => ∃ k : Nat, k ≤ l.length ∧ i = .int .i64 k ∧ Hid (NoNm nmP l v k) ∧ Below w.heap.size w wr) (fun i _ => l.length - (intOf i).toNat)
  case atStart => exact ⟨0, Nat.zero_le _, rfl, fun j _ hj => by omega, Below.refl _ _⟩
  case round =>
    obtain ⟨k, hk, rfl, hpre, hB⟩ := hrel
    by_cases hlt : k < l.length
    · obtain ⟨b, off, rfl, hok, c0, c1, c2, q0, _⟩ := elem_PlanPoint h hlt
      have f0 := (hB.cell (p := ⟨b, off + k * 3, none⟩) hok).trans c0
      have f1 := (hB.cell (p := ⟨b, off + k * 3 + 1, none⟩) hok).trans c1
      have f2 := (hB.cell (p := ⟨b, off + k * 3 + 2, none⟩) hok).trans c2
      clear c0 c1 c2
      have hkI : (k : Int) < (l.length : Int) := by omega
      obtain ⟨n, q, s, hcur⟩ : ∃ n q s, l[k]'hlt = (n, q, s) := ⟨_, _, _, rfl⟩
      have HY : Hid (n = v → pb (HasNm nmP l v) = true) := fun e => pb_yes ⟨k, hlt, by rw [hcur]; exact e⟩
      have HN : Hid (¬ n = v → NoNm nmP l v (k + 1)) := fun e => hpre.out.next hlt (by rw [hcur]; exact e)
      rw [hcur] at f0 f1 f2
      simp only at f0 f1 f2
      clear hcur hpre h q0
      go_wp2_with fail
      refine (iNmPt _ _ _ _).mono ?_
      rintro e w1 ⟨rfl, hb1⟩
      have hB1 := (hB.alloc hB.size (.cells #[.string n, .int .i64 q, .int .i64 s] 145)).trans (hb1.mono (by have := hB.size; simp; omega))
      clear hb1 f0 f1 f2
      by_cases hq : n = v
      · have HR := HY.out hq
        have hqb : (n.toList == v.toList) = true := beqL.2 hq
        have HR' : Hid (pb (HasNm nmP l v) = true) := HR
        clear HY HN hq HR
        go_wp2
        go_ret
        exact ⟨by rw [HR'.out]; rfl, hB1⟩
      · have HN1 : Hid (NoNm nmP l v (k + 1)) := HN.out hq
        have hqb : (n.toList == v.toList) = false := beqL_no hq
        clear HY HN hq
        go_wp2
        go_roundw
        case rel => exact ⟨k + 1, by omega, by go_num, HN1, hB1⟩
        case measure => simp [intOf]; omega
    · have hke : k = l.length := by omega
      subst hke
      have HR : Hid (pb (HasNm nmP l v) = false) := pb_no hpre.out.all
      clear hpre
      go_wp2
      go_ret
      exact ⟨by rw [HR.out]; rfl, hB⟩

theorem fitsKind (ao : Option Addr) (cap : Nat) (l : List DPlanKind) (v : ByteArray) (w : World) (h : SliceAt vPlanKind (old w) w ao cap l) :
    Calls Tryz.prog 174 #[.agg #[.slice ao l.length cap], .string v] w fun e w' => e = .returned (.bool (pb (HasNm nmK l v))) ∧ Below w.heap.size w w' := by
  have hb0 : Below w.heap.size w (w.alloc (.cells #[.slice ao l.length cap] 196)) := (Below.refl _ _).alloc (Nat.le_refl _) _
  go_enter Tryz.func174, Tryz.ntmps174
  go_wp2_with fail
  refine (has_PlanKind ao cap l v _ (h.later hb0)).mono ?_
  rintro e w1 ⟨rfl, hb1⟩
  go_wp2
  go_ret
  exact ⟨rfl, hb0.trans (hb1.mono hb0.size)⟩

set_option maxHeartbeats 1000000 in
theorem fitsLevel (v : ByteArray) (w : World) (hv : v.size ≤ maxLen) :
    Calls Tryz.prog 179 #[.agg #[], .string v] w fun e w' => e = .returned (.bool (pb (LevelOk v))) ∧ Below w.heap.size w w' := by
  have hb0 : Below w.heap.size w (w.alloc (.cells #[] 199)) := (Below.refl _ _).alloc (Nat.le_refl _) _
  go_enter Tryz.func179, Tryz.ntmps179
  go_wp2_with fail
  refine (iDec v _ hv).mono ?_
  rintro e w1 ⟨rfl, hb1⟩
  have hB1 := hb0.trans (hb1.mono hb0.size)
  clear hb1
  by_cases hd : DecOk v
  · have e1 : decZ v = decN v := (decZ_yes hd).out.2
    rw [pb_yes hd, e1]
    by_cases hr : InR (decN v) 1 6
    · have HR : Hid (pb (LevelOk v) = true) := pb_yes ⟨hd, hr⟩
      clear hd
      go_wp2_with (go_at_call 123; refine (from_yes _ _ _ _ hr).mono ?_; rintro e w' ⟨rfl, rfl⟩)
      go_ret
      exact ⟨by rw [HR.out]; rfl, hB1⟩
    · have HR : Hid (pb (LevelOk v) = false) := pb_no (fun h => hr h.2)
      clear hd
      go_wp2_with (go_at_call 123; refine (from_no _ _ _ _ hr).mono ?_; rintro e w' ⟨rfl, rfl⟩)
      go_ret
      exact ⟨by rw [HR.out]; rfl, hB1⟩
  · rw [pb_no hd]
    have HR : Hid (pb (LevelOk v) = false) := pb_no (fun h => hd h.1)
    clear hd
    go_wp2
    go_ret
    exact ⟨by rw [HR.out]; rfl, hB1⟩

set_option maxHeartbeats 1000000 in
theorem fitsState (v : ByteArray) (w : World) :
    Calls Tryz.prog 182 #[.agg #[], .string v] w fun e w' => e = .returned (.bool (pb (StateOk v))) ∧ Below w.heap.size w w' := by
  have hb0 : Below w.heap.size w (w.alloc (.cells #[] 202)) := (Below.refl _ _).alloc (Nat.le_refl _) _
  have eo : openB.toList = [111, 112, 101, 110] := by rw [ByteArray.toList_eq]; rfl
  have ec : closedB.toList = [99, 108, 111, 115, 101, 100] := by rw [ByteArray.toList_eq]; rfl
  by_cases h1 : v = openB
  · have HR : Hid (pb (StateOk v) = true) := pb_yes (.inl h1)
    have hb : (v.toList == [111, 112, 101, 110]) = true := by rw [← eo]; exact beqL.2 h1
    clear h1 eo ec
    go_enter Tryz.func182, Tryz.ntmps182
    go_wp2
    go_ret
    exact ⟨by rw [HR.out]; rfl, hb0⟩
  · have hb : (v.toList == [111, 112, 101, 110]) = false := by rw [← eo]; exact beqL_no h1
    by_cases h2 : v = closedB
    · have HR : Hid (pb (StateOk v) = true) := pb_yes (.inr h2)
      have hb2 : (v.toList == [99, 108, 111, 115, 101, 100]) = true := by rw [← ec]; exact beqL.2 h2
      clear h1 h2 eo ec
      go_enter Tryz.func182, Tryz.ntmps182
      go_wp2
      go_ret
      exact ⟨by rw [HR.out]; first | rfl | (simp [hb2]), hb0⟩
    · have HR : Hid (pb (StateOk v) = false) := pb_no (fun h => h.elim h1 h2)
      have hb2 : (v.toList == [99, 108, 111, 115, 101, 100]) = false := by rw [← ec]; exact beqL_no h2
      clear h1 h2 eo ec
      go_enter Tryz.func182, Tryz.ntmps182
      go_wp2
      go_ret
      exact ⟨by rw [HR.out]; first | rfl | (simp [hb2]), hb0⟩

theorem TxtAt.two {w : World} {ao : Option Addr} {a b : ByteArray} (h : TxtAt w ao [a, b]) : ∃ g, ao = some ⟨g, 0, none⟩ ∧ g < w.heap.size ∧ w.cell? ⟨g, 0, none⟩ = some (.string a) ∧ w.cell? ⟨g, 1, none⟩ = some (.string b) := by
  rcases h with h | ⟨g, h1, h2, h3⟩
  · cases h
  · exact ⟨g, h1, h2, h3 0 (by simp), h3 1 (by simp)⟩

theorem timeOk_two (a b : ByteArray) : TimeOk [a, b] ↔ DecOk a ∧ DecOk b ∧ decN a ≤ decN b ∧ decN b ≤ 10000 := by
  constructor
  · rintro ⟨x, y, h, h1⟩
    simp only [List.cons.injEq, and_true] at h
    obtain ⟨rfl, rfl⟩ := h
    exact h1
  · intro h
    exact ⟨a, b, rfl, h⟩

theorem two_of {ws : List ByteArray} (h : ws.length = 2) : ∃ a b, ws = [a, b] := by
  match ws, h with
  | [a, b], _ => exact ⟨a, b, rfl⟩

set_option maxRecDepth 100000 in
set_option maxHeartbeats 2000000 in
theorem fitsTime (v : ByteArray) (w : World) (hv : v.size ≤ 1048576) :
    Calls Tryz.prog 176 #[.agg #[], .string v] w fun e w' => e = .returned (.bool (pb (TimeOk (wordsP v)))) ∧ Below w.heap.size w w' := by
  have hb0 : Below w.heap.size w (w.alloc (.cells #[] 198)) := (Below.refl _ _).alloc (Nat.le_refl _) _
  have hsz : ∀ x ∈ wordsP v, x.size ≤ maxLen := fun x hx => Nat.le_trans (wordsP_sizes v x hx) (by unfold maxLen; omega)
  have HWL : Hid ((wordsP v).length ≤ 1048577) := Nat.le_trans (wordsP_len v) (by omega)
  have HI := fun W => iWords v W hv
  generalize wordsP v = ws at *
  go_enter Tryz.func176, Tryz.ntmps176
  go_wp2_with fail
  refine (HI _).mono ?_
  rintro e w1 ⟨ao, cap, rfl, hT, hb1⟩
  have hB1 := hb0.trans (hb1.mono hb0.size)
  clear hb1 hb0 HI
  have hwl := HWL.out
  by_cases hl : ws.length = 2
  · obtain ⟨a, b, rfl⟩ := two_of hl
    have ha := hsz a (by simp)
    have hb := hsz b (by simp)
    obtain ⟨g, rfl, hg, c0, c1⟩ := hT.two
    clear hl hsz HWL hwl hT
    simp only [List.length_cons, List.length_nil, Nat.zero_add, Nat.reduceAdd]
    go_wp2_with fail
    refine (iDec a _ ha).mono ?_
    rintro e w2 ⟨rfl, hb2⟩
    have d1 := (hb2.cell (p := ⟨g, 1, none⟩) hg).trans c1
    have hg2 : g < w2.heap.size := Nat.lt_of_lt_of_le hg hb2.size
    have hB2 := hB1.trans (hb2.mono hB1.size)
    clear c0 c1 hg hb2 hB1
    go_wp2_with fail
    refine (iDec b _ hb).mono ?_
    rintro e w3 ⟨rfl, hb3⟩
    have hB3 := hB2.trans (hb3.mono hB2.size)
    clear hb3 hB2 d1
    have HE := timeOk_two a b
    by_cases h1 : DecOk a
    · have e1 : decZ a = decN a := (decZ_yes h1).out.2
      rw [pb_yes h1, e1]
      by_cases h2 : DecOk b
      · have e2 : decZ b = decN b := (decZ_yes h2).out.2
        rw [pb_yes h2, e2]
        by_cases h3 : decN a ≤ decN b
        · by_cases h4 : decN b ≤ 10000
          · have HR : Hid (pb (TimeOk [a, b]) = true) := pb_yes (HE.2 ⟨h1, h2, h3, h4⟩)
            clear h1 h2 HE
            go_wp2
            go_ret
            exact ⟨by rw [HR.out]; simp [h4], hB3⟩
          · have HR : Hid (pb (TimeOk [a, b]) = false) := pb_no (fun h => h4 (HE.1 h).2.2.2)
            clear h1 h2 HE
            go_wp2
            go_ret
            exact ⟨by rw [HR.out]; simp; omega, hB3⟩
        · have HR : Hid (pb (TimeOk [a, b]) = false) := pb_no (fun h => h3 (HE.1 h).2.2.1)
          have h3d : decide (decN a ≤ decN b) = false := by simp; omega
          clear h1 h2 HE
          go_wp2
          go_ret
          exact ⟨by rw [HR.out]; first | rfl | (simp; omega), hB3⟩
      · rw [pb_no h2]
        have HR : Hid (pb (TimeOk [a, b]) = false) := pb_no (fun h => h2 (HE.1 h).2.1)
        clear h1 h2 HE
        go_wp2
        go_ret
        exact ⟨by rw [HR.out]; rfl, hB3⟩
    · rw [pb_no h1]
      have HR : Hid (pb (TimeOk [a, b]) = false) := pb_no (fun h => h1 (HE.1 h).1)
      clear h1 HE
      go_wp2
      go_ret
      exact ⟨by rw [HR.out]; rfl, hB3⟩
  · have HR : Hid (pb (TimeOk ws) = false) := pb_no (fun ⟨a, b, h, _⟩ => hl (by rw [h]; rfl))
    have hlb : ((ws.length : Int) != 2) = true := by simp; omega
    clear hT hsz
    go_wp2
    go_ret
    exact ⟨by rw [HR.out]; rfl, hB1⟩

end Go.Proofs.YtgbfiffphapdaaaGreat
