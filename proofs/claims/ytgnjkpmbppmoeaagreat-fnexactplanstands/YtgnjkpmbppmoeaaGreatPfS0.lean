/- DERIVED. spec.l11Kind, spec.l11Point: their walks (written by wip/tools/mk_pfs.py). -/
import Derived.Test.YtgnjkpmbppmoeaaGreatGPw
import Derived.Test.YtgnjkpmbppmoeaaGreatPlS1
import Derived.Test.YtgnjkpmbppmoeaaGreatPlL0
namespace Go.Proofs.YtgnjkpmbppmoeaaGreat
open Go.RowKit
set_option linter.unusedSimpArgs false
set_option linter.unusedVariables false

/-- The first of the first k with this name, -1 if there is none. -/
noncomputable def idxTo {α : Type} (nm : α → ByteArray) (l : List α) (v : ByteArray) : Nat → Int
  | 0 => -1
  | k + 1 => if 0 ≤ idxTo nm l v k then idxTo nm l v k else if pb (∃ h : k < l.length, nm (l[k]'h) = v) then (k : Int) else -1
noncomputable def idxOf {α : Type} (nm : α → ByteArray) (l : List α) (v : ByteArray) : Int := idxTo nm l v l.length
theorem idxTo_none {α : Type} {nm : α → ByteArray} {l : List α} {v : ByteArray} {k : Nat} (h : NoNm nm l v k) : idxTo nm l v k = -1 := by
  induction k with
  | zero => rfl
  | succ k ih =>
    have h1 := ih (fun i hi hk => h i hi (by omega))
    show (if 0 ≤ idxTo nm l v k then _ else _) = _
    rw [h1, if_neg (by omega), pb_no (fun ⟨hk, e⟩ => h k hk (by omega) e)]
    rfl
theorem idxTo_hit {α : Type} {nm : α → ByteArray} {l : List α} {v : ByteArray} {k : Nat} (h : NoNm nm l v k) (hk : k < l.length) (he : nm (l[k]'hk) = v) (m : Nat) : idxTo nm l v (k + 1 + m) = k := by
  induction m with
  | zero =>
    show (if 0 ≤ idxTo nm l v k then _ else _) = _
    rw [idxTo_none h, if_neg (by omega), pb_yes ⟨hk, he⟩]
    rfl
  | succ m ih =>
    show (if 0 ≤ idxTo nm l v (k + 1 + m) then _ else _) = _
    rw [if_pos (by rw [ih]; omega)]
    exact ih
theorem idxOf_hit {α : Type} {nm : α → ByteArray} {l : List α} {v : ByteArray} {k : Nat} (h : NoNm nm l v k) (hk : k < l.length) (he : nm (l[k]'hk) = v) : idxOf nm l v = k := by
  have := idxTo_hit h hk he (l.length - (k + 1))
  rwa [show k + 1 + (l.length - (k + 1)) = l.length by omega] at this
theorem idxOf_none {α : Type} {nm : α → ByteArray} {l : List α} {v : ByteArray} (h : NoNm nm l v l.length) : idxOf nm l v = -1 := idxTo_none h
theorem idxTo_cases {α : Type} (nm : α → ByteArray) (l : List α) (v : ByteArray) (k : Nat) (hk : k ≤ l.length) : NoNm nm l v k ∨ ∃ j, ∃ h : j < l.length, NoNm nm l v j ∧ nm (l[j]'h) = v := by
  induction k with
  | zero => exact .inl (fun i _ h => by omega)
  | succ k ih =>
    rcases ih (by omega) with h | h
    · by_cases he : nm (l[k]'(by omega)) = v
      · exact .inr ⟨k, by omega, h, he⟩
      · exact .inl (h.next _ he)
    · exact .inr h
theorem idxOf_has {α : Type} (nm : α → ByteArray) (l : List α) (v : ByteArray) : (HasNm nm l v ↔ 0 ≤ idxOf nm l v) ∧ -1 ≤ idxOf nm l v ∧ idxOf nm l v < l.length + 1 := by
  rcases idxTo_cases nm l v l.length (Nat.le_refl _) with h | ⟨j, hj, h, he⟩
  · rw [idxOf_none h]
    exact ⟨⟨fun h1 => absurd h1 h.all, fun h1 => by omega⟩, by omega, by omega⟩
  · rw [idxOf_hit h hj he]
    exact ⟨⟨fun _ => by omega, fun _ => ⟨j, hj, he⟩⟩, by omega, by omega⟩

set_option maxRecDepth 100000 in
set_option maxHeartbeats 2000000 in
theorem sPlanKind (x : DPlanBase) (ao0 : Option Addr) (cap0 : Nat) (ao1 : Option Addr) (cap1 : Nat) (v : ByteArray) (w : World) (h : BaseAt w x ao0 cap0 ao1 cap1) :
    Calls Tryz.prog 60 #[.agg #[.slice ao0 x.1.length cap0, .slice ao1 x.2.length cap1], .string v] w fun e w' => e = .returned (.int .i64 (idxOf nmK x.1 v)) ∧ Below w.heap.size w w' := by
  obtain ⟨ks, ps⟩ := x
  have hs := h.p0
  simp only at *
  clear h
  have hcm : ks.length ≤ 9223372036854775807 := Nat.le_trans hs.1 hs.2.1
  have hb0 : Below w.heap.size w (w.alloc (.cells #[.slice ao0 ks.length cap0, .slice ao1 ps.length cap1] 40)) := (Below.refl _ _).alloc (Nat.le_refl _) _
  have HB0 := BxC.new w #[.slice ao0 ks.length cap0, .slice ao1 ps.length cap1] 40
  have x0 := HB0 0
  simp at x0
  go_enter Tryz.func60, Tryz.ntmps60
  go_wp2
  go_loop [5] (fun i => ∃ k : Nat, k ≤ ks.length ∧ i = .int .i64 k ∧ Hid (NoNm nmK ks v k)) (fun i => ks.length - (intOf i).toNat)
  case atStart => exact ⟨0, Nat.zero_le _, rfl, fun j _ hj => by omega⟩
  case round =>
    obtain ⟨k, hk, rfl, hpre⟩ := hrel
    by_cases hlt : k < ks.length
    · obtain ⟨b, off, rfl, hok, c0, c1, c2, q0, _⟩ := elem_PlanKind hs hlt
      have f0 := (hb0.cell (p := ⟨b, off + k * 3, none⟩) hok).trans c0
      clear c0 c1 c2
      have hbw : b < w.heap.size := hok
      have hkI : (k : Int) < (ks.length : Int) := by omega
      have HY : Hid ((ks[k]'hlt).1 = v → idxOf nmK ks v = k) := fun e => idxOf_hit hpre.out hlt e
      have HN : Hid (¬ (ks[k]'hlt).1 = v → NoNm nmK ks v (k + 1)) := fun e => hpre.out.next hlt e
      clear hpre q0 hs
      generalize (ks[k]'hlt).1 = n at *
      by_cases hq : n = v
      · have HR : Hid (idxOf nmK ks v = k) := HY.out hq
        have hqb : (n.toList == v.toList) = true := beqL.2 hq
        clear HY HN hq
        go_wp2
        go_ret
        exact ⟨by rw [HR.out]; rfl, hb0⟩
      · have HN1 : Hid (NoNm nmK ks v (k + 1)) := HN.out hq
        have hqb : (n.toList == v.toList) = false := beqL_no hq
        clear HY HN hq
        go_wp2
        go_round
        case rel => exact ⟨k + 1, by omega, by go_num, HN1⟩
        case measure => simp [intOf]; omega
    · have hke : k = ks.length := by omega
      subst hke
      have HR : Hid (idxOf nmK ks v = -1) := idxOf_none hpre.out
      clear hpre
      go_wp2
      go_ret
      exact ⟨by rw [HR.out]; rfl, hb0⟩

set_option maxRecDepth 100000 in
set_option maxHeartbeats 2000000 in
theorem sPlanPoint (x : DPlanBase) (ao0 : Option Addr) (cap0 : Nat) (ao1 : Option Addr) (cap1 : Nat) (v : ByteArray) (w : World) (h : BaseAt w x ao0 cap0 ao1 cap1) :
    Calls Tryz.prog 48 #[.agg #[.slice ao0 x.1.length cap0, .slice ao1 x.2.length cap1], .string v] w fun e w' => e = .returned (.int .i64 (idxOf nmP x.2 v)) ∧ Below w.heap.size w w' := by
  obtain ⟨ks, ps⟩ := x
  have hs := h.p1
  simp only at *
  clear h
  have hcm : ps.length ≤ 9223372036854775807 := Nat.le_trans hs.1 hs.2.1
  have hb0 : Below w.heap.size w (w.alloc (.cells #[.slice ao0 ks.length cap0, .slice ao1 ps.length cap1] 40)) := (Below.refl _ _).alloc (Nat.le_refl _) _
  have HB0 := BxC.new w #[.slice ao0 ks.length cap0, .slice ao1 ps.length cap1] 40
  have x1 := HB0 1
  simp at x1
  go_enter Tryz.func48, Tryz.ntmps48
  go_wp2
  go_loop [5] (fun i => ∃ k : Nat, k ≤ ps.length ∧ i = .int .i64 k ∧ Hid (NoNm nmP ps v k)) (fun i => ps.length - (intOf i).toNat)
  case atStart => exact ⟨0, Nat.zero_le _, rfl, fun j _ hj => by omega⟩
  case round =>
    obtain ⟨k, hk, rfl, hpre⟩ := hrel
    by_cases hlt : k < ps.length
    · obtain ⟨b, off, rfl, hok, c0, c1, c2, q0, _⟩ := elem_PlanPoint hs hlt
      have f0 := (hb0.cell (p := ⟨b, off + k * 3, none⟩) hok).trans c0
      clear c0 c1 c2
      have hbw : b < w.heap.size := hok
      have hkI : (k : Int) < (ps.length : Int) := by omega
      have HY : Hid ((ps[k]'hlt).1 = v → idxOf nmP ps v = k) := fun e => idxOf_hit hpre.out hlt e
      have HN : Hid (¬ (ps[k]'hlt).1 = v → NoNm nmP ps v (k + 1)) := fun e => hpre.out.next hlt e
      clear hpre q0 hs
      generalize (ps[k]'hlt).1 = n at *
      by_cases hq : n = v
      · have HR : Hid (idxOf nmP ps v = k) := HY.out hq
        have hqb : (n.toList == v.toList) = true := beqL.2 hq
        clear HY HN hq
        go_wp2
        go_ret
        exact ⟨by rw [HR.out]; rfl, hb0⟩
      · have HN1 : Hid (NoNm nmP ps v (k + 1)) := HN.out hq
        have hqb : (n.toList == v.toList) = false := beqL_no hq
        clear HY HN hq
        go_wp2
        go_round
        case rel => exact ⟨k + 1, by omega, by go_num, HN1⟩
        case measure => simp [intOf]; omega
    · have hke : k = ps.length := by omega
      subst hke
      have HR : Hid (idxOf nmP ps v = -1) := idxOf_none hpre.out
      clear hpre
      go_wp2
      go_ret
      exact ⟨by rw [HR.out]; rfl, hb0⟩

end Go.Proofs.YtgnjkpmbppmoeaaGreat
