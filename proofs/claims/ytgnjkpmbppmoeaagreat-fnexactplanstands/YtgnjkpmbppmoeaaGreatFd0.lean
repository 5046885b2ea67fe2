/- DERIVED. impl.planFind over kinds and over points, impl.planHas over points: their walks (written by wip/tools/mk_fd.py). -/
import Derived.Test.YtgnjkpmbppmoeaaGreatGPw
import Derived.Test.YtgnjkpmbppmoeaaGreatPlI1
import Derived.Test.YtgnjkpmbppmoeaaGreatPlI2
import Derived.Test.YtgnjkpmbppmoeaaGreatPlS1
namespace Go.Proofs.YtgnjkpmbppmoeaaGreat
open Go.RowKit
set_option linter.unusedSimpArgs false
set_option linter.unusedVariables false

/-- The first of a list with this name, or z. -/
noncomputable def findD {α : Type} (nm : α → ByteArray) (z : α) : List α → ByteArray → α
  | [], _ => z
  | x :: l, v => if pb (nm x = v) then x else findD nm z l v
theorem findD_hit {α : Type} {nm : α → ByteArray} {z : α} {v : ByteArray} : ∀ {l : List α} {k : Nat}, NoNm nm l v k → ∀ hk : k < l.length, nm (l[k]'hk) = v → findD nm z l v = l[k]'hk
  | x :: l, 0, _, hk, he => by
    show (if pb (nm x = v) then x else _) = _
    rw [pb_yes (show nm x = v from he)]
    rfl
  | x :: l, k + 1, h, hk, he => by
    show (if pb (nm x = v) then x else findD nm z l v) = _
    rw [pb_no (show ¬ nm x = v from h 0 (by simp) (by omega))]
    exact findD_hit (l := l) (k := k) (fun i hi hk' => h (i + 1) (by simpa using hi) (by omega)) (by simpa using hk) he
theorem findD_none {α : Type} {nm : α → ByteArray} {z : α} {v : ByteArray} : ∀ {l : List α}, NoNm nm l v l.length → findD nm z l v = z
  | [], _ => rfl
  | x :: l, h => by
    show (if pb (nm x = v) then x else findD nm z l v) = _
    rw [pb_no (show ¬ nm x = v from h 0 (by simp) (by simp))]
    exact findD_none (l := l) (fun i hi hk' => h (i + 1) (by simpa using hi) (by simpa using hk'))
abbrev zK : DPlanKind := (ByteArray.empty, 0, 0)
abbrev zP : DPlanPoint := (ByteArray.empty, 0, 0)

set_option maxRecDepth 100000 in
set_option maxHeartbeats 4000000 in
theorem find_PlanKind (ao : Option Addr) (cap : Nat) (l : List DPlanKind) (v : ByteArray) (w : World) (h : SliceAt vPlanKind (old w) w ao cap l) :
    Calls Tryz.prog 152 #[.slice ao l.length cap, .string v] w fun e w' => e = .returned (.tuple #[.agg #[.string (findD nmK zK l v).1, .int .i64 (findD nmK zK l v).2.1, .int .i64 (findD nmK zK l v).2.2], .bool (pb (HasNm nmK l v))]) ∧ Below w.heap.size w w' := by
  have hcm : l.length ≤ 9223372036854775807 := Nat.le_trans h.1 h.2.1
  have mN := methPlanKindN
  go_enter Tryz.func152, Tryz.ntmps152
  go_wp2
  go_loopw [11] (fun i wr => ∃ k : Nat, k ≤ l.length ∧ i = .int .i64 k ∧ Hid (NoNm nmK l v k) ∧ Below (w.heap.size + 1) (w.alloc (.cells #[.string ByteArray.empty, .int .i64 0, .int .i64 0] 31)) wr) (fun i _ => l.length - (intOf i).toNat)
  case atStart => exact ⟨0, Nat.zero_le _, rfl, fun j _ hj => by omega, Below.refl _ _⟩
  case round =>
    obtain ⟨k, hk, rfl, hpre, hB⟩ := hrel
    have hsz : w.heap.size + 1 ≤ wr.heap.size := by have := hB.size; simpa using this
    by_cases hlt : k < l.length
    · obtain ⟨b, off, rfl, hok, c0, c1, c2, q0, _⟩ := elem_PlanKind h hlt
      have hU := box_under hB
      have f0 := (hU.cell (p := ⟨b, off + k * 3, none⟩) hok).trans c0
      have f1 := (hU.cell (p := ⟨b, off + k * 3 + 1, none⟩) hok).trans c1
      have f2 := (hU.cell (p := ⟨b, off + k * 3 + 2, none⟩) hok).trans c2
      clear c0 c1 c2 hU
      have hkI : (k : Int) < (l.length : Int) := by omega
      obtain ⟨n, q, s, hcur⟩ : ∃ n q s, l[k]'hlt = (n, q, s) := ⟨_, _, _, rfl⟩
      have HY : Hid (n = v → pb (HasNm nmK l v) = true ∧ findD nmK zK l v = (n, q, s)) := fun e => ⟨pb_yes ⟨k, hlt, by rw [hcur]; exact e⟩, (findD_hit hpre.out hlt (by rw [hcur]; exact e)).trans hcur⟩
      have HN : Hid (¬ n = v → NoNm nmK l v (k + 1)) := fun e => hpre.out.next hlt (by rw [hcur]; exact e)
      rw [hcur] at f0 f1 f2
      simp only at f0 f1 f2
      clear hcur hpre h q0
      go_wp2_with fail
      refine (iNmKind _ _ _ _).mono ?_
      rintro e w1 ⟨rfl, hb1⟩
      have hg1 : wr.heap.size < w1.heap.size := by have := hb1.size; simp at this; omega
      have g0 := box_in hb1 0
      have g1 := box_in hb1 1
      have g2 := box_in hb1 2
      simp at g0 g1 g2
      have hB1 := (hB.alloc hsz (.cells #[.string n, .int .i64 q, .int .i64 s] 31)).trans (hb1.mono (by simp; omega))
      clear hb1 f0 f1 f2 hB
      by_cases hq : n = v
      · have HR := HY.out hq
        have hqb : (n.toList == v.toList) = true := beqL.2 hq
        have HR' : Hid (pb (HasNm nmK l v) = true ∧ findD nmK zK l v = (n, q, s)) := HR
        have z0 := box_at hB1 0
        have z1 := box_at hB1 1
        have z2 := box_at hB1 2
        simp at z0 z1 z2
        have hzz : w.heap.size < w1.heap.size := by omega
        have zf : ∀ o, w1.frozen? ⟨w.heap.size, o, none⟩ = false := fun o => (hB1.frozen (p := ⟨w.heap.size, o, none⟩) (by show w.heap.size < w.heap.size + 1; omega)).trans (by simp)
        clear HY HN hq HR
        go_wp2
        refine bodyPost_ret (v := .tuple #[.agg #[.string n, .int .i64 q, .int .i64 s], .bool true]) (by simp [results, Tryz.results152, go_sem, zf, hzz, z0, z1, z2]) rfl ⟨by rw [HR'.out.1, HR'.out.2], ?_⟩
        have hBU := box_under hB1
        repeat (first | refine Below.setCell ?_ (by simp; try omega) _ | exact hBU)
      · have HN1 : Hid (NoNm nmK l v (k + 1)) := HN.out hq
        have hqb : (n.toList == v.toList) = false := beqL_no hq
        clear HY HN hq
        go_wp2
        go_roundw
        case rel => exact ⟨k + 1, by omega, by go_num, HN1, hB1⟩
        case measure => simp [intOf]; omega
    · have hke : k = l.length := by omega
      subst hke
      have HR : Hid (pb (HasNm nmK l v) = false ∧ findD nmK zK l v = zK) := ⟨pb_no hpre.out.all, findD_none hpre.out⟩
      have z0 := box_at hB 0
      have z1 := box_at hB 1
      have z2 := box_at hB 2
      simp at z0 z1 z2
      have hzz : w.heap.size < wr.heap.size := by omega
      have zf : ∀ o, wr.frozen? ⟨w.heap.size, o, none⟩ = false := fun o => (hB.frozen (p := ⟨w.heap.size, o, none⟩) (by show w.heap.size < w.heap.size + 1; omega)).trans (by simp)
      have hBU := box_under hB
      clear hpre hB
      go_wp2
      refine bodyPost_ret (v := .tuple #[.agg #[.string ByteArray.empty, .int .i64 0, .int .i64 0], .bool false]) (by simp [results, Tryz.results152, go_sem, zf, hzz, z0, z1, z2]; rfl) rfl ⟨by rw [HR.out.1, HR.out.2], ?_⟩
      repeat (first | refine Below.setCell ?_ (by simp; try omega) _ | refine Below.alloc ?_ (by simp; omega) _ | exact hBU)

set_option maxRecDepth 100000 in
set_option maxHeartbeats 4000000 in
theorem find_PlanPoint (ao : Option Addr) (cap : Nat) (l : List DPlanPoint) (v : ByteArray) (w : World) (h : SliceAt vPlanPoint (old w) w ao cap l) :
    Calls Tryz.prog 49 #[.slice ao l.length cap, .string v] w fun e w' => e = .returned (.tuple #[.agg #[.string (findD nmP zP l v).1, .int .i64 (findD nmP zP l v).2.1, .int .i64 (findD nmP zP l v).2.2], .bool (pb (HasNm nmP l v))]) ∧ Below w.heap.size w w' := by
  have hcm : l.length ≤ 9223372036854775807 := Nat.le_trans h.1 h.2.1
  have mN := methPlanPointN
  go_enter Tryz.func49, Tryz.ntmps49
  go_wp2
  go_loopw [11] (fun i wr => ∃ k : Nat, k ≤ l.length ∧ i = .int .i64 k ∧ Hid (NoNm nmP l v k) ∧ Below (w.heap.size + 1) (w.alloc (.cells #[.string ByteArray.empty, .int .i64 0, .int .i64 0] 93)) wr) (fun i _ => l.length - (intOf i).toNat)
  case atStart => exact ⟨0, Nat.zero_le _, rfl, fun j _ hj => by omega, Below.refl _ _⟩
  case round =>
    obtain ⟨k, hk, rfl, hpre, hB⟩ := hrel
    have hsz : w.heap.size + 1 ≤ wr.heap.size := by have := hB.size; simpa using this
    by_cases hlt : k < l.length
    · obtain ⟨b, off, rfl, hok, c0, c1, c2, q0, _⟩ := elem_PlanPoint h hlt
      have hU := box_under hB
      have f0 := (hU.cell (p := ⟨b, off + k * 3, none⟩) hok).trans c0
      have f1 := (hU.cell (p := ⟨b, off + k * 3 + 1, none⟩) hok).trans c1
      have f2 := (hU.cell (p := ⟨b, off + k * 3 + 2, none⟩) hok).trans c2
      clear c0 c1 c2 hU
      have hkI : (k : Int) < (l.length : Int) := by omega
      obtain ⟨n, q, s, hcur⟩ : ∃ n q s, l[k]'hlt = (n, q, s) := ⟨_, _, _, rfl⟩
      have HY : Hid (n = v → pb (HasNm nmP l v) = true ∧ findD nmP zP l v = (n, q, s)) := fun e => ⟨pb_yes ⟨k, hlt, by rw [hcur]; exact e⟩, (findD_hit hpre.out hlt (by rw [hcur]; exact e)).trans hcur⟩
      have HN : Hid (¬ n = v → NoNm nmP l v (k + 1)) := fun e => hpre.out.next hlt (by rw [hcur]; exact e)
      rw [hcur] at f0 f1 f2
      simp only at f0 f1 f2
      clear hcur hpre h q0
      go_wp2_with fail
      refine (iNmPt _ _ _ _).mono ?_
      rintro e w1 ⟨rfl, hb1⟩
      have hg1 : wr.heap.size < w1.heap.size := by have := hb1.size; simp at this; omega
      have g0 := box_in hb1 0
      have g1 := box_in hb1 1
      have g2 := box_in hb1 2
      simp at g0 g1 g2
      have hB1 := (hB.alloc hsz (.cells #[.string n, .int .i64 q, .int .i64 s] 93)).trans (hb1.mono (by simp; omega))
      clear hb1 f0 f1 f2 hB
      by_cases hq : n = v
      · have HR := HY.out hq
        have hqb : (n.toList == v.toList) = true := beqL.2 hq
        have HR' : Hid (pb (HasNm nmP l v) = true ∧ findD nmP zP l v = (n, q, s)) := HR
        have z0 := box_at hB1 0
        have z1 := box_at hB1 1
        have z2 := box_at hB1 2
        simp at z0 z1 z2
        have hzz : w.heap.size < w1.heap.size := by omega
        have zf : ∀ o, w1.frozen? ⟨w.heap.size, o, none⟩ = false := fun o => (hB1.frozen (p := ⟨w.heap.size, o, none⟩) (by show w.heap.size < w.heap.size + 1; omega)).trans (by simp)
        clear HY HN hq HR
        go_wp2
        refine bodyPost_ret (v := .tuple #[.agg #[.string n, .int .i64 q, .int .i64 s], .bool true]) (by simp [results, Tryz.results49, go_sem, zf, hzz, z0, z1, z2]) rfl ⟨by rw [HR'.out.1, HR'.out.2], ?_⟩
        have hBU := box_under hB1
        repeat (first | refine Below.setCell ?_ (by simp; try omega) _ | exact hBU)
      · have HN1 : Hid (NoNm nmP l v (k + 1)) := HN.out hq
        have hqb : (n.toList == v.toList) = false := beqL_no hq
        clear HY HN hq
        go_wp2
        go_roundw
        case rel => exact ⟨k + 1, by omega, by go_num, HN1, hB1⟩
        case measure => simp [intOf]; omega
    · have hke : k = l.length := by omega
      subst hke
      have HR : Hid (pb (HasNm nmP l v) = false ∧ findD nmP zP l v = zP) := ⟨pb_no hpre.out.all, findD_none hpre.out⟩
      have z0 := box_at hB 0
      have z1 := box_at hB 1
      have z2 := box_at hB 2
      simp at z0 z1 z2
      have hzz : w.heap.size < wr.heap.size := by omega
      have zf : ∀ o, wr.frozen? ⟨w.heap.size, o, none⟩ = false := fun o => (hB.frozen (p := ⟨w.heap.size, o, none⟩) (by show w.heap.size < w.heap.size + 1; omega)).trans (by simp)
      have hBU := box_under hB
      clear hpre hB
      go_wp2
      refine bodyPost_ret (v := .tuple #[.agg #[.string ByteArray.empty, .int .i64 0, .int .i64 0], .bool false]) (by simp [results, Tryz.results49, go_sem, zf, hzz, z0, z1, z2]; rfl) rfl ⟨by rw [HR.out.1, HR.out.2], ?_⟩
      repeat (first | refine Below.setCell ?_ (by simp; try omega) _ | refine Below.alloc ?_ (by simp; omega) _ | exact hBU)

set_option maxRecDepth 100000 in
set_option maxHeartbeats 2000000 in
theorem has_PlanPoint (ao : Option Addr) (cap : Nat) (l : List DPlanPoint) (v : ByteArray) (w : World) (h : SliceAt vPlanPoint (old w) w ao cap l) :
    Calls Tryz.prog 110 #[.slice ao l.length cap, .string v] w fun e w' => e = .returned (.bool (pb (HasNm nmP l v))) ∧ Below w.heap.size w w' := by
  have HF := find_PlanPoint ao cap l v w h
  generalize findD nmP zP l v = r at HF
  go_enter Tryz.func110, Tryz.ntmps110
  go_wp2_with fail
  refine HF.mono ?_
  rintro e w1 ⟨rfl, hb1⟩
  go_wp2
  go_ret
  exact ⟨rfl, by repeat (first | exact hb1 | refine Below.setCell ?_ (by have := hb1.size; simp; try omega) _ | refine Below.alloc ?_ (by have := hb1.size; simp; try omega) _)⟩

end Go.Proofs.YtgnjkpmbppmoeaaGreat
