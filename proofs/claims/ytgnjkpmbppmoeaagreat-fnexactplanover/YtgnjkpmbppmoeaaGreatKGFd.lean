/- DERIVED. impl.planFind over kinds and over points, impl.planHas over points: their walks (written by wip/tools/mk_fd.py). -/
import Derived.Test.YtgnjkpmbppmoeaaGreatKGPw
import Derived.Test.YtgnjkpmbppmoeaaGreatKPlI1
import Derived.Test.YtgnjkpmbppmoeaaGreatKPlI2
import Derived.Test.YtgnjkpmbppmoeaaGreatKPlS1
import Derived.Test.YtgnjkpmbppmoeaaGreatKGPi
import Derived.Test.YtgnjkpmbppmoeaaGreatKGPl
import Derived.Maps.OwnSet
import Derived.Maps.OwnOps
import Derived.Maps.Keyed
namespace Go.Proofs.YtgnjkpmbppmoeaaGreat
open Go.RowKit
set_option linter.unusedSimpArgs false
set_option linter.unusedVariables false

/-- The first of a list with this name, or z. -/
noncomputable def findD {α : Type} (nm : α → ByteArray) (z : α) : List α → ByteArray → α
  | [], _ => z
  | x :: l, v => if pb (nm x = v) then x else findD nm z l v
theorem findD_hit {α : Type} {nm : α → ByteArray} {z : α} {v : ByteArray} : ∀ {l : List α} {k : Nat}, NoNm nm l v k → ∀ hk : k < l.length, nm (l[k]'hk) = v → findD nm z l v = l[k]'hk
  | x :: l, 0, _, hk, he => by
    show (if pb (nm x = v) then x else _) = _
    rw [pb_yes (show nm x = v from he)]
    rfl
  | x :: l, k + 1, h, hk, he => by
    show (if pb (nm x = v) then x else findD nm z l v) = _
    rw [pb_no (show ¬ nm x = v from h 0 (by simp) (by omega))]
    exact findD_hit (l := l) (k := k) (fun i hi hk' => h (i + 1) (by simpa using hi) (by omega)) (by simpa using hk) he
theorem findD_none {α : Type} {nm : α → ByteArray} {z : α} {v : ByteArray} : ∀ {l : List α}, NoNm nm l v l.length → findD nm z l v = z
  | [], _ => rfl
  | x :: l, h => by
    show (if pb (nm x = v) then x else findD nm z l v) = _
    rw [pb_no (show ¬ nm x = v from h 0 (by simp) (by simp))]
    exact findD_none (l := l) (fun i hi hk' => h (i + 1) (by simpa using hi) (by simpa using hk'))
abbrev zK : DPlanKind := (ByteArray.empty, 0, 0)
abbrev zP : DPlanPoint := (ByteArray.empty, 0, 0)

set_option maxRecDepth 100000 in
set_option maxHeartbeats 4000000 in
theorem find_PlanKind (ao : Option Addr) (cap : Nat) (l : List DPlanKind) (v : ByteArray) (w : World) (h : SliceAt vPlanKind (old w) w ao cap l) :
    Calls Tryz.prog 152 #[.slice ao l.length cap, .string v] w fun e w' => e = .returned (.tuple #[.agg #[.string (findD nmK zK l v).1, .int .i64 (findD nmK zK l v).2.1, .int .i64 (findD nmK zK l v).2.2], .bool (pb (HasNm nmK l v))]) ∧ Below w.heap.size w w' := by
  have hcm : l.length ≤ 9223372036854775807 := Nat.le_trans h.1 h.2.1
  have mN := methPlanKindN
  go_enter Tryz.func152, Tryz.ntmps152
  go_wp2
  go_loopw [11] (fun i wr => ∃ k : Nat, k ≤ l.length ∧ i = .int .i64 k ∧ Hid (NoNm nmK l v k) ∧ Below (w.heap.size + 1) (w.alloc (.cells #[.string ByteArray.empty, .int .i64 0, .int .i64 0] 31)) wr) (fun i _ => l.length - (intOf i).toNat)
  case atStart => exact ⟨0, Nat.zero_le _, rfl, fun j _ hj => by omega, Below.refl _ _⟩
  case round =>
    obtain ⟨k, hk, rfl, hpre, hB⟩ := hrel
    have hsz : w.heap.size + 1 ≤ wr.heap.size := by have := hB.size; simpa using this
    by_cases hlt : k < l.length
    · obtain ⟨b, off, rfl, hok, c0, c1, c2, q0, _⟩ := elem_PlanKind h hlt
      have hU := box_under hB
      have f0 := (hU.cell (p := ⟨b, off + k * 3, none⟩) hok).trans c0
      have f1 := (hU.cell (p := ⟨b, off + k * 3 + 1, none⟩) hok).trans c1
      have f2 := (hU.cell (p := ⟨b, off + k * 3 + 2, none⟩) hok).trans c2
      clear c0 c1 c2 hU
      have hkI : (k : Int) < (l.length : Int) := by omega
      obtain ⟨n, q, s, hcur⟩ : ∃ n q s, l[k]'hlt = (n, q, s) := ⟨_, _, _, rfl⟩
      have HY : Hid (n = v → pb (HasNm nmK l v) = true ∧ findD nmK zK l v = (n, q, s)) := fun e => ⟨pb_yes ⟨k, hlt, by rw [hcur]; exact e⟩, (findD_hit hpre.out hlt (by rw [hcur]; exact e)).trans hcur⟩
      have HN : Hid (¬ n = v → NoNm nmK l v (k + 1)) := fun e => hpre.out.next hlt (by rw [hcur]; exact e)
      rw [hcur] at f0 f1 f2
      simp only at f0 f1 f2
      clear hcur hpre h q0
      go_wp2_with fail
      refine (iNmKind _ _ _ _).mono ?_
      rintro e w1 ⟨rfl, hb1⟩
      have hg1 : wr.heap.size < w1.heap.size := by have := hb1.size; simp at this; omega
      have g0 := box_in hb1 0
      have g1 := box_in hb1 1
      have g2 := box_in hb1 2
      simp at g0 g1 g2
      have hB1 := (hB.alloc hsz (.cells #[.string n, .int .i64 q, .int .i64 s] 31)).trans (hb1.mono (by simp; omega))
      clear hb1 f0 f1 f2 hB
      by_cases hq : n = v
      · have HR := HY.out hq
        have hqb : (n.toList == v.toList) = true := beqL.2 hq
        have HR' : Hid (pb (HasNm nmK l v) = true ∧ findD nmK zK l v = (n, q, s)) := HR
        have z0 := box_at hB1 0
        have z1 := box_at hB1 1
        have z2 := box_at hB1 2
        simp at z0 z1 z2
        have hzz : w.heap.size < w1.heap.size := by omega
        have zf : ∀ o, w1.frozen? ⟨w.heap.size, o, none⟩ = false := fun o => (hB1.frozen (p := ⟨w.heap.size, o, none⟩) (by show w.heap.size < w.heap.size + 1; omega)).trans (by simp)
        clear HY HN hq HR
        go_wp2
        refine bodyPost_ret (v := .tuple #[.agg #[.string n, .int .i64 q, .int .i64 s], .bool true]) (by simp [results, Tryz.results152, go_sem, zf, hzz, z0, z1, z2]) rfl ⟨by rw [HR'.out.1, HR'.out.2], ?_⟩
        have hBU := box_under hB1
        repeat (first | refine Below.setCell ?_ (by simp; try omega) _ | exact hBU)
      · have HN1 : Hid (NoNm nmK l v (k + 1)) := HN.out hq
        have hqb : (n.toList == v.toList) = false := beqL_no hq
        clear HY HN hq
        go_wp2
        go_roundw
        case rel => exact ⟨k + 1, by omega, by go_num, HN1, hB1⟩
        case measure => simp [intOf]; omega
    · have hke : k = l.length := by omega
      subst hke
      have HR : Hid (pb (HasNm nmK l v) = false ∧ findD nmK zK l v = zK) := ⟨pb_no hpre.out.all, findD_none hpre.out⟩
      have z0 := box_at hB 0
      have z1 := box_at hB 1
      have z2 := box_at hB 2
      simp at z0 z1 z2
      have hzz : w.heap.size < wr.heap.size := by omega
      have zf : ∀ o, wr.frozen? ⟨w.heap.size, o, none⟩ = false := fun o => (hB.frozen (p := ⟨w.heap.size, o, none⟩) (by show w.heap.size < w.heap.size + 1; omega)).trans (by simp)
      have hBU := box_under hB
      clear hpre hB
      go_wp2
      refine bodyPost_ret (v := .tuple #[.agg #[.string ByteArray.empty, .int .i64 0, .int .i64 0], .bool false]) (by simp [results, Tryz.results152, go_sem, zf, hzz, z0, z1, z2]; rfl) rfl ⟨by rw [HR.out.1, HR.out.2], ?_⟩
      repeat (first | refine Below.setCell ?_ (by simp; try omega) _ | refine Below.alloc ?_ (by simp; omega) _ | exact hBU)

set_option maxRecDepth 100000 in
set_option maxHeartbeats 4000000 in
theorem find_PlanPoint (ao : Option Addr) (cap : Nat) (l : List DPlanPoint) (v : ByteArray) (w : World) (h : SliceAt vPlanPoint (old w) w ao cap l) :
    Calls Tryz.prog 49 #[.slice ao l.length cap, .string v] w fun e w' => e = .returned (.tuple #[.agg #[.string (findD nmP zP l v).1, .int .i64 (findD nmP zP l v).2.1, .int .i64 (findD nmP zP l v).2.2], .bool (pb (HasNm nmP l v))]) ∧ Below w.heap.size w w' := by
  have hcm : l.length ≤ 9223372036854775807 := Nat.le_trans h.1 h.2.1
  have mN := methPlanPointN
  go_enter Tryz.func49, Tryz.ntmps49
  go_wp2
  go_loopw [11] (fun i wr => ∃ k : Nat, k ≤ l.length ∧ i = .int .i64 k ∧ Hid (NoNm nmP l v k) ∧ Below (w.heap.size + 1) (w.alloc (.cells #[.string ByteArray.empty, .int .i64 0, .int .i64 0] 93)) wr) (fun i _ => l.length - (intOf i).toNat)
  case atStart => exact ⟨0, Nat.zero_le _, rfl, fun j _ hj => by omega, Below.refl _ _⟩
  case round =>
    obtain ⟨k, hk, rfl, hpre, hB⟩ := hrel
    have hsz : w.heap.size + 1 ≤ wr.heap.size := by have := hB.size; simpa using this
    by_cases hlt : k < l.length
    · obtain ⟨b, off, rfl, hok, c0, c1, c2, q0, _⟩ := elem_PlanPoint h hlt
      have hU := box_under hB
      have f0 := (hU.cell (p := ⟨b, off + k * 3, none⟩) hok).trans c0
      have f1 := (hU.cell (p := ⟨b, off + k * 3 + 1, none⟩) hok).trans c1
      have f2 := (hU.cell (p := ⟨b, off + k * 3 + 2, none⟩) hok).trans c2
      clear c0 c1 c2 hU
      have hkI : (k : Int) < (l.length : Int) := by omega
      obtain ⟨n, q, s, hcur⟩ : ∃ n q s, l[k]'hlt = (n, q, s) := ⟨_, _, _, rfl⟩
      have HY : Hid (n = v → pb (HasNm nmP l v) = true ∧ findD nmP zP l v = (n, q, s)) := fun e => ⟨pb_yes ⟨k, hlt, by rw [hcur]; exact e⟩, (findD_hit hpre.out hlt (by rw [hcur]; exact e)).trans hcur⟩
      have HN : Hid (¬ n = v → NoNm nmP l v (k + 1)) := fun e => hpre.out.next hlt (by rw [hcur]; exact e)
      rw [hcur] at f0 f1 f2
      simp only at f0 f1 f2
      clear hcur hpre h q0
      go_wp2_with fail
      refine (iNmPt _ _ _ _).mono ?_
      rintro e w1 ⟨rfl, hb1⟩
      have hg1 : wr.heap.size < w1.heap.size := by have := hb1.size; simp at this; omega
      have g0 := box_in hb1 0
      have g1 := box_in hb1 1
      have g2 := box_in hb1 2
      simp at g0 g1 g2
      have hB1 := (hB.alloc hsz (.cells #[.string n, .int .i64 q, .int .i64 s] 93)).trans (hb1.mono (by simp; omega))
      clear hb1 f0 f1 f2 hB
      by_cases hq : n = v
      · have HR := HY.out hq
        have hqb : (n.toList == v.toList) = true := beqL.2 hq
        have HR' : Hid (pb (HasNm nmP l v) = true ∧ findD nmP zP l v = (n, q, s)) := HR
        have z0 := box_at hB1 0
        have z1 := box_at hB1 1
        have z2 := box_at hB1 2
        simp at z0 z1 z2
        have hzz : w.heap.size < w1.heap.size := by omega
        have zf : ∀ o, w1.frozen? ⟨w.heap.size, o, none⟩ = false := fun o => (hB1.frozen (p := ⟨w.heap.size, o, none⟩) (by show w.heap.size < w.heap.size + 1; omega)).trans (by simp)
        clear HY HN hq HR
        go_wp2
        refine bodyPost_ret (v := .tuple #[.agg #[.string n, .int .i64 q, .int .i64 s], .bool true]) (by simp [results, Tryz.results49, go_sem, zf, hzz, z0, z1, z2]) rfl ⟨by rw [HR'.out.1, HR'.out.2], ?_⟩
        have hBU := box_under hB1
        repeat (first | refine Below.setCell ?_ (by simp; try omega) _ | exact hBU)
      · have HN1 : Hid (NoNm nmP l v (k + 1)) := HN.out hq
        have hqb : (n.toList == v.toList) = false := beqL_no hq
        clear HY HN hq
        go_wp2
        go_roundw
        case rel => exact ⟨k + 1, by omega, by go_num, HN1, hB1⟩
        case measure => simp [intOf]; omega
    · have hke : k = l.length := by omega
      subst hke
      have HR : Hid (pb (HasNm nmP l v) = false ∧ findD nmP zP l v = zP) := ⟨pb_no hpre.out.all, findD_none hpre.out⟩
      have z0 := box_at hB 0
      have z1 := box_at hB 1
      have z2 := box_at hB 2
      simp at z0 z1 z2
      have hzz : w.heap.size < wr.heap.size := by omega
      have zf : ∀ o, wr.frozen? ⟨w.heap.size, o, none⟩ = false := fun o => (hB.frozen (p := ⟨w.heap.size, o, none⟩) (by show w.heap.size < w.heap.size + 1; omega)).trans (by simp)
      have hBU := box_under hB
      clear hpre hB
      go_wp2
      refine bodyPost_ret (v := .tuple #[.agg #[.string ByteArray.empty, .int .i64 0, .int .i64 0], .bool false]) (by simp [results, Tryz.results49, go_sem, zf, hzz, z0, z1, z2]; rfl) rfl ⟨by rw [HR.out.1, HR.out.2], ?_⟩
      repeat (first | refine Below.setCell ?_ (by simp; try omega) _ | refine Below.alloc ?_ (by simp; omega) _ | exact hBU)

set_option maxRecDepth 100000 in
set_option maxHeartbeats 2000000 in
theorem has_PlanPoint (ao : Option Addr) (cap : Nat) (l : List DPlanPoint) (v : ByteArray) (w : World) (h : SliceAt vPlanPoint (old w) w ao cap l) :
    Calls Tryz.prog 110 #[.slice ao l.length cap, .string v] w fun e w' => e = .returned (.bool (pb (HasNm nmP l v))) ∧ Below w.heap.size w w' := by
  have HF := find_PlanPoint ao cap l v w h
  generalize findD nmP zP l v = r at HF
  go_enter Tryz.func110, Tryz.ntmps110
  go_wp2_with fail
  refine HF.mono ?_
  rintro e w1 ⟨rfl, hb1⟩
  go_wp2
  go_ret
  exact ⟨rfl, by repeat (first | exact hb1 | refine Below.setCell ?_ (by have := hb1.size; simp; try omega) _ | refine Below.alloc ?_ (by have := hb1.size; simp; try omega) _)⟩

end Go.Proofs.YtgnjkpmbppmoeaaGreat

/- DERIVED. A slice of texts, wherever it begins in its block. -/
namespace Go.Proofs.YtgnjkpmbppmoeaaGreat
open Go.RowKit
set_option linter.unusedSimpArgs false
set_option linter.unusedVariables false

def TxO (w : World) (ao : Option Addr) (ws : List ByteArray) : Prop :=
  ws = [] ∨ ∃ g off, ao = some ⟨g, off, none⟩ ∧ g < w.heap.size ∧ ∀ i (h : i < ws.length), w.cell? ⟨g, off + i, none⟩ = some (.string (ws[i]'h))
theorem TxO.kept {w w' : World} {ao : Option Addr} {ws : List ByteArray} (h : TxO w ao ws) (hb : ∀ g, g < w.heap.size → w'.heap[g]? = w.heap[g]?) (hs : w.heap.size ≤ w'.heap.size) : TxO w' ao ws := by
  rcases h with h0 | ⟨g, off, h1, h2, h3⟩
  · exact .inl h0
  · exact .inr ⟨g, off, h1, by omega, fun i hi => (World.cell?_of_block (a := ⟨g, off + i, none⟩) (hb g h2)).trans (h3 i hi)⟩
theorem TxO.later {w w' : World} {ao : Option Addr} {ws : List ByteArray} (h : TxO w ao ws) (hb : Below w.heap.size w w') : TxO w' ao ws := h.kept (fun g hg => hb.block g hg) hb.size
theorem TxO.of_txt {w : World} {ao : Option Addr} {ws : List ByteArray} (h : TxtAt w ao ws) : TxO w ao ws := by
  rcases h with h0 | ⟨g, h1, h2, h3⟩
  · exact .inl h0
  · exact .inr ⟨g, 0, h1, h2, fun i hi => by rw [Nat.zero_add]; exact h3 i hi⟩
theorem TxO.of_slice {w : World} {ao : Option Addr} {cap : Nat} {ws : List ByteArray} (h : SliceAt vStr (old w) w ao cap ws) : TxO w ao ws := by
  rcases h.2.2 with h0 | ⟨b, off, h1, h2, h3⟩
  · exact .inl h0
  · refine .inr ⟨b, off, h1, h2, fun i hi => ?_⟩
    obtain ⟨c, ⟨hc, _⟩, hj⟩ := h3 i hi
    have := hj 0 (by decide)
    rw [hc] at this
    have e : vStr.size = 1 := rfl
    rw [e] at this
    simpa using this
theorem TxO.at {w : World} {ao : Option Addr} {ws : List ByteArray} (h : TxO w ao ws) {i : Nat} (hi : i < ws.length) : ∃ g off, ao = some ⟨g, off, none⟩ ∧ g < w.heap.size ∧ ∀ j (hj : j < ws.length), w.cell? ⟨g, off + j, none⟩ = some (.string (ws[j]'hj)) := by
  rcases h with h | ⟨g, off, h1, h2, h3⟩
  · subst h; simp at hi
  · exact ⟨g, off, h1, h2, h3⟩

end Go.Proofs.YtgnjkpmbppmoeaaGreat

/- DERIVED. impl.planRouteFits: its walk. -/
namespace Go.Proofs.YtgnjkpmbppmoeaaGreat
open Go.RowKit
set_option linter.unusedSimpArgs false
set_option linter.unusedVariables false

set_option maxRecDepth 100000 in
set_option maxHeartbeats 4000000 in
theorem iRouteO (ao : Option Addr) (cap : Nat) (ps : List DPlanPoint) (aw : Option Addr) (capw : Nat) (ws : List ByteArray) (w1 : World) (h : SliceAt vPlanPoint (old w1) w1 ao cap ps) (hT : TxO w1 aw ws) (hwl : ws.length ≤ 1048577) :
    Calls Tryz.prog 82 #[.slice ao ps.length cap, .slice aw ws.length capw] w1 fun e w' => e = .returned (.bool (pb (RouteOk ps ws))) ∧ Below w1.heap.size w1 w' := by
  go_enter Tryz.func82, Tryz.ntmps82
  by_cases hr : InR (ws.length : Int) 2 8
  · have hr1 := hr.1
    have hr2 := hr.2
    have HNO : Hid (¬ RouteTo ps ws ws.length → pb (RouteOk ps ws) = false) := fun h1 => pb_no (fun h2 => h1 h2.2)
    have HYES : Hid (RouteTo ps ws ws.length → pb (RouteOk ps ws) = true) := fun h1 => pb_yes ⟨hr, h1⟩
    go_wp2_with (go_at_call 109; refine (from_yes _ _ _ _ hr).mono ?_; rintro e w' ⟨rfl, rfl⟩)
    go_loopw [13] (fun i wr => ∃ k : Nat, k ≤ ws.length ∧ i = .int .i64 k ∧ Hid (RouteTo ps ws k) ∧ Below w1.heap.size w1 wr) (fun i _ => ws.length - (intOf i).toNat)
    case atStart => exact ⟨0, Nat.zero_le _, rfl, RouteTo.zero, Below.refl _ _⟩
    case round =>
      obtain ⟨k, hk, rfl, hpre, hb⟩ := hrel
      by_cases hlt : k < ws.length
      · have hk1 : k - 1 < ws.length := by omega
        obtain ⟨g, off, rfl, hg, hc⟩ := (hT.later hb).at hlt
        have f0 := hc k hlt
        have f1 := hc (k - 1) hk1
        have HBADH : Hid (¬ HasNm nmP ps (ws[k]'hlt) → pb (RouteOk ps ws) = false) := fun h1 => HNO.out (fun h2 => h1 (h2 k hlt hlt).1)
        have HBADE : Hid (∀ h0 : 0 < k, (ws[k - 1]'hk1) = (ws[k]'hlt) → pb (RouteOk ps ws) = false) := fun h0 h1 => HNO.out (fun h2 => (h2 k hlt hlt).2 h0 h1)
        have HOK : Hid (HasNm nmP ps (ws[k]'hlt) → (∀ h0 : 0 < k, ¬ (ws[k - 1]'hk1) = (ws[k]'hlt)) → RouteTo ps ws (k + 1)) := fun h1 h2 => hpre.out.next hlt h1 h2
        have hkI : (k : Int) < (ws.length : Int) := by omega
        clear hc hpre HNO HYES hT
        generalize ws[k]'hlt = wk at *
        generalize ws[k - 1]'hk1 = wp at *
        go_wp2_with fail
        refine (has_PlanPoint ao cap ps wk _ (h.later hb)).mono ?_
        rintro e w2 ⟨rfl, hb2⟩
        have hb12 := hb.trans (hb2.mono hb.size)
        have g1 := (hb2.cell (p := ⟨g, off + (k - 1), none⟩) hg).trans f1
        have hg2 : g < w2.heap.size := Nat.lt_of_lt_of_le hg hb2.size
        clear f0 f1 hb2 hg
        by_cases hh : HasNm nmP ps wk
        · rw [pb_yes hh]
          by_cases hk0 : 0 < k
          · have hd0 : decide ((0 : Int) < (k : Int)) = true := by simp; omega
            have hkI1 : (k : Int) - 1 < (ws.length : Int) := by omega
            have hkN : ((k : Int) - 1).toNat = k - 1 := by omega
            have hk1I : (1 : Int) ≤ (k : Int) := by omega
            by_cases he : wp = wk
            · have HF : Hid (pb (RouteOk ps ws) = false) := HBADE.out hk0 he
              have heb : (wp.toList == wk.toList) = true := beqL.2 he
              clear HBADH HBADE HOK he hh h
              go_wp2
              go_ret
              exact ⟨by rw [HF.out]; rfl, hb12⟩
            · have HN1 : Hid (RouteTo ps ws (k + 1)) := HOK.out hh (fun _ => he)
              have heb : (wp.toList == wk.toList) = false := beqL_no he
              clear HBADH HBADE HOK he hh h
              go_wp2
              go_roundw
              case rel => exact ⟨k + 1, by omega, by go_num, HN1, hb12⟩
              case measure => simp [intOf]; omega
          · have hd0 : decide ((0 : Int) < (k : Int)) = false := by simp; omega
            have HN1 : Hid (RouteTo ps ws (k + 1)) := HOK.out hh (fun h0 => absurd h0 hk0)
            clear HBADH HBADE HOK hh h
            go_wp2
            go_roundw
            case rel => exact ⟨k + 1, by omega, by go_num, HN1, hb12⟩
            case measure => simp [intOf]; omega
        · rw [pb_no hh]
          have HF : Hid (pb (RouteOk ps ws) = false) := HBADH.out hh
          clear HBADH HBADE HOK hh h
          go_wp2
          go_ret
          exact ⟨by rw [HF.out]; rfl, hb12⟩
      · have hke : k = ws.length := by omega
        subst hke
        have HR : Hid (pb (RouteOk ps ws) = true) := HYES.out hpre.out
        clear hpre HYES HNO h hT
        go_wp2
        go_ret
        exact ⟨by rw [HR.out]; rfl, hb⟩
  · have HR : Hid (pb (RouteOk ps ws) = false) := pb_no (fun h1 => hr h1.1)
    go_wp2_with (go_at_call 109; refine (from_no _ _ _ _ hr).mono ?_; rintro e w' ⟨rfl, rfl⟩)
    go_ret
    exact ⟨by rw [HR.out]; rfl, Below.refl _ _⟩

end Go.Proofs.YtgnjkpmbppmoeaaGreat

/- DERIVED. What a value says: the five read methods: their walks (written by wip/tools/mk_rv.py). -/
namespace Go.Proofs.YtgnjkpmbppmoeaaGreat
open Go.RowKit
set_option linter.unusedSimpArgs false
set_option linter.unusedVariables false

set_option maxHeartbeats 1000000 in
theorem readKind (ao : Option Addr) (cap : Nat) (l : List DPlanKind) (v : ByteArray) (w : World) (h : SliceAt vPlanKind (old w) w ao cap l) :
    Calls Tryz.prog 151 #[.agg #[.slice ao l.length cap], .string v] w fun e w' => e = .returned (.tuple #[.iface 31 (.agg #[.string (findD nmK zK l v).1, .int .i64 (findD nmK zK l v).2.1, .int .i64 (findD nmK zK l v).2.2]), .bool (pb (HasNm nmK l v))]) ∧ Below w.heap.size w w' := by
  have hb0 : Below w.heap.size w (w.alloc (.cells #[.slice ao l.length cap] 184)) := (Below.refl _ _).alloc (Nat.le_refl _) _
  have HF := find_PlanKind ao cap l v _ (h.later hb0)
  generalize findD nmK zK l v = r at *
  generalize pb (HasNm nmK l v) = bv at *
  obtain ⟨n, q, s⟩ := r
  simp only at *
  go_enter Tryz.func151, Tryz.ntmps151
  go_wp2_with fail
  refine HF.mono ?_
  rintro e w1 ⟨rfl, hb1⟩
  have hB1 := hb0.trans (hb1.mono hb0.size)
  have hz1 := hB1.size
  clear HF hb1 hb0
  go_wp2
  refine bodyPost_ret (v := .tuple #[.iface 31 (.agg #[.string n, .int .i64 q, .int .i64 s]), .bool bv]) (by simp [results, Tryz.results151, go_sem]) rfl ⟨rfl, ?_⟩
  repeat (first | exact hB1 | refine Below.setCell ?_ (by first | (simp; done) | omega | (simp; omega)) _ | refine Below.alloc ?_ (by first | omega | (simp; omega)) _)

set_option maxHeartbeats 1000000 in
theorem readLevel (v : ByteArray) (w : World) (hv : v.size ≤ maxLen) :
    Calls Tryz.prog 156 #[.agg #[], .string v] w fun e w' => e = .returned (.tuple #[.iface 196 (.int .i64 (decZ v)), .bool (pb (LevelOk v))]) ∧ Below w.heap.size w w' := by
  have hb0 : Below w.heap.size w (w.alloc (.cells #[] 187)) := (Below.refl _ _).alloc (Nat.le_refl _) _
  have e1 : Hid (DecOk v → decZ v = decN v) := fun hd => (decZ_yes hd).out.2
  go_enter Tryz.func156, Tryz.ntmps156
  go_wp2_with fail
  refine (iDec v _ hv).mono ?_
  rintro e w1 ⟨rfl, hb1⟩
  have hB1 := hb0.trans (hb1.mono hb0.size)
  clear hb1
  by_cases hd : DecOk v
  · rw [pb_yes hd]
    by_cases hr : InR (decZ v) 1 6
    · have HR : Hid (pb (LevelOk v) = true) := pb_yes ⟨hd, by rw [← e1.out hd]; exact hr⟩
      clear hd
      go_wp2_with (go_at_call 109; refine (from_yes _ _ _ _ hr).mono ?_; rintro e w' ⟨rfl, rfl⟩)
      refine bodyPost_ret (v := .tuple #[.iface 196 (.int .i64 (decZ v)), .bool true]) (by simp [results, Tryz.results156, go_sem]) rfl ?_
      exact ⟨by rw [HR.out], hB1⟩
    · have HR : Hid (pb (LevelOk v) = false) := pb_no (fun h => hr (by rw [e1.out hd]; exact h.2))
      clear hd
      go_wp2_with (go_at_call 109; refine (from_no _ _ _ _ hr).mono ?_; rintro e w' ⟨rfl, rfl⟩)
      refine bodyPost_ret (v := .tuple #[.iface 196 (.int .i64 (decZ v)), .bool false]) (by simp [results, Tryz.results156, go_sem]) rfl ?_
      exact ⟨by rw [HR.out], hB1⟩
  · rw [pb_no hd]
    have HR : Hid (pb (LevelOk v) = false) := pb_no (fun h => hd h.1)
    clear hd
    go_wp2
    refine bodyPost_ret (v := .tuple #[.iface 196 (.int .i64 (decZ v)), .bool false]) (by simp [results, Tryz.results156, go_sem]) rfl ?_
    exact ⟨by rw [HR.out], hB1⟩

set_option maxHeartbeats 1000000 in
theorem readState (v : ByteArray) (w : World) :
    Calls Tryz.prog 158 #[.agg #[], .string v] w fun e w' => e = .returned (.tuple #[.iface 167 (.string v), .bool (pb (StateOk v))]) ∧ Below w.heap.size w w' := by
  have hb0 : Below w.heap.size w (w.alloc (.cells #[] 190)) := (Below.refl _ _).alloc (Nat.le_refl _) _
  have eo : openB.toList = [111, 112, 101, 110] := by rw [ByteArray.toList_eq]; rfl
  have ec : closedB.toList = [99, 108, 111, 115, 101, 100] := by rw [ByteArray.toList_eq]; rfl
  by_cases h1 : v = openB
  · have HR : Hid (pb (StateOk v) = true) := pb_yes (.inl h1)
    have hb : (v.toList == [111, 112, 101, 110]) = true := by rw [← eo]; exact beqL.2 h1
    clear h1 eo ec
    go_enter Tryz.func158, Tryz.ntmps158
    go_wp2
    refine bodyPost_ret (v := .tuple #[.iface 167 (.string v), .bool true]) (by simp [results, Tryz.results158, go_sem]) rfl ?_
    exact ⟨by rw [HR.out], hb0⟩
  · have hb : (v.toList == [111, 112, 101, 110]) = false := by rw [← eo]; exact beqL_no h1
    by_cases h2 : v = closedB
    · have HR : Hid (pb (StateOk v) = true) := pb_yes (.inr h2)
      have hb2 : (v.toList == [99, 108, 111, 115, 101, 100]) = true := by rw [← ec]; exact beqL.2 h2
      clear h1 h2 eo ec
      go_enter Tryz.func158, Tryz.ntmps158
      go_wp2
      refine bodyPost_ret (v := .tuple #[.iface 167 (.string v), .bool true]) (by simp [results, Tryz.results158, go_sem, hb2]) rfl ?_
      exact ⟨by rw [HR.out], hb0⟩
    · have HR : Hid (pb (StateOk v) = false) := pb_no (fun h => h.elim h1 h2)
      have hb2 : (v.toList == [99, 108, 111, 115, 101, 100]) = false := by rw [← ec]; exact beqL_no h2
      clear h1 h2 eo ec
      go_enter Tryz.func158, Tryz.ntmps158
      go_wp2
      refine bodyPost_ret (v := .tuple #[.iface 167 (.string v), .bool false]) (by simp [results, Tryz.results158, go_sem, hb2]) rfl ?_
      exact ⟨by rw [HR.out], hb0⟩

theorem TxtAt.two {w : World} {ao : Option Addr} {a b : ByteArray} (h : TxtAt w ao [a, b]) : ∃ g, ao = some ⟨g, 0, none⟩ ∧ g < w.heap.size ∧ w.cell? ⟨g, 0, none⟩ = some (.string a) ∧ w.cell? ⟨g, 1, none⟩ = some (.string b) := by
  rcases h with h | ⟨g, h1, h2, h3⟩
  · cases h
  · exact ⟨g, h1, h2, h3 0 (by simp), h3 1 (by simp)⟩

theorem timeOk_two (a b : ByteArray) : TimeOk [a, b] ↔ DecOk a ∧ DecOk b ∧ decN a ≤ decN b ∧ decN b ≤ 10000 := by
  constructor
  · rintro ⟨x, y, h, h1⟩
    simp only [List.cons.injEq, and_true] at h
    obtain ⟨rfl, rfl⟩ := h
    exact h1
  · intro h
    exact ⟨a, b, rfl, h⟩

theorem two_of {ws : List ByteArray} (h : ws.length = 2) : ∃ a b, ws = [a, b] := by
  match ws, h with
  | [a, b], _ => exact ⟨a, b, rfl⟩

set_option maxRecDepth 100000 in
set_option maxHeartbeats 2000000 in
theorem readTime (v : ByteArray) (w : World) (hv : v.size ≤ 1048576) :
    Calls Tryz.prog 153 #[.agg #[], .string v] w fun e w' => ∃ va, e = .returned (.tuple #[va, .bool (pb (TimeOk (wordsP v)))]) ∧ (∀ a b, wordsP v = [a, b] → va = .iface 194 (.agg #[.int .i64 (decZ a), .int .i64 (decZ b)])) ∧ Below w.heap.size w w' := by
  have hb0 : Below w.heap.size w (w.alloc (.cells #[] 186)) := (Below.refl _ _).alloc (Nat.le_refl _) _
  have hsz : ∀ x ∈ wordsP v, x.size ≤ maxLen := fun x hx => Nat.le_trans (wordsP_sizes v x hx) (by unfold maxLen; omega)
  have HWL : Hid ((wordsP v).length ≤ 1048577) := Nat.le_trans (wordsP_len v) (by omega)
  have HI := fun W => iWords v W hv
  generalize wordsP v = ws at *
  go_enter Tryz.func153, Tryz.ntmps153
  go_wp2_with fail
  refine (HI _).mono ?_
  rintro e w1 ⟨ao, cap, rfl, hT, hb1⟩
  have hB1 := hb0.trans (hb1.mono hb0.size)
  clear hb1 hb0 HI
  have hwl := HWL.out
  by_cases hl : ws.length = 2
  · obtain ⟨a, b, rfl⟩ := two_of hl
    have ha := hsz a (by simp)
    have hb := hsz b (by simp)
    obtain ⟨g, rfl, hg, c0, c1⟩ := hT.two
    clear hl hsz HWL hwl hT
    simp only [List.length_cons, List.length_nil, Nat.zero_add, Nat.reduceAdd]
    go_wp2_with fail
    refine (iDec a _ ha).mono ?_
    rintro e w2 ⟨rfl, hb2⟩
    have d1 := (hb2.cell (p := ⟨g, 1, none⟩) hg).trans c1
    have hg2 : g < w2.heap.size := Nat.lt_of_lt_of_le hg hb2.size
    have hB2 := hB1.trans (hb2.mono hB1.size)
    clear c0 c1 hg hb2 hB1
    go_wp2_with fail
    refine (iDec b _ hb).mono ?_
    rintro e w3 ⟨rfl, hb3⟩
    have hB3 := hB2.trans (hb3.mono hB2.size)
    clear hb3 hB2 d1
    have HE := timeOk_two a b
    have hv2 : Hid (∀ a' b', [a, b] = [a', b'] → (.iface 194 (.agg #[.int .i64 (decZ a), .int .i64 (decZ b)]) : Value) = .iface 194 (.agg #[.int .i64 (decZ a'), .int .i64 (decZ b')])) := fun a' b' e => by
      simp only [List.cons.injEq, and_true] at e
      rw [e.1, e.2]
    have hz1 : DecOk a → decZ a = decN a := fun h1 => (decZ_yes h1).out.2
    have hz2 : DecOk b → decZ b = decN b := fun h1 => (decZ_yes h1).out.2
    have HZ : Hid (TimeOk [a, b] ↔ DecOk a ∧ DecOk b ∧ decZ a ≤ decZ b ∧ decZ b ≤ 10000) := ⟨fun h => by
      obtain ⟨h1, h2, h3, h4⟩ := HE.1 h
      exact ⟨h1, h2, by rw [hz1 h1, hz2 h2]; exact h3, by rw [hz2 h2]; exact h4⟩, fun ⟨h1, h2, h3, h4⟩ => HE.2 ⟨h1, h2, by rw [← hz1 h1, ← hz2 h2]; exact h3, by rw [← hz2 h2]; exact h4⟩⟩
    clear HE hz1 hz2
    by_cases h1 : DecOk a
    · rw [pb_yes h1]
      by_cases h2 : DecOk b
      · rw [pb_yes h2]
        by_cases h3 : decZ a ≤ decZ b
        · by_cases h4 : decZ b ≤ 10000
          · have HR : Hid (pb (TimeOk [a, b]) = true) := pb_yes (HZ.out.2 ⟨h1, h2, h3, h4⟩)
            clear h1 h2 HZ
            go_wp2
            refine bodyPost_ret (v := .tuple #[.iface 194 (.agg #[.int .i64 (decZ a), .int .i64 (decZ b)]), .bool true]) (by simp [results, Tryz.results153, go_sem]) rfl ?_
            exact ⟨_, by rw [HR.out], hv2.out, hB3⟩
          · have HR : Hid (pb (TimeOk [a, b]) = false) := pb_no (fun h => h4 (HZ.out.1 h).2.2.2)
            have h4d : decide (decZ b ≤ 10000) = false := by simp; omega
            clear h1 h2 HZ
            go_wp2
            refine bodyPost_ret (v := .tuple #[.iface 194 (.agg #[.int .i64 (decZ a), .int .i64 (decZ b)]), .bool false]) (by simp [results, Tryz.results153, go_sem, h4d, h3]) rfl ?_
            exact ⟨_, by rw [HR.out], hv2.out, hB3⟩
        · have HR : Hid (pb (TimeOk [a, b]) = false) := pb_no (fun h => h3 (HZ.out.1 h).2.2.1)
          have h3d : decide (decZ a ≤ decZ b) = false := by simp; omega
          clear h1 h2 HZ
          go_wp2
          refine bodyPost_ret (v := .tuple #[.iface 194 (.agg #[.int .i64 (decZ a), .int .i64 (decZ b)]), .bool false]) (by simp [results, Tryz.results153, go_sem, h3d]) rfl ?_
          exact ⟨_, by rw [HR.out], hv2.out, hB3⟩
      · rw [pb_no h2]
        have HR : Hid (pb (TimeOk [a, b]) = false) := pb_no (fun h => h2 (HZ.out.1 h).2.1)
        clear h1 h2 HZ
        go_wp2
        refine bodyPost_ret (v := .tuple #[.iface 194 (.agg #[.int .i64 (decZ a), .int .i64 (decZ b)]), .bool false]) (by simp [results, Tryz.results153, go_sem]) rfl ?_
        exact ⟨_, by rw [HR.out], hv2.out, hB3⟩
    · rw [pb_no h1]
      have HR : Hid (pb (TimeOk [a, b]) = false) := pb_no (fun h => h1 (HZ.out.1 h).1)
      clear h1 HZ
      go_wp2
      refine bodyPost_ret (v := .tuple #[.iface 194 (.agg #[.int .i64 (decZ a), .int .i64 (decZ b)]), .bool false]) (by simp [results, Tryz.results153, go_sem]) rfl ?_
      exact ⟨_, by rw [HR.out], hv2.out, hB3⟩
  · have HR : Hid (pb (TimeOk ws) = false) := pb_no (fun ⟨a, b, h, _⟩ => hl (by rw [h]; rfl))
    have hlb : ((ws.length : Int) != 2) = true := by simp; omega
    clear hT hsz
    go_wp2
    refine bodyPost_ret (v := .tuple #[.nilIface, .bool false]) (by simp [results, Tryz.results153, go_sem]) rfl ?_
    exact ⟨_, by rw [HR.out], fun a b e => absurd (by rw [e]; rfl) hl, hB1⟩


set_option maxRecDepth 100000 in
set_option maxHeartbeats 2000000 in
theorem readRoute (ao : Option Addr) (cap : Nat) (ps : List DPlanPoint) (v : ByteArray) (w : World) (h : SliceAt vPlanPoint (old w) w ao cap ps) (hv : v.size ≤ 1048576) :
    Calls Tryz.prog 157 #[.agg #[.slice ao ps.length cap], .string v] w fun e w' => ∃ va, e = .returned (.tuple #[va, .bool (pb (RouteOk ps (wordsP v)))]) ∧ (RouteOk ps (wordsP v) → ∃ aw capw, va = .iface 198 (.slice aw (wordsP v).length capw) ∧ w'.ownsRow w.heap.size 9 1 (.slice aw (wordsP v).length capw) (wordsP v).length (strB (wordsP v))) ∧ Below w.heap.size w w' := by
  have hb0 : Below w.heap.size w (w.alloc (.cells #[.slice ao ps.length cap] 189)) := (Below.refl _ _).alloc (Nat.le_refl _) _
  have HWL : Hid ((wordsP v).length ≤ 1048577) := Nat.le_trans (wordsP_len v) (by omega)
  have HI := fun W => iWordsO v W hv
  generalize wordsP v = ws at *
  have hwl := HWL.out
  go_enter Tryz.func157, Tryz.ntmps157
  go_wp2_with fail
  refine (HI _).mono ?_
  rintro e w1 ⟨aw, capw, rfl, hO, hb1⟩
  have hB1 := hb0.trans (hb1.mono hb0.size)
  have x0 := box_in hb1 0
  simp at x0
  have hz1 : w.heap.size < w1.heap.size := by have := hb1.size; simp at this; omega
  have hT := TxO.of_txt (txt_of_owns rfl hO)
  have HO1 : Hid (w1.ownsRow w.heap.size 9 1 (.slice aw ws.length capw) ws.length (strB ws)) := by
    have h := hO
    rw [World.size_alloc] at h
    exact own_lo1 h
  clear hb1 hb0 HI HWL hO
  go_wp2_with fail
  refine (iRouteO ao cap ps aw capw ws _ (h.later hB1) hT hwl).mono ?_
  rintro e w2 ⟨rfl, hb2⟩
  have hB2 := hB1.trans (hb2.mono hB1.size)
  have HO2 : Hid (w2.ownsRow w.heap.size 9 1 (.slice aw ws.length capw) ws.length (strB ws)) := owns_below HO1.out hb2
  clear hb2 hB1 HO1 hT x0
  by_cases g : RouteOk ps ws
  · rw [pb_yes g]
    have G : Hid (RouteOk ps ws) := g
    clear g
    go_wp2
    refine bodyPost_ret (v := .tuple #[.iface 198 (.slice aw ws.length capw), .bool true]) (by simp [results, Tryz.results157, go_sem]) rfl ?_
    exact ⟨_, by rw [pb_yes G.out], fun _ => ⟨aw, capw, rfl, HO2.out⟩, hB2⟩
  · rw [pb_no g]
    have G : Hid (¬ RouteOk ps ws) := g
    clear g
    go_wp2
    refine bodyPost_ret (v := .tuple #[.nilIface, .bool false]) (by simp [results, Tryz.results157, go_sem]) rfl ?_
    exact ⟨_, by rw [pb_no G.out], fun h => absurd h G.out, hB2⟩

end Go.Proofs.YtgnjkpmbppmoeaaGreat

/- DERIVED. impl.planSaids: a map of what is said, by what a change is about: its walk. -/
namespace Go.Proofs.YtgnjkpmbppmoeaaGreat
namespace Psd
open Go.RowKit Go.Maps
set_option linter.unusedSimpArgs false
set_option linter.unusedVariables false

/-- An element as it is. -/
def asIs (v : Value) : Option (DataW Value × List MemPlace) := some (.held v, [])

theorem mapT : Tryz.prog.underlying 163 = some (.map 3 161) := by kernel_rfl
theorem intT : Tryz.prog.underlying 3 = some (.int .i64) := by kernel_rfl
theorem saidZ (u : World) : (zeroValue 161).run Tryz.prog u = .ok .nilIface u := by kernel_rfl
theorem keyed : Keyed Tryz.prog 3 := int_keyed intT
theorem key (a : Int) (h : In64 a) : keyOf Tryz.prog 3 (.int .i64 a) = some (.int .i64 a) := keyOf_int_mk intT (by simpa [In64, Lit.wf, IntKind.min, IntKind.max, IntKind.signed, IntKind.bits] using h)

/-- What is said of thing a. -/
def saidV (ks ps : Value) (a : Int) : Value :=
  if a = 1 then .iface 184 (.agg #[ks]) else if a = 2 then .iface 186 (.agg #[]) else if a = 3 then .iface 187 (.agg #[]) else if a = 4 then .iface 189 (.agg #[ps]) else if a = 5 then .iface 190 (.agg #[]) else .nilIface

theorem put_at {D : DataW Value} (hD : IsMap D) {a k : Int} (hk : In64 k) (d z : DataW Value) : (D.put (.int .i64 k) d).atKey (.int .i64 a) z = if a = k then d else D.atKey (.int .i64 a) z := by
  by_cases e : a = k
  · subst e; rw [if_pos rfl, atKey_put_same hD (keyed.key (key a hk))]
  · rw [if_neg e, atKey_put_other (fun h => e (by cases h; rfl))]
theorem put_has {D : DataW Value} (hD : IsMap D) {a k : Int} (hk : In64 k) (d : DataW Value) : Maps.has (D.put (.int .i64 k) d) (.int .i64 a) = if a = k then true else Maps.has D (.int .i64 a) := by
  by_cases e : a = k
  · subst e; rw [if_pos rfl, has_put_same hD (keyed.key (key a hk))]
  · rw [if_neg e, has_put_other (fun h => e (by cases h; rfl))]

set_option maxRecDepth 100000 in
set_option maxHeartbeats 4000000 in
theorem said_any (ao0 ao1 : Option Addr) (n0 n1 cap0 cap1 : Nat) (w : World) :
    Calls Tryz.prog 103 #[.agg #[.slice ao0 n0 cap0, .slice ao1 n1 cap1]] w fun e w' => ∃ B : Nat, e = .returned (.map (some B)) ∧ (∀ a : Int, In64 a → (Instr.lookup 163 (.map (some B)) (.int .i64 a) true).run Tryz.prog w' = .ok (.tuple #[saidV (.slice ao0 n0 cap0) (.slice ao1 n1 cap1) a, .bool (decide (1 ≤ a ∧ a ≤ 5))]) w') ∧ Below w.heap.size w w' := by
  have hmm := @run_makeMap Tryz.prog
  have hb0 : Below w.heap.size w ((w.alloc (.cells #[.slice ao0 n0 cap0, .slice ao1 n1 cap1] 40)).alloc (.map #[] 0)) := ((Below.refl _ _).alloc (Nat.le_refl _) _).alloc (by simp) _
  have hown0 : ((w.alloc (.cells #[.slice ao0 n0 cap0, .slice ao1 n1 cap1] 40)).alloc (.map #[] 0)).ownsMap Tryz.prog 3 asIs (w.heap.size + 1) 0 (.map []) := by
    have := World.ownsMap_made (H := Value) (w.alloc (.cells #[.slice ao0 n0 cap0, .slice ao1 n1 cap1] 40)) Tryz.prog 3 asIs
    rwa [World.size_alloc] at this
  have i1 : In64 1 := by unfold In64; omega
  have i2 : In64 2 := by unfold In64; omega
  have i3 : In64 3 := by unfold In64; omega
  have i4 : In64 4 := by unfold In64; omega
  have i5 : In64 5 := by unfold In64; omega
  obtain ⟨w1, r1, o1, g1⟩ := hown0.update keyed mapT (by unfold maxLen; omega) (key 1 i1) (show asIs (.iface 184 (.agg #[.slice ao0 n0 cap0])) = some (.held _, []) from rfl)
  obtain ⟨w2, r2, o2, g2⟩ := o1.update keyed mapT (by unfold maxLen; omega) (key 2 i2) (show asIs (.iface 186 (.agg #[])) = some (.held _, []) from rfl)
  obtain ⟨w3, r3, o3, g3⟩ := o2.update keyed mapT (by unfold maxLen; omega) (key 3 i3) (show asIs (.iface 187 (.agg #[])) = some (.held _, []) from rfl)
  obtain ⟨w4, r4, o4, g4⟩ := o3.update keyed mapT (by unfold maxLen; omega) (key 4 i4) (show asIs (.iface 189 (.agg #[.slice ao1 n1 cap1])) = some (.held _, []) from rfl)
  obtain ⟨w5, r5, o5, g5⟩ := o4.update keyed mapT (by unfold maxLen; omega) (key 5 i5) (show asIs (.iface 190 (.agg #[])) = some (.held _, []) from rfl)
  have hG := ((((g1.trans g2).trans g3).trans g4).trans g5)
  have hB5 : Below w.heap.size w w5 := hb0.grown hG hb0.size (fun j hj => by cases hj; omega)
  have hgc : ∀ (W : World), ((w.alloc (.cells #[.slice ao0 n0 cap0, .slice ao1 n1 cap1] 40)).alloc (.map #[] 0)).grownBy W (some (w.heap.size + 1)) → W.cell? ⟨w.heap.size, 1, none⟩ = some (.slice ao1 n1 cap1) := by
    intro W hg
    have hb : W.heap[w.heap.size]? = some (.cells #[.slice ao0 n0 cap0, .slice ao1 n1 cap1] 40 (0, 0)) := (hg.block w.heap.size (by simp; omega) (by simp)).trans ((heap_alloc_old _ _ (by simp)).trans (heap_alloc_new w _))
    unfold World.cell?
    simp only [hb]
    rfl
  have c3 := hgc w3 ((g1.trans g2).trans g3)
  have hz3 : w.heap.size < w3.heap.size := by have := ((g1.trans g2).trans g3).size; simp at this; omega
  have HL : Hid (∀ a : Int, In64 a → (Instr.lookup 163 (.map (some (w.heap.size + 1))) (.int .i64 a) true).run Tryz.prog w5 = .ok (.tuple #[saidV (.slice ao0 n0 cap0) (.slice ao1 n1 cap1) a, .bool (decide (1 ≤ a ∧ a ≤ 5))]) w5) := fun a ha => by
    obtain ⟨v, pl, hr, hv⟩ := o5.look_ok keyed mapT (saidZ w5) (show asIs .nilIface = some (.held _, []) from rfl) (key a ha)
    rw [put_has o4.isMap i5, put_has o3.isMap i4, put_has o2.isMap i3, put_has o1.isMap i2, put_has hown0.isMap i1] at hr
    rw [put_at o4.isMap i5, put_at o3.isMap i4, put_at o2.isMap i3, put_at o1.isMap i2, put_at hown0.isMap i1] at hv
    have e1 : (if a = 5 then true else if a = 4 then true else if a = 3 then true else if a = 2 then true else if a = 1 then true else Maps.has (DataW.map [] : DataW Value) (.int .i64 a)) = decide (1 ≤ a ∧ a ≤ 5) := by
      by_cases a5 : a = 5
      · subst a5; rfl
      · by_cases a4 : a = 4
        · subst a4; rfl
        · by_cases a3 : a = 3
          · subst a3; rfl
          · by_cases a2 : a = 2
            · subst a2; rfl
            · by_cases a1 : a = 1
              · subst a1; rfl
              · rw [if_neg a5, if_neg a4, if_neg a3, if_neg a2, if_neg a1]
                have : decide (1 ≤ a ∧ a ≤ 5) = false := by simp; omega
                rw [this]; rfl
    have e2 : v = saidV (.slice ao0 n0 cap0) (.slice ao1 n1 cap1) a := by
      unfold asIs at hv
      simp only [Option.some.injEq, Prod.mk.injEq] at hv
      have hv := hv.1
      unfold saidV
      by_cases a5 : a = 5
      · subst a5; simp only [if_true] at hv; cases hv; rfl
      · by_cases a4 : a = 4
        · subst a4; simp at hv; rw [hv]; rfl
        · by_cases a3 : a = 3
          · subst a3; simp at hv; rw [hv]; rfl
          · by_cases a2 : a = 2
            · subst a2; simp at hv; rw [hv]; rfl
            · by_cases a1 : a = 1
              · subst a1; simp at hv; rw [hv]; rfl
              · rw [if_neg a5, if_neg a4, if_neg a3, if_neg a2, if_neg a1] at hv
                rw [if_neg a1, if_neg a2, if_neg a3, if_neg a4, if_neg a5]
                have : (DataW.map [] : DataW Value).atKey (.int .i64 a) (.held .nilIface) = .held .nilIface := rfl
                rw [this] at hv
                cases hv; rfl
    rw [e1, e2] at hr
    exact hr
  clear o1 o2 o3 o4 o5 g1 g2 g3 g4 g5 hG hgc hown0 hb0 i1 i2 i3 i4 i5
  go_enter Tryz.func103, Tryz.ntmps103
  go_wp2
  go_ret
  exact ⟨w.heap.size + 1, rfl, HL.out, hB5⟩

end Psd
end Go.Proofs.YtgnjkpmbppmoeaaGreat
