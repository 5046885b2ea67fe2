/- DERIVED. impl.planFind over kinds and over points, impl.planHas over points: their walks (written by wip/tools/mk_fd.py). -/
import Derived.Test.YtohgkiljdehefaaGreatPfD
import Derived.Test.YtohgkiljdehefaaGreatPlI1
import Derived.Test.YtohgkiljdehefaaGreatPlI2
import Derived.Test.YtohgkiljdehefaaGreatPlS1
import Derived.Test.YtohgkiljdehefaaGreatGXb
import Derived.Test.YtohgkiljdehefaaGreatGXd
namespace Go.Proofs.YtohgkiljdehefaaGreat
open Go.RowKit
set_option linter.unusedSimpArgs false
set_option linter.unusedVariables false

/-- The first of a list with this name, or z. -/
noncomputable def findD {α : Type} (nm : α → ByteArray) (z : α) : List α → ByteArray → α
  | [], _ => z
  | x :: l, v => if pb (nm x = v) then x else findD nm z l v
theorem findD_hit {α : Type} {nm : α → ByteArray} {z : α} {v : ByteArray} : ∀ {l : List α} {k : Nat}, NoNm nm l v k → ∀ hk : k < l.length, nm (l[k]'hk) = v → findD nm z l v = l[k]'hk
  | x :: l, 0, _, hk, he => by
    show (if pb (nm x = v) then x else _) = _
    rw [pb_yes (show nm x = v from he)]
    rfl
  | x :: l, k + 1, h, hk, he => by
    show (if pb (nm x = v) then x else findD nm z l v) = _
    rw [pb_no (show ¬ nm x = v from h 0 (by simp) (by omega))]
    exact findD_hit (l := l) (k := k) (fun i hi hk' => h (i + 1) (by simpa using hi) (by omega)) (by simpa using hk) he
theorem findD_none {α : Type} {nm : α → ByteArray} {z : α} {v : ByteArray} : ∀ {l : List α}, NoNm nm l v l.length → findD nm z l v = z
  | [], _ => rfl
  | x :: l, h => by
    show (if pb (nm x = v) then x else findD nm z l v) = _
    rw [pb_no (show ¬ nm x = v from h 0 (by simp) (by simp))]
    exact findD_none (l := l) (fun i hi hk' => h (i + 1) (by simpa using hi) (by simpa using hk'))
abbrev zK : DPlanKind := (ByteArray.empty, 0, 0)
abbrev zP : DPlanPoint := (ByteArray.empty, 0, 0)

set_option maxRecDepth 100000 in
set_option maxHeartbeats 4000000 in
theorem find_PlanKind (ao : Option Addr) (cap : Nat) (l : List DPlanKind) (v : ByteArray) (w : World) (h : SliceAt vPlanKind (old w) w ao cap l) :
    Calls Tryz.prog 114 #[.slice ao l.length cap, .string v] w fun e w' => e = .returned (.tuple #[.agg #[.string (findD nmK zK l v).1, .int .i64 (findD nmK zK l v).2.1, .int .i64 (findD nmK zK l v).2.2], .bool (pb (HasNm nmK l v))]) ∧ Below w.heap.size w w' := by
  have hcm : l.length ≤ 9223372036854775807 := Nat.le_trans h.1 h.2.1
  have mN := methPlanKindN
  go_enter Tryz.func114, Tryz.ntmps114
  go_wp2
  go_loopw [11] (fun i wr => ∃ k : Nat, k ≤ l.length ∧ i = .int .i64 k ∧ Hid (NoNm nmK l v k) ∧ Below (w.heap.size + 1) (w.alloc (.cells #[.string ByteArray.empty, .int .i64 0, .int .i64 0] 109)) wr) (fun i _ => l.length - (intOf i).toNat)
  case atStart => exact ⟨0, Nat.zero_le _, rfl, fun j _ hj => by omega, Below.refl _ _⟩
  case round =>
    obtain ⟨k, hk, rfl, hpre, hB⟩ := hrel
    have hsz : w.heap.size + 1 ≤ wr.heap.size := by have := hB.size; simpa using this
    by_cases hlt : k < l.length
    · obtain ⟨b, off, rfl, hok, c0, c1, c2, q0, _⟩ := elem_PlanKind h hlt
      have hU := box_under hB
      have f0 := (hU.cell (p := ⟨b, off + k * 3, none⟩) hok).trans c0
      have f1 := (hU.cell (p := ⟨b, off + k * 3 + 1, none⟩) hok).trans c1
      have f2 := (hU.cell (p := ⟨b, off + k * 3 + 2, none⟩) hok).trans c2
      clear c0 c1 c2 hU
      have hkI : (k : Int) < (l.length : Int) := by omega
      obtain ⟨n, q, s, hcur⟩ : ∃ n q s, l[k]'hlt = (n, q, s) := ⟨_, _, _, rfl⟩
      have HY : Hid (n = v → pb (HasNm nmK l v) = true ∧ findD nmK zK l v = (n, q, s)) := fun e => ⟨pb_yes ⟨k, hlt, by rw [hcur]; exact e⟩, (findD_hit hpre.out hlt (by rw [hcur]; exact e)).trans hcur⟩
      have HN : Hid (¬ n = v → NoNm nmK l v (k + 1)) := fun e => hpre.out.next hlt (by rw [hcur]; exact e)
      rw [hcur] at f0 f1 f2
      simp only at f0 f1 f2
      clear hcur hpre h q0
      go_wp2_with fail
      refine (iNmKind _ _ _ _).mono ?_
      rintro e w1 ⟨rfl, hb1⟩
      have hg1 : wr.heap.size < w1.heap.size := by have := hb1.size; simp at this; omega
      have g0 := box_in hb1 0
      have g1 := box_in hb1 1
      have g2 := box_in hb1 2
      simp at g0 g1 g2
      have hB1 := (hB.alloc hsz (.cells #[.string n, .int .i64 q, .int .i64 s] 109)).trans (hb1.mono (by simp; omega))
      clear hb1 f0 f1 f2 hB
      by_cases hq : n = v
      · have HR := HY.out hq
        have hqb : (n.toList == v.toList) = true := beqL.2 hq
        have HR' : Hid (pb (HasNm nmK l v) = true ∧ findD nmK zK l v = (n, q, s)) := HR
        have z0 := box_at hB1 0
        have z1 := box_at hB1 1
        have z2 := box_at hB1 2
        simp at z0 z1 z2
        have hzz : w.heap.size < w1.heap.size := by omega
        have zf : ∀ o, w1.frozen? ⟨w.heap.size, o, none⟩ = false := fun o => (hB1.frozen (p := ⟨w.heap.size, o, none⟩) (by show w.heap.size < w.heap.size + 1; omega)).trans (by simp)
        clear HY HN hq HR
        go_wp2
        refine bodyPost_ret (v := .tuple #[.agg #[.string n, .int .i64 q, .int .i64 s], .bool true]) (by simp [results, Tryz.results114, go_sem, zf, hzz, z0, z1, z2]) rfl ⟨by rw [HR'.out.1, HR'.out.2], ?_⟩
        have hBU := box_under hB1
        repeat (first | refine Below.setCell ?_ (by simp; try omega) _ | exact hBU)
      · have HN1 : Hid (NoNm nmK l v (k + 1)) := HN.out hq
        have hqb : (n.toList == v.toList) = false := beqL_no hq
        clear HY HN hq
        go_wp2
        go_roundw
        case rel => exact ⟨k + 1, by omega, by go_num, HN1, hB1⟩
        case measure => simp [intOf]; omega
    · have hke : k = l.length := by omega
      subst hke
      have HR : Hid (pb (HasNm nmK l v) = false ∧ findD nmK zK l v = zK) := ⟨pb_no hpre.out.all, findD_none hpre.out⟩
      have z0 := box_at hB 0
      have z1 := box_at hB 1
      have z2 := box_at hB 2
      simp at z0 z1 z2
      have hzz : w.heap.size < wr.heap.size := by omega
      have zf : ∀ o, wr.frozen? ⟨w.heap.size, o, none⟩ = false := fun o => (hB.frozen (p := ⟨w.heap.size, o, none⟩) (by show w.heap.size < w.heap.size + 1; omega)).trans (by simp)
      have hBU := box_under hB
      clear hpre hB
      go_wp2
      refine bodyPost_ret (v := .tuple #[.agg #[.string ByteArray.empty, .int .i64 0, .int .i64 0], .bool false]) (by simp [results, Tryz.results114, go_sem, zf, hzz, z0, z1, z2]; rfl) rfl ⟨by rw [HR.out.1, HR.out.2], ?_⟩
      repeat (first | refine Below.setCell ?_ (by simp; try omega) _ | refine Below.alloc ?_ (by simp; omega) _ | exact hBU)

set_option maxRecDepth 100000 in
set_option maxHeartbeats 4000000 in
theorem find_PlanPoint (ao : Option Addr) (cap : Nat) (l : List DPlanPoint) (v : ByteArray) (w : World) (h : SliceAt vPlanPoint (old w) w ao cap l) :
    Calls Tryz.prog 122 #[.slice ao l.length cap, .string v] w fun e w' => e = .returned (.tuple #[.agg #[.string (findD nmP zP l v).1, .int .i64 (findD nmP zP l v).2.1, .int .i64 (findD nmP zP l v).2.2], .bool (pb (HasNm nmP l v))]) ∧ Below w.heap.size w w' := by
  have hcm : l.length ≤ 9223372036854775807 := Nat.le_trans h.1 h.2.1
  have mN := methPlanPointN
  go_enter Tryz.func122, Tryz.ntmps122
  go_wp2
  go_loopw [11] (fun i wr => ∃ k : Nat, k ≤ l.length ∧ i = .int .i64 k ∧ Hid (NoNm nmP l v k) ∧ Below (w.heap.size + 1) (w.alloc (.cells #[.string ByteArray.empty, .int .i64 0, .int .i64 0] 111)) wr) (fun i _ => l.length - (intOf i).toNat)
  case atStart => exact ⟨0, Nat.zero_le _, rfl, fun j _ hj => by omega, Below.refl _ _⟩
  case round =>
    obtain ⟨k, hk, rfl, hpre, hB⟩ := hrel
    have hsz : w.heap.size + 1 ≤ wr.heap.size := by have := hB.size; simpa using this
    by_cases hlt : k < l.length
    · obtain ⟨b, off, rfl, hok, c0, c1, c2, q0, _⟩ := elem_PlanPoint h hlt
      have hU := box_under hB
      have f0 := (hU.cell (p := ⟨b, off + k * 3, none⟩) hok).trans c0
      have f1 := (hU.cell (p := ⟨b, off + k * 3 + 1, none⟩) hok).trans c1
      have f2 := (hU.cell (p := ⟨b, off + k * 3 + 2, none⟩) hok).trans c2
      clear c0 c1 c2 hU
      have hkI : (k : Int) < (l.length : Int) := by omega
      obtain ⟨n, q, s, hcur⟩ : ∃ n q s, l[k]'hlt = (n, q, s) := ⟨_, _, _, rfl⟩
      have HY : Hid (n = v → pb (HasNm nmP l v) = true ∧ findD nmP zP l v = (n, q, s)) := fun e => ⟨pb_yes ⟨k, hlt, by rw [hcur]; exact e⟩, (findD_hit hpre.out hlt (by rw [hcur]; exact e)).trans hcur⟩
      have HN : Hid (¬ n = v → NoNm nmP l v (k + 1)) := fun e => hpre.out.next hlt (by rw [hcur]; exact e)
      rw [hcur] at f0 f1 f2
      simp only at f0 f1 f2
      clear hcur hpre h q0
      go_wp2_with fail
      refine (iNmPt _ _ _ _).mono ?_
      rintro e w1 ⟨rfl, hb1⟩
      have hg1 : wr.heap.size < w1.heap.size := by have := hb1.size; simp at this; omega
      have g0 := box_in hb1 0
      have g1 := box_in hb1 1
      have g2 := box_in hb1 2
      simp at g0 g1 g2
      have hB1 := (hB.alloc hsz (.cells #[.string n, .int .i64 q, .int .i64 s] 111)).trans (hb1.mono (by simp; omega))
      clear hb1 f0 f1 f2 hB
      by_cases hq : n = v
      · have HR := HY.out hq
        have hqb : (n.toList == v.toList) = true := beqL.2 hq
        have HR' : Hid (pb (HasNm nmP l v) = true ∧ findD nmP zP l v = (n, q, s)) := HR
        have z0 := box_at hB1 0
        have z1 := box_at hB1 1
        have z2 := box_at hB1 2
        simp at z0 z1 z2
        have hzz : w.heap.size < w1.heap.size := by omega
        have zf : ∀ o, w1.frozen? ⟨w.heap.size, o, none⟩ = false := fun o => (hB1.frozen (p := ⟨w.heap.size, o, none⟩) (by show w.heap.size < w.heap.size + 1; omega)).trans (by simp)
        clear HY HN hq HR
        go_wp2
        refine bodyPost_ret (v := .tuple #[.agg #[.string n, .int .i64 q, .int .i64 s], .bool true]) (by simp [results, Tryz.results122, go_sem, zf, hzz, z0, z1, z2]) rfl ⟨by rw [HR'.out.1, HR'.out.2], ?_⟩
        have hBU := box_under hB1
        repeat (first | refine Below.setCell ?_ (by simp; try omega) _ | exact hBU)
      · have HN1 : Hid (NoNm nmP l v (k + 1)) := HN.out hq
        have hqb : (n.toList == v.toList) = false := beqL_no hq
        clear HY HN hq
        go_wp2
        go_roundw
        case rel => exact ⟨k + 1, by omega, by go_num, HN1, hB1⟩
        case measure => simp [intOf]; omega
    · have hke : k = l.length := by omega
      subst hke
      have HR : Hid (pb (HasNm nmP l v) = false ∧ findD nmP zP l v = zP) := ⟨pb_no hpre.out.all, findD_none hpre.out⟩
      have z0 := box_at hB 0
      have z1 := box_at hB 1
      have z2 := box_at hB 2
      simp at z0 z1 z2
      have hzz : w.heap.size < wr.heap.size := by omega
      have zf : ∀ o, wr.frozen? ⟨w.heap.size, o, none⟩ = false := fun o => (hB.frozen (p := ⟨w.heap.size, o, none⟩) (by show w.heap.size < w.heap.size + 1; omega)).trans (by simp)
      have hBU := box_under hB
      clear hpre hB
      go_wp2
      refine bodyPost_ret (v := .tuple #[.agg #[.string ByteArray.empty, .int .i64 0, .int .i64 0], .bool false]) (by simp [results, Tryz.results122, go_sem, zf, hzz, z0, z1, z2]; rfl) rfl ⟨by rw [HR.out.1, HR.out.2], ?_⟩
      repeat (first | refine Below.setCell ?_ (by simp; try omega) _ | refine Below.alloc ?_ (by simp; omega) _ | exact hBU)

set_option maxRecDepth 100000 in
set_option maxHeartbeats 2000000 in
theorem has_PlanPoint (ao : Option Addr) (cap : Nat) (l : List DPlanPoint) (v : ByteArray) (w : World) (h : SliceAt vPlanPoint (old w) w ao cap l) :
    Calls Tryz.prog 121 #[.slice ao l.length cap, .string v] w fun e w' => e = .returned (.bool (pb (HasNm nmP l v))) ∧ Below w.heap.size w w' := by
  have HF := find_PlanPoint ao cap l v w h
  generalize findD nmP zP l v = r at HF
  go_enter Tryz.func121, Tryz.ntmps121
  go_wp2_with fail
  refine HF.mono ?_
  rintro e w1 ⟨rfl, hb1⟩
  go_wp2
  go_ret
  exact ⟨rfl, by repeat (first | exact hb1 | refine Below.setCell ?_ (by have := hb1.size; simp; try omega) _ | refine Below.alloc ?_ (by have := hb1.size; simp; try omega) _)⟩

end Go.Proofs.YtohgkiljdehefaaGreat

/- DERIVED. impl.planRouteFits: its walk. -/
namespace Go.Proofs.YtohgkiljdehefaaGreat
open Go.RowKit
set_option linter.unusedSimpArgs false
set_option linter.unusedVariables false

set_option maxRecDepth 100000 in
set_option maxHeartbeats 4000000 in
theorem iRouteO (ao : Option Addr) (cap : Nat) (ps : List DPlanPoint) (aw : Option Addr) (capw : Nat) (ws : List ByteArray) (w1 : World) (h : SliceAt vPlanPoint (old w1) w1 ao cap ps) (hT : TxO w1 aw ws) (hwl : ws.length ≤ 1048577) :
    Calls Tryz.prog 120 #[.slice ao ps.length cap, .slice aw ws.length capw] w1 fun e w' => e = .returned (.bool (pb (RouteOk ps ws))) ∧ Below w1.heap.size w1 w' := by
  go_enter Tryz.func120, Tryz.ntmps120
  by_cases hr : InR (ws.length : Int) 2 8
  · have hr1 := hr.1
    have hr2 := hr.2
    have HNO : Hid (¬ RouteTo ps ws ws.length → pb (RouteOk ps ws) = false) := fun h1 => pb_no (fun h2 => h1 h2.2)
    have HYES : Hid (RouteTo ps ws ws.length → pb (RouteOk ps ws) = true) := fun h1 => pb_yes ⟨hr, h1⟩
    go_wp2_with (go_at_call 82; refine (from_yes _ _ _ _ hr).mono ?_; rintro e w' ⟨rfl, rfl⟩)
    go_loopw [13] (fun i wr => ∃ k : Nat, k ≤ ws.length ∧ i = .int .i64 k ∧ Hid (RouteTo ps ws k) ∧ Below w1.heap.size w1 wr) (fun i _ => ws.length - (intOf i).toNat)
    case atStart => exact ⟨0, Nat.zero_le _, rfl, RouteTo.zero, Below.refl _ _⟩
    case round =>
      obtain ⟨k, hk, rfl, hpre, hb⟩ := hrel
      by_cases hlt : k < ws.length
      · have hk1 : k - 1 < ws.length := by omega
        obtain ⟨g, off, rfl, hg, hc⟩ := (hT.later hb).at hlt
        have f0 := hc k hlt
        have f1 := hc (k - 1) hk1
        have HBADH : Hid (¬ HasNm nmP ps (ws[k]'hlt) → pb (RouteOk ps ws) = false) := fun h1 => HNO.out (fun h2 => h1 (h2 k hlt hlt).1)
        have HBADE : Hid (∀ h0 : 0 < k, (ws[k - 1]'hk1) = (ws[k]'hlt) → pb (RouteOk ps ws) = false) := fun h0 h1 => HNO.out (fun h2 => (h2 k hlt hlt).2 h0 h1)
        have HOK : Hid (HasNm nmP ps (ws[k]'hlt) → (∀ h0 : 0 < k, ¬ (ws[k - 1]'hk1) = (ws[k]'hlt)) → RouteTo ps ws (k + 1)) := fun h1 h2 => hpre.out.next hlt h1 h2
        have hkI : (k : Int) < (ws.length : Int) := by omega
        clear hc hpre HNO HYES hT
        generalize ws[k]'hlt = wk at *
        generalize ws[k - 1]'hk1 = wp at *
        go_wp2_with fail
        refine (has_PlanPoint ao cap ps wk _ (h.later hb)).mono ?_
        rintro e w2 ⟨rfl, hb2⟩
        have hb12 := hb.trans (hb2.mono hb.size)
        have g1 := (hb2.cell (p := ⟨g, off + (k - 1), none⟩) hg).trans f1
        have hg2 : g < w2.heap.size := Nat.lt_of_lt_of_le hg hb2.size
        clear f0 f1 hb2 hg
        by_cases hh : HasNm nmP ps wk
        · rw [pb_yes hh]
          by_cases hk0 : 0 < k
          · have hd0 : decide ((0 : Int) < (k : Int)) = true := by simp; omega
            have hkI1 : (k : Int) - 1 < (ws.length : Int) := by omega
            have hkN : ((k : Int) - 1).toNat = k - 1 := by omega
            have hk1I : (1 : Int) ≤ (k : Int) := by omega
            by_cases he : wp = wk
            · have HF : Hid (pb (RouteOk ps ws) = false) := HBADE.out hk0 he
              have heb : (wp.toList == wk.toList) = true := beqL.2 he
              clear HBADH HBADE HOK he hh h
              go_wp2
              go_ret
              exact ⟨by rw [HF.out]; rfl, hb12⟩
            · have HN1 : Hid (RouteTo ps ws (k + 1)) := HOK.out hh (fun _ => he)
              have heb : (wp.toList == wk.toList) = false := beqL_no he
              clear HBADH HBADE HOK he hh h
              go_wp2
              go_roundw
              case rel => exact ⟨k + 1, by omega, by go_num, HN1, hb12⟩
              case measure => simp [intOf]; omega
          · have hd0 : decide ((0 : Int) < (k : Int)) = false := by simp; omega
            have HN1 : Hid (RouteTo ps ws (k + 1)) := HOK.out hh (fun h0 => absurd h0 hk0)
            clear HBADH HBADE HOK hh h
            go_wp2
            go_roundw
            case rel => exact ⟨k + 1, by omega, by go_num, HN1, hb12⟩
            case measure => simp [intOf]; omega
        · rw [pb_no hh]
          have HF : Hid (pb (RouteOk ps ws) = false) := HBADH.out hh
          clear HBADH HBADE HOK hh h
          go_wp2
          go_ret
          exact ⟨by rw [HF.out]; rfl, hb12⟩
      · have hke : k = ws.length := by omega
        subst hke
        have HR : Hid (pb (RouteOk ps ws) = true) := HYES.out hpre.out
        clear hpre HYES HNO h hT
        go_wp2
        go_ret
        exact ⟨by rw [HR.out]; rfl, hb⟩
  · have HR : Hid (pb (RouteOk ps ws) = false) := pb_no (fun h1 => hr h1.1)
    go_wp2_with (go_at_call 82; refine (from_no _ _ _ _ hr).mono ?_; rintro e w' ⟨rfl, rfl⟩)
    go_ret
    exact ⟨by rw [HR.out]; rfl, Below.refl _ _⟩

end Go.Proofs.YtohgkiljdehefaaGreat

/- DERIVED. What a value says: the five read methods: their walks (written by wip/tools/mk_rv.py). -/
namespace Go.Proofs.YtohgkiljdehefaaGreat
open Go.RowKit
set_option linter.unusedSimpArgs false
set_option linter.unusedVariables false

set_option maxHeartbeats 1000000 in
theorem readKind (ao : Option Addr) (cap : Nat) (l : List DPlanKind) (v : ByteArray) (w : World) (h : SliceAt vPlanKind (old w) w ao cap l) :
    Calls Tryz.prog 113 #[.agg #[.slice ao l.length cap], .string v] w fun e w' => e = .returned (.tuple #[.iface 109 (.agg #[.string (findD nmK zK l v).1, .int .i64 (findD nmK zK l v).2.1, .int .i64 (findD nmK zK l v).2.2]), .bool (pb (HasNm nmK l v))]) ∧ Below w.heap.size w w' := by
  have hb0 : Below w.heap.size w (w.alloc (.cells #[.slice ao l.length cap] 154)) := (Below.refl _ _).alloc (Nat.le_refl _) _
  have HF := find_PlanKind ao cap l v _ (h.later hb0)
  generalize findD nmK zK l v = r at *
  generalize pb (HasNm nmK l v) = bv at *
  obtain ⟨n, q, s⟩ := r
  simp only at *
  go_enter Tryz.func113, Tryz.ntmps113
  go_wp2_with fail
  refine HF.mono ?_
  rintro e w1 ⟨rfl, hb1⟩
  have hB1 := hb0.trans (hb1.mono hb0.size)
  have hz1 := hB1.size
  clear HF hb1 hb0
  go_wp2
  refine bodyPost_ret (v := .tuple #[.iface 109 (.agg #[.string n, .int .i64 q, .int .i64 s]), .bool bv]) (by simp [results, Tryz.results113, go_sem]) rfl ⟨rfl, ?_⟩
  repeat (first | exact hB1 | refine Below.setCell ?_ (by first | (simp; done) | omega | (simp; omega)) _ | refine Below.alloc ?_ (by first | omega | (simp; omega)) _)

set_option maxHeartbeats 1000000 in
theorem readLevel (v : ByteArray) (w : World) (hv : v.size ≤ maxLen) :
    Calls Tryz.prog 118 #[.agg #[], .string v] w fun e w' => e = .returned (.tuple #[.iface 183 (.int .i64 (decZ v)), .bool (pb (LevelOk v))]) ∧ Below w.heap.size w w' := by
  have hb0 : Below w.heap.size w (w.alloc (.cells #[] 157)) := (Below.refl _ _).alloc (Nat.le_refl _) _
  have e1 : Hid (DecOk v → decZ v = decN v) := fun hd => (decZ_yes hd).out.2
  go_enter Tryz.func118, Tryz.ntmps118
  go_wp2_with fail
  refine (iDec v _ hv).mono ?_
  rintro e w1 ⟨rfl, hb1⟩
  have hB1 := hb0.trans (hb1.mono hb0.size)
  clear hb1
  by_cases hd : DecOk v
  · rw [pb_yes hd]
    by_cases hr : InR (decZ v) 1 6
    · have HR : Hid (pb (LevelOk v) = true) := pb_yes ⟨hd, by rw [← e1.out hd]; exact hr⟩
      clear hd
      go_wp2_with (go_at_call 82; refine (from_yes _ _ _ _ hr).mono ?_; rintro e w' ⟨rfl, rfl⟩)
      refine bodyPost_ret (v := .tuple #[.iface 183 (.int .i64 (decZ v)), .bool true]) (by simp [results, Tryz.results118, go_sem]) rfl ?_
      exact ⟨by rw [HR.out], hB1⟩
    · have HR : Hid (pb (LevelOk v) = false) := pb_no (fun h => hr (by rw [e1.out hd]; exact h.2))
      clear hd
      go_wp2_with (go_at_call 82; refine (from_no _ _ _ _ hr).mono ?_; rintro e w' ⟨rfl, rfl⟩)
      refine bodyPost_ret (v := .tuple #[.iface 183 (.int .i64 (decZ v)), .bool false]) (by simp [results, Tryz.results118, go_sem]) rfl ?_
      exact ⟨by rw [HR.out], hB1⟩
  · rw [pb_no hd]
    have HR : Hid (pb (LevelOk v) = false) := pb_no (fun h => hd h.1)
    clear hd
    go_wp2
    refine bodyPost_ret (v := .tuple #[.iface 183 (.int .i64 (decZ v)), .bool false]) (by simp [results, Tryz.results118, go_sem]) rfl ?_
    exact ⟨by rw [HR.out], hB1⟩

set_option maxHeartbeats 1000000 in
theorem readState (v : ByteArray) (w : World) :
    Calls Tryz.prog 123 #[.agg #[], .string v] w fun e w' => e = .returned (.tuple #[.iface 189 (.string v), .bool (pb (StateOk v))]) ∧ Below w.heap.size w w' := by
  have hb0 : Below w.heap.size w (w.alloc (.cells #[] 160)) := (Below.refl _ _).alloc (Nat.le_refl _) _
  have eo : openB.toList = [111, 112, 101, 110] := by rw [ByteArray.toList_eq]; rfl
  have ec : closedB.toList = [99, 108, 111, 115, 101, 100] := by rw [ByteArray.toList_eq]; rfl
  by_cases h1 : v = openB
  · have HR : Hid (pb (StateOk v) = true) := pb_yes (.inl h1)
    have hb : (v.toList == [111, 112, 101, 110]) = true := by rw [← eo]; exact beqL.2 h1
    clear h1 eo ec
    go_enter Tryz.func123, Tryz.ntmps123
    go_wp2
    refine bodyPost_ret (v := .tuple #[.iface 189 (.string v), .bool true]) (by simp [results, Tryz.results123, go_sem]) rfl ?_
    exact ⟨by rw [HR.out], hb0⟩
  · have hb : (v.toList == [111, 112, 101, 110]) = false := by rw [← eo]; exact beqL_no h1
    by_cases h2 : v = closedB
    · have HR : Hid (pb (StateOk v) = true) := pb_yes (.inr h2)
      have hb2 : (v.toList == [99, 108, 111, 115, 101, 100]) = true := by rw [← ec]; exact beqL.2 h2
      clear h1 h2 eo ec
      go_enter Tryz.func123, Tryz.ntmps123
      go_wp2
      refine bodyPost_ret (v := .tuple #[.iface 189 (.string v), .bool true]) (by simp [results, Tryz.results123, go_sem, hb2]) rfl ?_
      exact ⟨by rw [HR.out], hb0⟩
    · have HR : Hid (pb (StateOk v) = false) := pb_no (fun h => h.elim h1 h2)
      have hb2 : (v.toList == [99, 108, 111, 115, 101, 100]) = false := by rw [← ec]; exact beqL_no h2
      clear h1 h2 eo ec
      go_enter Tryz.func123, Tryz.ntmps123
      go_wp2
      refine bodyPost_ret (v := .tuple #[.iface 189 (.string v), .bool false]) (by simp [results, Tryz.results123, go_sem, hb2]) rfl ?_
      exact ⟨by rw [HR.out], hb0⟩

theorem TxtAt.two {w : World} {ao : Option Addr} {a b : ByteArray} (h : TxtAt w ao [a, b]) : ∃ g, ao = some ⟨g, 0, none⟩ ∧ g < w.heap.size ∧ w.cell? ⟨g, 0, none⟩ = some (.string a) ∧ w.cell? ⟨g, 1, none⟩ = some (.string b) := by
  rcases h with h | ⟨g, h1, h2, h3⟩
  · cases h
  · exact ⟨g, h1, h2, h3 0 (by simp), h3 1 (by simp)⟩

theorem timeOk_two (a b : ByteArray) : TimeOk [a, b] ↔ DecOk a ∧ DecOk b ∧ decN a ≤ decN b ∧ decN b ≤ 10000 := by
  constructor
  · rintro ⟨x, y, h, h1⟩
    simp only [List.cons.injEq, and_true] at h
    obtain ⟨rfl, rfl⟩ := h
    exact h1
  · intro h
    exact ⟨a, b, rfl, h⟩

theorem two_of {ws : List ByteArray} (h : ws.length = 2) : ∃ a b, ws = [a, b] := by
  match ws, h with
  | [a, b], _ => exact ⟨a, b, rfl⟩

set_option maxRecDepth 100000 in
set_option maxHeartbeats 2000000 in
theorem readTime (v : ByteArray) (w : World) (hv : v.size ≤ 1048576) :
    Calls Tryz.prog 115 #[.agg #[], .string v] w fun e w' => ∃ va, e = .returned (.tuple #[va, .bool (pb (TimeOk (wordsP v)))]) ∧ (∀ a b, wordsP v = [a, b] → va = .iface 182 (.agg #[.int .i64 (decZ a), .int .i64 (decZ b)])) ∧ Below w.heap.size w w' := by
  have hb0 : Below w.heap.size w (w.alloc (.cells #[] 156)) := (Below.refl _ _).alloc (Nat.le_refl _) _
  have hsz : ∀ x ∈ wordsP v, x.size ≤ maxLen := fun x hx => Nat.le_trans (wordsP_sizes v x hx) (by unfold maxLen; omega)
  have HWL : Hid ((wordsP v).length ≤ 1048577) := Nat.le_trans (wordsP_len v) (by omega)
  have HI := fun W => iWords v W hv
  generalize wordsP v = ws at *
  go_enter Tryz.func115, Tryz.ntmps115
  go_wp2_with fail
  refine (HI _).mono ?_
  rintro e w1 ⟨ao, cap, rfl, hT, hb1⟩
  have hB1 := hb0.trans (hb1.mono hb0.size)
  clear hb1 hb0 HI
  have hwl := HWL.out
  by_cases hl : ws.length = 2
  · obtain ⟨a, b, rfl⟩ := two_of hl
    have ha := hsz a (by simp)
    have hb := hsz b (by simp)
    obtain ⟨g, rfl, hg, c0, c1⟩ := hT.two
    clear hl hsz HWL hwl hT
    simp only [List.length_cons, List.length_nil, Nat.zero_add, Nat.reduceAdd]
    go_wp2_with fail
    refine (iDec a _ ha).mono ?_
    rintro e w2 ⟨rfl, hb2⟩
    have d1 := (hb2.cell (p := ⟨g, 1, none⟩) hg).trans c1
    have hg2 : g < w2.heap.size := Nat.lt_of_lt_of_le hg hb2.size
    have hB2 := hB1.trans (hb2.mono hB1.size)
    clear c0 c1 hg hb2 hB1
    go_wp2_with fail
    refine (iDec b _ hb).mono ?_
    rintro e w3 ⟨rfl, hb3⟩
    have hB3 := hB2.trans (hb3.mono hB2.size)
    clear hb3 hB2 d1
    have HE := timeOk_two a b
    have hv2 : Hid (∀ a' b', [a, b] = [a', b'] → (.iface 182 (.agg #[.int .i64 (decZ a), .int .i64 (decZ b)]) : Value) = .iface 182 (.agg #[.int .i64 (decZ a'), .int .i64 (decZ b')])) := fun a' b' e => by
      simp only [List.cons.injEq, and_true] at e
      rw [e.1, e.2]
    have hz1 : DecOk a → decZ a = decN a := fun h1 => (decZ_yes h1).out.2
    have hz2 : DecOk b → decZ b = decN b := fun h1 => (decZ_yes h1).out.2
    have HZ : Hid (TimeOk [a, b] ↔ DecOk a ∧ DecOk b ∧ decZ a ≤ decZ b ∧ decZ b ≤ 10000) := ⟨fun h => by
      obtain ⟨h1, h2, h3, h4⟩ := HE.1 h
      exact ⟨h1, h2, by rw [hz1 h1, hz2 h2]; exact h3, by rw [hz2 h2]; exact h4⟩, fun ⟨h1, h2, h3, h4⟩ => HE.2 ⟨h1, h2, by rw [← hz1 h1, ← hz2 h2]; exact h3, by rw [← hz2 h2]; exact h4⟩⟩
    clear HE hz1 hz2
    by_cases h1 : DecOk a
    · rw [pb_yes h1]
      by_cases h2 : DecOk b
      · rw [pb_yes h2]
        by_cases h3 : decZ a ≤ decZ b
        · by_cases h4 : decZ b ≤ 10000
          · have HR : Hid (pb (TimeOk [a, b]) = true) := pb_yes (HZ.out.2 ⟨h1, h2, h3, h4⟩)
            clear h1 h2 HZ
            go_wp2
            refine bodyPost_ret (v := .tuple #[.iface 182 (.agg #[.int .i64 (decZ a), .int .i64 (decZ b)]), .bool true]) (by simp [results, Tryz.results115, go_sem]) rfl ?_
            exact ⟨_, by rw [HR.out], hv2.out, hB3⟩
          · have HR : Hid (pb (TimeOk [a, b]) = false) := pb_no (fun h => h4 (HZ.out.1 h).2.2.2)
            have h4d : decide (decZ b ≤ 10000) = false := by simp; omega
            clear h1 h2 HZ
            go_wp2
            refine bodyPost_ret (v := .tuple #[.iface 182 (.agg #[.int .i64 (decZ a), .int .i64 (decZ b)]), .bool false]) (by simp [results, Tryz.results115, go_sem, h4d, h3]) rfl ?_
            exact ⟨_, by rw [HR.out], hv2.out, hB3⟩
        · have HR : Hid (pb (TimeOk [a, b]) = false) := pb_no (fun h => h3 (HZ.out.1 h).2.2.1)
          have h3d : decide (decZ a ≤ decZ b) = false := by simp; omega
          clear h1 h2 HZ
          go_wp2
          refine bodyPost_ret (v := .tuple #[.iface 182 (.agg #[.int .i64 (decZ a), .int .i64 (decZ b)]), .bool false]) (by simp [results, Tryz.results115, go_sem, h3d]) rfl ?_
          exact ⟨_, by rw [HR.out], hv2.out, hB3⟩
      · rw [pb_no h2]
        have HR : Hid (pb (TimeOk [a, b]) = false) := pb_no (fun h => h2 (HZ.out.1 h).2.1)
        clear h1 h2 HZ
        go_wp2
        refine bodyPost_ret (v := .tuple #[.iface 182 (.agg #[.int .i64 (decZ a), .int .i64 (decZ b)]), .bool false]) (by simp [results, Tryz.results115, go_sem]) rfl ?_
        exact ⟨_, by rw [HR.out], hv2.out, hB3⟩
    · rw [pb_no h1]
      have HR : Hid (pb (TimeOk [a, b]) = false) := pb_no (fun h => h1 (HZ.out.1 h).1)
      clear h1 HZ
      go_wp2
      refine bodyPost_ret (v := .tuple #[.iface 182 (.agg #[.int .i64 (decZ a), .int .i64 (decZ b)]), .bool false]) (by simp [results, Tryz.results115, go_sem]) rfl ?_
      exact ⟨_, by rw [HR.out], hv2.out, hB3⟩
  · have HR : Hid (pb (TimeOk ws) = false) := pb_no (fun ⟨a, b, h, _⟩ => hl (by rw [h]; rfl))
    have hlb : ((ws.length : Int) != 2) = true := by simp; omega
    clear hT hsz
    go_wp2
    refine bodyPost_ret (v := .tuple #[.nilIface, .bool false]) (by simp [results, Tryz.results115, go_sem]) rfl ?_
    exact ⟨_, by rw [HR.out], fun a b e => absurd (by rw [e]; rfl) hl, hB1⟩


set_option maxRecDepth 100000 in
set_option maxHeartbeats 2000000 in
theorem readRoute (ao : Option Addr) (cap : Nat) (ps : List DPlanPoint) (v : ByteArray) (w : World) (h : SliceAt vPlanPoint (old w) w ao cap ps) (hv : v.size ≤ 1048576) :
    Calls Tryz.prog 119 #[.agg #[.slice ao ps.length cap], .string v] w fun e w' => ∃ va, e = .returned (.tuple #[va, .bool (pb (RouteOk ps (wordsP v)))]) ∧ (RouteOk ps (wordsP v) → ∃ aw capw, va = .iface 185 (.slice aw (wordsP v).length capw) ∧ w'.ownsRow w.heap.size 9 1 (.slice aw (wordsP v).length capw) (wordsP v).length (strB (wordsP v))) ∧ Below w.heap.size w w' := by
  have hb0 : Below w.heap.size w (w.alloc (.cells #[.slice ao ps.length cap] 159)) := (Below.refl _ _).alloc (Nat.le_refl _) _
  have HWL : Hid ((wordsP v).length ≤ 1048577) := Nat.le_trans (wordsP_len v) (by omega)
  have HI := fun W => iWordsO v W hv
  generalize wordsP v = ws at *
  have hwl := HWL.out
  go_enter Tryz.func119, Tryz.ntmps119
  go_wp2_with fail
  refine (HI _).mono ?_
  rintro e w1 ⟨aw, capw, rfl, hO, hb1⟩
  have hB1 := hb0.trans (hb1.mono hb0.size)
  have x0 := box_in hb1 0
  simp at x0
  have hz1 : w.heap.size < w1.heap.size := by have := hb1.size; simp at this; omega
  have hT := TxO.of_txt (txt_of_owns rfl hO)
  have HO1 : Hid (w1.ownsRow w.heap.size 9 1 (.slice aw ws.length capw) ws.length (strB ws)) := by
    have h := hO
    rw [World.size_alloc] at h
    exact own_lo1 h
  clear hb1 hb0 HI HWL hO
  go_wp2_with fail
  refine (iRouteO ao cap ps aw capw ws _ (h.later hB1) hT hwl).mono ?_
  rintro e w2 ⟨rfl, hb2⟩
  have hB2 := hB1.trans (hb2.mono hB1.size)
  have HO2 : Hid (w2.ownsRow w.heap.size 9 1 (.slice aw ws.length capw) ws.length (strB ws)) := owns_below HO1.out hb2
  clear hb2 hB1 HO1 hT x0
  by_cases g : RouteOk ps ws
  · rw [pb_yes g]
    have G : Hid (RouteOk ps ws) := g
    clear g
    go_wp2
    refine bodyPost_ret (v := .tuple #[.iface 185 (.slice aw ws.length capw), .bool true]) (by simp [results, Tryz.results119, go_sem]) rfl ?_
    exact ⟨_, by rw [pb_yes G.out], fun _ => ⟨aw, capw, rfl, HO2.out⟩, hB2⟩
  · rw [pb_no g]
    have G : Hid (¬ RouteOk ps ws) := g
    clear g
    go_wp2
    refine bodyPost_ret (v := .tuple #[.nilIface, .bool false]) (by simp [results, Tryz.results119, go_sem]) rfl ?_
    exact ⟨_, by rw [pb_no G.out], fun h => absurd h G.out, hB2⟩

end Go.Proofs.YtohgkiljdehefaaGreat
