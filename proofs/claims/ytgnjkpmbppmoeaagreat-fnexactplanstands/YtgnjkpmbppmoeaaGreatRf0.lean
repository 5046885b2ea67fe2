/- DERIVED. impl.planRouteFits: its walk. -/
import Derived.Test.YtgnjkpmbppmoeaaGreatFd0
import Derived.Test.YtgnjkpmbppmoeaaGreatTxO
namespace Go.Proofs.YtgnjkpmbppmoeaaGreat
open Go.RowKit
set_option linter.unusedSimpArgs false
set_option linter.unusedVariables false

set_option maxRecDepth 100000 in
set_option maxHeartbeats 4000000 in
theorem iRouteO (ao : Option Addr) (cap : Nat) (ps : List DPlanPoint) (aw : Option Addr) (capw : Nat) (ws : List ByteArray) (w1 : World) (h : SliceAt vPlanPoint (old w1) w1 ao cap ps) (hT : TxO w1 aw ws) (hwl : ws.length ≤ 1048577) :
    Calls Tryz.prog 82 #[.slice ao ps.length cap, .slice aw ws.length capw] w1 fun e w' => e = .returned (.bool (pb (RouteOk ps ws))) ∧ Below w1.heap.size w1 w' := by
  go_enter Tryz.func82, Tryz.ntmps82
  by_cases hr : InR (ws.length : Int) 2 8
  · have hr1 := hr.1
    have hr2 := hr.2
    have HNO : Hid (¬ RouteTo ps ws ws.length → pb (RouteOk ps ws) = false) := fun h1 => pb_no (fun h2 => h1 h2.2)
    have HYES : Hid (RouteTo ps ws ws.length → pb (RouteOk ps ws) = true) := fun h1 => pb_yes ⟨hr, h1⟩
    go_wp2_with (go_at_call 109; refine (from_yes _ _ _ _ hr).mono ?_; rintro e w' ⟨rfl, rfl⟩)
    go_loopw [13] (fun i wr => ∃ k : Nat, k ≤ ws.length ∧ i = .int .i64 k ∧ Hid (RouteTo ps ws k) ∧ Below w1.heap.size w1 wr) (fun i _ => ws.length - (intOf i).toNat)
    case atStart => exact ⟨0, Nat.zero_le _, rfl, RouteTo.zero, Below.refl _ _⟩
    case round =>
      obtain ⟨k, hk, rfl, hpre, hb⟩ := hrel
      by_cases hlt : k < ws.length
      · have hk1 : k - 1 < ws.length := by omega
        obtain ⟨g, off, rfl, hg, hc⟩ := (hT.later hb).at hlt
        have f0 := hc k hlt
        have f1 := hc (k - 1) hk1
        have HBADH : Hid (¬ HasNm nmP ps (ws[k]'hlt) → pb (RouteOk ps ws) = false) := fun h1 => HNO.out (fun h2 => h1 (h2 k hlt hlt).1)
        have HBADE : Hid (∀ h0 : 0 < k, (ws[k - 1]'hk1) = (ws[k]'hlt) → pb (RouteOk ps ws) = false) := fun h0 h1 => HNO.out (fun h2 => (h2 k hlt hlt).2 h0 h1)
        have HOK : Hid (HasNm nmP ps (ws[k]'hlt) → (∀ h0 : 0 < k, ¬ (ws[k - 1]'hk1) = (ws[k]'hlt)) → RouteTo ps ws (k + 1)) := fun h1 h2 => hpre.out.next hlt h1 h2
        have hkI : (k : Int) < (ws.length : Int) := by omega
        clear hc hpre HNO HYES hT
        generalize ws[k]'hlt = wk at *
        generalize ws[k - 1]'hk1 = wp at *
        go_wp2_with fail
        refine (has_PlanPoint ao cap ps wk _ (h.later hb)).mono ?_
        rintro e w2 ⟨rfl, hb2⟩
        have hb12 := hb.trans (hb2.mono hb.size)
        have g1 := (hb2.cell (p := ⟨g, off + (k - 1), none⟩) hg).trans f1
        have hg2 : g < w2.heap.size := Nat.lt_of_lt_of_le hg hb2.size
        clear f0 f1 hb2 hg
        by_cases hh : HasNm nmP ps wk
        · rw [pb_yes hh]
          by_cases hk0 : 0 < k
          · have hd0 : decide ((0 : Int) < (k : Int)) = true := by simp; omega
            have hkI1 : (k : Int) - 1 < (ws.length : Int) := by omega
            have hkN : ((k : Int) - 1).toNat = k - 1 := by omega
            have hk1I : (1 : Int) ≤ (k : Int) := by omega
            by_cases he : wp = wk
            · have HF : Hid (pb (RouteOk ps ws) = false) := HBADE.out hk0 he
              have heb : (wp.toList == wk.toList) = true := beqL.2 he
              clear HBADH HBADE HOK he hh h
              go_wp2
              go_ret
              exact ⟨by rw [HF.out]; rfl, hb12⟩
            · have HN1 : Hid (RouteTo ps ws (k + 1)) := HOK.out hh (fun _ => he)
              have heb : (wp.toList == wk.toList) = false := beqL_no he
              clear HBADH HBADE HOK he hh h
              go_wp2
              go_roundw
              case rel => exact ⟨k + 1, by omega, by go_num, HN1, hb12⟩
              case measure => simp [intOf]; omega
          · have hd0 : decide ((0 : Int) < (k : Int)) = false := by simp; omega
            have HN1 : Hid (RouteTo ps ws (k + 1)) := HOK.out hh (fun h0 => absurd h0 hk0)
            clear HBADH HBADE HOK hh h
            go_wp2
            go_roundw
            case rel => exact ⟨k + 1, by omega, by go_num, HN1, hb12⟩
            case measure => simp [intOf]; omega
        · rw [pb_no hh]
          have HF : Hid (pb (RouteOk ps ws) = false) := HBADH.out hh
          clear HBADH HBADE HOK hh h
          go_wp2
          go_ret
          exact ⟨by rw [HF.out]; rfl, hb12⟩
      · have hke : k = ws.length := by omega
        subst hke
        have HR : Hid (pb (RouteOk ps ws) = true) := HYES.out hpre.out
        clear hpre HYES HNO h hT
        go_wp2
        go_ret
        exact ⟨by rw [HR.out]; rfl, hb⟩
  · have HR : Hid (pb (RouteOk ps ws) = false) := pb_no (fun h1 => hr h1.1)
    go_wp2_with (go_at_call 109; refine (from_no _ _ _ _ hr).mono ?_; rintro e w' ⟨rfl, rfl⟩)
    go_ret
    exact ⟨by rw [HR.out]; rfl, Below.refl _ _⟩

end Go.Proofs.YtgnjkpmbppmoeaaGreat
