/- DERIVED. spec.l2AirwaysOk: its walk (its ways written out by wip/tools/mk_s3.py). -/
import Derived.Test.YthkpjljhjdjbfaaDoorSkyS2
namespace Go.Proofs.YthkpjljhjdjbfaaDoor
open Go.RowKit
set_option linter.unusedSimpArgs false
set_option linter.unusedVariables false

def ChainPre (ps : List DSkyPoint) (c : List ByteArray) (m : Nat) : Prop := ∀ t (ht : t < c.length), t < m → HasPoint ps (c[t]'ht) ∧ ∀ j (hj : j < t), (c[j]'(by omega)) ≠ c[t]'ht
def NoneOf (c : List ByteArray) (m t : Nat) : Prop := ∀ u (hu : u < c.length) (hm : m < c.length), u < t → (c[u]'hu) ≠ c[m]'hm

set_option maxRecDepth 100000 in
set_option maxHeartbeats 4000000 in
theorem specAirways_t (x : DSky) (ao3 : Option Addr) (cap3 : Nat) (ao4 : Option Addr) (cap4 : Nat) (ao5 : Option Addr) (cap5 : Nat) (ao6 : Option Addr) (cap6 : Nat) (w : World)
    (h : SkyAt w x ao3 cap3 ao4 cap4 ao5 cap5 ao6 cap6) (hps : x.2.2.2.1.length ≤ 1000) (hn : x.2.2.2.2.1.length ≤ 8) :
    Calls Tryd.prog 32 #[.agg (skyCells x ao3 cap3 ao4 cap4 ao5 cap5 ao6 cap6)] w fun e w' => ∃ b : Bool, e = .returned (.bool b) ∧ (b = true ↔ AirwaysOk x.2.2.2.1 x.2.2.2.2.1) ∧ Below w.heap.size w w' := by
  obtain ⟨W, H, L, ps, aw, ss, rs⟩ := x
  have h3 := h.p3
  have h4 := h.p4
  clear h
  simp only [skyCells] at *
  go_enter Tryd.func32, Tryd.ntmps32
  go_wp2
  go_loopw [3] (fun i wr => ∃ k : Nat, k ≤ aw.length ∧ i = .int .i64 k ∧ Hid (∀ j h, j < k → AirwayOk ps aw j h) ∧ Below (w.heap.size + 1) (w.alloc (.cells #[.int .i64 W, .int .i64 H, .int .i64 L, .slice ao3 ps.length cap3, .slice ao4 aw.length cap4, .slice ao5 ss.length cap5, .slice ao6 rs.length cap6] 38)) wr) (fun i _ => aw.length - (intOf i).toNat)
  case atStart => exact ⟨0, Nat.zero_le _, rfl, fun j _ hj => by omega, Below.refl _ _⟩
  case round =>
    obtain ⟨k, hk, rfl, hall, hbel⟩ := hrel
    have hB := box_below hbel
    have x3 := box_cell hbel 3
    have x4 := box_cell hbel 4
    have hsz : w.heap.size < wr.heap.size := by have := hbel.size; simp at this; omega
    simp at x3 x4
    by_cases hlt : k < aw.length
    · have hk1 : k - 1 < aw.length := by omega
      obtain ⟨b, off, ao1, cap1, rfl, hok, c0, c1, q0, p1⟩ := elem_SkyAirway h4 hlt
      have d0 := (hB.cell (p := ⟨b, off + k * 2, none⟩) hok).trans c0
      have d1 := (hB.cell (p := ⟨b, off + k * 2 + 1, none⟩) hok).trans c1
      have hcm : (aw[k]'hlt).2.length ≤ 9223372036854775807 := Nat.le_trans p1.1 p1.2.1
      by_cases hname : NameOk (aw[k]'hlt).1
      · by_cases hk0 : 0 < k
        · obtain ⟨b', off', ao1', cap1', hbo, hok', g0, _⟩ := elem_SkyAirway h4 hk1
          cases hbo
          have e0 := (hB.cell (p := ⟨b, off + (k - 1) * 2, none⟩) hok).trans g0
          have hd0 : decide ((0 : Int) < (k : Int)) = true := by simp; omega
          have hbw : b < wr.heap.size := Nat.lt_of_lt_of_le hok hB.size
          have hkI : (k : Int) - 1 < (aw.length : Int) := by omega
          have hkN : ((k : Int) - 1).toNat = k - 1 := by omega
          clear g0
          by_cases hasc : SLess (aw[k - 1]'hk1).1 (aw[k]'hlt).1
          · have hlb : Op.bytesLess (aw[k - 1]'hk1).1.toList (aw[k]'hlt).1.toList = true := hasc
            have hasc : ∀ h0 : 0 < k, SLess (aw[k - 1]'hk1).1 (aw[k]'hlt).1 := fun _ => hasc
            by_cases hC : InR ((aw[k]'hlt).2.length : Int) 2 8
            · go_wp2
              go_quiet ((first | (go_at_call 55; exact Calls.quiet_of_same (nameOk_yes _ _ q0 hname)) | (go_at_call 30; exact Calls.quiet_of_same (in_yes _ _ _ _ (by assumption))) | (go_at_call 30; exact Calls.quiet_of_same (in_no _ _ _ _ (by assumption)))))
              have HQ : Hid (NameOk (aw[k]'hlt).1 ∧ (∀ h0 : 0 < k, SLess (aw[k - 1]'hk1).1 (aw[k]'hlt).1) ∧ 2 ≤ (aw[k]'hlt).2.length ∧ (aw[k]'hlt).2.length ≤ 8) := ⟨hname, hasc, by have := hC.1; omega, by have := hC.2; omega⟩
              have HALL : Hid (∀ j h, j < k → AirwayOk ps aw j h) := hall
              have hc8 : (aw[k]'hlt).2.length ≤ 8 := by have := hC.2; omega
              clear hname hasc hC hall c0 c1 q0
              generalize hcg : (aw[k]'hlt).2 = c at *
              have HC : Hid ((aw[k]'hlt).2 = c) := hcg
              clear hcg
              go_wp2
              go_loopw [5] (fun j w2 => ∃ m : Nat, m ≤ c.length ∧ j = .int .i64 m ∧ Hid (ChainPre ps c m) ∧ ∃ n2, w2 = (wr.alloc (.cells #[.string (aw[k]'hlt).1, .slice ao1 c.length cap1] 80)).drewN n2) (fun j _ => c.length - (intOf j).toNat)
              case atStart => exact ⟨0, Nat.zero_le _, rfl, fun t _ ht => by omega, _, rfl⟩
              case round =>
                obtain ⟨m, hm, rfl, hpre, n2, rfl⟩ := hrel
                by_cases hmc : m < c.length
                · obtain ⟨b1, off1, rfl, hok1, e0, p0⟩ := elem_String p1 hmc
                  have f0 := (hB.cell (p := ⟨b1, off1 + m, none⟩) hok1).trans e0
                  have hb1w : b1 < wr.heap.size := Nat.lt_of_lt_of_le hok1 hB.size
                  have hmI : (m : Int) < (c.length : Int) := by omega
                  have hpt : ∀ nq, SliceAt vSkyPoint (old ((wr.alloc (.cells #[.string (aw[k]'hlt).1, .slice (some ⟨b1, off1, none⟩) c.length cap1] 80)).drewN nq)) ((wr.alloc (.cells #[.string (aw[k]'hlt).1, .slice (some ⟨b1, off1, none⟩) c.length cap1] 80)).drewN nq) ao3 cap3 ps := fun nq => h3.later (below_drewN (hB.alloc hB.size _) nq)
                  have HPT : Hid (∀ nq, SliceAt vSkyPoint (old ((wr.alloc (.cells #[.string (aw[k]'hlt).1, .slice (some ⟨b1, off1, none⟩) c.length cap1] 80)).drewN nq)) ((wr.alloc (.cells #[.string (aw[k]'hlt).1, .slice (some ⟨b1, off1, none⟩) c.length cap1] 80)).drewN nq) ao3 cap3 ps) := hpt
                  clear hpt e0
                  by_cases hhas : HasPoint ps (c[m]'hmc)
                  · have hidx : ¬ pIdx ps (c[m]'hmc) < 0 := by have := pIdx_has.1 hhas; omega
                    have HH : Hid (HasPoint ps (c[m]'hmc)) := hhas
                    clear hhas
                    go_wp2
                    go_quiet ((go_at_call 56; refine (specPoint_any _ _ _ _ _ hps (HPT.out _)).mono ?_; rintro e w9 ⟨rfl, rfl⟩; exact ⟨rfl, _, rfl⟩))
                    go_wp2
                    go_loopw [6] (fun i w3 => ∃ t : Nat, t ≤ m ∧ i = .int .i64 t ∧ Hid (NoneOf c m t) ∧ ∃ n3, w3 = (wr.alloc (.cells #[.string (aw[k]'hlt).1, .slice (some ⟨b1, off1, none⟩) c.length cap1] 80)).drewN n3) (fun i _ => m - (intOf i).toNat)
                    case atStart => exact ⟨0, Nat.zero_le _, rfl, fun t _ _ ht => by omega, _, by rw [World.drewN_drewN]⟩
                    case round =>
                      obtain ⟨t, ht, rfl, hnone, n3, rfl⟩ := hrel
                      by_cases htm : t < m
                      · obtain ⟨b2, off2, hbo, _, e1, _⟩ := elem_String p1 (show t < c.length by omega)
                        cases hbo
                        have f1 := (hB.cell (p := ⟨b1, off1 + t, none⟩) hok1).trans e1
                        have htI : (t : Int) < (c.length : Int) := by omega
                        have htc : t < c.length := by omega
                        clear e1
                        by_cases heq : (c[t]'htc) = c[m]'hmc
                        · have hbq := str_eq_yes heq
                          have HF : Hid (¬ AirwaysOk ps aw) := fun h => by
                            have h5 := ((h.2 k hlt).2.2.2.2 m (by rw [HC.out]; exact hmc)).2 t htm
                            simp only [HC.out] at h5
                            exact h5 heq
                          clear heq hnone hpre
                          go_wp2
                          go_quiet (fail)
                          go_wp2
                          go_ret
                          exact ⟨false, rfl, by simp [HF.out], below_drewN (below_drewN (hB.alloc hB.size _) _) _⟩
                        · have hbq := str_eq_no heq
                          have HM : Hid (NoneOf c m (t + 1)) := fun u hu hm2 h1 => by
                            by_cases e : u = t
                            · subst e; exact heq
                            · exact hnone.out u hu hm2 (by omega)
                          clear heq hnone
                          go_wp2
                          go_quiet (fail)
                          go_wp2
                          go_roundw
                          case rel => exact ⟨t + 1, by omega, by go_num, HM, _, rfl⟩
                          case measure => simp [intOf]; omega
                      · have HP2 : Hid (ChainPre ps c (m + 1)) := fun u hu h1 => by
                          by_cases e : u = m
                          · subst e; exact ⟨HH.out, fun j hj => hnone.out j (by omega) hmc (by omega)⟩
                          · exact hpre.out u hu (by omega)
                        clear hnone hpre
                        go_wp2
                        go_roundw
                        case rel => exact ⟨m + 1, by omega, by go_num, HP2, _, rfl⟩
                        case measure => simp [intOf]; omega
                  · have hidx : pIdx ps (c[m]'hmc) < 0 := by
                      by_cases h6 : 0 ≤ pIdx ps (c[m]'hmc)
                      · exact absurd (pIdx_has.2 h6) hhas
                      · omega
                    have HF : Hid (¬ AirwaysOk ps aw) := fun h => by
                      have h5 := ((h.2 k hlt).2.2.2.2 m (by rw [HC.out]; exact hmc)).1
                      simp only [HC.out] at h5
                      exact hhas h5
                    clear hhas hpre
                    go_wp2
                    go_quiet ((go_at_call 56; refine (specPoint_any _ _ _ _ _ hps (HPT.out _)).mono ?_; rintro e w9 ⟨rfl, rfl⟩; exact ⟨rfl, _, rfl⟩))
                    go_wp2
                    go_ret
                    exact ⟨false, rfl, by simp [HF.out], below_drewN (below_drewN (hB.alloc hB.size _) _) _⟩
                · have HP : Hid (AirwayOk ps aw k hlt) := by
                    refine ⟨HQ.out.1, HQ.out.2.1, HC.out ▸ HQ.out.2.2.1, HC.out ▸ HQ.out.2.2.2, ?_⟩
                    rw [HC.out]
                    exact fun t ht => hpre.out t ht (by omega)
                  have HA : Hid (∀ j h, j < k + 1 → AirwayOk ps aw j h) := fun j h hj => by
                    by_cases e : j = k
                    · subst e; exact HP.out
                    · exact HALL.out j h (by omega)
                  clear hpre HP HALL HQ
                  go_wp2
                  go_roundw
                  case rel => exact ⟨k + 1, by omega, by go_num, HA, below_drewN (hbel.alloc (by omega) _) _⟩
                  case measure => simp [intOf]; omega
            · have HN : Hid (¬ AirwaysOk ps aw) := fun h => hC ⟨by have := (h.2 k hlt).2.2.1; omega, by have := (h.2 k hlt).2.2.2.1; omega⟩
              clear hall
              go_wp2
              go_quiet ((first | (go_at_call 55; exact Calls.quiet_of_same (nameOk_yes _ _ q0 hname)) | (go_at_call 30; exact Calls.quiet_of_same (in_yes _ _ _ _ (by assumption))) | (go_at_call 30; exact Calls.quiet_of_same (in_no _ _ _ _ (by assumption)))))
              go_wp2
              go_ret
              exact ⟨false, rfl, by simp [HN.out], below_drewN (hB.alloc hB.size _) _⟩
          · have hlb : Op.bytesLess (aw[k - 1]'hk1).1.toList (aw[k]'hlt).1.toList = false := by unfold SLess at hasc; simpa using hasc
            have HN : Hid (¬ AirwaysOk ps aw) := fun h => hasc ((h.2 k hlt).2.1 hk0)
            clear hall hasc
            go_wp2
            go_quiet ((first | (go_at_call 55; exact Calls.quiet_of_same (nameOk_yes _ _ q0 hname)) | (go_at_call 30; exact Calls.quiet_of_same (in_yes _ _ _ _ (by assumption))) | (go_at_call 30; exact Calls.quiet_of_same (in_no _ _ _ _ (by assumption)))))
            go_wp2
            go_ret
            exact ⟨false, rfl, by simp [HN.out], below_drewN (hB.alloc hB.size _) _⟩
        · have hd0 : decide ((0 : Int) < (k : Int)) = false := by simp; omega
          have hasc : ∀ h0 : 0 < k, SLess (aw[k - 1]'hk1).1 (aw[k]'hlt).1 := fun h0 => absurd h0 hk0
          by_cases hC : InR ((aw[k]'hlt).2.length : Int) 2 8
          · go_wp2
            go_quiet ((first | (go_at_call 55; exact Calls.quiet_of_same (nameOk_yes _ _ q0 hname)) | (go_at_call 30; exact Calls.quiet_of_same (in_yes _ _ _ _ (by assumption))) | (go_at_call 30; exact Calls.quiet_of_same (in_no _ _ _ _ (by assumption)))))
            have HQ : Hid (NameOk (aw[k]'hlt).1 ∧ (∀ h0 : 0 < k, SLess (aw[k - 1]'hk1).1 (aw[k]'hlt).1) ∧ 2 ≤ (aw[k]'hlt).2.length ∧ (aw[k]'hlt).2.length ≤ 8) := ⟨hname, hasc, by have := hC.1; omega, by have := hC.2; omega⟩
            have HALL : Hid (∀ j h, j < k → AirwayOk ps aw j h) := hall
            have hc8 : (aw[k]'hlt).2.length ≤ 8 := by have := hC.2; omega
            clear hname hasc hC hall c0 c1 q0
            generalize hcg : (aw[k]'hlt).2 = c at *
            have HC : Hid ((aw[k]'hlt).2 = c) := hcg
            clear hcg
            go_wp2
            go_loopw [5] (fun j w2 => ∃ m : Nat, m ≤ c.length ∧ j = .int .i64 m ∧ Hid (ChainPre ps c m) ∧ ∃ n2, w2 = (wr.alloc (.cells #[.string (aw[k]'hlt).1, .slice ao1 c.length cap1] 80)).drewN n2) (fun j _ => c.length - (intOf j).toNat)
            case atStart => exact ⟨0, Nat.zero_le _, rfl, fun t _ ht => by omega, _, rfl⟩
            case round =>
              obtain ⟨m, hm, rfl, hpre, n2, rfl⟩ := hrel
              by_cases hmc : m < c.length
              · obtain ⟨b1, off1, rfl, hok1, e0, p0⟩ := elem_String p1 hmc
                have f0 := (hB.cell (p := ⟨b1, off1 + m, none⟩) hok1).trans e0
                have hb1w : b1 < wr.heap.size := Nat.lt_of_lt_of_le hok1 hB.size
                have hmI : (m : Int) < (c.length : Int) := by omega
                have hpt : ∀ nq, SliceAt vSkyPoint (old ((wr.alloc (.cells #[.string (aw[k]'hlt).1, .slice (some ⟨b1, off1, none⟩) c.length cap1] 80)).drewN nq)) ((wr.alloc (.cells #[.string (aw[k]'hlt).1, .slice (some ⟨b1, off1, none⟩) c.length cap1] 80)).drewN nq) ao3 cap3 ps := fun nq => h3.later (below_drewN (hB.alloc hB.size _) nq)
                have HPT : Hid (∀ nq, SliceAt vSkyPoint (old ((wr.alloc (.cells #[.string (aw[k]'hlt).1, .slice (some ⟨b1, off1, none⟩) c.length cap1] 80)).drewN nq)) ((wr.alloc (.cells #[.string (aw[k]'hlt).1, .slice (some ⟨b1, off1, none⟩) c.length cap1] 80)).drewN nq) ao3 cap3 ps) := hpt
                clear hpt e0
                by_cases hhas : HasPoint ps (c[m]'hmc)
                · have hidx : ¬ pIdx ps (c[m]'hmc) < 0 := by have := pIdx_has.1 hhas; omega
                  have HH : Hid (HasPoint ps (c[m]'hmc)) := hhas
                  clear hhas
                  go_wp2
                  go_quiet ((go_at_call 56; refine (specPoint_any _ _ _ _ _ hps (HPT.out _)).mono ?_; rintro e w9 ⟨rfl, rfl⟩; exact ⟨rfl, _, rfl⟩))
                  go_wp2
                  go_loopw [6] (fun i w3 => ∃ t : Nat, t ≤ m ∧ i = .int .i64 t ∧ Hid (NoneOf c m t) ∧ ∃ n3, w3 = (wr.alloc (.cells #[.string (aw[k]'hlt).1, .slice (some ⟨b1, off1, none⟩) c.length cap1] 80)).drewN n3) (fun i _ => m - (intOf i).toNat)
                  case atStart => exact ⟨0, Nat.zero_le _, rfl, fun t _ _ ht => by omega, _, by rw [World.drewN_drewN]⟩
                  case round =>
                    obtain ⟨t, ht, rfl, hnone, n3, rfl⟩ := hrel
                    by_cases htm : t < m
                    · obtain ⟨b2, off2, hbo, _, e1, _⟩ := elem_String p1 (show t < c.length by omega)
                      cases hbo
                      have f1 := (hB.cell (p := ⟨b1, off1 + t, none⟩) hok1).trans e1
                      have htI : (t : Int) < (c.length : Int) := by omega
                      have htc : t < c.length := by omega
                      clear e1
                      by_cases heq : (c[t]'htc) = c[m]'hmc
                      · have hbq := str_eq_yes heq
                        have HF : Hid (¬ AirwaysOk ps aw) := fun h => by
                          have h5 := ((h.2 k hlt).2.2.2.2 m (by rw [HC.out]; exact hmc)).2 t htm
                          simp only [HC.out] at h5
                          exact h5 heq
                        clear heq hnone hpre
                        go_wp2
                        go_quiet (fail)
                        go_wp2
                        go_ret
                        exact ⟨false, rfl, by simp [HF.out], below_drewN (below_drewN (hB.alloc hB.size _) _) _⟩
                      · have hbq := str_eq_no heq
                        have HM : Hid (NoneOf c m (t + 1)) := fun u hu hm2 h1 => by
                          by_cases e : u = t
                          · subst e; exact heq
                          · exact hnone.out u hu hm2 (by omega)
                        clear heq hnone
                        go_wp2
                        go_quiet (fail)
                        go_wp2
                        go_roundw
                        case rel => exact ⟨t + 1, by omega, by go_num, HM, _, rfl⟩
                        case measure => simp [intOf]; omega
                    · have HP2 : Hid (ChainPre ps c (m + 1)) := fun u hu h1 => by
                        by_cases e : u = m
                        · subst e; exact ⟨HH.out, fun j hj => hnone.out j (by omega) hmc (by omega)⟩
                        · exact hpre.out u hu (by omega)
                      clear hnone hpre
                      go_wp2
                      go_roundw
                      case rel => exact ⟨m + 1, by omega, by go_num, HP2, _, rfl⟩
                      case measure => simp [intOf]; omega
                · have hidx : pIdx ps (c[m]'hmc) < 0 := by
                    by_cases h6 : 0 ≤ pIdx ps (c[m]'hmc)
                    · exact absurd (pIdx_has.2 h6) hhas
                    · omega
                  have HF : Hid (¬ AirwaysOk ps aw) := fun h => by
                    have h5 := ((h.2 k hlt).2.2.2.2 m (by rw [HC.out]; exact hmc)).1
                    simp only [HC.out] at h5
                    exact hhas h5
                  clear hhas hpre
                  go_wp2
                  go_quiet ((go_at_call 56; refine (specPoint_any _ _ _ _ _ hps (HPT.out _)).mono ?_; rintro e w9 ⟨rfl, rfl⟩; exact ⟨rfl, _, rfl⟩))
                  go_wp2
                  go_ret
                  exact ⟨false, rfl, by simp [HF.out], below_drewN (below_drewN (hB.alloc hB.size _) _) _⟩
              · have HP : Hid (AirwayOk ps aw k hlt) := by
                  refine ⟨HQ.out.1, HQ.out.2.1, HC.out ▸ HQ.out.2.2.1, HC.out ▸ HQ.out.2.2.2, ?_⟩
                  rw [HC.out]
                  exact fun t ht => hpre.out t ht (by omega)
                have HA : Hid (∀ j h, j < k + 1 → AirwayOk ps aw j h) := fun j h hj => by
                  by_cases e : j = k
                  · subst e; exact HP.out
                  · exact HALL.out j h (by omega)
                clear hpre HP HALL HQ
                go_wp2
                go_roundw
                case rel => exact ⟨k + 1, by omega, by go_num, HA, below_drewN (hbel.alloc (by omega) _) _⟩
                case measure => simp [intOf]; omega
          · have HN : Hid (¬ AirwaysOk ps aw) := fun h => hC ⟨by have := (h.2 k hlt).2.2.1; omega, by have := (h.2 k hlt).2.2.2.1; omega⟩
            clear hall
            go_wp2
            go_quiet ((first | (go_at_call 55; exact Calls.quiet_of_same (nameOk_yes _ _ q0 hname)) | (go_at_call 30; exact Calls.quiet_of_same (in_yes _ _ _ _ (by assumption))) | (go_at_call 30; exact Calls.quiet_of_same (in_no _ _ _ _ (by assumption)))))
            go_wp2
            go_ret
            exact ⟨false, rfl, by simp [HN.out], below_drewN (hB.alloc hB.size _) _⟩
      · have HN : Hid (¬ AirwaysOk ps aw) := fun h => hname (h.2 k hlt).1
        clear hall
        go_wp2
        go_quiet ((go_at_call 55; exact Calls.quiet_of_same (nameOk_no _ _ q0 hname)))
        go_wp2
        go_ret
        exact ⟨false, rfl, by simp [HN.out], below_drewN (hB.alloc hB.size _) _⟩
    · have HN : Hid (AirwaysOk ps aw) := ⟨by omega, fun j h => hall.out j h (by omega)⟩
      go_wp2
      go_ret
      exact ⟨true, rfl, by simp [HN.out], hB⟩

end Go.Proofs.YthkpjljhjdjbfaaDoor
