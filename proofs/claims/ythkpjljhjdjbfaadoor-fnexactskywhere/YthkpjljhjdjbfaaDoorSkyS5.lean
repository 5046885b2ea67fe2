/- DERIVED. spec.l2RunwaysOk: its walk (its ways written out by wip/tools/mk_s5.py). -/
import Derived.Test.YthkpjljhjdjbfaaDoorSkyS4
namespace Go.Proofs.YthkpjljhjdjbfaaDoor
open Go.RowKit
set_option linter.unusedSimpArgs false
set_option linter.unusedVariables false

theorem dx_bound (t : Int) : -1 ≤ dxOf t ∧ dxOf t ≤ 1 := by unfold dxOf; repeat' split <;> omega
theorem dy_bound (t : Int) : -1 ≤ dyOf t ∧ dyOf t ≤ 1 := by unfold dyOf; repeat' split <;> omega
def NoSameR (rs : List DSkyRunway) (k m : Nat) : Prop := ∀ t (ht : t < rs.length) (hk : k < rs.length), t < m → ¬ ((rs[t]'ht).2.1 = (rs[k]'hk).2.1 ∧ (rs[t]'ht).2.2.1 = (rs[k]'hk).2.2.1)

set_option maxRecDepth 100000 in
set_option maxHeartbeats 8000000 in
theorem specRunways_t (x : DSky) (ao3 : Option Addr) (cap3 : Nat) (ao4 : Option Addr) (cap4 : Nat) (ao5 : Option Addr) (cap5 : Nat) (ao6 : Option Addr) (cap6 : Nat) (w : World)
    (h : SkyAt w x ao3 cap3 ao4 cap4 ao5 cap5 ao6 cap6) (hs : SizeOk x) (hn : x.2.2.2.2.2.2.length ≤ 4) :
    Calls Tryd.prog 35 #[.agg (skyCells x ao3 cap3 ao4 cap4 ao5 cap5 ao6 cap6)] w fun e w' => ∃ b : Bool, e = .returned (.bool b) ∧ (b = true ↔ RunwaysOk x.1 x.2.1 x.2.2.2.2.2.2) ∧ Below w.heap.size w w' := by
  obtain ⟨W, H, L, ps, aw, ss, rs⟩ := x
  have h6 := h.p6
  clear h
  simp only [skyCells] at *
  obtain ⟨⟨hW1, hW2⟩, ⟨hH1, hH2⟩, _⟩ := hs
  simp only at hW1 hW2 hH1 hH2
  go_enter Tryd.func35, Tryd.ntmps35
  go_wp2
  go_loopw [3] (fun i wr => ∃ k : Nat, k ≤ rs.length ∧ i = .int .i64 k ∧ Hid (∀ j h, j < k → RunwayOk W H rs j h) ∧ Below (w.heap.size + 1) (w.alloc (.cells #[.int .i64 W, .int .i64 H, .int .i64 L, .slice ao3 ps.length cap3, .slice ao4 aw.length cap4, .slice ao5 ss.length cap5, .slice ao6 rs.length cap6] 38)) wr) (fun i _ => rs.length - (intOf i).toNat)
  case atStart => exact ⟨0, Nat.zero_le _, rfl, fun j _ hj => by omega, Below.refl _ _⟩
  case round =>
    obtain ⟨k, hk, rfl, hall, hbel⟩ := hrel
    have hB := box_below hbel
    have x0 := box_cell hbel 0
    have x1 := box_cell hbel 1
    have x6 := box_cell hbel 6
    have hsz : w.heap.size < wr.heap.size := by have := hbel.size; simp at this; omega
    simp at x0 x1 x6
    by_cases hlt : k < rs.length
    · have hk1 : k - 1 < rs.length := by omega
      have hlt' : ∀ t, t < k → t < rs.length := fun t ht => by omega
      obtain ⟨b, off, rfl, hok, c0, c1, c2, c3, q0, q1, q2, q3⟩ := elem_SkyRunway h6 hlt
      have d0 := (hB.cell (p := ⟨b, off + k * 4, none⟩) hok).trans c0
      have d1 := (hB.cell (p := ⟨b, off + k * 4 + 1, none⟩) hok).trans c1
      have d2 := (hB.cell (p := ⟨b, off + k * 4 + 2, none⟩) hok).trans c2
      have d3 := (hB.cell (p := ⟨b, off + k * 4 + 3, none⟩) hok).trans c3
      by_cases hname : NameOk (rs[k]'hlt).1
      · by_cases hk0 : 0 < k
        · obtain ⟨b', off', hbo, hok', g0, _⟩ := elem_SkyRunway h6 hk1
          cases hbo
          have e0 := (hB.cell (p := ⟨b, off + (k - 1) * 4, none⟩) hok).trans g0
          have hd0 : decide ((0 : Int) < (k : Int)) = true := by simp; omega
          have hbw : b < wr.heap.size := Nat.lt_of_lt_of_le hok hB.size
          have hkI : (k : Int) - 1 < (rs.length : Int) := by omega
          have hkN : ((k : Int) - 1).toNat = k - 1 := by omega
          clear g0
          by_cases hasc : SLess (rs[k - 1]'hk1).1 (rs[k]'hlt).1
          · have hlb : Op.bytesLess (rs[k - 1]'hk1).1.toList (rs[k]'hlt).1.toList = true := hasc
            have hasc : ∀ h0 : 0 < k, SLess (rs[k - 1]'hk1).1 (rs[k]'hlt).1 := fun _ => hasc
            by_cases hX : InR (rs[k]'hlt).2.1 0 (W - 1)
            · by_cases hY : InR (rs[k]'hlt).2.2.1 0 (H - 1)
              · by_cases hT : InR (rs[k]'hlt).2.2.2 1 8
                · obtain ⟨hX1, hX2⟩ : 0 ≤ (rs[k]'hlt).2.1 ∧ (rs[k]'hlt).2.1 ≤ 15 := ⟨hX.1, by have := hX.2; omega⟩
                  obtain ⟨hY1, hY2⟩ : 0 ≤ (rs[k]'hlt).2.2.1 ∧ (rs[k]'hlt).2.2.1 ≤ 15 := ⟨hY.1, by have := hY.2; omega⟩
                  obtain ⟨hdx1, hdx2⟩ := dx_bound (rs[k]'hlt).2.2.2
                  obtain ⟨hdy1, hdy2⟩ := dy_bound (rs[k]'hlt).2.2.2
                  by_cases hDX : InR ((rs[k]'hlt).2.1 - dxOf (rs[k]'hlt).2.2.2) 0 (W - 1)
                  · by_cases hDY : InR ((rs[k]'hlt).2.2.1 - dyOf (rs[k]'hlt).2.2.2) 0 (H - 1)
                    · go_wp2
                      go_quiet ((first | (go_at_call 55; exact Calls.quiet_of_same (nameOk_yes _ _ q0 hname)) | (go_at_call 30; exact Calls.quiet_of_same (in_yes _ _ _ _ (by assumption))) | (go_at_call 30; exact Calls.quiet_of_same (in_no _ _ _ _ (by assumption)))))
                      go_wp2
                      go_quiet ((first | (go_at_call 61; refine (spec_l2Dx _ _).mono ?_; rintro e w9 ⟨rfl, rfl⟩; exact ⟨rfl, _, rfl⟩) | (go_at_call 62; refine (spec_l2Dy _ _).mono ?_; rintro e w9 ⟨rfl, rfl⟩; exact ⟨rfl, _, rfl⟩) | (go_at_call 30; refine (in_yes _ _ _ _ (by assumption)).mono ?_; rintro e w9 ⟨rfl, rfl⟩; exact ⟨rfl, _, rfl⟩) | (go_at_call 30; refine (in_no _ _ _ _ (by assumption)).mono ?_; rintro e w9 ⟨rfl, rfl⟩; exact ⟨rfl, _, rfl⟩)))
                      have HQ : Hid (NameOk (rs[k]'hlt).1 ∧ (∀ h0 : 0 < k, SLess (rs[k - 1]'hk1).1 (rs[k]'hlt).1) ∧ InR (rs[k]'hlt).2.1 0 (W - 1) ∧ InR (rs[k]'hlt).2.2.1 0 (H - 1) ∧ InR (rs[k]'hlt).2.2.2 1 8 ∧ InR ((rs[k]'hlt).2.1 - dxOf (rs[k]'hlt).2.2.2) 0 (W - 1) ∧ InR ((rs[k]'hlt).2.2.1 - dyOf (rs[k]'hlt).2.2.2) 0 (H - 1)) := ⟨hname, hasc, hX, hY, hT, hDX, hDY⟩
                      have HALL : Hid (∀ j h, j < k → RunwayOk W H rs j h) := hall
                      clear hname hasc hX hY hT hDX hDY hall c0 c1 c2 c3 q0 q1 q2 q3
                      go_wp2
                      go_loopw [5] (fun j w2 => ∃ m : Nat, m ≤ k ∧ j = .int .i64 m ∧ Hid (NoSameR rs k m) ∧ ∃ n2, w2 = (wr.alloc (.cells #[.string (rs[k]'hlt).1, .int .i64 (rs[k]'hlt).2.1, .int .i64 (rs[k]'hlt).2.2.1, .int .i64 (rs[k]'hlt).2.2.2] 83)).drewN n2) (fun j _ => k - (intOf j).toNat)
                      case atStart => exact ⟨0, Nat.zero_le _, rfl, fun t _ _ ht => by omega, _, by rw [World.drewN_drewN]⟩
                      case round =>
                        obtain ⟨m, hm, rfl, hno, n2, rfl⟩ := hrel
                        by_cases hmk : m < k
                        · obtain ⟨b', off', hbo, hok', _, g1, g2, _⟩ := elem_SkyRunway h6 (hlt' m hmk)
                          cases hbo
                          have e1 := (hB.cell (p := ⟨b, off + m * 4 + 1, none⟩) hok).trans g1
                          have e2 := (hB.cell (p := ⟨b, off + m * 4 + 2, none⟩) hok).trans g2
                          have hmI : (m : Int) < (rs.length : Int) := by have := hlt' m hmk; omega
                          have hbw : b < wr.heap.size := Nat.lt_of_lt_of_le hok hB.size
                          by_cases hXe : (rs[m]'(hlt' m hmk)).2.1 = (rs[k]'hlt).2.1
                          · have hXb : ((rs[m]'(hlt' m hmk)).2.1 == (rs[k]'hlt).2.1) = true := beq_iff_eq.2 hXe
                            by_cases hYe : (rs[m]'(hlt' m hmk)).2.2.1 = (rs[k]'hlt).2.2.1
                            · have hYb : ((rs[m]'(hlt' m hmk)).2.2.1 == (rs[k]'hlt).2.2.1) = true := beq_iff_eq.2 hYe
                              have HF : Hid (¬ RunwaysOk W H rs) := fun h => (h.2 k hlt).2.2.2.2.2.2.2 m hmk ⟨hXe, hYe⟩
                              clear hXe hYe g1 g2 hno
                              go_wp2
                              go_quiet (fail)
                              go_wp2
                              go_ret
                              exact ⟨false, rfl, by simp [HF.out], below_drewN (below_drewN (hB.alloc hB.size _) _) _⟩
                            · have hYb : ((rs[m]'(hlt' m hmk)).2.2.1 == (rs[k]'hlt).2.2.1) = false := by simpa using hYe
                              have HM : Hid (NoSameR rs k (m + 1)) := fun t ht hkk h1 h2 => by
                                by_cases e : t = m
                                · subst e; exact hYe h2.2
                                · exact hno.out t ht hkk (by omega) h2
                              clear hXe hYe g1 g2 hno
                              go_wp2
                              go_quiet (fail)
                              go_wp2
                              go_roundw
                              case rel => exact ⟨m + 1, by omega, by go_num, HM, _, rfl⟩
                              case measure => simp [intOf]; omega
                          · have hXb : ((rs[m]'(hlt' m hmk)).2.1 == (rs[k]'hlt).2.1) = false := by simpa using hXe
                            have HM : Hid (NoSameR rs k (m + 1)) := fun t ht hkk h1 h2 => by
                              by_cases e : t = m
                              · subst e; exact hXe h2.1
                              · exact hno.out t ht hkk (by omega) h2
                            clear hXe g1 g2 hno
                            go_wp2
                            go_quiet (fail)
                            go_wp2
                            go_roundw
                            case rel => exact ⟨m + 1, by omega, by go_num, HM, _, rfl⟩
                            case measure => simp [intOf]; omega
                        · have HP : Hid (RunwayOk W H rs k hlt) := ⟨HQ.out.1, HQ.out.2.1, HQ.out.2.2.1, HQ.out.2.2.2.1, HQ.out.2.2.2.2.1, HQ.out.2.2.2.2.2.1, HQ.out.2.2.2.2.2.2, fun t ht => hno.out t _ hlt (by omega)⟩
                          have HA : Hid (∀ j h, j < k + 1 → RunwayOk W H rs j h) := fun j h hj => by
                            by_cases e : j = k
                            · subst e; exact HP.out
                            · exact HALL.out j h (by omega)
                          clear hno HP HALL HQ
                          go_wp2
                          go_roundw
                          case rel => exact ⟨k + 1, by omega, by go_num, HA, below_drewN (hbel.alloc (by omega) _) _⟩
                          case measure => simp [intOf]; omega
                    · have HN : Hid (¬ RunwaysOk W H rs) := fun h => hDY (h.2 k hlt).2.2.2.2.2.2.1
                      clear hall
                      go_wp2
                      go_quiet ((first | (go_at_call 55; exact Calls.quiet_of_same (nameOk_yes _ _ q0 hname)) | (go_at_call 30; exact Calls.quiet_of_same (in_yes _ _ _ _ (by assumption))) | (go_at_call 30; exact Calls.quiet_of_same (in_no _ _ _ _ (by assumption)))))
                      go_wp2
                      go_quiet ((first | (go_at_call 61; refine (spec_l2Dx _ _).mono ?_; rintro e w9 ⟨rfl, rfl⟩; exact ⟨rfl, _, rfl⟩) | (go_at_call 62; refine (spec_l2Dy _ _).mono ?_; rintro e w9 ⟨rfl, rfl⟩; exact ⟨rfl, _, rfl⟩) | (go_at_call 30; refine (in_yes _ _ _ _ (by assumption)).mono ?_; rintro e w9 ⟨rfl, rfl⟩; exact ⟨rfl, _, rfl⟩) | (go_at_call 30; refine (in_no _ _ _ _ (by assumption)).mono ?_; rintro e w9 ⟨rfl, rfl⟩; exact ⟨rfl, _, rfl⟩)))
                      go_wp2
                      go_ret
                      exact ⟨false, rfl, by simp [HN.out], below_drewN (below_drewN (hB.alloc hB.size _) _) _⟩
                  · have HN : Hid (¬ RunwaysOk W H rs) := fun h => hDX (h.2 k hlt).2.2.2.2.2.1
                    clear hall
                    go_wp2
                    go_quiet ((first | (go_at_call 55; exact Calls.quiet_of_same (nameOk_yes _ _ q0 hname)) | (go_at_call 30; exact Calls.quiet_of_same (in_yes _ _ _ _ (by assumption))) | (go_at_call 30; exact Calls.quiet_of_same (in_no _ _ _ _ (by assumption)))))
                    go_wp2
                    go_quiet ((first | (go_at_call 61; refine (spec_l2Dx _ _).mono ?_; rintro e w9 ⟨rfl, rfl⟩; exact ⟨rfl, _, rfl⟩) | (go_at_call 62; refine (spec_l2Dy _ _).mono ?_; rintro e w9 ⟨rfl, rfl⟩; exact ⟨rfl, _, rfl⟩) | (go_at_call 30; refine (in_yes _ _ _ _ (by assumption)).mono ?_; rintro e w9 ⟨rfl, rfl⟩; exact ⟨rfl, _, rfl⟩) | (go_at_call 30; refine (in_no _ _ _ _ (by assumption)).mono ?_; rintro e w9 ⟨rfl, rfl⟩; exact ⟨rfl, _, rfl⟩)))
                    go_wp2
                    go_ret
                    exact ⟨false, rfl, by simp [HN.out], below_drewN (below_drewN (hB.alloc hB.size _) _) _⟩
                · have HN : Hid (¬ RunwaysOk W H rs) := fun h => hT ((h.2 k hlt).2.2.2.2.1)
                  clear hall
                  go_wp2
                  go_quiet ((first | (go_at_call 55; exact Calls.quiet_of_same (nameOk_yes _ _ q0 hname)) | (go_at_call 30; exact Calls.quiet_of_same (in_yes _ _ _ _ (by assumption))) | (go_at_call 30; exact Calls.quiet_of_same (in_no _ _ _ _ (by assumption)))))
                  go_wp2
                  go_ret
                  exact ⟨false, rfl, by simp [HN.out], below_drewN (hB.alloc hB.size _) _⟩
              · have HN : Hid (¬ RunwaysOk W H rs) := fun h => hY ((h.2 k hlt).2.2.2.1)
                clear hall
                go_wp2
                go_quiet ((first | (go_at_call 55; exact Calls.quiet_of_same (nameOk_yes _ _ q0 hname)) | (go_at_call 30; exact Calls.quiet_of_same (in_yes _ _ _ _ (by assumption))) | (go_at_call 30; exact Calls.quiet_of_same (in_no _ _ _ _ (by assumption)))))
                go_wp2
                go_ret
                exact ⟨false, rfl, by simp [HN.out], below_drewN (hB.alloc hB.size _) _⟩
            · have HN : Hid (¬ RunwaysOk W H rs) := fun h => hX ((h.2 k hlt).2.2.1)
              clear hall
              go_wp2
              go_quiet ((first | (go_at_call 55; exact Calls.quiet_of_same (nameOk_yes _ _ q0 hname)) | (go_at_call 30; exact Calls.quiet_of_same (in_yes _ _ _ _ (by assumption))) | (go_at_call 30; exact Calls.quiet_of_same (in_no _ _ _ _ (by assumption)))))
              go_wp2
              go_ret
              exact ⟨false, rfl, by simp [HN.out], below_drewN (hB.alloc hB.size _) _⟩
          · have hlb : Op.bytesLess (rs[k - 1]'hk1).1.toList (rs[k]'hlt).1.toList = false := by unfold SLess at hasc; simpa using hasc
            have HN : Hid (¬ RunwaysOk W H rs) := fun h => hasc ((h.2 k hlt).2.1 hk0)
            clear hall hasc
            go_wp2
            go_quiet ((first | (go_at_call 55; exact Calls.quiet_of_same (nameOk_yes _ _ q0 hname)) | (go_at_call 30; exact Calls.quiet_of_same (in_yes _ _ _ _ (by assumption))) | (go_at_call 30; exact Calls.quiet_of_same (in_no _ _ _ _ (by assumption)))))
            go_wp2
            go_ret
            exact ⟨false, rfl, by simp [HN.out], below_drewN (hB.alloc hB.size _) _⟩
        · have hd0 : decide ((0 : Int) < (k : Int)) = false := by simp; omega
          have hasc : ∀ h0 : 0 < k, SLess (rs[k - 1]'hk1).1 (rs[k]'hlt).1 := fun h0 => absurd h0 hk0
          by_cases hX : InR (rs[k]'hlt).2.1 0 (W - 1)
          · by_cases hY : InR (rs[k]'hlt).2.2.1 0 (H - 1)
            · by_cases hT : InR (rs[k]'hlt).2.2.2 1 8
              · obtain ⟨hX1, hX2⟩ : 0 ≤ (rs[k]'hlt).2.1 ∧ (rs[k]'hlt).2.1 ≤ 15 := ⟨hX.1, by have := hX.2; omega⟩
                obtain ⟨hY1, hY2⟩ : 0 ≤ (rs[k]'hlt).2.2.1 ∧ (rs[k]'hlt).2.2.1 ≤ 15 := ⟨hY.1, by have := hY.2; omega⟩
                obtain ⟨hdx1, hdx2⟩ := dx_bound (rs[k]'hlt).2.2.2
                obtain ⟨hdy1, hdy2⟩ := dy_bound (rs[k]'hlt).2.2.2
                by_cases hDX : InR ((rs[k]'hlt).2.1 - dxOf (rs[k]'hlt).2.2.2) 0 (W - 1)
                · by_cases hDY : InR ((rs[k]'hlt).2.2.1 - dyOf (rs[k]'hlt).2.2.2) 0 (H - 1)
                  · go_wp2
                    go_quiet ((first | (go_at_call 55; exact Calls.quiet_of_same (nameOk_yes _ _ q0 hname)) | (go_at_call 30; exact Calls.quiet_of_same (in_yes _ _ _ _ (by assumption))) | (go_at_call 30; exact Calls.quiet_of_same (in_no _ _ _ _ (by assumption)))))
                    go_wp2
                    go_quiet ((first | (go_at_call 61; refine (spec_l2Dx _ _).mono ?_; rintro e w9 ⟨rfl, rfl⟩; exact ⟨rfl, _, rfl⟩) | (go_at_call 62; refine (spec_l2Dy _ _).mono ?_; rintro e w9 ⟨rfl, rfl⟩; exact ⟨rfl, _, rfl⟩) | (go_at_call 30; refine (in_yes _ _ _ _ (by assumption)).mono ?_; rintro e w9 ⟨rfl, rfl⟩; exact ⟨rfl, _, rfl⟩) | (go_at_call 30; refine (in_no _ _ _ _ (by assumption)).mono ?_; rintro e w9 ⟨rfl, rfl⟩; exact ⟨rfl, _, rfl⟩)))
                    have HQ : Hid (NameOk (rs[k]'hlt).1 ∧ (∀ h0 : 0 < k, SLess (rs[k - 1]'hk1).1 (rs[k]'hlt).1) ∧ InR (rs[k]'hlt).2.1 0 (W - 1) ∧ InR (rs[k]'hlt).2.2.1 0 (H - 1) ∧ InR (rs[k]'hlt).2.2.2 1 8 ∧ InR ((rs[k]'hlt).2.1 - dxOf (rs[k]'hlt).2.2.2) 0 (W - 1) ∧ InR ((rs[k]'hlt).2.2.1 - dyOf (rs[k]'hlt).2.2.2) 0 (H - 1)) := ⟨hname, hasc, hX, hY, hT, hDX, hDY⟩
                    have HALL : Hid (∀ j h, j < k → RunwayOk W H rs j h) := hall
                    clear hname hasc hX hY hT hDX hDY hall c0 c1 c2 c3 q0 q1 q2 q3
                    go_wp2
                    go_loopw [5] (fun j w2 => ∃ m : Nat, m ≤ k ∧ j = .int .i64 m ∧ Hid (NoSameR rs k m) ∧ ∃ n2, w2 = (wr.alloc (.cells #[.string (rs[k]'hlt).1, .int .i64 (rs[k]'hlt).2.1, .int .i64 (rs[k]'hlt).2.2.1, .int .i64 (rs[k]'hlt).2.2.2] 83)).drewN n2) (fun j _ => k - (intOf j).toNat)
                    case atStart => exact ⟨0, Nat.zero_le _, rfl, fun t _ _ ht => by omega, _, by rw [World.drewN_drewN]⟩
                    case round =>
                      obtain ⟨m, hm, rfl, hno, n2, rfl⟩ := hrel
                      by_cases hmk : m < k
                      · exact absurd hmk (by omega)
                      · have HP : Hid (RunwayOk W H rs k hlt) := ⟨HQ.out.1, HQ.out.2.1, HQ.out.2.2.1, HQ.out.2.2.2.1, HQ.out.2.2.2.2.1, HQ.out.2.2.2.2.2.1, HQ.out.2.2.2.2.2.2, fun t ht => hno.out t _ hlt (by omega)⟩
                        have HA : Hid (∀ j h, j < k + 1 → RunwayOk W H rs j h) := fun j h hj => by
                          by_cases e : j = k
                          · subst e; exact HP.out
                          · exact HALL.out j h (by omega)
                        clear hno HP HALL HQ
                        go_wp2
                        go_roundw
                        case rel => exact ⟨k + 1, by omega, by go_num, HA, below_drewN (hbel.alloc (by omega) _) _⟩
                        case measure => simp [intOf]; omega
                  · have HN : Hid (¬ RunwaysOk W H rs) := fun h => hDY (h.2 k hlt).2.2.2.2.2.2.1
                    clear hall
                    go_wp2
                    go_quiet ((first | (go_at_call 55; exact Calls.quiet_of_same (nameOk_yes _ _ q0 hname)) | (go_at_call 30; exact Calls.quiet_of_same (in_yes _ _ _ _ (by assumption))) | (go_at_call 30; exact Calls.quiet_of_same (in_no _ _ _ _ (by assumption)))))
                    go_wp2
                    go_quiet ((first | (go_at_call 61; refine (spec_l2Dx _ _).mono ?_; rintro e w9 ⟨rfl, rfl⟩; exact ⟨rfl, _, rfl⟩) | (go_at_call 62; refine (spec_l2Dy _ _).mono ?_; rintro e w9 ⟨rfl, rfl⟩; exact ⟨rfl, _, rfl⟩) | (go_at_call 30; refine (in_yes _ _ _ _ (by assumption)).mono ?_; rintro e w9 ⟨rfl, rfl⟩; exact ⟨rfl, _, rfl⟩) | (go_at_call 30; refine (in_no _ _ _ _ (by assumption)).mono ?_; rintro e w9 ⟨rfl, rfl⟩; exact ⟨rfl, _, rfl⟩)))
                    go_wp2
                    go_ret
                    exact ⟨false, rfl, by simp [HN.out], below_drewN (below_drewN (hB.alloc hB.size _) _) _⟩
                · have HN : Hid (¬ RunwaysOk W H rs) := fun h => hDX (h.2 k hlt).2.2.2.2.2.1
                  clear hall
                  go_wp2
                  go_quiet ((first | (go_at_call 55; exact Calls.quiet_of_same (nameOk_yes _ _ q0 hname)) | (go_at_call 30; exact Calls.quiet_of_same (in_yes _ _ _ _ (by assumption))) | (go_at_call 30; exact Calls.quiet_of_same (in_no _ _ _ _ (by assumption)))))
                  go_wp2
                  go_quiet ((first | (go_at_call 61; refine (spec_l2Dx _ _).mono ?_; rintro e w9 ⟨rfl, rfl⟩; exact ⟨rfl, _, rfl⟩) | (go_at_call 62; refine (spec_l2Dy _ _).mono ?_; rintro e w9 ⟨rfl, rfl⟩; exact ⟨rfl, _, rfl⟩) | (go_at_call 30; refine (in_yes _ _ _ _ (by assumption)).mono ?_; rintro e w9 ⟨rfl, rfl⟩; exact ⟨rfl, _, rfl⟩) | (go_at_call 30; refine (in_no _ _ _ _ (by assumption)).mono ?_; rintro e w9 ⟨rfl, rfl⟩; exact ⟨rfl, _, rfl⟩)))
                  go_wp2
                  go_ret
                  exact ⟨false, rfl, by simp [HN.out], below_drewN (below_drewN (hB.alloc hB.size _) _) _⟩
              · have HN : Hid (¬ RunwaysOk W H rs) := fun h => hT ((h.2 k hlt).2.2.2.2.1)
                clear hall
                go_wp2
                go_quiet ((first | (go_at_call 55; exact Calls.quiet_of_same (nameOk_yes _ _ q0 hname)) | (go_at_call 30; exact Calls.quiet_of_same (in_yes _ _ _ _ (by assumption))) | (go_at_call 30; exact Calls.quiet_of_same (in_no _ _ _ _ (by assumption)))))
                go_wp2
                go_ret
                exact ⟨false, rfl, by simp [HN.out], below_drewN (hB.alloc hB.size _) _⟩
            · have HN : Hid (¬ RunwaysOk W H rs) := fun h => hY ((h.2 k hlt).2.2.2.1)
              clear hall
              go_wp2
              go_quiet ((first | (go_at_call 55; exact Calls.quiet_of_same (nameOk_yes _ _ q0 hname)) | (go_at_call 30; exact Calls.quiet_of_same (in_yes _ _ _ _ (by assumption))) | (go_at_call 30; exact Calls.quiet_of_same (in_no _ _ _ _ (by assumption)))))
              go_wp2
              go_ret
              exact ⟨false, rfl, by simp [HN.out], below_drewN (hB.alloc hB.size _) _⟩
          · have HN : Hid (¬ RunwaysOk W H rs) := fun h => hX ((h.2 k hlt).2.2.1)
            clear hall
            go_wp2
            go_quiet ((first | (go_at_call 55; exact Calls.quiet_of_same (nameOk_yes _ _ q0 hname)) | (go_at_call 30; exact Calls.quiet_of_same (in_yes _ _ _ _ (by assumption))) | (go_at_call 30; exact Calls.quiet_of_same (in_no _ _ _ _ (by assumption)))))
            go_wp2
            go_ret
            exact ⟨false, rfl, by simp [HN.out], below_drewN (hB.alloc hB.size _) _⟩
      · have HN : Hid (¬ RunwaysOk W H rs) := fun h => hname (h.2 k hlt).1
        clear hall
        go_wp2
        go_quiet ((go_at_call 55; exact Calls.quiet_of_same (nameOk_no _ _ q0 hname)))
        go_wp2
        go_ret
        exact ⟨false, rfl, by simp [HN.out], below_drewN (hB.alloc hB.size _) _⟩
    · have HN : Hid (RunwaysOk W H rs) := ⟨by omega, fun j h => hall.out j h (by omega)⟩
      go_wp2
      go_ret
      exact ⟨true, rfl, by simp [HN.out], hB⟩

end Go.Proofs.YthkpjljhjdjbfaaDoor
