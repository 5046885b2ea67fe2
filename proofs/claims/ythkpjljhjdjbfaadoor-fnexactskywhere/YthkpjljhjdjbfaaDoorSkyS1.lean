/- DERIVED. spec.l2PointsOk: its walk. -/
import Derived.Test.YthkpjljhjdjbfaaDoorSkyS0
namespace Go.Proofs.YthkpjljhjdjbfaaDoor
open Go.RowKit
set_option linter.unusedSimpArgs false
set_option linter.unusedVariables false

/-- The four slices of a sky. -/
structure SkyAt (w : World) (x : DSky) (ao3 : Option Addr) (cap3 : Nat) (ao4 : Option Addr) (cap4 : Nat) (ao5 : Option Addr) (cap5 : Nat) (ao6 : Option Addr) (cap6 : Nat) : Prop where
  p3 : SliceAt vSkyPoint (old w) w ao3 cap3 x.2.2.2.1
  p4 : SliceAt vSkyAirway (old w) w ao4 cap4 x.2.2.2.2.1
  p5 : SliceAt vSkySector (old w) w ao5 cap5 x.2.2.2.2.2.1
  p6 : SliceAt vSkyRunway (old w) w ao6 cap6 x.2.2.2.2.2.2

theorem SkyAt.later {w w' : World} {x : DSky} {ao3 : Option Addr} {cap3 : Nat} {ao4 : Option Addr} {cap4 : Nat} {ao5 : Option Addr} {cap5 : Nat} {ao6 : Option Addr} {cap6 : Nat} (h : SkyAt w x ao3 cap3 ao4 cap4 ao5 cap5 ao6 cap6) (hb : Below w.heap.size w w') : SkyAt w' x ao3 cap3 ao4 cap4 ao5 cap5 ao6 cap6 :=
  ⟨h.p3.later hb, h.p4.later hb, h.p5.later hb, h.p6.later hb⟩

abbrev skyCells (x : DSky) (ao3 : Option Addr) (cap3 : Nat) (ao4 : Option Addr) (cap4 : Nat) (ao5 : Option Addr) (cap5 : Nat) (ao6 : Option Addr) (cap6 : Nat) : Array Value :=
  #[.int .i64 x.1, .int .i64 x.2.1, .int .i64 x.2.2.1, .slice ao3 x.2.2.2.1.length cap3, .slice ao4 x.2.2.2.2.1.length cap4, .slice ao5 x.2.2.2.2.2.1.length cap5, .slice ao6 x.2.2.2.2.2.2.length cap6]

/-- None of the first m points is in point k's cell. -/
def NoSame (ps : List DSkyPoint) (k m : Nat) : Prop := ∀ t (ht : t < ps.length) (hk : k < ps.length), t < m → ¬ ((ps[t]'ht).2.1 = (ps[k]'hk).2.1 ∧ (ps[t]'ht).2.2 = (ps[k]'hk).2.2)

theorem box_cell {w wr : World} {cs : Array Value} {t : TypeId} (h : Below (w.heap.size + 1) (w.alloc (.cells cs t)) wr) (i : Nat) : wr.cell? ⟨w.heap.size, i, none⟩ = cs[i]? := by
  rw [h.cell (p := ⟨w.heap.size, i, none⟩) (by show w.heap.size < w.heap.size + 1; omega)]
  have : (w.alloc (.cells cs t)).heap[w.heap.size]? = some (.cells cs t (0, 0)) := heap_alloc_new w _
  unfold World.cell?
  simp only [this]
  rfl

theorem box_below {w wr : World} {o : Obj} (h : Below (w.heap.size + 1) (w.alloc o) wr) : Below w.heap.size w wr :=
  ((Below.refl w.heap.size w).alloc (Nat.le_refl _) o).trans (h.mono (by omega))

set_option maxRecDepth 100000 in
set_option maxHeartbeats 4000000 in
theorem specPoints_t (x : DSky) (ao3 : Option Addr) (cap3 : Nat) (ao4 : Option Addr) (cap4 : Nat) (ao5 : Option Addr) (cap5 : Nat) (ao6 : Option Addr) (cap6 : Nat) (w : World)
    (h : SkyAt w x ao3 cap3 ao4 cap4 ao5 cap5 ao6 cap6) (hs : SizeOk x) (hn : x.2.2.2.1.length ≤ 16) :
    Calls Tryd.prog 31 #[.agg (skyCells x ao3 cap3 ao4 cap4 ao5 cap5 ao6 cap6)] w fun e w' => ∃ b : Bool, e = .returned (.bool b) ∧ (b = true ↔ PointsOk x.1 x.2.1 x.2.2.2.1) ∧ Below w.heap.size w w' := by
  obtain ⟨W, H, L, ps, aw, ss, rs⟩ := x
  have h3 := h.p3
  clear h
  simp only [skyCells] at *
  obtain ⟨⟨hW1, hW2⟩, ⟨hH1, hH2⟩, _⟩ := hs
  simp only at hW1 hW2 hH1 hH2
  go_enter Tryd.func31, Tryd.ntmps31
  go_wp2
  go_loopw [3] (fun i wr => ∃ k : Nat, k ≤ ps.length ∧ i = .int .i64 k ∧ Hid (∀ j h, j < k → PointOk W H ps j h) ∧ Below (w.heap.size + 1) (w.alloc (.cells #[.int .i64 W, .int .i64 H, .int .i64 L, .slice ao3 ps.length cap3, .slice ao4 aw.length cap4, .slice ao5 ss.length cap5, .slice ao6 rs.length cap6] 38)) wr) (fun i _ => ps.length - (intOf i).toNat)
  case atStart => exact ⟨0, Nat.zero_le _, rfl, fun j _ hj => by omega, Below.refl _ _⟩
  case round =>
    obtain ⟨k, hk, rfl, hall, hbel⟩ := hrel
    have hB := box_below hbel
    have x0 := box_cell hbel 0
    have x1 := box_cell hbel 1
    have x3 := box_cell hbel 3
    have hsz : w.heap.size < wr.heap.size := by have := hbel.size; simp at this; omega
    simp at x0 x1 x3
    by_cases hlt : k < ps.length
    · have hk1 : k - 1 < ps.length := by omega
      have hlt' : ∀ t, t < k → t < ps.length := fun t ht => by omega
      obtain ⟨b, off, rfl, hok, c0, c1, c2, q0, q1, q2⟩ := elem_SkyPoint h3 hlt
      have d0 := (hB.cell (p := ⟨b, off + k * 3, none⟩) hok).trans c0
      have d1 := (hB.cell (p := ⟨b, off + k * 3 + 1, none⟩) hok).trans c1
      have d2 := (hB.cell (p := ⟨b, off + k * 3 + 2, none⟩) hok).trans c2
      by_cases hname : NameOk (ps[k]'hlt).1
      · by_cases hk0 : 0 < k
        · obtain ⟨b', off', hbo, hok', g0, _, _, _⟩ := elem_SkyPoint h3 hk1
          cases hbo
          have e0 := (hB.cell (p := ⟨b, off + (k - 1) * 3, none⟩) hok).trans g0
          have hd0 : decide ((0 : Int) < (k : Int)) = true := by simp; omega
          have hbw : b < wr.heap.size := Nat.lt_of_lt_of_le hok hB.size
          have hkI : (k : Int) - 1 < (ps.length : Int) := by omega
          have hkN : ((k : Int) - 1).toNat = k - 1 := by omega
          clear g0
          by_cases hasc : SLess (ps[k - 1]'hk1).1 (ps[k]'hlt).1
          · have hlb : Op.bytesLess (ps[k - 1]'hk1).1.toList (ps[k]'hlt).1.toList = true := hasc
            have hasc : ∀ h0 : 0 < k, SLess (ps[k - 1]'hk1).1 (ps[k]'hlt).1 := fun _ => hasc
            by_cases hX : InR (ps[k]'hlt).2.1 0 (W - 1)
            · by_cases hY : InR (ps[k]'hlt).2.2 0 (H - 1)
              · go_wp2
                go_quiet ((first | (go_at_call 55; exact Calls.quiet_of_same (nameOk_yes _ _ q0 hname)) | (go_at_call 30; exact Calls.quiet_of_same (in_yes _ _ _ _ (by assumption))) | (go_at_call 30; exact Calls.quiet_of_same (in_no _ _ _ _ (by assumption)))))
                have HQ : Hid (NameOk (ps[k]'hlt).1 ∧ (∀ h0 : 0 < k, SLess (ps[k - 1]'hk1).1 (ps[k]'hlt).1) ∧ InR (ps[k]'hlt).2.1 0 (W - 1) ∧ InR (ps[k]'hlt).2.2 0 (H - 1)) := ⟨hname, hasc, hX, hY⟩
                have HALL : Hid (∀ j h, j < k → PointOk W H ps j h) := hall
                clear hname hasc hX hY hall c0 c1 c2 q0 q1 q2
                go_wp2
                go_loopw [5] (fun j w2 => ∃ m : Nat, m ≤ k ∧ j = .int .i64 m ∧ Hid (NoSame ps k m) ∧ ∃ n2, w2 = (wr.alloc (.cells #[.string (ps[k]'hlt).1, .int .i64 (ps[k]'hlt).2.1, .int .i64 (ps[k]'hlt).2.2] 78)).drewN n2) (fun j _ => k - (intOf j).toNat)
                case atStart => exact ⟨0, Nat.zero_le _, rfl, fun t _ _ ht => by omega, _, rfl⟩
                case round =>
                  obtain ⟨m, hm, rfl, hno, n2, rfl⟩ := hrel
                  by_cases hmk : m < k
                  · obtain ⟨b', off', hbo, hok', _, g1, g2, _⟩ := elem_SkyPoint h3 (hlt' m hmk)
                    cases hbo
                    have e1 := (hB.cell (p := ⟨b, off + m * 3 + 1, none⟩) hok).trans g1
                    have e2 := (hB.cell (p := ⟨b, off + m * 3 + 2, none⟩) hok).trans g2
                    have hmI : (m : Int) < (ps.length : Int) := by omega
                    have hbw : b < wr.heap.size := Nat.lt_of_lt_of_le hok hB.size
                    by_cases hXe : (ps[m]'(hlt' m hmk)).2.1 = (ps[k]'hlt).2.1
                    · have hXb : ((ps[m]'(hlt' m hmk)).2.1 == (ps[k]'hlt).2.1) = true := beq_iff_eq.2 hXe
                      by_cases hYe : (ps[m]'(hlt' m hmk)).2.2 = (ps[k]'hlt).2.2
                      · have hYb : ((ps[m]'(hlt' m hmk)).2.2 == (ps[k]'hlt).2.2) = true := beq_iff_eq.2 hYe
                        have HF : Hid (¬ PointsOk W H ps) := fun h => (h.2 k hlt).2.2.2.2 m hmk ⟨hXe, hYe⟩
                        clear hXe hYe g1 g2 hno
                        go_wp2
                        go_quiet (fail)
                        go_wp2
                        go_ret
                        exact ⟨false, rfl, by simp [HF.out], below_drewN (below_drewN (hB.alloc hB.size _) _) _⟩
                      · have hYb : ((ps[m]'(hlt' m hmk)).2.2 == (ps[k]'hlt).2.2) = false := by simpa using hYe
                        have HM : Hid (NoSame ps k (m + 1)) := fun t ht hkk h1 h2 => by
                          by_cases e : t = m
                          · subst e; exact hYe h2.2
                          · exact hno.out t ht hkk (by omega) h2
                        clear hXe hYe g1 g2 hno
                        go_wp2
                        go_quiet (fail)
                        go_wp2
                        go_roundw
                        case rel => exact ⟨m + 1, by omega, by go_num, HM, _, rfl⟩
                        case measure => simp [intOf]; omega
                    · have hXb : ((ps[m]'(hlt' m hmk)).2.1 == (ps[k]'hlt).2.1) = false := by simpa using hXe
                      have HM : Hid (NoSame ps k (m + 1)) := fun t ht hkk h1 h2 => by
                        by_cases e : t = m
                        · subst e; exact hXe h2.1
                        · exact hno.out t ht hkk (by omega) h2
                      clear hXe g1 g2 hno
                      go_wp2
                      go_quiet (fail)
                      go_wp2
                      go_roundw
                      case rel => exact ⟨m + 1, by omega, by go_num, HM, _, rfl⟩
                      case measure => simp [intOf]; omega
                  · have HP : Hid (PointOk W H ps k hlt) := ⟨HQ.out.1, HQ.out.2.1, HQ.out.2.2.1, HQ.out.2.2.2, fun t ht => hno.out t _ hlt (by omega)⟩
                    have HA : Hid (∀ j h, j < k + 1 → PointOk W H ps j h) := fun j h hj => by
                      by_cases e : j = k
                      · subst e; exact HP.out
                      · exact HALL.out j h (by omega)
                    clear hno HP HALL HQ
                    go_wp2
                    go_roundw
                    case rel => exact ⟨k + 1, by omega, by go_num, HA, below_drewN (hbel.alloc (by omega) _) _⟩
                    case measure => simp [intOf]; omega
              · have HN : Hid (¬ PointsOk W H ps) := fun h => hY (h.2 k hlt).2.2.2.1
                clear hall
                go_wp2
                go_quiet ((first | (go_at_call 55; exact Calls.quiet_of_same (nameOk_yes _ _ q0 hname)) | (go_at_call 30; exact Calls.quiet_of_same (in_yes _ _ _ _ (by assumption))) | (go_at_call 30; exact Calls.quiet_of_same (in_no _ _ _ _ (by assumption)))))
                go_wp2
                go_ret
                exact ⟨false, rfl, by simp [HN.out], below_drewN (hB.alloc hB.size _) _⟩
            · have HN : Hid (¬ PointsOk W H ps) := fun h => hX (h.2 k hlt).2.2.1
              clear hall
              go_wp2
              go_quiet ((first | (go_at_call 55; exact Calls.quiet_of_same (nameOk_yes _ _ q0 hname)) | (go_at_call 30; exact Calls.quiet_of_same (in_yes _ _ _ _ (by assumption))) | (go_at_call 30; exact Calls.quiet_of_same (in_no _ _ _ _ (by assumption)))))
              go_wp2
              go_ret
              exact ⟨false, rfl, by simp [HN.out], below_drewN (hB.alloc hB.size _) _⟩
          · have hlb : Op.bytesLess (ps[k - 1]'hk1).1.toList (ps[k]'hlt).1.toList = false := by unfold SLess at hasc; simpa using hasc
            have HN : Hid (¬ PointsOk W H ps) := fun h => hasc ((h.2 k hlt).2.1 hk0)
            clear hall hasc
            go_wp2
            go_quiet ((first | (go_at_call 55; exact Calls.quiet_of_same (nameOk_yes _ _ q0 hname)) | (go_at_call 30; exact Calls.quiet_of_same (in_yes _ _ _ _ (by assumption))) | (go_at_call 30; exact Calls.quiet_of_same (in_no _ _ _ _ (by assumption)))))
            go_wp2
            go_ret
            exact ⟨false, rfl, by simp [HN.out], below_drewN (hB.alloc hB.size _) _⟩
        · have hd0 : decide ((0 : Int) < (k : Int)) = false := by simp; omega
          have hasc : ∀ h0 : 0 < k, SLess (ps[k - 1]'hk1).1 (ps[k]'hlt).1 := fun h0 => absurd h0 hk0
          by_cases hX : InR (ps[k]'hlt).2.1 0 (W - 1)
          · by_cases hY : InR (ps[k]'hlt).2.2 0 (H - 1)
            · go_wp2
              go_quiet ((first | (go_at_call 55; exact Calls.quiet_of_same (nameOk_yes _ _ q0 hname)) | (go_at_call 30; exact Calls.quiet_of_same (in_yes _ _ _ _ (by assumption))) | (go_at_call 30; exact Calls.quiet_of_same (in_no _ _ _ _ (by assumption)))))
              have HQ : Hid (NameOk (ps[k]'hlt).1 ∧ (∀ h0 : 0 < k, SLess (ps[k - 1]'hk1).1 (ps[k]'hlt).1) ∧ InR (ps[k]'hlt).2.1 0 (W - 1) ∧ InR (ps[k]'hlt).2.2 0 (H - 1)) := ⟨hname, hasc, hX, hY⟩
              have HALL : Hid (∀ j h, j < k → PointOk W H ps j h) := hall
              clear hname hasc hX hY hall c0 c1 c2 q0 q1 q2
              go_wp2
              go_loopw [5] (fun j w2 => ∃ m : Nat, m ≤ k ∧ j = .int .i64 m ∧ Hid (NoSame ps k m) ∧ ∃ n2, w2 = (wr.alloc (.cells #[.string (ps[k]'hlt).1, .int .i64 (ps[k]'hlt).2.1, .int .i64 (ps[k]'hlt).2.2] 78)).drewN n2) (fun j _ => k - (intOf j).toNat)
              case atStart => exact ⟨0, Nat.zero_le _, rfl, fun t _ _ ht => by omega, _, rfl⟩
              case round =>
                obtain ⟨m, hm, rfl, hno, n2, rfl⟩ := hrel
                by_cases hmk : m < k
                · exact absurd hmk (by omega)
                · have HP : Hid (PointOk W H ps k hlt) := ⟨HQ.out.1, HQ.out.2.1, HQ.out.2.2.1, HQ.out.2.2.2, fun t ht => hno.out t _ hlt (by omega)⟩
                  have HA : Hid (∀ j h, j < k + 1 → PointOk W H ps j h) := fun j h hj => by
                    by_cases e : j = k
                    · subst e; exact HP.out
                    · exact HALL.out j h (by omega)
                  clear hno HP HALL HQ
                  go_wp2
                  go_roundw
                  case rel => exact ⟨k + 1, by omega, by go_num, HA, below_drewN (hbel.alloc (by omega) _) _⟩
                  case measure => simp [intOf]; omega
            · have HN : Hid (¬ PointsOk W H ps) := fun h => hY (h.2 k hlt).2.2.2.1
              clear hall
              go_wp2
              go_quiet ((first | (go_at_call 55; exact Calls.quiet_of_same (nameOk_yes _ _ q0 hname)) | (go_at_call 30; exact Calls.quiet_of_same (in_yes _ _ _ _ (by assumption))) | (go_at_call 30; exact Calls.quiet_of_same (in_no _ _ _ _ (by assumption)))))
              go_wp2
              go_ret
              exact ⟨false, rfl, by simp [HN.out], below_drewN (hB.alloc hB.size _) _⟩
          · have HN : Hid (¬ PointsOk W H ps) := fun h => hX (h.2 k hlt).2.2.1
            clear hall
            go_wp2
            go_quiet ((first | (go_at_call 55; exact Calls.quiet_of_same (nameOk_yes _ _ q0 hname)) | (go_at_call 30; exact Calls.quiet_of_same (in_yes _ _ _ _ (by assumption))) | (go_at_call 30; exact Calls.quiet_of_same (in_no _ _ _ _ (by assumption)))))
            go_wp2
            go_ret
            exact ⟨false, rfl, by simp [HN.out], below_drewN (hB.alloc hB.size _) _⟩
      · have HN : Hid (¬ PointsOk W H ps) := fun h => hname (h.2 k hlt).1
        clear hall
        go_wp2
        go_quiet ((go_at_call 55; exact Calls.quiet_of_same (nameOk_no _ _ q0 hname)))
        go_wp2
        go_ret
        exact ⟨false, rfl, by simp [HN.out], below_drewN (hB.alloc hB.size _) _⟩
    · have HN : Hid (PointsOk W H ps) := ⟨by omega, fun j h => hall.out j h (by omega)⟩
      go_wp2
      go_ret
      exact ⟨true, rfl, by simp [HN.out], hB⟩

end Go.Proofs.YthkpjljhjdjbfaaDoor
