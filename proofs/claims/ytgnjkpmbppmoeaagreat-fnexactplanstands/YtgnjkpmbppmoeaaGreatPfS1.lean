/- DERIVED. spec.l12TimeOk, spec.l12RouteOk: their walks (written by wip/tools/mk_pfs.py). -/
import Derived.Test.YtgnjkpmbppmoeaaGreatTxO
import Derived.Test.YtgnjkpmbppmoeaaGreatPfS0
import Derived.Test.YtgnjkpmbppmoeaaGreatPwS0
import Derived.Test.YtgnjkpmbppmoeaaGreatWq0
namespace Go.Proofs.YtgnjkpmbppmoeaaGreat
open Go.RowKit Go.Sort
set_option linter.unusedSimpArgs false
set_option linter.unusedVariables false

theorem sNumB (s : ByteArray) (w : World) (hs : s.size ≤ maxLen) :
    Calls Tryz.prog 61 #[.string s] w fun e w' => e = .returned (.int .i64 (decM s)) ∧ Below w.heap.size w w' :=
  (sNum s w hs).mono fun e w' h => ⟨h.1, by rw [h.2]; exact Below.refl _ _⟩
theorem s11in_any (n lo hi : Int) (w : World) :
    Calls Tryz.prog 81 #[.int .i64 n, .int .i64 lo, .int .i64 hi] w fun e w' => e = .returned (.bool (pb (InR n lo hi))) ∧ Below w.heap.size w w' := by
  by_cases h : InR n lo hi
  · exact (s11in_yes n lo hi w h).mono fun e w' h1 => ⟨by rw [h1.1, pb_yes h], by rw [h1.2]; exact Below.refl _ _⟩
  · exact (s11in_no n lo hi w h).mono fun e w' h1 => ⟨by rw [h1.1, pb_no h], by rw [h1.2]; exact Below.refl _ _⟩

theorem decM_pos {s : ByteArray} : DecOk s ↔ 0 ≤ decM s := by
  constructor
  · intro h
    rw [(decM_yes h).out]
    exact (decN_small h).1
  · intro h
    exact Classical.byContradiction fun h1 => by rw [(decM_no h1).out] at h; omega
theorem timeM (a b : ByteArray) : TimeOk [a, b] ↔ 0 ≤ decM a ∧ InR (decM b) (decM a) 10000 := by
  constructor
  · rintro ⟨x, y, h, h1, h2, h3, h4⟩
    simp only [List.cons.injEq, and_true] at h
    obtain ⟨rfl, rfl⟩ := h
    refine ⟨decM_pos.1 h1, ?_⟩
    rw [(decM_yes h1).out, (decM_yes h2).out]
    exact ⟨h3, h4⟩
  · rintro ⟨h1, h2, h3⟩
    have d1 := decM_pos.2 h1
    have d2 : DecOk b := decM_pos.2 (by omega)
    rw [(decM_yes d1).out, (decM_yes d2).out] at h2
    rw [(decM_yes d2).out] at h3
    exact ⟨a, b, rfl, d1, d2, h2, h3⟩

theorem two_ofS {ws : List ByteArray} (h : ws.length = 2) : ∃ a b, ws = [a, b] := by
  match ws, h with
  | [a, b], _ => exact ⟨a, b, rfl⟩

set_option maxRecDepth 100000 in
set_option maxHeartbeats 4000000 in
theorem sTime (ao : Option Addr) (cap : Nat) (ws : List ByteArray) (w : World) (h : TxtAt w ao ws) (hl : ws.length ≤ 1048577) (hsz : ∀ x ∈ ws, x.size ≤ maxLen) :
    Calls Tryz.prog 122 #[.slice ao ws.length cap] w fun e w' => e = .returned (.bool (pb (TimeOk ws))) ∧ Below w.heap.size w w' := by
  by_cases h2 : ws.length = 2
  · obtain ⟨a, b, rfl⟩ := two_ofS h2
    have ha := hsz a (by simp)
    have hb := hsz b (by simp)
    obtain ⟨g, rfl, hg, c0, c1⟩ : ∃ g, ao = some ⟨g, 0, none⟩ ∧ g < w.heap.size ∧ w.cell? ⟨g, 0, none⟩ = some (.string a) ∧ w.cell? ⟨g, 1, none⟩ = some (.string b) := by
      rcases h with h | ⟨g, h1, h2, h3⟩
      · cases h
      · exact ⟨g, h1, h2, h3 0 (by simp), h3 1 (by simp)⟩
    have HE := timeM a b
    simp only [List.length_cons, List.length_nil, Nat.zero_add, Nat.reduceAdd]
    clear h h2 hl hsz
    have cA : ∀ dd os, Calls Tryz.prog 61 #[.string a] (grow (redrawn w dd) os) (fun e w'' => e = .returned (.int .i64 (decM a)) ∧ ∃ p : Regrown, w'' = grow (redrawn w p.d) p.os) := fun dd os => Calls.regrown_of (sNumB a _ ha)
    have cB : ∀ dd os, Calls Tryz.prog 61 #[.string b] (grow (redrawn w dd) os) (fun e w'' => e = .returned (.int .i64 (decM b)) ∧ ∃ p : Regrown, w'' = grow (redrawn w p.d) p.os) := fun dd os => Calls.regrown_of (sNumB b _ hb)
    have cI : ∀ dd os, Calls Tryz.prog 81 #[.int .i64 (decM b), .int .i64 (decM a), .int .i64 10000] (grow (redrawn w dd) os) (fun e w'' => e = .returned (.bool (pb (InR (decM b) (decM a) 10000))) ∧ ∃ p : Regrown, w'' = grow (redrawn w p.d) p.os) := fun dd os => Calls.regrown_of (s11in_any _ _ _ _)
    have g0 := cell_regrown c0
    have g1 := cell_regrown c1
    clear c0 c1 ha hb
    by_cases hp : 0 ≤ decM a
    · have hpd : decide (0 ≤ decM a) = true := by simp [hp]
      have HR : Hid (pb (TimeOk [a, b]) = pb (InR (decM b) (decM a) 10000)) := pb_same ⟨fun h => (HE.1 h).2, fun h => HE.2 ⟨hp, h⟩⟩
      clear HE hp
      generalize pb (InR (decM b) (decM a) 10000) = ri at *
      generalize decM a = na at *
      generalize decM b = nb at *
      go_enter Tryz.func122, Tryz.ntmps122
      go_wp2_with fail
      refine Leg.wp_region_qw (by kernel_rfl) (by kernel_rfl) ?_
      refine Leg.QW.want (by kernel_rfl) (fun K hK => ?_)
      go_big_quiet_op
      refine hK _ ?_
      clear hK K
      refine Leg.QW.want (by kernel_rfl) (fun K hK => ?_)
      go_big_quiet_op
      refine hK _ ?_
      clear hK K
      refine Leg.QW.want (by kernel_rfl) (fun K hK => ?_)
      go_big_quiet_op
      refine hK _ ?_
      clear hK K
      refine Leg.QW.want (by kernel_rfl) (fun K hK => ?_)
      go_big_quiet_op
      refine hK _ ?_
      clear hK K
      refine Leg.QW.want (by kernel_rfl) (fun K hK => ?_)
      go_big_quiet_op
      refine hK _ ?_
      clear hK K
      refine Leg.QW.want (by kernel_rfl) (fun K hK => ?_)
      go_big_quiet_op
      refine hK _ ?_
      clear hK K
      refine Leg.QW.want (by kernel_rfl) (fun K hK => ?_)
      go_big_quiet_op
      refine hK _ ?_
      clear hK K
      refine Leg.QW.want (by kernel_rfl) (fun K hK => ?_)
      go_big_quiet_op
      refine ⟨_, fun _ => cA _ _, hK _ ?_⟩
      clear hK K
      refine Leg.QW.want (by kernel_rfl) (fun K hK => ?_)
      go_big_quiet_op
      refine hK _ ?_
      clear hK K
      refine Leg.QW.want (by kernel_rfl) (fun K hK => ?_)
      go_big_quiet_op
      refine hK _ ?_
      clear hK K
      refine Leg.QW.want (by kernel_rfl) (fun K hK => ?_)
      go_big_quiet_op
      refine hK _ ?_
      clear hK K
      refine Leg.QW.want (by kernel_rfl) (fun K hK => ?_)
      go_big_quiet_op
      refine hK _ ?_
      clear hK K
      refine Leg.QW.want (by kernel_rfl) (fun K hK => ?_)
      go_big_quiet_op
      refine hK _ ?_
      clear hK K
      refine Leg.QW.want (by kernel_rfl) (fun K hK => ?_)
      go_big_quiet_op
      refine hK _ ?_
      clear hK K
      refine Leg.QW.want (by kernel_rfl) (fun K hK => ?_)
      go_big_quiet_op
      refine ⟨_, fun _ => cB _ _, hK _ ?_⟩
      clear hK K
      refine Leg.QW.want (by kernel_rfl) (fun K hK => ?_)
      go_big_quiet_op
      refine hK _ ?_
      clear hK K
      refine Leg.QW.want (by kernel_rfl) (fun K hK => ?_)
      go_big_quiet_op
      refine hK _ ?_
      clear hK K
      refine Leg.QW.want (by kernel_rfl) (fun K hK => ?_)
      go_big_quiet_op
      refine hK _ ?_
      clear hK K
      refine Leg.QW.want (by kernel_rfl) (fun K hK => ?_)
      go_big_quiet_op
      refine ⟨_, fun _ => cA _ _, hK _ ?_⟩
      clear hK K
      refine Leg.QW.want (by kernel_rfl) (fun K hK => ?_)
      go_big_quiet_op
      refine ⟨_, fun _ => cI _ _, hK _ ?_⟩
      clear hK K
      refine Leg.QW.want (by kernel_rfl) (fun K hK => ?_)
      go_big_quiet_op
      refine hK _ ?_
      clear hK K
      refine Leg.QW.want (by kernel_rfl) (fun K hK => ?_)
      go_big_quiet_op
      refine hK _ ?_
      clear hK K
      refine Leg.QW.nil ?_
      intro _ hw'
      obtain ⟨⟨dq, osq⟩, hw''⟩ := hw'
      subst hw''
      have hbq := below_regrown w dq osq
      clear cA cB cI g0 g1
      generalize grow (redrawn w dq) osq = w9 at hbq ⊢
      go_wp2
      go_ret
      exact ⟨by rw [HR.out]; rfl, hbq⟩
    · have hpd : decide (0 ≤ decM a) = false := by simp; omega
      have HR : Hid (pb (TimeOk [a, b]) = false) := pb_no (fun h => hp (HE.1 h).1)
      clear HE hp cB cI
      generalize decM a = na at *
      go_enter Tryz.func122, Tryz.ntmps122
      go_wp2_with fail
      refine Leg.wp_region_qw (by kernel_rfl) (by kernel_rfl) ?_
      refine Leg.QW.want (by kernel_rfl) (fun K hK => ?_)
      go_big_quiet_op
      refine hK _ ?_
      clear hK K
      refine Leg.QW.want (by kernel_rfl) (fun K hK => ?_)
      go_big_quiet_op
      refine hK _ ?_
      clear hK K
      refine Leg.QW.want (by kernel_rfl) (fun K hK => ?_)
      go_big_quiet_op
      refine hK _ ?_
      clear hK K
      refine Leg.QW.want (by kernel_rfl) (fun K hK => ?_)
      go_big_quiet_op
      refine hK _ ?_
      clear hK K
      refine Leg.QW.want (by kernel_rfl) (fun K hK => ?_)
      go_big_quiet_op
      refine hK _ ?_
      clear hK K
      refine Leg.QW.want (by kernel_rfl) (fun K hK => ?_)
      go_big_quiet_op
      refine hK _ ?_
      clear hK K
      refine Leg.QW.want (by kernel_rfl) (fun K hK => ?_)
      go_big_quiet_op
      refine hK _ ?_
      clear hK K
      refine Leg.QW.want (by kernel_rfl) (fun K hK => ?_)
      go_big_quiet_op
      refine ⟨_, fun _ => cA _ _, hK _ ?_⟩
      clear hK K
      refine Leg.QW.want (by kernel_rfl) (fun K hK => ?_)
      go_big_quiet_op
      refine hK _ ?_
      clear hK K
      refine Leg.QW.want (by kernel_rfl) (fun K hK => ?_)
      go_big_quiet_op
      refine hK _ ?_
      clear hK K
      refine Leg.QW.want (by kernel_rfl) (fun K hK => ?_)
      go_big_quiet_op
      refine hK _ ?_
      clear hK K
      refine Leg.QW.skip (by kernel_rfl) ?_
      refine Leg.QW.skip (by kernel_rfl) ?_
      refine Leg.QW.skip (by kernel_rfl) ?_
      refine Leg.QW.skip (by kernel_rfl) ?_
      refine Leg.QW.skip (by kernel_rfl) ?_
      refine Leg.QW.skip (by kernel_rfl) ?_
      refine Leg.QW.skip (by kernel_rfl) ?_
      refine Leg.QW.skip (by kernel_rfl) ?_
      refine Leg.QW.skip (by kernel_rfl) ?_
      refine Leg.QW.want (by kernel_rfl) (fun K hK => ?_)
      go_simp
      refine hK _ ?_
      clear hK K
      refine Leg.QW.want (by kernel_rfl) (fun K hK => ?_)
      go_big_quiet_op
      refine hK _ ?_
      clear hK K
      refine Leg.QW.nil ?_
      intro _ hw'
      obtain ⟨⟨dq, osq⟩, hw''⟩ := hw'
      subst hw''
      have hbq := below_regrown w dq osq
      clear cA g0 g1
      generalize grow (redrawn w dq) osq = w9 at hbq ⊢
      go_wp2
      go_ret
      exact ⟨by rw [HR.out]; rfl, hbq⟩
  · have HR : Hid (pb (TimeOk ws) = false) := pb_no (fun ⟨a, b, h, _⟩ => h2 (by rw [h]; rfl))
    have hlb : ((ws.length : Int) == 2) = false := by simp only [beq_eq_false_iff_ne, ne_eq]; omega
    clear h hsz
    go_enter Tryz.func122, Tryz.ntmps122
    go_wp2_with fail
    refine Leg.wp_region_qw (by kernel_rfl) (by kernel_rfl) ?_
    refine Leg.QW.want (by kernel_rfl) (fun K hK => ?_)
    go_big_quiet_op
    refine hK _ ?_
    clear hK K
    refine Leg.QW.want (by kernel_rfl) (fun K hK => ?_)
    go_big_quiet_op
    refine hK _ ?_
    clear hK K
    refine Leg.QW.want (by kernel_rfl) (fun K hK => ?_)
    go_big_quiet_op
    refine hK _ ?_
    clear hK K
    refine Leg.QW.want (by kernel_rfl) (fun K hK => ?_)
    go_big_quiet_op
    refine hK _ ?_
    clear hK K
    refine Leg.QW.skip (by kernel_rfl) ?_
    refine Leg.QW.skip (by kernel_rfl) ?_
    refine Leg.QW.skip (by kernel_rfl) ?_
    refine Leg.QW.skip (by kernel_rfl) ?_
    refine Leg.QW.skip (by kernel_rfl) ?_
    refine Leg.QW.want (by kernel_rfl) (fun K hK => ?_)
    go_simp
    refine hK _ ?_
    clear hK K
    refine Leg.QW.want (by kernel_rfl) (fun K hK => ?_)
    go_big_quiet_op
    refine hK _ ?_
    clear hK K
    refine Leg.QW.skip (by kernel_rfl) ?_
    refine Leg.QW.skip (by kernel_rfl) ?_
    refine Leg.QW.skip (by kernel_rfl) ?_
    refine Leg.QW.skip (by kernel_rfl) ?_
    refine Leg.QW.skip (by kernel_rfl) ?_
    refine Leg.QW.skip (by kernel_rfl) ?_
    refine Leg.QW.skip (by kernel_rfl) ?_
    refine Leg.QW.skip (by kernel_rfl) ?_
    refine Leg.QW.skip (by kernel_rfl) ?_
    refine Leg.QW.want (by kernel_rfl) (fun K hK => ?_)
    go_simp
    refine hK _ ?_
    clear hK K
    refine Leg.QW.want (by kernel_rfl) (fun K hK => ?_)
    go_big_quiet_op
    refine hK _ ?_
    clear hK K
    refine Leg.QW.nil ?_
    intro _ hw'
    obtain ⟨⟨dq, osq⟩, hw''⟩ := hw'
    subst hw''
    have hbq := below_regrown w dq osq
    generalize grow (redrawn w dq) osq = w9 at hbq ⊢
    go_wp2
    go_ret
    exact ⟨by rw [HR.out]; rfl, hbq⟩

set_option maxRecDepth 100000 in
set_option maxHeartbeats 4000000 in
theorem sRouteO (x : DPlanBase) (ao0 : Option Addr) (cap0 : Nat) (ao1 : Option Addr) (cap1 : Nat) (ao : Option Addr) (cap : Nat) (ws : List ByteArray) (w : World) (hx : BaseAt w x ao0 cap0 ao1 cap1) (h : TxO w ao ws) (hwl : ws.length ≤ 1048577) :
    Calls Tryz.prog 78 #[.agg #[.slice ao0 x.1.length cap0, .slice ao1 x.2.length cap1], .slice ao ws.length cap] w fun e w' => e = .returned (.bool (pb (RouteOk x.2 ws))) ∧ Below w.heap.size w w' := by
  have hb0 : Below w.heap.size w (w.alloc (.cells #[.slice ao0 x.1.length cap0, .slice ao1 x.2.length cap1] 40)) := (Below.refl _ _).alloc (Nat.le_refl _) _
  have HB0 := BxC.new w #[.slice ao0 x.1.length cap0, .slice ao1 x.2.length cap1] 40
  by_cases hr : InR (ws.length : Int) 2 8
  · have hr1 := hr.1
    have hr2 := hr.2
    have HNO : Hid (¬ RouteTo x.2 ws ws.length → pb (RouteOk x.2 ws) = false) := fun h1 => pb_no (fun h2 => h1 h2.2)
    have HYES : Hid (RouteTo x.2 ws ws.length → pb (RouteOk x.2 ws) = true) := fun h1 => pb_yes ⟨hr, h1⟩
    go_enter Tryz.func78, Tryz.ntmps78
    go_wp2_with (go_at_call 81; refine (s11in_yes _ _ _ _ hr).mono ?_; rintro e w' ⟨rfl, hwq⟩; subst hwq)
    go_loopw [5] (fun i wr => ∃ k : Nat, k ≤ ws.length ∧ i = .int .i64 k ∧ Hid (RouteTo x.2 ws k) ∧ Below (w.alloc (.cells #[.slice ao0 x.1.length cap0, .slice ao1 x.2.length cap1] 40)).heap.size (w.alloc (.cells #[.slice ao0 x.1.length cap0, .slice ao1 x.2.length cap1] 40)) wr) (fun i _ => ws.length - (intOf i).toNat)
    case atStart => exact ⟨0, Nat.zero_le _, rfl, RouteTo.zero, Below.refl _ _⟩
    case round =>
      obtain ⟨k, hk, rfl, hpre, hb⟩ := hrel
      have hB := hb0.trans (hb.mono hb0.size)
      by_cases hlt : k < ws.length
      · have hk1 : k - 1 < ws.length := by omega
        obtain ⟨g, off, rfl, hg, hc⟩ := (h.later hB).at hlt
        have f0 := hc k hlt
        have f1 := hc (k - 1) hk1
        have HB1 := HB0.below hb (by simp)
        have x0 := HB1 0
        have x1 := HB1 1
        simp at x0 x1
        have hzr : w.heap.size < wr.heap.size := by have := hb.size; simp at this; omega
        have HBADH : Hid (¬ HasNm nmP x.2 (ws[k]'hlt) → pb (RouteOk x.2 ws) = false) := fun h1 => HNO.out (fun h2 => h1 (h2 k hlt hlt).1)
        have HBADE : Hid (∀ h0 : 0 < k, (ws[k - 1]'hk1) = (ws[k]'hlt) → pb (RouteOk x.2 ws) = false) := fun h0 h1 => HNO.out (fun h2 => (h2 k hlt hlt).2 h0 h1)
        have HOK : Hid (HasNm nmP x.2 (ws[k]'hlt) → (∀ h0 : 0 < k, ¬ (ws[k - 1]'hk1) = (ws[k]'hlt)) → RouteTo x.2 ws (k + 1)) := fun h1 h2 => hpre.out.next hlt h1 h2
        have hkI : (k : Int) < (ws.length : Int) := by omega
        clear hc hpre HNO HYES h HB1
        generalize ws[k]'hlt = wk at *
        generalize ws[k - 1]'hk1 = wp at *
        have hix := idxOf_has nmP x.2 wk
        have hHN : Hid (HasNm nmP x.2 wk ↔ 0 ≤ idxOf nmP x.2 wk) := hix.1
        have cH : ∀ dd os, Calls Tryz.prog 48 #[.agg #[.slice ao0 x.1.length cap0, .slice ao1 x.2.length cap1], .string wk] (grow (redrawn wr dd) os) (fun e w'' => e = .returned (.int .i64 (idxOf nmP x.2 wk)) ∧ ∃ p : Regrown, w'' = grow (redrawn wr p.d) p.os) := fun dd os => Calls.regrown_of (sPlanPoint x ao0 cap0 ao1 cap1 wk _ (hx.later (hB.trans ((below_regrown wr dd os).mono hB.size))))
        have y0 := cell_regrown x0
        have y1 := cell_regrown x1
        have e0 := cell_regrown f0
        have e1 := cell_regrown f1
        clear x0 x1 f0 f1 hix
        generalize idxOf nmP x.2 wk = ix at *
        by_cases hh : 0 ≤ ix
        · have hhN := hHN.out.2 hh
          have hxd : decide (ix < 0) = false := by simp; omega
          by_cases hk0 : 0 < k
          · have hd0 : decide ((0 : Int) < (k : Int)) = true := by simp; omega
            have hkI1 : (k : Int) - 1 < (ws.length : Int) := by omega
            have hkN : ((k : Int) - 1).toNat = k - 1 := by omega
            have hk1I : (1 : Int) ≤ (k : Int) := by omega
            have hkW : IntKind.i64.wrap ((k : Int) - 1) = (k : Int) - 1 := by rw [IntKind.wrap_i64]; all_goals omega
            by_cases he : wp = wk
            · have HF : Hid (pb (RouteOk x.2 ws) = false) := HBADE.out hk0 he
              have heb : (wp.toList == wk.toList) = true := beqL.2 he
              clear HBADH HBADE HOK he hh hHN hhN
              go_wp2_with fail
              refine Leg.wp_region_qw (by kernel_rfl) (by kernel_rfl) ?_
              refine Leg.QW.want (by kernel_rfl) (fun K hK => ?_)
              go_big_quiet_op
              refine hK _ ?_
              clear hK K
              refine Leg.QW.want (by kernel_rfl) (fun K hK => ?_)
              go_big_quiet_op
              refine hK _ ?_
              clear hK K
              refine Leg.QW.want (by kernel_rfl) (fun K hK => ?_)
              go_big_quiet_op
              refine hK _ ?_
              clear hK K
              refine Leg.QW.want (by kernel_rfl) (fun K hK => ?_)
              go_big_quiet_op
              refine hK _ ?_
              clear hK K
              refine Leg.QW.want (by kernel_rfl) (fun K hK => ?_)
              go_big_quiet_op
              refine hK _ ?_
              clear hK K
              refine Leg.QW.want (by kernel_rfl) (fun K hK => ?_)
              go_big_quiet_op
              refine ⟨_, fun _ => cH _ _, hK _ ?_⟩
              clear hK K
              refine Leg.QW.want (by kernel_rfl) (fun K hK => ?_)
              go_big_quiet_op
              refine hK _ ?_
              clear hK K
              refine Leg.QW.want (by kernel_rfl) (fun K hK => ?_)
              go_big_quiet_op
              refine hK _ ?_
              clear hK K
              refine Leg.QW.want (by kernel_rfl) (fun K hK => ?_)
              go_big_quiet_op
              refine hK _ ?_
              clear hK K
              refine Leg.QW.want (by kernel_rfl) (fun K hK => ?_)
              go_big_quiet_op
              refine hK _ ?_
              clear hK K
              refine Leg.QW.want (by kernel_rfl) (fun K hK => ?_)
              go_big_quiet_op
              refine hK _ ?_
              clear hK K
              refine Leg.QW.want (by kernel_rfl) (fun K hK => ?_)
              go_big_quiet_op
              refine hK _ ?_
              clear hK K
              refine Leg.QW.want (by kernel_rfl) (fun K hK => ?_)
              go_big_quiet_op
              refine hK _ ?_
              clear hK K
              refine Leg.QW.want (by kernel_rfl) (fun K hK => ?_)
              go_big_quiet_op
              refine hK _ ?_
              clear hK K
              refine Leg.QW.want (by kernel_rfl) (fun K hK => ?_)
              go_big_quiet_op
              refine hK _ ?_
              clear hK K
              refine Leg.QW.want (by kernel_rfl) (fun K hK => ?_)
              go_big_quiet_op
              refine hK _ ?_
              clear hK K
              refine Leg.QW.want (by kernel_rfl) (fun K hK => ?_)
              go_big_quiet_op
              refine hK _ ?_
              clear hK K
              refine Leg.QW.want (by kernel_rfl) (fun K hK => ?_)
              go_big_quiet_op
              refine hK _ ?_
              clear hK K
              refine Leg.QW.want (by kernel_rfl) (fun K hK => ?_)
              go_big_quiet_op
              refine hK _ ?_
              clear hK K
              refine Leg.QW.want (by kernel_rfl) (fun K hK => ?_)
              go_big_quiet_op
              refine hK _ ?_
              clear hK K
              refine Leg.QW.want (by kernel_rfl) (fun K hK => ?_)
              go_big_quiet_op
              refine hK _ ?_
              clear hK K
              refine Leg.QW.want (by kernel_rfl) (fun K hK => ?_)
              go_big_quiet_op
              refine hK _ ?_
              clear hK K
              refine Leg.QW.want (by kernel_rfl) (fun K hK => ?_)
              go_big_quiet_op
              refine hK _ ?_
              clear hK K
              refine Leg.QW.nil ?_
              intro _ hw'
              obtain ⟨⟨dq, osq⟩, hw''⟩ := hw'
              subst hw''
              have hbq := hb.trans ((below_regrown wr dq osq).mono hb.size)
              clear hb hB cH y0 y1 e0 e1 hzr hg
              generalize grow (redrawn wr dq) osq = w9 at hbq ⊢
              have hBq := hb0.trans (hbq.mono hb0.size)
              go_wp2
              go_ret
              exact ⟨by rw [HF.out]; rfl, hBq⟩
            · have HN1 : Hid (RouteTo x.2 ws (k + 1)) := HOK.out hhN (fun _ => he)
              have heb : (wp.toList == wk.toList) = false := beqL_no he
              clear HBADH HBADE HOK he hh hHN hhN
              go_wp2_with fail
              refine Leg.wp_region_qw (by kernel_rfl) (by kernel_rfl) ?_
              refine Leg.QW.want (by kernel_rfl) (fun K hK => ?_)
              go_big_quiet_op
              refine hK _ ?_
              clear hK K
              refine Leg.QW.want (by kernel_rfl) (fun K hK => ?_)
              go_big_quiet_op
              refine hK _ ?_
              clear hK K
              refine Leg.QW.want (by kernel_rfl) (fun K hK => ?_)
              go_big_quiet_op
              refine hK _ ?_
              clear hK K
              refine Leg.QW.want (by kernel_rfl) (fun K hK => ?_)
              go_big_quiet_op
              refine hK _ ?_
              clear hK K
              refine Leg.QW.want (by kernel_rfl) (fun K hK => ?_)
              go_big_quiet_op
              refine hK _ ?_
              clear hK K
              refine Leg.QW.want (by kernel_rfl) (fun K hK => ?_)
              go_big_quiet_op
              refine ⟨_, fun _ => cH _ _, hK _ ?_⟩
              clear hK K
              refine Leg.QW.want (by kernel_rfl) (fun K hK => ?_)
              go_big_quiet_op
              refine hK _ ?_
              clear hK K
              refine Leg.QW.want (by kernel_rfl) (fun K hK => ?_)
              go_big_quiet_op
              refine hK _ ?_
              clear hK K
              refine Leg.QW.want (by kernel_rfl) (fun K hK => ?_)
              go_big_quiet_op
              refine hK _ ?_
              clear hK K
              refine Leg.QW.want (by kernel_rfl) (fun K hK => ?_)
              go_big_quiet_op
              refine hK _ ?_
              clear hK K
              refine Leg.QW.want (by kernel_rfl) (fun K hK => ?_)
              go_big_quiet_op
              refine hK _ ?_
              clear hK K
              refine Leg.QW.want (by kernel_rfl) (fun K hK => ?_)
              go_big_quiet_op
              refine hK _ ?_
              clear hK K
              refine Leg.QW.want (by kernel_rfl) (fun K hK => ?_)
              go_big_quiet_op
              refine hK _ ?_
              clear hK K
              refine Leg.QW.want (by kernel_rfl) (fun K hK => ?_)
              go_big_quiet_op
              refine hK _ ?_
              clear hK K
              refine Leg.QW.want (by kernel_rfl) (fun K hK => ?_)
              go_big_quiet_op
              refine hK _ ?_
              clear hK K
              refine Leg.QW.want (by kernel_rfl) (fun K hK => ?_)
              go_big_quiet_op
              refine hK _ ?_
              clear hK K
              refine Leg.QW.want (by kernel_rfl) (fun K hK => ?_)
              go_big_quiet_op
              refine hK _ ?_
              clear hK K
              refine Leg.QW.want (by kernel_rfl) (fun K hK => ?_)
              go_big_quiet_op
              refine hK _ ?_
              clear hK K
              refine Leg.QW.want (by kernel_rfl) (fun K hK => ?_)
              go_big_quiet_op
              refine hK _ ?_
              clear hK K
              refine Leg.QW.want (by kernel_rfl) (fun K hK => ?_)
              go_big_quiet_op
              refine hK _ ?_
              clear hK K
              refine Leg.QW.want (by kernel_rfl) (fun K hK => ?_)
              go_big_quiet_op
              refine hK _ ?_
              clear hK K
              refine Leg.QW.want (by kernel_rfl) (fun K hK => ?_)
              go_big_quiet_op
              refine hK _ ?_
              clear hK K
              refine Leg.QW.want (by kernel_rfl) (fun K hK => ?_)
              go_big_quiet_op
              refine hK _ ?_
              clear hK K
              refine Leg.QW.nil ?_
              intro _ hw'
              obtain ⟨⟨dq, osq⟩, hw''⟩ := hw'
              subst hw''
              have hbq := hb.trans ((below_regrown wr dq osq).mono hb.size)
              clear hb hB cH y0 y1 e0 e1 hzr hg
              generalize grow (redrawn wr dq) osq = w9 at hbq ⊢
              go_wp2
              go_roundw
              case rel => exact ⟨k + 1, by omega, by go_num, HN1, hbq⟩
              case measure => simp [intOf]; omega
          · have hd0 : decide ((0 : Int) < (k : Int)) = false := by simp; omega
            have HN1 : Hid (RouteTo x.2 ws (k + 1)) := HOK.out hhN (fun h0 => absurd h0 hk0)
            clear HBADH HBADE HOK hh hHN hhN
            go_wp2_with fail
            refine Leg.wp_region_qw (by kernel_rfl) (by kernel_rfl) ?_
            refine Leg.QW.want (by kernel_rfl) (fun K hK => ?_)
            go_big_quiet_op
            refine hK _ ?_
            clear hK K
            refine Leg.QW.want (by kernel_rfl) (fun K hK => ?_)
            go_big_quiet_op
            refine hK _ ?_
            clear hK K
            refine Leg.QW.want (by kernel_rfl) (fun K hK => ?_)
            go_big_quiet_op
            refine hK _ ?_
            clear hK K
            refine Leg.QW.want (by kernel_rfl) (fun K hK => ?_)
            go_big_quiet_op
            refine hK _ ?_
            clear hK K
            refine Leg.QW.want (by kernel_rfl) (fun K hK => ?_)
            go_big_quiet_op
            refine hK _ ?_
            clear hK K
            refine Leg.QW.want (by kernel_rfl) (fun K hK => ?_)
            go_big_quiet_op
            refine ⟨_, fun _ => cH _ _, hK _ ?_⟩
            clear hK K
            refine Leg.QW.want (by kernel_rfl) (fun K hK => ?_)
            go_big_quiet_op
            refine hK _ ?_
            clear hK K
            refine Leg.QW.want (by kernel_rfl) (fun K hK => ?_)
            go_big_quiet_op
            refine hK _ ?_
            clear hK K
            refine Leg.QW.want (by kernel_rfl) (fun K hK => ?_)
            go_big_quiet_op
            refine hK _ ?_
            clear hK K
            refine Leg.QW.want (by kernel_rfl) (fun K hK => ?_)
            go_big_quiet_op
            refine hK _ ?_
            clear hK K
            refine Leg.QW.want (by kernel_rfl) (fun K hK => ?_)
            go_big_quiet_op
            refine hK _ ?_
            clear hK K
            refine Leg.QW.skip (by kernel_rfl) ?_
            refine Leg.QW.skip (by kernel_rfl) ?_
            refine Leg.QW.skip (by kernel_rfl) ?_
            refine Leg.QW.skip (by kernel_rfl) ?_
            refine Leg.QW.skip (by kernel_rfl) ?_
            refine Leg.QW.skip (by kernel_rfl) ?_
            refine Leg.QW.skip (by kernel_rfl) ?_
            refine Leg.QW.skip (by kernel_rfl) ?_
            refine Leg.QW.skip (by kernel_rfl) ?_
            refine Leg.QW.skip (by kernel_rfl) ?_
            refine Leg.QW.want (by kernel_rfl) (fun K hK => ?_)
            go_simp
            refine hK _ ?_
            clear hK K
            refine Leg.QW.want (by kernel_rfl) (fun K hK => ?_)
            go_big_quiet_op
            refine hK _ ?_
            clear hK K
            refine Leg.QW.nil ?_
            intro _ hw'
            obtain ⟨⟨dq, osq⟩, hw''⟩ := hw'
            subst hw''
            have hbq := hb.trans ((below_regrown wr dq osq).mono hb.size)
            clear hb hB cH y0 y1 e0 e1 hzr hg
            generalize grow (redrawn wr dq) osq = w9 at hbq ⊢
            go_wp2
            go_roundw
            case rel => exact ⟨k + 1, by omega, by go_num, HN1, hbq⟩
            case measure => simp [intOf]; omega
        · have hxd : decide (ix < 0) = true := by simp; omega
          have HF : Hid (pb (RouteOk x.2 ws) = false) := HBADH.out (fun h1 => hh (hHN.out.1 h1))
          clear HBADH HBADE HOK hh hHN
          go_wp2_with fail
          refine Leg.wp_region_qw (by kernel_rfl) (by kernel_rfl) ?_
          refine Leg.QW.want (by kernel_rfl) (fun K hK => ?_)
          go_big_quiet_op
          refine hK _ ?_
          clear hK K
          refine Leg.QW.want (by kernel_rfl) (fun K hK => ?_)
          go_big_quiet_op
          refine hK _ ?_
          clear hK K
          refine Leg.QW.want (by kernel_rfl) (fun K hK => ?_)
          go_big_quiet_op
          refine hK _ ?_
          clear hK K
          refine Leg.QW.want (by kernel_rfl) (fun K hK => ?_)
          go_big_quiet_op
          refine hK _ ?_
          clear hK K
          refine Leg.QW.want (by kernel_rfl) (fun K hK => ?_)
          go_big_quiet_op
          refine hK _ ?_
          clear hK K
          refine Leg.QW.want (by kernel_rfl) (fun K hK => ?_)
          go_big_quiet_op
          refine ⟨_, fun _ => cH _ _, hK _ ?_⟩
          clear hK K
          refine Leg.QW.want (by kernel_rfl) (fun K hK => ?_)
          go_big_quiet_op
          refine hK _ ?_
          clear hK K
          refine Leg.QW.want (by kernel_rfl) (fun K hK => ?_)
          go_big_quiet_op
          refine hK _ ?_
          clear hK K
          refine Leg.QW.skip (by kernel_rfl) ?_
          refine Leg.QW.skip (by kernel_rfl) ?_
          refine Leg.QW.skip (by kernel_rfl) ?_
          refine Leg.QW.skip (by kernel_rfl) ?_
          refine Leg.QW.skip (by kernel_rfl) ?_
          refine Leg.QW.skip (by kernel_rfl) ?_
          refine Leg.QW.skip (by kernel_rfl) ?_
          refine Leg.QW.skip (by kernel_rfl) ?_
          refine Leg.QW.skip (by kernel_rfl) ?_
          refine Leg.QW.skip (by kernel_rfl) ?_
          refine Leg.QW.skip (by kernel_rfl) ?_
          refine Leg.QW.skip (by kernel_rfl) ?_
          refine Leg.QW.skip (by kernel_rfl) ?_
          refine Leg.QW.skip (by kernel_rfl) ?_
          refine Leg.QW.want (by kernel_rfl) (fun K hK => ?_)
          go_simp
          refine hK _ ?_
          clear hK K
          refine Leg.QW.nil ?_
          intro _ hw'
          obtain ⟨⟨dq, osq⟩, hw''⟩ := hw'
          subst hw''
          have hbq := hb.trans ((below_regrown wr dq osq).mono hb.size)
          clear hb hB cH y0 y1 e0 e1 hzr hg
          generalize grow (redrawn wr dq) osq = w9 at hbq ⊢
          have hBq := hb0.trans (hbq.mono hb0.size)
          go_wp2
          go_ret
          exact ⟨by rw [HF.out]; rfl, hBq⟩
      · have hke : k = ws.length := by omega
        subst hke
        have HR : Hid (pb (RouteOk x.2 ws) = true) := HYES.out hpre.out
        clear hpre HYES HNO h hx
        go_wp2
        go_ret
        exact ⟨by rw [HR.out]; rfl, hB⟩
  · have HR : Hid (pb (RouteOk x.2 ws) = false) := pb_no (fun h1 => hr h1.1)
    go_enter Tryz.func78, Tryz.ntmps78
    go_wp2_with (go_at_call 81; refine (s11in_no _ _ _ _ hr).mono ?_; rintro e w' ⟨rfl, hwq⟩; subst hwq)
    go_ret
    exact ⟨by rw [HR.out]; rfl, hb0⟩

theorem sRoute (x : DPlanBase) (ao0 : Option Addr) (cap0 : Nat) (ao1 : Option Addr) (cap1 : Nat) (ao : Option Addr) (cap : Nat) (ws : List ByteArray) (w : World) (hx : BaseAt w x ao0 cap0 ao1 cap1) (h : TxtAt w ao ws) (hwl : ws.length ≤ 1048577) :
    Calls Tryz.prog 78 #[.agg #[.slice ao0 x.1.length cap0, .slice ao1 x.2.length cap1], .slice ao ws.length cap] w fun e w' => e = .returned (.bool (pb (RouteOk x.2 ws))) ∧ Below w.heap.size w w' :=
  sRouteO x ao0 cap0 ao1 cap1 ao cap ws w hx (TxO.of_txt h) hwl

end Go.Proofs.YtgnjkpmbppmoeaaGreat
