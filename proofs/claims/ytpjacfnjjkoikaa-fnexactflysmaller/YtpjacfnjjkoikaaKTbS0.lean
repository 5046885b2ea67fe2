/- DERIVED. spec.l25Has, FlyWithin, l25None, l25Cover, FlySmaller: their walks (written by wip/tools/mk_tbs0.py). -/
import Derived.Test.YtpjacfnjjkoikaaKTbD
import Derived.Test.YtpjacfnjjkoikaaKFyS0
import Derived.Test.YtpjacfnjjkoikaaKWq0
namespace Go.Proofs.Ytpjacfnjjkoikaa
namespace Fly
open Go.RowKit Go.Sort
set_option linter.unusedSimpArgs false
set_option linter.unusedVariables false

set_option maxHeartbeats 2000000 in
theorem sHas (b : DFlyBox) (x y lv t : Int) (w : World) :
    Calls Try.prog 58 #[vBo b, .int .i64 x, .int .i64 y, .int .i64 lv, .int .i64 t] w fun e w' => e = .returned (.bool (pb (HasB b x y lv t))) ∧ Below w.heap.size w w' := by
  obtain ⟨bx, by_, lo, hi, ci, co⟩ := b
  simp only [vBo]
  have HB : Below w.heap.size w (w.alloc (.cells #[.int .i64 bx, .int .i64 by_, .int .i64 lo, .int .i64 hi, .int .i64 ci, .int .i64 co] 78)) := (Below.refl _ _).alloc (Nat.le_refl _) _
  have HI1 := fun W => sin_b lv lo hi W (pb (InR lv lo hi)) rfl
  have HI2 := fun W => sin_b t ci co W (pb (InR t ci co)) rfl
  by_cases h1 : bx = x
  · have h1b : (bx == x) = true := by simp [h1]
    by_cases h2 : by_ = y
    · have h2b : (by_ == y) = true := by simp [h2]
      by_cases h3 : InR lv lo hi
      · have HR : Hid (pb (HasB (bx, by_, lo, hi, ci, co) x y lv t) = pb (InR t ci co)) := pb_iff ⟨fun h => h.2.2.2, fun h => ⟨h1, h2, h3, h⟩⟩
        rw [pb_yes h3] at HI1
        generalize pb (InR t ci co) = v at *
        clear h3
        subst h1 h2
        go_enter Try.func58, Try.ntmps58
        go_wp2_with fail
        refine (HI1 _).mono ?_
        rintro e w1 ⟨rfl, rfl⟩
        go_wp2_with fail
        refine (HI2 _).mono ?_
        rintro e w1 ⟨rfl, rfl⟩
        go_wp2
        go_ret
        exact ⟨by rw [HR.out]; first | rfl | (simp; done) | (simp; omega), HB⟩
      · have HR : Hid (pb (HasB (bx, by_, lo, hi, ci, co) x y lv t) = false) := pb_no fun h => h3 h.2.2.1
        rw [pb_no h3] at HI1
        clear h3 HI2
        subst h1 h2
        go_enter Try.func58, Try.ntmps58
        go_wp2_with fail
        refine (HI1 _).mono ?_
        rintro e w1 ⟨rfl, rfl⟩
        go_wp2
        go_ret
        exact ⟨by rw [HR.out]; first | rfl | (simp; done) | (simp; omega), HB⟩
    · have HR : Hid (pb (HasB (bx, by_, lo, hi, ci, co) x y lv t) = false) := pb_no fun h => h2 h.2.1
      have h2b : (by_ == y) = false := by simp [h2]
      clear HI1 HI2
      subst h1
      go_enter Try.func58, Try.ntmps58
      go_wp2
      go_ret
      exact ⟨by rw [HR.out]; first | rfl | (simp; done) | (simp; omega), HB⟩
  · have HR : Hid (pb (HasB (bx, by_, lo, hi, ci, co) x y lv t) = false) := pb_no fun h => h1 h.1
    have h1b : (bx == x) = false := by simp [h1]
    clear HI1 HI2
    go_enter Try.func58, Try.ntmps58
    go_wp2
    go_ret
    exact ⟨by rw [HR.out]; first | rfl | (simp; done) | (simp; omega), HB⟩

set_option maxHeartbeats 2000000 in
theorem sWithin (l : List DFlyBox) (x y lv t : Int) (ao : Option Addr) (cap : Nat) (w : World) (h : SliceAt vFlyBox (old w) w ao cap l) :
    Calls Try.prog 31 #[.slice ao l.length cap, .int .i64 x, .int .i64 y, .int .i64 lv, .int .i64 t] w fun e w' => e = .returned (.bool (pb (Within l x y lv t))) ∧ Below w.heap.size w w' := by
  have hcl := h.1
  have hcm : cap ≤ 9223372036854775807 := h.2.1
  go_enter Try.func31, Try.ntmps31
  go_wp2
  go_loopw [11] (fun i wr => ∃ k : Nat, k ≤ l.length ∧ i = .int .i64 k ∧ Hid (∀ j (h : j < l.length), j < k → ¬ HasB (l[j]'h) x y lv t) ∧ Below w.heap.size w wr) (fun i _ => l.length - (intOf i).toNat)
  case atStart => exact ⟨0, Nat.zero_le _, rfl, fun j _ hj => by omega, Below.refl _ _⟩
  case round =>
    obtain ⟨k, hk, rfl, hpre, hB⟩ := hrel
    by_cases hlt : k < l.length
    · obtain ⟨b, off, rfl, hok, c0, c1, c2, c3, c4, c5, _⟩ := elem_FlyBox h hlt
      have d0 := (hB.cell (p := ⟨b, off + k * 6, none⟩) hok).trans c0
      have d1 := (hB.cell (p := ⟨b, off + k * 6 + 1, none⟩) hok).trans c1
      have d2 := (hB.cell (p := ⟨b, off + k * 6 + 2, none⟩) hok).trans c2
      have d3 := (hB.cell (p := ⟨b, off + k * 6 + 3, none⟩) hok).trans c3
      have d4 := (hB.cell (p := ⟨b, off + k * 6 + 4, none⟩) hok).trans c4
      have d5 := (hB.cell (p := ⟨b, off + k * 6 + 5, none⟩) hok).trans c5
      have hkI : (k : Int) < (l.length : Int) := by omega
      have HYES : Hid (HasB (l[k]'hlt) x y lv t → pb (Within l x y lv t) = true) := fun h => pb_yes ⟨k, hlt, h⟩
      have HNO : Hid (¬ HasB (l[k]'hlt) x y lv t → ∀ j (h : j < l.length), j < k + 1 → ¬ HasB (l[j]'h) x y lv t) := fun h1 j hj h2 => by
        by_cases e : j = k
        · subst e; exact h1
        · exact hpre.out j hj (by omega)
      clear c0 c1 c2 c3 c4 c5 hpre h
      have HH := fun W => sHas (l[k]'hlt) x y lv t W
      generalize l[k]'hlt = S at *
      by_cases hh : HasB S x y lv t
      · have HR : Hid (pb (Within l x y lv t) = true) := HYES.out hh
        rw [pb_yes hh] at HH
        clear HYES HNO hh
        obtain ⟨bx, by_, lo, hi, ci, co⟩ := S
        simp only [vBo] at *
        go_wp2_with fail
        refine (HH _).mono ?_
        rintro e w1 ⟨rfl, hb⟩
        have HB := hB.trans (hb.mono hB.size)
        clear HH hb hB d0 d1 d2 d3 d4 d5
        go_wp2
        go_ret
        exact ⟨by rw [HR.out]; rfl, HB⟩
      · have HN : Hid _ := HNO.out hh
        rw [pb_no hh] at HH
        clear HYES HNO hh
        obtain ⟨bx, by_, lo, hi, ci, co⟩ := S
        simp only [vBo] at *
        go_wp2_with fail
        refine (HH _).mono ?_
        rintro e w1 ⟨rfl, hb⟩
        have HB := hB.trans (hb.mono hB.size)
        clear HH hb hB d0 d1 d2 d3 d4 d5
        go_wp2
        go_roundw
        case rel => exact ⟨k + 1, by omega, by go_num, HN, HB⟩
        case measure => simp [intOf]; omega
    · have e : k = l.length := by omega
      subst e
      have HR : Hid (pb (Within l x y lv t) = false) := pb_no fun ⟨j, hj, h1⟩ => hpre.out j hj hj h1
      clear hpre h
      go_wp2
      go_ret
      exact ⟨by rw [HR.out]; rfl, hB⟩

set_option maxHeartbeats 2000000 in
theorem sNoneB (a : DFlyBox) (w : World) :
    Calls Try.prog 60 #[vBo a] w fun e w' => e = .returned (.bool (pb (NoneB a))) ∧ Below w.heap.size w w' := by
  obtain ⟨ax, ay, al, ah, ai, ao⟩ := a
  simp only [vBo]
  have HB : Below w.heap.size w (w.alloc (.cells #[.int .i64 ax, .int .i64 ay, .int .i64 al, .int .i64 ah, .int .i64 ai, .int .i64 ao] 78)) := (Below.refl _ _).alloc (Nat.le_refl _) _
  by_cases h1 : ah < al
  · have HR : Hid (pb (NoneB (ax, ay, al, ah, ai, ao)) = true) := pb_yes (.inl h1)
    go_enter Try.func60, Try.ntmps60
    go_wp2
    go_ret
    exact ⟨by rw [HR.out]; first | rfl | (simp; done) | (simp; omega), HB⟩
  · by_cases h2 : ao < ai
    · have HR : Hid (pb (NoneB (ax, ay, al, ah, ai, ao)) = true) := pb_yes (.inr h2)
      go_enter Try.func60, Try.ntmps60
      go_wp2
      go_ret
      exact ⟨by rw [HR.out]; first | rfl | (simp; done) | (simp; omega), HB⟩
    · have HR : Hid (pb (NoneB (ax, ay, al, ah, ai, ao)) = false) := pb_no fun h => h.elim h1 h2
      go_enter Try.func60, Try.ntmps60
      go_wp2
      go_ret
      exact ⟨by rw [HR.out]; first | rfl | (simp; done) | (simp; omega), HB⟩

set_option maxHeartbeats 4000000 in
theorem sCov (b a : DFlyBox) (w : World) :
    Calls Try.prog 61 #[vBo b, vBo a] w fun e w' => e = .returned (.bool (pb (CovB b a))) ∧ Below w.heap.size w w' := by
  obtain ⟨bx, by_, lo, hi, ci, co⟩ := b
  obtain ⟨ax, ay, al, ah, ai, ao⟩ := a
  simp only [vBo]
  have HB : Below w.heap.size w ((w.alloc (.cells #[.int .i64 bx, .int .i64 by_, .int .i64 lo, .int .i64 hi, .int .i64 ci, .int .i64 co] 78)).alloc (.cells #[.int .i64 ax, .int .i64 ay, .int .i64 al, .int .i64 ah, .int .i64 ai, .int .i64 ao] 78)) := ((Below.refl _ _).alloc (Nat.le_refl _) _).alloc (by simp) _
  by_cases h0 : ax = bx
  · have h0b : (ax == bx) = true := by simp [h0]
    by_cases h1 : ay = by_
    · have h1b : (ay == by_) = true := by simp [h1]
      by_cases h2 : lo ≤ al
      · by_cases h3 : ah ≤ hi
        · by_cases h4 : ci ≤ ai
          · by_cases h5 : ao ≤ co
            · have HR : Hid (pb (CovB (bx, by_, lo, hi, ci, co) (ax, ay, al, ah, ai, ao)) = true) := pb_yes ⟨h0, h1, h2, h3, h4, h5⟩
              subst h0 h1
              go_enter Try.func61, Try.ntmps61
              go_wp2
              go_ret
              exact ⟨by rw [HR.out]; first | rfl | (simp; done) | (simp; omega), HB⟩
            · have HR : Hid (pb (CovB (bx, by_, lo, hi, ci, co) (ax, ay, al, ah, ai, ao)) = false) := pb_no fun h => h5 h.2.2.2.2.2
              have h5n : co < ao := by omega
              subst h0
              subst h1
              go_enter Try.func61, Try.ntmps61
              go_wp2
              go_ret
              exact ⟨by rw [HR.out]; first | rfl | (simp; done) | (simp; omega), HB⟩
          · have HR : Hid (pb (CovB (bx, by_, lo, hi, ci, co) (ax, ay, al, ah, ai, ao)) = false) := pb_no fun h => h4 h.2.2.2.2.1
            have h4n : ai < ci := by omega
            subst h0
            subst h1
            go_enter Try.func61, Try.ntmps61
            go_wp2
            go_ret
            exact ⟨by rw [HR.out]; first | rfl | (simp; done) | (simp; omega), HB⟩
        · have HR : Hid (pb (CovB (bx, by_, lo, hi, ci, co) (ax, ay, al, ah, ai, ao)) = false) := pb_no fun h => h3 h.2.2.2.1
          have h3n : hi < ah := by omega
          subst h0
          subst h1
          go_enter Try.func61, Try.ntmps61
          go_wp2
          go_ret
          exact ⟨by rw [HR.out]; first | rfl | (simp; done) | (simp; omega), HB⟩
      · have HR : Hid (pb (CovB (bx, by_, lo, hi, ci, co) (ax, ay, al, ah, ai, ao)) = false) := pb_no fun h => h2 h.2.2.1
        have h2n : al < lo := by omega
        subst h0
        subst h1
        go_enter Try.func61, Try.ntmps61
        go_wp2
        go_ret
        exact ⟨by rw [HR.out]; first | rfl | (simp; done) | (simp; omega), HB⟩
    · have HR : Hid (pb (CovB (bx, by_, lo, hi, ci, co) (ax, ay, al, ah, ai, ao)) = false) := pb_no fun h => h1 h.2.1
      have h1b : (ay == by_) = false := by simp [h1]
      subst h0
      go_enter Try.func61, Try.ntmps61
      go_wp2
      go_ret
      exact ⟨by rw [HR.out]; first | rfl | (simp; done) | (simp; omega), HB⟩
  · have HR : Hid (pb (CovB (bx, by_, lo, hi, ci, co) (ax, ay, al, ah, ai, ao)) = false) := pb_no fun h => h0 h.1
    have h0b : (ax == bx) = false := by simp [h0]
    go_enter Try.func61, Try.ntmps61
    go_wp2
    go_ret
    exact ⟨by rw [HR.out]; first | rfl | (simp; done) | (simp; omega), HB⟩

set_option maxRecDepth 100000 in
set_option maxHeartbeats 8000000 in
theorem sSmaller (l m : List DFlyBox) (bo : Option Addr) (cap : Nat) (mo : Option Addr) (mc : Nat) (w : World) (h : SliceAt vFlyBox (old w) w bo cap l) (hm : SliceAt vFlyBox (old w) w mo mc m) :
    Calls Try.prog 34 #[.slice bo l.length cap, .slice mo m.length mc] w fun e w' => e = .returned (.bool (pb (Smaller l m))) ∧ Below w.heap.size w w' := by
  have hcl := h.1
  have hcm : cap ≤ 9223372036854775807 := h.2.1
  have hml := hm.1
  have hmm : mc ≤ 9223372036854775807 := hm.2.1
  go_enter Try.func34, Try.ntmps34
  go_wp2
  go_loopw [5] (fun i wr => ∃ k : Nat, k ≤ l.length ∧ i = .int .i64 k ∧ Hid (∀ j (h : j < l.length), j < k → InTo (l[j]'h) m m.length) ∧ Below w.heap.size w wr) (fun i _ => l.length - (intOf i).toNat)
  case atStart => exact ⟨0, Nat.zero_le _, rfl, fun j _ hj => by omega, Below.refl _ _⟩
  case round =>
    obtain ⟨k, hk, rfl, hpre, hB⟩ := hrel
    by_cases hlt : k < l.length
    · obtain ⟨b, off, rfl, hok, c0, c1, c2, c3, c4, c5, _⟩ := elem_FlyBox h hlt
      have d0 := (hB.cell (p := ⟨b, off + k * 6, none⟩) hok).trans c0
      have d1 := (hB.cell (p := ⟨b, off + k * 6 + 1, none⟩) hok).trans c1
      have d2 := (hB.cell (p := ⟨b, off + k * 6 + 2, none⟩) hok).trans c2
      have d3 := (hB.cell (p := ⟨b, off + k * 6 + 3, none⟩) hok).trans c3
      have d4 := (hB.cell (p := ⟨b, off + k * 6 + 4, none⟩) hok).trans c4
      have d5 := (hB.cell (p := ⟨b, off + k * 6 + 5, none⟩) hok).trans c5
      have hkI : (k : Int) < (l.length : Int) := by omega
      have HNO : Hid (¬ InTo (l[k]'hlt) m m.length → pb (Smaller l m) = false) := fun h1 => pb_no fun h2 => h1 (h2 k hlt)
      have HYES : Hid (InTo (l[k]'hlt) m m.length → ∀ j (h : j < l.length), j < k + 1 → InTo (l[j]'h) m m.length) := fun h1 j hj h2 => by
        by_cases e : j = k
        · subst e; exact h1
        · exact hpre.out j hj (by omega)
      have HC := fun o (q : Value) (hq : w.cell? ⟨b, off + k * 6 + o, none⟩ = some q) (W : World) (hW : Below w.heap.size w W) => (hW.cell (p := ⟨b, off + k * 6 + o, none⟩) hok).trans hq
      clear hpre h
      have HH := fun W => sNoneB (l[k]'hlt) W
      generalize l[k]'hlt = S at *
      have hz0 : pb (InTo S m 0) = pb (NoneB S) := pb_iff InTo.zero
      rw [← hz0] at HH
      clear hz0
      obtain ⟨ax, ay, al, ah, ai, ao⟩ := S
      simp only [vBo] at *
      go_wp2_with fail
      refine (HH _).mono ?_
      rintro e w1 ⟨rfl, hb⟩
      have HB1 := hB.trans (hb.mono hB.size)
      clear HH hb hB d0 d1 d2 d3 d4 d5
      go_wp2_with fail
      go_loopw [6, 7] (fun f i wr => ∃ j : Nat, j ≤ m.length ∧ i = .int .i64 j ∧ f = .bool (pb (InTo (ax, ay, al, ah, ai, ao) m j)) ∧ Below w.heap.size w wr) (fun _ i _ => m.length - (intOf i).toNat)
      case atStart => exact ⟨0, Nat.zero_le _, rfl, rfl, HB1⟩
      case round =>
        obtain ⟨j, hj, rfl, rfl, hB2⟩ := hrel
        by_cases hjl : j < m.length
        · have hjI : (j : Int) < (m.length : Int) := by omega
          by_cases hin : InTo (ax, ay, al, ah, ai, ao) m j
          · have HF : Hid (pb (InTo (ax, ay, al, ah, ai, ao) m (j + 1)) = true) := pb_yes hin.more
            rw [pb_yes hin]
            clear hin HNO HYES c0 c1 c2 c3 c4 c5 HC
            go_wp2_with fail
            refine Leg.wp_region_qw (by kernel_rfl) (by kernel_rfl) ?_
            refine Leg.QW.want (by kernel_rfl) (fun K hK => ?_)
            go_big_quiet_op
            refine hK _ ?_
            clear hK K
            refine Leg.QW.want (by kernel_rfl) (fun K hK => ?_)
            go_big_quiet_op
            refine hK _ ?_
            clear hK K
            refine Leg.QW.skip (by kernel_rfl) ?_
            refine Leg.QW.skip (by kernel_rfl) ?_
            refine Leg.QW.skip (by kernel_rfl) ?_
            refine Leg.QW.skip (by kernel_rfl) ?_
            refine Leg.QW.skip (by kernel_rfl) ?_
            refine Leg.QW.skip (by kernel_rfl) ?_
            refine Leg.QW.skip (by kernel_rfl) ?_
            refine Leg.QW.skip (by kernel_rfl) ?_
            refine Leg.QW.skip (by kernel_rfl) ?_
            refine Leg.QW.want (by kernel_rfl) (fun K hK => ?_)
            go_simp
            refine hK _ ?_
            clear hK K
            refine Leg.QW.want (by kernel_rfl) (fun K hK => ?_)
            go_big_quiet_op
            refine hK _ ?_
            clear hK K
            refine Leg.QW.nil ?_
            intro _ hw'
            obtain ⟨⟨dq, osq⟩, hw''⟩ := hw'
            subst hw''
            have hw8 := hB2.trans ((below_regrown wr dq osq).mono hB2.size)
            generalize grow (redrawn wr dq) osq = w8 at hw8 ⊢
            go_wp2
            go_roundw
            case rel => exact ⟨j + 1, by omega, by go_num, by rw [HF.out], hw8⟩
            case measure => simp [intOf]; omega
          · obtain ⟨g, off', rfl, hgk, m0, m1, m2, m3, m4, m5, _⟩ := elem_FlyBox hm hjl
            have HF0 : Hid (pb (InTo (ax, ay, al, ah, ai, ao) m (j + 1)) = pb (CovB (m[j]'hjl) (ax, ay, al, ah, ai, ao))) := pb_iff (InTo.next hjl hin)
            rw [pb_no hin]
            have f0 := (hB2.cell (p := ⟨g, off' + j * 6, none⟩) hgk).trans m0
            have f1 := (hB2.cell (p := ⟨g, off' + j * 6 + 1, none⟩) hgk).trans m1
            have f2 := (hB2.cell (p := ⟨g, off' + j * 6 + 2, none⟩) hgk).trans m2
            have f3 := (hB2.cell (p := ⟨g, off' + j * 6 + 3, none⟩) hgk).trans m3
            have f4 := (hB2.cell (p := ⟨g, off' + j * 6 + 4, none⟩) hgk).trans m4
            have f5 := (hB2.cell (p := ⟨g, off' + j * 6 + 5, none⟩) hgk).trans m5
            have e0 := HC 0 _ c0 wr hB2
            have e1 := HC 1 _ c1 wr hB2
            have e2 := HC 2 _ c2 wr hB2
            have e3 := HC 3 _ c3 wr hB2
            have e4 := HC 4 _ c4 wr hB2
            have e5 := HC 5 _ c5 wr hB2
            rw [Nat.add_zero] at e0
            clear hin HNO HYES c0 c1 c2 c3 c4 c5 HC m0 m1 m2 m3 m4 m5 hm
            generalize m[j]'hjl = M at *
            obtain ⟨bx, by_, lo, hi, ci, co⟩ := M
            simp only at f0 f1 f2 f3 f4 f5
            obtain ⟨V, HV⟩ : ∃ V, pb (CovB (bx, by_, lo, hi, ci, co) (ax, ay, al, ah, ai, ao)) = V := ⟨_, rfl⟩
            have HF : Hid (pb (InTo (ax, ay, al, ah, ai, ao) m (j + 1)) = V) := HF0.out.trans HV
            clear HF0
            go_wp2_with fail
            have cC : ∀ dd os, Calls Try.prog 61 #[.agg #[.int .i64 bx, .int .i64 by_, .int .i64 lo, .int .i64 hi, .int .i64 ci, .int .i64 co], .agg #[.int .i64 ax, .int .i64 ay, .int .i64 al, .int .i64 ah, .int .i64 ai, .int .i64 ao]] (grow (redrawn wr dd) os) (fun e w'' => e = .returned (.bool V) ∧ ∃ p : Regrown, w'' = grow (redrawn wr p.d) p.os) := fun dd os => Calls.regrown_of (by have := sCov (bx, by_, lo, hi, ci, co) (ax, ay, al, ah, ai, ao) (grow (redrawn wr dd) os); rw [HV] at this; exact this)
            have ge0 := cell_regrown e0
            have ge1 := cell_regrown e1
            have ge2 := cell_regrown e2
            have ge3 := cell_regrown e3
            have ge4 := cell_regrown e4
            have ge5 := cell_regrown e5
            have gf0 := cell_regrown f0
            have gf1 := cell_regrown f1
            have gf2 := cell_regrown f2
            have gf3 := cell_regrown f3
            have gf4 := cell_regrown f4
            have gf5 := cell_regrown f5
            clear e0 e1 e2 e3 e4 e5 f0 f1 f2 f3 f4 f5
            refine Leg.wp_region_qw (by kernel_rfl) (by kernel_rfl) ?_
            refine Leg.QW.want (by kernel_rfl) (fun K hK => ?_)
            go_big_quiet_op
            refine hK _ ?_
            clear hK K
            refine Leg.QW.want (by kernel_rfl) (fun K hK => ?_)
            go_big_quiet_op
            refine hK _ ?_
            clear hK K
            refine Leg.QW.want (by kernel_rfl) (fun K hK => ?_)
            go_big_quiet_op
            refine hK _ ?_
            clear hK K
            refine Leg.QW.want (by kernel_rfl) (fun K hK => ?_)
            go_big_quiet_op
            refine hK _ ?_
            clear hK K
            refine Leg.QW.want (by kernel_rfl) (fun K hK => ?_)
            go_big_quiet_op
            refine hK _ ?_
            clear hK K
            refine Leg.QW.want (by kernel_rfl) (fun K hK => ?_)
            go_big_quiet_op
            refine hK _ ?_
            clear hK K
            refine Leg.QW.want (by kernel_rfl) (fun K hK => ?_)
            go_big_quiet_op
            refine hK _ ?_
            clear hK K
            refine Leg.QW.want (by kernel_rfl) (fun K hK => ?_)
            go_big_quiet_op
            refine hK _ ?_
            clear hK K
            refine Leg.QW.want (by kernel_rfl) (fun K hK => ?_)
            go_big_quiet_op
            refine hK _ ?_
            clear hK K
            refine Leg.QW.want (by kernel_rfl) (fun K hK => ?_)
            go_big_quiet_op
            refine hK _ ?_
            clear hK K
            refine Leg.QW.want (by kernel_rfl) (fun K hK => ?_)
            go_big_quiet_op
            refine ⟨_, fun _ => cC _ _, hK _ ?_⟩
            clear hK K
            refine Leg.QW.want (by kernel_rfl) (fun K hK => ?_)
            go_big_quiet_op
            refine hK _ ?_
            clear hK K
            refine Leg.QW.want (by kernel_rfl) (fun K hK => ?_)
            go_big_quiet_op
            refine hK _ ?_
            clear hK K
            refine Leg.QW.nil ?_
            clear cC ge0 ge1 ge2 ge3 ge4 ge5 gf0 gf1 gf2 gf3 gf4 gf5
            intro _ hw'
            obtain ⟨⟨dq, osq⟩, hw''⟩ := hw'
            subst hw''
            have hw8 := hB2.trans ((below_regrown wr dq osq).mono hB2.size)
            generalize grow (redrawn wr dq) osq = w8 at hw8 ⊢
            go_wp2
            go_roundw
            case rel => exact ⟨j + 1, by omega, by go_num, by rw [HF.out], hw8⟩
            case measure => simp [intOf]; omega
        · have e : j = m.length := by omega
          subst e
          by_cases hin : InTo (ax, ay, al, ah, ai, ao) m m.length
          · have HN : Hid _ := HYES.out hin
            rw [pb_yes hin]
            clear HNO HYES hin c0 c1 c2 c3 c4 c5 HC hm
            go_wp2
            go_roundw
            case rel => exact ⟨k + 1, by omega, by go_num, HN, hB2⟩
            case measure => simp [intOf]; omega
          · have HR : Hid (pb (Smaller l m) = false) := HNO.out hin
            rw [pb_no hin]
            clear HNO HYES hin c0 c1 c2 c3 c4 c5 HC hm
            go_wp2
            go_ret
            exact ⟨by rw [HR.out]; rfl, hB2⟩
    · have e : k = l.length := by omega
      subst e
      have HR : Hid (pb (Smaller l m) = true) := pb_yes fun j hj => hpre.out j hj hj
      clear hpre h
      go_wp2
      go_ret
      exact ⟨by rw [HR.out]; rfl, hB⟩

end Fly
end Go.Proofs.Ytpjacfnjjkoikaa
