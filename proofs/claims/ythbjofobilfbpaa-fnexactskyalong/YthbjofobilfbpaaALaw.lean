/- DERIVED. laws.FnExactSkyAlong: its walk. -/
import Derived.Test.YthbjofobilfbpaaAl1
import Derived.Test.YthbjofobilfbpaaFLaw
import Derived.Test.YthbjofobilfbpaaMSkyIndex
import Derived.Deep.RegionWith
namespace Go.Proofs.Ythbjofobilfbpaa
open Go.RowKit
set_option linter.unusedSimpArgs false
set_option linter.unusedVariables false

theorem R16 (hs : List DSkyHop) (t a : ByteArray) : (alongF hs t 15 a [a]).length ≤ 16 := by
  have := alongF_len hs t 15 a [a]
  simpa using this

theorem txt_owns {w : World} {B n : Nat} {ao : Option Addr} {cap : Nat} {R : List ByteArray} (h : w.ownsRow B 9 1 (.slice ao R.length cap) R.length (strB R)) : TxtAt w ao R := txt_of_owns rfl h

/-- Where a list of texts lies: from block lo on. -/
def TxtIn (lo : Nat) (ao : Option Addr) : Prop := ∀ g, ao = some ⟨g, 0, none⟩ → lo ≤ g
theorem in_owns {w : World} {B : Nat} {ao : Option Addr} {n cap : Nat} {xs : List Value} (h : w.ownsRow B 9 1 (.slice ao n cap) n xs) : TxtIn B ao := fun g hg => own_ge h g (by rw [hg]; rfl)

set_option maxRecDepth 100000 in
set_option maxHeartbeats 4000000 in
theorem alongLaw_small (x : DSkyIndex) (ao0 : Option Addr) (cap0 : Nat) (ao1 : Option Addr) (cap1 : Nat) (a t : ByteArray) (w : World) (h : IxAt w x ao0 cap0 ao1 cap1) (hn : wSkyIndex x ≤ 1048576) (ha : ¬ 1048576 < a.size) (ht : ¬ 1048576 < t.size) :
    Calls Try.prog 4 #[.agg #[.slice ao0 x.1.length cap0, .slice ao1 x.2.length cap1], .string a, .string t] w fun e w' => e = .returned (.bool true) ∧ Below w.heap.size w w' := by
  have hda : decide ((1048576 : Int) < (a.size : Int)) = false := by simp; omega
  have hdt : decide ((1048576 : Int) < (t.size : Int)) = false := by simp; omega
  have hsz : szR 1048576 (wSkyIndex x) = 1048576 - (wSkyIndex x : Int) := szR_yes (by omega)
  have hnn : ¬ szR 1048576 (wSkyIndex x) < 0 := by rw [hsz]; omega
  have HTO := fun W (hh : IxAt W x ao0 cap0 ao1 cap1) => toSkyIndex_any x ao0 cap0 ao1 cap1 W hh.p0 hh.p1 hn
  have HTS := fun W (hh : IxAt W x ao0 cap0 ao1 cap1) => toSkyIndex_sh x ao0 cap0 ao1 cap1 W hh.p0 hh.p1 hn
  have HSW := fun ao0 cap0 ao1 cap1 W (hh : IxAt W x ao0 cap0 ao1 cap1) => sAlong x.2 ao0 x.1.length cap0 ao1 cap1 a t W hh.p1
  have HIW := fun ao0 cap0 ao1 cap1 W (hh : IxAt W x ao0 cap0 ao1 cap1) => iAlong x.2 ao0 x.1.length cap0 ao1 cap1 a t W hh.p1
  have hR := R16 x.2 t a
  generalize alongF x.2 t 15 a [a] = R at *
  have hcn : cnSkyRowS x.1 + cnSkyHopS x.2 ≤ 33554432 := by
    have h0 := cnSkyRowS_le x.1
    have h1 := cnSkyHopS_le x.2
    unfold wSkyIndex at hn
    omega
  obtain ⟨w0, hw0⟩ : ∃ w0, w0 = w.alloc (.cells #[.slice ao0 x.1.length cap0, .slice ao1 x.2.length cap1] 25) := ⟨_, rfl⟩
  have hb0 : Below w.heap.size w w0 := by rw [hw0]; exact (Below.refl _ _).alloc (Nat.le_refl _) _
  have HS0 : BxC w.heap.size #[.slice ao0 x.1.length cap0, .slice ao1 x.2.length cap1] w0 := by rw [hw0]; exact BxC.new w _ _
  have hz0 : w0.heap.size = w.heap.size + 1 := by rw [hw0]; simp
  have hA := h.later hb0
  have HSZ := szSkyIndex_any x ao0 cap0 ao1 cap1 1048576 w0 (by omega) (by omega) hA.p0 hA.p1
  rw [hw0] at HSZ
  clear hsz hA ha ht
  go_enter Try.func4, Try.ntmps4
  go_wp2_with fail
  refine HSZ.mono ?_
  rw [← hw0]
  rintro e w1 ⟨rfl, hb1⟩
  clear hw0 HSZ
  have hz1 : w.heap.size + 1 ≤ w1.heap.size := by have := hb1.size; omega
  have hB1 : Below w.heap.size w w1 := hb0.trans (hb1.mono (by omega))
  have HS1 := HS0.below hb1 (by omega)
  clear hb1 hb0 HS0
  have a0 := HS1 0
  have a1 := HS1 1
  simp at a0 a1
  have HT1 := HTO w1 (h.later hB1)
  go_wp2_with fail
  refine HT1.mono ?_
  rintro e w2 ⟨ao0p, cap0p, ao1p, cap1p, rfl, p0, p1, hb2⟩
  have hI2 := ixAt_of p0 p1
  have hB2 := hB1.trans (hb2.mono (by omega))
  have HS2 := HS1.below hb2 (by omega)
  have hz2 : w.heap.size + 1 ≤ w2.heap.size := Nat.le_trans hz1 hb2.size
  clear HT1 hb2 p0 p1 hB1 HS1 a0 a1
  have HW2 := HSW _ _ _ _ w2 hI2
  go_wp2_with fail
  refine HW2.mono ?_
  rintro e w3 ⟨wao, wcap, rfl, hWo, hb3⟩
  have hB3 := hB2.trans (hb3.mono (by omega))
  have HS3 := HS2.below hb3 (by omega)
  have hz3 : w.heap.size + 1 ≤ w3.heap.size := Nat.le_trans hz2 hb3.size
  have hWt := txt_of_owns rfl hWo
  have hWin : ∀ g, wao = some ⟨g, 0, none⟩ → g < w3.heap.size := fun g hg => (hWo.lt g (by rw [hg]; rfl)).2
  clear HW2 hb3 hB2 HS2 hI2 hWo HSW hz2
  have a0 := HS3 0
  have a1 := HS3 1
  simp at a0 a1
  have HT3 := HTS w3 (h.later hB3)
  go_wp2_with fail
  refine HT3.mono ?_
  rintro e w4 ⟨ao0q, cap0q, ao1q, cap1q, rfl, ⟨p0, s0⟩, ⟨p1, s1⟩, hb4⟩
  have hI4 := ixAt_of p0 p1
  have hB4 := hB3.trans (hb4.mono (by omega))
  have HS4 := HS3.below hb4 (by omega)
  have hz4 : w3.heap.size ≤ w4.heap.size := hb4.size
  have hWt4 := hWt.later hb4
  clear HT3 p0 p1 hB3 HS3 a0 a1
  obtain ⟨w5, hw5⟩ : ∃ w5, w5 = w4.alloc (.cells #[.slice ao0q x.1.length cap0q, .slice ao1q x.2.length cap1q] 34) := ⟨_, rfl⟩
  have hb5 : Below w4.heap.size w4 w5 := by rw [hw5]; exact (Below.refl _ _).alloc (Nat.le_refl _) _
  have HX5 : BxC w4.heap.size #[.slice ao0q x.1.length cap0q, .slice ao1q x.2.length cap1q] w5 := by rw [hw5]; exact BxC.new w4 _ _
  have hz5 : w5.heap.size = w4.heap.size + 1 := by rw [hw5]; simp
  have hI5 := hI4.later hb5
  have HW5 := HIW _ _ _ _ w5 hI5
  rw [hw5] at HW5
  go_wp2_with fail
  refine HW5.mono ?_
  rw [← hw5]
  rintro e w6 ⟨gao, gcap, rfl, hGo, hb6⟩
  clear HW5 hw5
  have hb56 : Below w4.heap.size w4 w6 := hb5.trans (hb6.mono (by omega))
  have hB6 := hB4.trans (hb56.mono (by omega))
  have HS6 := HS4.below hb56 (by omega)
  have HX6 := HX5.below hb6 (by omega)
  have hI6 := hI4.later hb56
  have hWt6 := hWt4.later hb56
  have hz6 : w5.heap.size ≤ w6.heap.size := hb6.size
  have s06 := s0.stays (fun b hb => hb56.block b hb.2)
  have s16 := s1.stays (fun b hb => hb56.block b hb.2)
  have hGt := txt_of_owns rfl hGo
  clear hb6 hb5 hI5 HX5 hI4 HS4 hB4 hWt4 s0 s1
  have HQ6 := eqTxt gao wao gcap wcap R w6 (by unfold maxLen; omega) hGt hWt6
  go_wp2_with fail
  refine HQ6.mono ?_
  rintro e w7 ⟨rfl, hb7⟩
  have hB7 := hB6.trans (hb7.mono (by omega))
  have HS7 := HS6.below hb7 (by omega)
  have HX7 := HX6.below hb7 (by omega)
  have hI7 := hI6.later hb7
  have hz7 : w6.heap.size ≤ w7.heap.size := hb7.size
  clear HQ6 hGt HS6 HX6 hI6 hB6
  have a0 := HS7 0
  have a1 := HS7 1
  simp at a0 a1
  have d0 := HX7 0
  have d1 := HX7 1
  simp at d0 d1
  have hbd : Below w7.heap.size w7 w7.drew := (Below.refl _ _).drew
  have hA7d := h.later (hB7.trans (hbd.mono (by omega)))
  have hI7d := hI7.later hbd
  have HT7 := HTO w7.drew hA7d
  have hx57 : w4.heap.size < w7.heap.size := by omega
  have hx57d : w4.heap.size < w7.drew.heap.size := hx57
  go_wp2_with fail
  have hb67 := hb7
  clear hb7 hb56 hA7d
  go_region_with (first | (go_at_call 7; refine HT7.mono ?_; rintro e w9 ⟨ao0r, cap0r, ao1r, cap1r, rfl, p0, p1, hb9⟩; have k0 := (hb9.cell (p := ⟨w4.heap.size, 0, none⟩) hx57d).trans d0; have k1 := (hb9.cell (p := ⟨w4.heap.size, 1, none⟩) hx57d).trans d1) | (go_at_call 10; refine (eqSkyIndex_any x ao0q cap0q ao1q cap1q ao0r cap0r ao1r cap1r _ (hI7d.p0.later hb9) (p0.mono fresh_old) (hI7d.p1.later hb9) (p1.mono fresh_old) hn).mono ?_; rintro e w10 ⟨rfl, hb10⟩))
  all_goals
    have hb10' : Below w7.heap.size w7 w10 := (hbd.trans hb9).trans (hb10.mono (show w7.drew.heap.size ≤ w9.heap.size from hb9.size))
    have hB10 := hB7.trans (hb10'.mono (by omega))
    have HS10 := HS7.below hb10' (by omega)
    have HX10 := HX7.below hb10' (by omega)
    have hz10 : w7.heap.size ≤ w10.heap.size := hb10'.size
    have s010 := s06.stays (w' := w10) (fun b hb => by rw [hb10'.block b (by have := hb.2; omega)]; exact hb67.block b (by have := hb.2; omega))
    have s110 := s16.stays (w' := w10) (fun b hb => by rw [hb10'.block b (by have := hb.2; omega)]; exact hb67.block b (by have := hb.2; omega))
    have hGo10 := owns_kept hGo (w' := w10) (fun g _ hg => by rw [hb10'.block g (by omega)]; exact hb67.block g hg)
    have hWt10 := (hWt6.later hb67).later hb10'
    clear hb9 hb10 hb10' HT7 hI7d hbd hI7 HS7 HX7 hB7 s06 s16 hGo hWt6 p0 p1 k0 k1 a0 a1 d0 d1 hb67 hx57 hx57d
    have d0 := HX10 0
    have d1 := HX10 1
    simp at d0 d1
    have HM := markSkyIndex_any ao0q x.1.length cap0q (cnSkyRowS x.1) ao1q x.2.length cap1q (cnSkyHopS x.2) 1 w3.heap.size w4.heap.size w10 s010 s110 hz4 (by omega) (by omega) (by omega)
    go_wp2_with fail
    refine HM.mono ?_
    rintro e w11 ⟨rfl, hS⟩
    clear HM d0 d1 s010 s110
    have hBS := hS.below
    have hz11 : w10.heap.size ≤ w11.heap.size := hBS.size
    have hB11 := hB10.trans (hBS.mono (by omega))
    have HS11 := HS10.below hBS (by omega)
    have hGo11 := owns_kept hGo10 (w' := w11) (fun g h1 h2 => hS.above g (by omega) h2)
    have hWt11 : TxtAt w11 wao R := hWt10.kept (fun g h1 h2 => hBS.block g (hWin g h1)) hBS.size
    have hGt11 := txt_of_owns rfl hGo11
    clear hS hBS hB10 HS10 HX10 hGo10 hWt10
    have hkk : ¬ (1 + ((cnSkyRowS x.1 + cnSkyHopS x.2 : Nat) : Int)) < 0 := by omega
    have hkd : decide ((1 + ((cnSkyRowS x.1 + cnSkyHopS x.2 : Nat) : Int)) < 0) = false := by simp; omega
    generalize (1 + ((cnSkyRowS x.1 + cnSkyHopS x.2 : Nat) : Int)) = kk at *
    have HQ := eqTxt gao wao gcap wcap R w11 (by unfold maxLen; omega) hGt11 hWt11
    go_wp2_with fail
    refine HQ.mono ?_
    rintro e w12 ⟨rfl, hb12⟩
    have hB12 := hB11.trans (hb12.mono (by omega))
    have HS12 := HS11.below hb12 (by omega)
    have hGo12 := owns_below hGo11 hb12
    have hWt12 := hWt11.later hb12
    have hz12 := hb12.size
    clear HQ hb12 hGo11 hWt11 hGt11 hB11 HS11
    have HMT := markTxt gao gcap w5.heap.size 1 R w12 (by omega) (by omega) (by omega) hGo12
    go_wp2_with fail
    refine HMT.mono ?_
    rintro e w13 ⟨rfl, hb13, hGt13⟩
    have hB13 := hB12.trans (hb13.mono (by omega))
    have HS13 := HS12.below hb13 (by omega)
    have hWt13 : TxtAt w13 wao R := hWt12.kept (fun g h1 h2 => hb13.block g (by have := hWin g h1; omega)) hb13.size
    have hz13 := hb13.size
    clear HMT hb13 hGo12 hWt12 hB12 HS12
    have HH := heldTxt gao gcap 1 R.length w13 (by omega) (by omega) hGt13
    go_wp2_with fail
    refine HH.mono ?_
    rintro e w14 ⟨rfl, hb14⟩
    have hB14 := hB13.trans (hb14.mono (by omega))
    have HS14 := HS13.below hb14 (by omega)
    have hWt14 := hWt13.later hb14
    have hGt14 := hGt13.later hb14
    have hz14 := hb14.size
    clear HH hb14 hWt13 hGt13 hB13 HS13
    have hll : ¬ (((1 + R.length : Nat) : Int) < 0) := by omega
    have hld : decide (((1 + R.length : Nat) : Int) < 0) = false := by simp; omega
    generalize hLL : ((1 + R.length : Nat) : Int) = LL at *
    have a0 := HS14 0
    have a1 := HS14 1
    simp at a0 a1
    have HT14 := HTO w14 (h.later hB14)
    go_wp2_with fail
    refine HT14.mono ?_
    rintro e w15 ⟨ao0s, cap0s, ao1s, cap1s, rfl, p0, p1, hb15⟩
    have hI15 := ixAt_of p0 p1
    have hB15 := hB14.trans (hb15.mono (by omega))
    have hWt15 := hWt14.later hb15
    have hGt15 := hGt14.later hb15
    have hz15 := hb15.size
    clear HT14 hb15 p0 p1 hB14 HS14 a0 a1 hWt14 hGt14
    have HW15 := HIW _ _ _ _ w15 hI15
    go_wp2_with fail
    refine HW15.mono ?_
    rintro e w16 ⟨hao, hcap, rfl, hHo, hb16⟩
    have hB16 := hB15.trans (hb16.mono (by omega))
    have hWt16 := hWt15.later hb16
    have hGt16 := hGt15.later hb16
    have hHt16 := txt_of_owns rfl hHo
    have hz16 := hb16.size
    clear HW15 hb16 hHo hI15 hB15 hWt15 hGt15
    have HQ := eqTxt hao wao hcap wcap R w16 (by unfold maxLen; omega) hHt16 hWt16
    go_wp2_with fail
    refine HQ.mono ?_
    rintro e w17 ⟨rfl, hb17⟩
    have hB17 := hB16.trans (hb17.mono (by omega))
    have hGt17 := hGt16.later hb17
    have hz17 := hb17.size
    clear HQ hb17 hHt16 hB16 hWt16 hGt16
    have HH := heldTxt gao gcap 1 R.length w17 (by omega) (by omega) hGt17
    rw [hLL] at HH
    go_wp2_with fail
    refine HH.mono ?_
    rintro e w18 ⟨rfl, hb18⟩
    have hB18 := hB17.trans (hb18.mono (by omega))
    clear HH hb18
    go_wp2
    go_ret
    exact ⟨rfl, hB18⟩

set_option maxRecDepth 100000 in
set_option maxHeartbeats 1000000 in
theorem alongLaw_big (x : DSkyIndex) (ao0 : Option Addr) (cap0 : Nat) (ao1 : Option Addr) (cap1 : Nat) (a t : ByteArray) (w : World) (h : IxAt w x ao0 cap0 ao1 cap1) (hn : ¬ wSkyIndex x ≤ 1048576) (ha : ¬ 1048576 < a.size) (ht : ¬ 1048576 < t.size) :
    Calls Try.prog 4 #[.agg #[.slice ao0 x.1.length cap0, .slice ao1 x.2.length cap1], .string a, .string t] w fun e w' => e = .returned (.bool true) ∧ Below w.heap.size w w' := by
  have hda : decide ((1048576 : Int) < (a.size : Int)) = false := by simp; omega
  have hdt : decide ((1048576 : Int) < (t.size : Int)) = false := by simp; omega
  have hsz : szR 1048576 (wSkyIndex x) = -1 := szR_no (by omega)
  have hb0 : Below w.heap.size w (w.alloc (.cells #[.slice ao0 x.1.length cap0, .slice ao1 x.2.length cap1] 25)) := (Below.refl _ _).alloc (Nat.le_refl _) _
  have hA := h.later hb0
  have hcall := szSkyIndex_any x ao0 cap0 ao1 cap1 1048576 _ (by omega) (by omega) hA.p0 hA.p1
  rw [hsz] at hcall
  clear hsz ha ht
  go_enter Try.func4, Try.ntmps4
  go_wp2_with fail
  refine hcall.mono ?_
  rintro e w1 ⟨rfl, hb1⟩
  have hb2 := hb0.trans (hb1.mono hb0.size)
  clear hb1 hcall
  go_wp2
  go_ret
  exact ⟨rfl, hb2⟩

theorem alongLaw_a (v : Value) (x : DSkyIndex) (ao0 : Option Addr) (cap0 : Nat) (ao1 : Option Addr) (cap1 : Nat) (a t : ByteArray) (w : World) (ha : 1048576 < a.size) :
    Calls Try.prog 4 #[.agg #[.slice ao0 x.1.length cap0, .slice ao1 x.2.length cap1], .string a, .string t] w fun e w' => e = .returned (.bool true) ∧ Below w.heap.size w w' := by
  have hda : decide ((1048576 : Int) < (a.size : Int)) = true := by simp; omega
  have hb0 : Below w.heap.size w (w.alloc (.cells #[.slice ao0 x.1.length cap0, .slice ao1 x.2.length cap1] 25)) := (Below.refl _ _).alloc (Nat.le_refl _) _
  clear ha
  go_enter Try.func4, Try.ntmps4
  go_wp2
  go_ret
  exact ⟨rfl, hb0⟩

theorem alongLaw_t (x : DSkyIndex) (ao0 : Option Addr) (cap0 : Nat) (ao1 : Option Addr) (cap1 : Nat) (a t : ByteArray) (w : World) (ha : ¬ 1048576 < a.size) (ht : 1048576 < t.size) :
    Calls Try.prog 4 #[.agg #[.slice ao0 x.1.length cap0, .slice ao1 x.2.length cap1], .string a, .string t] w fun e w' => e = .returned (.bool true) ∧ Below w.heap.size w w' := by
  have hda : decide ((1048576 : Int) < (a.size : Int)) = false := by simp; omega
  have hdt : decide ((1048576 : Int) < (t.size : Int)) = true := by simp; omega
  have hb0 : Below w.heap.size w (w.alloc (.cells #[.slice ao0 x.1.length cap0, .slice ao1 x.2.length cap1] 25)) := (Below.refl _ _).alloc (Nat.le_refl _) _
  clear ha ht
  go_enter Try.func4, Try.ntmps4
  go_wp2
  go_ret
  exact ⟨rfl, hb0⟩

theorem alongLaw (x : DSkyIndex) (ao0 : Option Addr) (cap0 : Nat) (ao1 : Option Addr) (cap1 : Nat) (a t : ByteArray) (w : World) (h : IxAt w x ao0 cap0 ao1 cap1) :
    Calls Try.prog 4 #[.agg #[.slice ao0 x.1.length cap0, .slice ao1 x.2.length cap1], .string a, .string t] w fun e w' => e = .returned (.bool true) ∧ Below w.heap.size w w' := by
  by_cases ha : 1048576 < a.size
  · exact alongLaw_a (.bool true) x ao0 cap0 ao1 cap1 a t w ha
  · by_cases ht : 1048576 < t.size
    · exact alongLaw_t x ao0 cap0 ao1 cap1 a t w ha ht
    · by_cases hn : wSkyIndex x ≤ 1048576
      · exact alongLaw_small x ao0 cap0 ao1 cap1 a t w h hn ha ht
      · exact alongLaw_big x ao0 cap0 ao1 cap1 a t w h hn ha ht

end Go.Proofs.Ythbjofobilfbpaa
