/- DERIVED. laws.FnExactPlanCells: its walk (written by wip/tools/mk_law4.py). -/
import Derived.Test.YtohgkiljdehefaaPq6
import Derived.Test.YtohgkiljdehefaaSq4
import Derived.Test.YtohgkiljdehefaaCd
import Derived.Test.YtohgkiljdehefaaCb
import Derived.Test.YtohgkiljdehefaaCc
import Derived.Deep.RegionWith
namespace Go.Proofs.Ytohgkiljdehefaa
namespace Pcl
open Go.RowKit Leg
set_option linter.unusedSimpArgs false
set_option linter.unusedVariables false

/-- The shapes of a base's two lists. -/
structure BaseSh (ok : Nat → Prop) (w : World) (x : DPlanBase) (ao0 ao1 : Option Addr) : Prop where
  q0 : SlSh shPlanKind 70 ok w ao0 x.1.length (cnPlanKindS x.1)
  q1 : SlSh shPlanPoint 73 ok w ao1 x.2.length (cnPlanPointS x.2)
theorem BaseSh.stays {ok : Nat → Prop} {w w' : World} {x : DPlanBase} {ao0 ao1 : Option Addr} (h : BaseSh ok w x ao0 ao1) (hb : ∀ b, ok b → w'.heap[b]? = w.heap[b]?) : BaseSh ok w' x ao0 ao1 :=
  ⟨h.q0.stays hb, h.q1.stays hb⟩
theorem baseSh_marks {x : DPlanBase} (h : wPlanBase x ≤ 1048576) : cnPlanKindS x.1 + cnPlanPointS x.2 ≤ 134217728 := by
  have h3 := cnPlanKindS_le x.1
  have h4 := cnPlanPointS_le x.2
  unfold wPlanBase at h
  omega
theorem own_slice {w : World} {B : Nat} {e : TypeId} {K : Nat} {v : Value} {n : Nat} {xs : List Value} (h : w.ownsRow B e K v n xs) : ∃ ao cap, v = .slice ao n cap := by
  rcases h.2 with ⟨rfl, rfl⟩ | ⟨g, cap, cur, rfl, _⟩
  · exact ⟨none, 0, rfl⟩
  · exact ⟨_, cap, rfl⟩
theorem ofList {α : Type} {A : View α} {w w' : World} {ao : Option Addr} {cap : Nat} {l : List α} (h : SliceAt A (fresh w w') w' ao cap l) : SliceAt A (old w') w' ao cap l := h.mono fresh_old
theorem cells_len (x : DPlanBase) (ws : List ByteArray) : (cellsOf x ws).length ≤ 40 := by
  unfold cellsOf
  by_cases h : CellsOk x ws
  · rw [pb_yes h]; exact h.2.2
  · rw [pb_no h]; simp

set_option maxRecDepth 100000 in
set_option maxHeartbeats 8000000 in
theorem cellsLaw_small (x : DPlanBase) (ao0 : Option Addr) (cap0 : Nat) (ao1 : Option Addr) (cap1 : Nat) (ao : Option Addr) (cap : Nat) (l : List ByteArray) (w : World) (h : BaseAt w x ao0 cap0 ao1 cap1) (hl : SliceAt vStr (old w) w ao cap l) (hn : wPlanBase x + wStringS l ≤ 1048576) :
    Calls Try.prog 7 #[.agg #[.slice ao0 x.1.length cap0, .slice ao1 x.2.length cap1], .slice ao l.length cap] w fun e w' => e = .returned (.bool true) ∧ Below w.heap.size w w' := by
  have hn1 : wPlanBase x ≤ 1048576 := by omega
  have hn2 : wStringS l ≤ 1048576 := by omega
  have hl20 : l.length ≤ 1048576 := by unfold wStringS at hn2; omega
  have hsz : szR 1048576 (wPlanBase x) = 1048576 - (wPlanBase x : Int) := szR_yes (by omega)
  have hsz2 : szR (1048576 - (wPlanBase x : Int)) (wStringS l) = 1048576 - (wPlanBase x : Int) - (wStringS l : Int) := szR_yes (by omega)
  have hnn : decide ((1048576 - (wPlanBase x : Int)) < 0) = false := by simp; omega
  have hnn2 : decide ((1048576 - (wPlanBase x : Int) - (wStringS l : Int)) < 0) = false := by simp; omega
  have HTO := fun W (hh : BaseAt W x ao0 cap0 ao1 cap1) => toPlanBase_any x ao0 cap0 ao1 cap1 W hh.p0 hh.p1 hn1
  have HTS := fun W (hh : BaseAt W x ao0 cap0 ao1 cap1) => toPlanBase_sh x ao0 cap0 ao1 cap1 W hh.p0 hh.p1 hn1
  have HLO := fun W (hh : SliceAt vStr (old W) W ao cap l) => toStringS_any ao cap l W hn2 hh
  have HLS := fun W (hh : SliceAt vStr (old W) W ao cap l) => toStringS_sh ao cap l W hn2 hh
  have HSW := fun ao0 cap0 ao1 cap1 ao cap W (hh : BaseAt W x ao0 cap0 ao1 cap1) (hq : SliceAt vStr (old W) W ao cap l) => sCells x ao0 cap0 ao1 cap1 ao cap l W hh (TxO.of_slice hq) (by omega)
  have HIW := fun ao0 cap0 ao1 cap1 ao cap W (hh : BaseAt W x ao0 cap0 ao1 cap1) (hq : SliceAt vStr (old W) W ao cap l) => iCells x ao0 cap0 ao1 cap1 ao cap l W hh (TxO.of_slice hq) (by omega)
  have hR : (cellsOf x l).length ≤ 1000000000 := Nat.le_trans (cells_len x l) (by omega)
  have hcn := baseSh_marks hn1
  have hcl : cnStringS l ≤ 16777216 := by have := cnStringS_le l; omega
  obtain ⟨R, hRe⟩ : ∃ R, R = (cellsOf x l) := ⟨_, rfl⟩
  obtain ⟨C, hCe⟩ : ∃ C, C = (pb (CellsOk x l)) := ⟨_, rfl⟩
  unfold GivesC at HSW HIW
  simp only [← hRe, ← hCe] at HSW HIW hR
  clear hRe hCe
  have hCC : (C != C) = false := by simp
  obtain ⟨w0, hw0⟩ : ∃ w0, w0 = w.alloc (.cells #[.slice ao0 x.1.length cap0, .slice ao1 x.2.length cap1] 25) := ⟨_, rfl⟩
  have hb0 : Below w.heap.size w w0 := by rw [hw0]; exact (Below.refl _ _).alloc (Nat.le_refl _) _
  have HS0 : BxC w.heap.size #[.slice ao0 x.1.length cap0, .slice ao1 x.2.length cap1] w0 := by rw [hw0]; exact BxC.new w _ _
  have hz0 : w0.heap.size = w.heap.size + 1 := by rw [hw0]; simp
  have hA := h.later hb0
  have HSZ := szPlanBase_any x ao0 cap0 ao1 cap1 1048576 w0 (by omega) (by omega) hA.p0 hA.p1
  rw [hw0, hsz] at HSZ
  clear hA
  go_enter Try.func7, Try.ntmps7
  go_wp2_with fail
  refine HSZ.mono ?_
  rw [← hw0]
  rintro e w1 ⟨rfl, hb1⟩
  clear hw0 HSZ hsz
  have hz1 : w.heap.size + 1 ≤ w1.heap.size := by have := hb1.size; omega
  have hB1 : Below w.heap.size w w1 := hb0.trans (hb1.mono (by omega))
  have HS1 := HS0.below hb1 (by omega)
  clear hb1 hb0 HS0
  have HSL := szStringS_any ao cap l (1048576 - (wPlanBase x : Int)) w1 (by omega) (by omega) (hl.later hB1)
  rw [hsz2] at HSL
  clear hsz2
  go_wp2_with fail
  refine HSL.mono ?_
  rintro e w2 ⟨rfl, hb2⟩
  have hz2 : w.heap.size + 1 ≤ w2.heap.size := by have := hb2.size; omega
  have hB2 : Below w.heap.size w w2 := hB1.trans (hb2.mono (by omega))
  have HS2 := HS1.below hb2 (by omega)
  clear HSL hb2 hB1 HS1
  generalize (1048576 - (wPlanBase x : Int)) = L1 at *
  generalize (L1 - (wStringS l : Int)) = L2 at *
  have a0 := HS2 0
  have a1 := HS2 1
  simp at a0 a1
  have HT := HTO w2 (h.later hB2)
  go_wp2_with fail
  refine HT.mono ?_
  rintro e w3 ⟨ao0p, cap0p, ao1p, cap1p, rfl, p3, p4, hb3⟩
  have hI3 := baseAt_of p3 p4
  have hB3 := hB2.trans (hb3.mono (by omega))
  have HS3 := HS2.below hb3 (by omega)
  have hz3 : w.heap.size + 1 ≤ w3.heap.size := Nat.le_trans hz2 hb3.size
  clear HT hb3 p3 p4 hB2 HS2 a0 a1
  have HL := HLO w3 (hl.later hB3)
  go_wp2_with fail
  refine HL.mono ?_
  rintro e w4 ⟨aop, capp, rfl, p, hb4⟩
  have hI4 := hI3.later hb4
  have hL4 := ofList p
  have hB4 := hB3.trans (hb4.mono (by omega))
  have HS4 := HS3.below hb4 (by omega)
  have hz4 : w.heap.size + 1 ≤ w4.heap.size := Nat.le_trans hz3 hb4.size
  clear HL hb4 p hB3 HS3 hI3
  have HW := HSW _ _ _ _ _ _ w4 hI4 hL4
  go_wp2_with fail
  refine HW.mono ?_
  rintro e w5 ⟨wao, wcap, rfl, hWo, hb5⟩
  have hB5 := hB4.trans (hb5.mono (by omega))
  have HS5 := HS4.below hb5 (by omega)
  have hz5 : w.heap.size + 1 ≤ w5.heap.size := Nat.le_trans hz4 hb5.size
  have hWt := atPlanCell_owns hWo
  have hWin : ∀ g, wao = some ⟨g, 0, none⟩ → g < w5.heap.size := fun g hg => (hWo.lt g (by rw [hg]; rfl)).2
  clear HW hb5 hB4 HS4 hI4 hL4 hWo HSW
  have a0 := HS5 0
  have a1 := HS5 1
  simp at a0 a1
  have HT := HTS w5 (h.later hB5)
  go_wp2_with fail
  refine HT.mono ?_
  rintro e w6 ⟨ao0q, cap0q, ao1q, cap1q, rfl, ⟨p3, s3⟩, ⟨p4, s4⟩, hb6⟩
  have hI6 := baseAt_of p3 p4
  have hSh6 : BaseSh (fresh w5 w6) w6 x ao0q ao1q := ⟨s3, s4⟩
  have hB6 := hB5.trans (hb6.mono (by omega))
  have HS6 := HS5.below hb6 (by omega)
  have hz6 : w5.heap.size ≤ w6.heap.size := hb6.size
  have hWt6 := hWt.later hb6
  clear HT p3 p4 s3 s4 hB5 HS5 hWt a0 a1
  obtain ⟨w7, hw7⟩ : ∃ w7, w7 = w6.alloc (.cells #[.slice ao0q x.1.length cap0q, .slice ao1q x.2.length cap1q] 31) := ⟨_, rfl⟩
  have hb7 : Below w6.heap.size w6 w7 := by rw [hw7]; exact (Below.refl _ _).alloc (Nat.le_refl _) _
  have HX7 : BxC w6.heap.size #[.slice ao0q x.1.length cap0q, .slice ao1q x.2.length cap1q] w7 := by rw [hw7]; exact BxC.new w6 _ _
  have hz7 : w7.heap.size = w6.heap.size + 1 := by rw [hw7]; simp
  have hB7 := hB6.trans (hb7.mono (by omega))
  have HL := HLS w7 (hl.later hB7)
  rw [hw7] at HL
  go_wp2_with fail
  refine HL.mono ?_
  rw [← hw7]
  rintro e w8 ⟨aoq, capq, rfl, pl, sl, hb8⟩
  clear HL hw7
  have hL8 := ofList pl
  have hb78 : Below w6.heap.size w6 w8 := hb7.trans (hb8.mono (by omega))
  have hI8 := hI6.later hb78
  have hSh8 := hSh6.stays (fun b hb => hb78.block b hb.2)
  have hWt8 := hWt6.later hb78
  have HX8 := HX7.below hb8 (by omega)
  have HS8 := HS6.below hb78 (by omega)
  have hB8 := hB6.trans (hb78.mono (by omega))
  have hz8 : w7.heap.size ≤ w8.heap.size := hb8.size
  clear pl hb7 hb8 hb78 hI6 hSh6 hWt6 HX7 HS6 hB6 hB7
  have d0 := HX8 0
  have d1 := HX8 1
  simp at d0 d1
  have HW := HIW _ _ _ _ _ _ w8 hI8 hL8
  go_wp2_with fail
  refine HW.mono ?_
  rintro e w9 ⟨gao, gcap, rfl, hGo, hb9⟩
  have hB9 := hB8.trans (hb9.mono (by omega))
  have HS9 := HS8.below hb9 (by omega)
  have HX9 := HX8.below hb9 (by omega)
  have hI9 := hI8.later hb9
  have hL9 := hL8.later hb9
  have hWt9 := hWt8.later hb9
  have hSh9 := hSh8.stays (fun b hb => hb9.block b (by have := hb.2; omega))
  have sl9 := sl.stays (fun b hb => hb9.block b hb.2)
  have hz9 : w8.heap.size ≤ w9.heap.size := hb9.size
  have hGt := atPlanCell_owns hGo
  clear HW hb9 hB8 HS8 HX8 hI8 hL8 hWt8 hSh8 sl d0 d1
  have HQ := eqPlanCellRS gao wao gcap wcap R w9 (by unfold maxLen; omega) hGt hWt9
  go_wp2_with fail
  refine HQ.mono ?_
  rintro e w10 ⟨rfl, hb10⟩
  have hB10 := hB9.trans (hb10.mono (by omega))
  have HS10 := HS9.below hb10 (by omega)
  have HX10 := HX9.below hb10 (by omega)
  have hI10 := hI9.later hb10
  have hL10 := hL9.later hb10
  have hWt10 := hWt9.later hb10
  have hSh10 := hSh9.stays (fun b hb => hb10.block b (by have := hb.2; omega))
  have sl10 := sl9.stays (fun b hb => hb10.block b (by have := hb.2; omega))
  have hGo10 := owns_below hGo hb10
  have hz10 : w9.heap.size ≤ w10.heap.size := hb10.size
  clear HQ hGt hb10 hB9 HS9 HX9 hI9 hL9 hWt9 hSh9 sl9 hGo
  have a0 := HS10 0
  have a1 := HS10 1
  simp at a0 a1
  have d0 := HX10 0
  have d1 := HX10 1
  simp at d0 d1
  have hbd : Below w10.heap.size w10 w10.drew := (Below.refl _ _).drew
  have hI10d := hI10.later hbd
  have HT := HTO w10.drew (h.later (hB10.trans (hbd.mono (by omega))))
  have hx10 : w6.heap.size < w10.heap.size := by omega
  have hx10d : w6.heap.size < w10.drew.heap.size := hx10
  go_wp2_with fail
  go_region_with (first | (go_at_call 10; refine HT.mono ?_; rintro e w11 ⟨ao0r, cap0r, ao1r, cap1r, rfl, p3, p4, hb11⟩; have k0 := (hb11.cell (p := ⟨w6.heap.size, 0, none⟩) hx10d).trans d0; have k1 := (hb11.cell (p := ⟨w6.heap.size, 1, none⟩) hx10d).trans d1) | (go_at_call 12; refine (eqPlanBase_any x ao0q cap0q ao1q cap1q ao0r cap0r ao1r cap1r _ (hI10d.p0.later hb11) (p3.mono fresh_old) (hI10d.p1.later hb11) (p4.mono fresh_old) hn1).mono ?_; rintro e w12 ⟨rfl, hb12⟩))
  all_goals
    have hb12' : Below w10.heap.size w10 w12 := (hbd.trans hb11).trans (hb12.mono (show w10.drew.heap.size ≤ w11.heap.size from hb11.size))
    have hB12 := hB10.trans (hb12'.mono (by omega))
    have HS12 := HS10.below hb12' (by omega)
    have HX12 := HX10.below hb12' (by omega)
    have hL12 := hL10.later hb12'
    have hWt12 := hWt10.later hb12'
    have hSh12 := hSh10.stays (fun b hb => hb12'.block b (by have := hb.2; omega))
    have sl12 := sl10.stays (fun b hb => hb12'.block b (by have := hb.2; omega))
    have hGo12 := owns_below hGo10 hb12'
    have hz12 : w10.heap.size ≤ w12.heap.size := hb12'.size
    clear HT hI10d hb11 hb12 hb12' p3 p4 hbd hI10 HS10 HX10 hL10 hWt10 hSh10 sl10 hGo10 hB10 hx10 hx10d k0 k1 a0 a1 d0 d1
    have HL := HLO w12 (hl.later hB12)
    go_wp2_with fail
    refine HL.mono ?_
    rintro e w13 ⟨aor, capr, rfl, p, hb13⟩
    have hL13' := ofList p
    have hL13 := hL12.later hb13
    have hB13 := hB12.trans (hb13.mono (by omega))
    have hz13 : w12.heap.size ≤ w13.heap.size := hb13.size
    clear HL p
    have HQ := eqStringS_any aoq aor capq capr l w13 hn2 hL13 hL13'
    go_wp2_with fail
    refine HQ.mono ?_
    rintro e w14 ⟨rfl, hb14⟩
    have hb14' : Below w12.heap.size w12 w14 := hb13.trans (hb14.mono (by omega))
    have hB14 := hB12.trans (hb14'.mono (by omega))
    have HS14 := HS12.below hb14' (by omega)
    have HX14 := HX12.below hb14' (by omega)
    have hWt14 := hWt12.later hb14'
    have hSh14 := hSh12.stays (fun b hb => hb14'.block b (by have := hb.2; omega))
    have sl14 := sl12.stays (fun b hb => hb14'.block b (by have := hb.2; omega))
    have hGo14 := owns_below hGo12 hb14'
    have hz14 : w12.heap.size ≤ w14.heap.size := hb14'.size
    clear HQ hb13 hb14 hb14' hL13 hL13' hL12 HS12 HX12 hWt12 hSh12 sl12 hGo12 hB12 hB13
    have d0 := HX14 0
    have d1 := HX14 1
    simp at d0 d1
    have HM := markPlanBase_any ao0q x.1.length cap0q (cnPlanKindS x.1) ao1q x.2.length cap1q (cnPlanPointS x.2) 1 w5.heap.size w6.heap.size w14 hSh14.q0 hSh14.q1 hz6 (by omega) (by omega) (by omega)
    go_wp2_with fail
    refine HM.mono ?_
    rintro e w15 ⟨rfl, hS⟩
    have hBS := hS.below
    have hz15 : w14.heap.size ≤ w15.heap.size := hBS.size
    have hB15 := hB14.trans (hBS.mono (by omega))
    have HS15 := HS14.below hBS (by omega)
    have hGo15 := owns_kept hGo14 (w' := w15) (fun g h1 h2 => hS.above g (by omega) h2)
    have hWt15 : AtPlanCell w15 wao R := hWt14.kept (fun g h1 h2 => hBS.block g (hWin g h1)) hBS.size
    have sl15 := sl14.stays (w' := w15) (fun b hb => hS.above b (by have := hb.1; omega) (by have := hb.2; omega))
    clear HM hS hBS d0 d1 hSh14 sl14 hGo14 hWt14 HS14 HX14 hB14
    generalize hKe : (1 + ((cnPlanKindS x.1 + cnPlanPointS x.2 : Nat) : Int)) = kk at *
    have hk0 : 0 ≤ kk := by omega
    have hk1 : kk ≤ 1099511627776 - 16777216 := by omega
    clear hKe
    have HM := markStringS_any aoq l.length capq (cnStringS l) kk w7.heap.size w8.heap.size w15 sl15 hz8 (by omega) hk0 (by omega)
    go_wp2_with fail
    refine HM.mono ?_
    rintro e w16 ⟨rfl, hS⟩
    have hBS := hS.below
    have hz16 : w15.heap.size ≤ w16.heap.size := hBS.size
    have hB16 := hB15.trans (hBS.mono (by omega))
    have HS16 := HS15.below hBS (by omega)
    have hGo16 := owns_kept hGo15 (w' := w16) (fun g h1 h2 => hS.above g (by omega) h2)
    have hWt16 : AtPlanCell w16 wao R := hWt15.kept (fun g h1 h2 => hBS.block g (by have := hWin g h1; omega)) hBS.size
    have hGt16 := atPlanCell_owns hGo16
    clear HM hS hBS sl15 hGo15 hWt15 HS15 hB15
    have hkd : decide (kk + (cnStringS l : Int) < 0) = false := by simp; omega
    generalize kk + (cnStringS l : Int) = kk2 at *
    have HQ := eqPlanCellRS gao wao gcap wcap R w16 (by unfold maxLen; omega) hGt16 hWt16
    go_wp2_with fail
    refine HQ.mono ?_
    rintro e w17 ⟨rfl, hb17⟩
    have hB17 := hB16.trans (hb17.mono (by omega))
    have HS17 := HS16.below hb17 (by omega)
    have hGo17 := owns_below hGo16 hb17
    have hWt17 := hWt16.later hb17
    have hz17 := hb17.size
    clear HQ hb17 hGo16 hWt16 hGt16 hB16 HS16
    have HMT := markPlanCellR gao gcap w8.heap.size 1 R w17 (by omega) (by omega) (by omega) hGo17
    go_wp2_with fail
    refine HMT.mono ?_
    rintro e w18 ⟨rfl, hb18, hGt18⟩
    have hB18 := hB17.trans (hb18.mono (by omega))
    have HS18 := HS17.below hb18 (by omega)
    have hWt18 : AtPlanCell w18 wao R := hWt17.kept (fun g h1 h2 => hb18.block g (by have := hWin g h1; omega)) hb18.size
    have hz18 := hb18.size
    clear HMT hb18 hGo17 hWt17 hB17 HS17
    have HH := heldPlanCellR gao gcap 1 R.length w18 (by omega) (by omega) hGt18
    generalize hLL : ((1 + 2 * R.length : Nat) : Int) = LL at *
    have hll : ¬ (LL < 0) := by omega
    have hld : decide (LL < 0) = false := by simp; omega
    go_wp2_with fail
    refine HH.mono ?_
    rintro e w19 ⟨rfl, hb19⟩
    have hB19 := hB18.trans (hb19.mono (by omega))
    have HS19 := HS18.below hb19 (by omega)
    have hWt19 := hWt18.later hb19
    have hGt19 := hGt18.later hb19
    have hz19 := hb19.size
    clear HH hb19 hWt18 hGt18 hB18 HS18
    have a0 := HS19 0
    have a1 := HS19 1
    simp at a0 a1
    have HT := HTO w19 (h.later hB19)
    go_wp2_with fail
    refine HT.mono ?_
    rintro e w20 ⟨ao0s, cap0s, ao1s, cap1s, rfl, p3, p4, hb20⟩
    have hI20 := baseAt_of p3 p4
    have hB20 := hB19.trans (hb20.mono (by omega))
    have hWt20 := hWt19.later hb20
    have hGt20 := hGt19.later hb20
    have hz20 := hb20.size
    clear HT hb20 p3 p4 hB19 HS19 a0 a1 hWt19 hGt19
    have HL := HLO w20 (hl.later hB20)
    go_wp2_with fail
    refine HL.mono ?_
    rintro e w21 ⟨aos, caps, rfl, p, hb21⟩
    have hI21 := hI20.later hb21
    have hL21 := ofList p
    have hB21 := hB20.trans (hb21.mono (by omega))
    have hWt21 := hWt20.later hb21
    have hGt21 := hGt20.later hb21
    have hz21 := hb21.size
    clear HL hb21 p hB20 hI20 hWt20 hGt20
    have HW := HIW _ _ _ _ _ _ w21 hI21 hL21
    go_wp2_with fail
    refine HW.mono ?_
    rintro e w22 ⟨hao, hcap, rfl, hHo, hb22⟩
    have hB22 := hB21.trans (hb22.mono (by omega))
    have hWt22 := hWt21.later hb22
    have hGt22 := hGt21.later hb22
    have hHt22 := atPlanCell_owns hHo
    have hz22 := hb22.size
    clear HW hb22 hHo hI21 hL21 hB21 hWt21 hGt21
    have HQ := eqPlanCellRS hao wao hcap wcap R w22 (by unfold maxLen; omega) hHt22 hWt22
    go_wp2_with fail
    refine HQ.mono ?_
    rintro e w23 ⟨rfl, hb23⟩
    have hB23 := hB22.trans (hb23.mono (by omega))
    have hGt23 := hGt22.later hb23
    have hz23 := hb23.size
    clear HQ hb23 hHt22 hB22 hWt22 hGt22
    have HH := heldPlanCellR gao gcap 1 R.length w23 (by omega) (by omega) hGt23
    rw [hLL] at HH
    go_wp2_with fail
    refine HH.mono ?_
    rintro e w24 ⟨rfl, hb24⟩
    have hB24 := hB23.trans (hb24.mono (by omega))
    clear HH hb24
    go_wp2
    go_ret
    exact ⟨rfl, hB24⟩

set_option maxRecDepth 100000 in
set_option maxHeartbeats 1000000 in
theorem cellsLaw_big (x : DPlanBase) (ao0 : Option Addr) (cap0 : Nat) (ao1 : Option Addr) (cap1 : Nat) (ao : Option Addr) (cap : Nat) (l : List ByteArray) (w : World) (h : BaseAt w x ao0 cap0 ao1 cap1) (hn : ¬ wPlanBase x ≤ 1048576) :
    Calls Try.prog 7 #[.agg #[.slice ao0 x.1.length cap0, .slice ao1 x.2.length cap1], .slice ao l.length cap] w fun e w' => e = .returned (.bool true) ∧ Below w.heap.size w w' := by
  have hsz : szR 1048576 (wPlanBase x) = -1 := szR_no (by omega)
  have hb0 : Below w.heap.size w (w.alloc (.cells #[.slice ao0 x.1.length cap0, .slice ao1 x.2.length cap1] 25)) := (Below.refl _ _).alloc (Nat.le_refl _) _
  have hA := h.later hb0
  have hcall := szPlanBase_any x ao0 cap0 ao1 cap1 1048576 _ (by omega) (by omega) hA.p0 hA.p1
  rw [hsz] at hcall
  clear hsz
  go_enter Try.func7, Try.ntmps7
  go_wp2_with fail
  refine hcall.mono ?_
  rintro e w1 ⟨rfl, hb1⟩
  have hb2 := hb0.trans (hb1.mono hb0.size)
  clear hb1 hcall
  go_wp2
  go_ret
  exact ⟨rfl, hb2⟩

set_option maxRecDepth 100000 in
set_option maxHeartbeats 1000000 in
theorem cellsLaw_long (x : DPlanBase) (ao0 : Option Addr) (cap0 : Nat) (ao1 : Option Addr) (cap1 : Nat) (ao : Option Addr) (cap : Nat) (l : List ByteArray) (w : World) (h : BaseAt w x ao0 cap0 ao1 cap1) (hl : SliceAt vStr (old w) w ao cap l) (hn1 : wPlanBase x ≤ 1048576) (hn : ¬ wPlanBase x + wStringS l ≤ 1048576) :
    Calls Try.prog 7 #[.agg #[.slice ao0 x.1.length cap0, .slice ao1 x.2.length cap1], .slice ao l.length cap] w fun e w' => e = .returned (.bool true) ∧ Below w.heap.size w w' := by
  have hsz : szR 1048576 (wPlanBase x) = 1048576 - (wPlanBase x : Int) := szR_yes (by omega)
  have hsz2 : szR (1048576 - (wPlanBase x : Int)) (wStringS l) = -1 := szR_no (by omega)
  have hnn : decide ((1048576 - (wPlanBase x : Int)) < 0) = false := by simp; omega
  have hb0 : Below w.heap.size w (w.alloc (.cells #[.slice ao0 x.1.length cap0, .slice ao1 x.2.length cap1] 25)) := (Below.refl _ _).alloc (Nat.le_refl _) _
  have hA := h.later hb0
  have hcall := szPlanBase_any x ao0 cap0 ao1 cap1 1048576 _ (by omega) (by omega) hA.p0 hA.p1
  rw [hsz] at hcall
  clear hsz
  go_enter Try.func7, Try.ntmps7
  go_wp2_with fail
  refine hcall.mono ?_
  rintro e w1 ⟨rfl, hb1⟩
  have hb2 := hb0.trans (hb1.mono hb0.size)
  clear hb1 hcall
  have HSL := szStringS_any ao cap l (1048576 - (wPlanBase x : Int)) w1 (by omega) (by omega) (hl.later hb2)
  rw [hsz2] at HSL
  generalize (1048576 - (wPlanBase x : Int)) = L1 at *
  go_wp2_with fail
  refine HSL.mono ?_
  rintro e w2 ⟨rfl, hb3⟩
  have hb4 := hb2.trans (hb3.mono hb2.size)
  clear HSL hb3
  go_wp2
  go_ret
  exact ⟨rfl, hb4⟩

theorem cellsLaw (x : DPlanBase) (ao0 : Option Addr) (cap0 : Nat) (ao1 : Option Addr) (cap1 : Nat) (ao : Option Addr) (cap : Nat) (l : List ByteArray) (w : World) (h : BaseAt w x ao0 cap0 ao1 cap1) (hl : SliceAt vStr (old w) w ao cap l) :
    Calls Try.prog 7 #[.agg #[.slice ao0 x.1.length cap0, .slice ao1 x.2.length cap1], .slice ao l.length cap] w fun e w' => e = .returned (.bool true) ∧ Below w.heap.size w w' := by
  by_cases hn1 : wPlanBase x ≤ 1048576
  · by_cases hn : wPlanBase x + wStringS l ≤ 1048576
    · exact cellsLaw_small x ao0 cap0 ao1 cap1 ao cap l w h hl hn
    · exact cellsLaw_long x ao0 cap0 ao1 cap1 ao cap l w h hl hn1 hn
  · exact cellsLaw_big x ao0 cap0 ao1 cap1 ao cap l w h hn1

end Pcl
end Go.Proofs.Ytohgkiljdehefaa
