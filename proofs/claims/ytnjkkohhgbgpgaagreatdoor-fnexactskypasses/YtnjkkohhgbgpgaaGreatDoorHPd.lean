import Derived.Test.YtnjkkohhgbgpgaaGreatDoorIV0
import Derived.Lib.LaidTab
import Derived.ChangeBears2
import Derived.Test.YtnjkkohhgbgpgaaGreatDoorHPc
import Derived.Test.YtnjkkohhgbgpgaaGreatDoorHPb
import Derived.Deep.RegionWith

/- DERIVED. What a sky that comes in reads as, as plain data; what the laid words give. -/
namespace Go.Proofs.YtnjkkohhgbgpgaaGreatDoor
open Go.RowKit Go.WideShapes
set_option linter.unusedSimpArgs false
set_option linter.unusedVariables false

theorem opPoint : Opens Tryz.prog 101 vSkyPoint :=
  opens_struct Tryz.underlying101 (by kernel_rfl) (opensFs_cons rfl (by kernel_rfl) (opens_str Tryz.underlying9) (opensFs_cons rfl (by kernel_rfl) (opens_int Tryz.underlying3) (opensFs_one rfl (by kernel_rfl) (opens_int Tryz.underlying3))))
theorem opBlock : Opens Tryz.prog 176 vSkyBlock :=
  opens_struct Tryz.underlying176 (by kernel_rfl) (opensFs_cons rfl (by kernel_rfl) (opens_int Tryz.underlying3) (opensFs_cons rfl (by kernel_rfl) (opens_int Tryz.underlying3) (opensFs_cons rfl (by kernel_rfl) (opens_int Tryz.underlying3) (opensFs_cons rfl (by kernel_rfl) (opens_int Tryz.underlying3) (opensFs_cons rfl (by kernel_rfl) (opens_int Tryz.underlying3) (opensFs_one rfl (by kernel_rfl) (opens_int Tryz.underlying3)))))))
theorem opRunway : Opens Tryz.prog 111 vSkyRunway :=
  opens_struct Tryz.underlying111 (by kernel_rfl) (opensFs_cons rfl (by kernel_rfl) (opens_str Tryz.underlying9) (opensFs_cons rfl (by kernel_rfl) (opens_int Tryz.underlying3) (opensFs_cons rfl (by kernel_rfl) (opens_int Tryz.underlying3) (opensFs_one rfl (by kernel_rfl) (opens_int Tryz.underlying3)))))
theorem opAirway : Opens Tryz.prog 104 vSkyAirway :=
  opens_struct Tryz.underlying104 (by kernel_rfl) (opensFs_cons rfl (by kernel_rfl) (opens_str Tryz.underlying9) (opensFs_one rfl (by kernel_rfl) (opens_slice Tryz.underlying28 (by kernel_rfl) (by decide) (opens_str Tryz.underlying9))))
theorem opSector : Opens Tryz.prog 108 vSkySector :=
  opens_struct Tryz.underlying108 (by kernel_rfl) (opensFs_cons rfl (by kernel_rfl) (opens_str Tryz.underlying9) (opensFs_one rfl (by kernel_rfl) (opens_slice Tryz.underlying106 (by kernel_rfl) (by decide) opBlock)))
theorem opSky : Opens Tryz.prog 27 vSky :=
  opens_struct Tryz.underlying27 (by kernel_rfl) (opensFs_cons rfl (by kernel_rfl) (opens_int Tryz.underlying3) (opensFs_cons rfl (by kernel_rfl) (opens_int Tryz.underlying3) (opensFs_cons rfl (by kernel_rfl) (opens_int Tryz.underlying3)
    (opensFs_cons rfl (by kernel_rfl) (opens_slice Tryz.underlying22 (by kernel_rfl) (by decide) opPoint) (opensFs_cons rfl (by kernel_rfl) (opens_slice Tryz.underlying23 (by kernel_rfl) (by decide) opAirway)
      (opensFs_cons rfl (by kernel_rfl) (opens_slice Tryz.underlying24 (by kernel_rfl) (by decide) opSector) (opensFs_one rfl (by kernel_rfl) (opens_slice Tryz.underlying25 (by kernel_rfl) (by decide) opRunway))))))))

/-- An array of texts that reads as such a list holds them, cell for cell. -/
theorem strs_of_tab {H : Type} {enc : TypeId × Value → H} {P : Program} {w : World} {base : Nat} {sp : Nat → Bool} {held : Bool} {fuel : Nat} {t e : TypeId} {n : Nat} {cs : List Value} {zs : List (List UInt8)} {p : List MemPlace}
    (ht : P.underlying t = some (.array n e)) (he : P.underlying e = some .string) (hce : P.cellsOf e = 1) (hct : P.cellsOf t = n)
    (h : DataW.trod enc P w base sp held fuel t cs = some (.agg (zs.map fun z => .lit (.string z)), p)) : cs = zs.map fun z => Value.string ⟨z.toArray⟩ := by
  cases fuel with
  | zero => simp [DataW.trod] at h
  | succ fuel =>
    simp only [DataW.trod, ht, hce, hct, Nat.mul_one] at h
    split at h
    · rename_i hl
      obtain ⟨xs, hm, hx⟩ := Option.map_eq_some_iff.1 h
      have hxs : xs.map (·.1) = zs.map fun z => (DataW.lit (.string z) : DataW H) := by
        have := congrArg Prod.fst hx
        simpa using this
      have hxl : xs.length = n := by simpa using Lib.mapM_length hm
      have hzl : zs.length = n := by
        have := congrArg List.length hxs
        simp at this
        omega
      apply List.ext_getElem?
      intro i
      by_cases hi : i < n
      · obtain ⟨b, hb, hf⟩ := Lib.mapM_at hm i i (by simp [hi])
        obtain ⟨z, hc, rfl, _⟩ := DataW.trod_string he hf
        have h1 : cs[i]? = some (.string z) := by
          have := congrArg (·[0]?) hc
          simpa [List.getElem?_take, List.getElem?_drop] using this
        have h2 : (xs.map (·.1))[i]? = some (DataW.lit (.string z.data.toList) : DataW H) := by simp [hb]
        rw [hxs] at h2
        simp only [List.getElem?_map, Option.map_eq_some_iff, DataW.lit.injEq, Lit.string.injEq] at h2
        obtain ⟨z', hz', rfl⟩ := h2
        simp [h1, hz']
      · rw [List.getElem?_eq_none (by omega), List.getElem?_eq_none (by simp; omega)]
    · cases h

theorem gWords : Tryz.prog.globalNamed "loop.example/lapwing/impl.skyTurnWords" = some 0 := by kernel_rfl
theorem gWordsT : (Tryz.prog.globals[0]?).map (·.type) = some 191 := by kernel_rfl
theorem cellsWords : Tryz.prog.cellsOf 191 = 8 := by kernel_rfl
theorem cellsStr : Tryz.prog.cellsOf 9 = 1 := by kernel_rfl

/-- What the row's list gives: the package's array holds the words of the turns. -/
theorem turns_of_laid {W : World} {rest : List (String × DataW Unit)} (h : laidMet Tryz.prog (("loop.example/lapwing/impl.skyTurnWords", .agg [.lit (.string [110]), .lit (.string [110, 101]), .lit (.string [101]), .lit (.string [115, 101]), .lit (.string [115]), .lit (.string [115, 119]), .lit (.string [119]), .lit (.string [110, 119])]) :: rest) W) : TurnsLaid W := by
  obtain ⟨ps, ⟨g', t', cs, fuel, p, q, hg', ht', hvar, hd, _, _⟩, _⟩ := h
  obtain rfl := Option.some.inj (gWords.symm.trans hg')
  obtain rfl := Option.some.inj (gWordsT.symm.trans ht')
  have hcs := strs_of_tab (zs := [[110], [110, 101], [101], [115, 101], [115], [115, 119], [119], [110, 119]]) Tryz.underlying191 Tryz.underlying9 cellsStr cellsWords hd
  have hcs2 : cs = turnCells := by
    apply Array.ext'
    rw [hcs]
    rfl
  intro j hj
  rw [World.var?_cell gWords hvar j, hcs2]

end Go.Proofs.YtnjkkohhgbgpgaaGreatDoor

/- DERIVED. laws.FnExactSkyPasses: its walk (written by wip/tools/mk_law2.py). -/
namespace Go.Proofs.YtnjkkohhgbgpgaaGreatDoor
open Go.RowKit
set_option linter.unusedSimpArgs false
set_option linter.unusedVariables false

theorem passesLen (x : DSky) (l : List DSkyPlace) (h : l.length ≤ 1048576) : (passesOf x l).1.length ≤ 1000000000 := by
  unfold passesOf
  split
  · cases hp : passTo x.2.2.2.2.2.1 l l.length with
    | none => simp
    | some out =>
      have := passTo_len hp
      simp only
      omega
  · simp

set_option maxRecDepth 100000 in
set_option maxHeartbeats 8000000 in
theorem passesLaw_small (x : DSky) (ao3 : Option Addr) (cap3 : Nat) (ao4 : Option Addr) (cap4 : Nat) (ao5 : Option Addr) (cap5 : Nat) (ao6 : Option Addr) (cap6 : Nat) (ao : Option Addr) (cap : Nat) (l : List DSkyPlace) (w : World) (h : SkyAt w x ao3 cap3 ao4 cap4 ao5 cap5 ao6 cap6) (hl : SliceAt vSkyPlace (old w) w ao cap l) (hT : TurnsLaid w) (hn : wSky x + wSkyPlaceS l ≤ 1048576) :
    Calls Tryz.prog 4 #[.agg #[.int .i64 x.1, .int .i64 x.2.1, .int .i64 x.2.2.1, .slice ao3 x.2.2.2.1.length cap3, .slice ao4 x.2.2.2.2.1.length cap4, .slice ao5 x.2.2.2.2.2.1.length cap5, .slice ao6 x.2.2.2.2.2.2.length cap6], .slice ao l.length cap] w fun e w' => e = .returned (.bool true) ∧ Below w.heap.size w w' := by
  have hn1 : wSky x ≤ 1048576 := by omega
  have hn2 : wSkyPlaceS l ≤ 1048576 := by omega
  have hl20 : l.length ≤ 1048576 := by unfold wSkyPlaceS at hn2; omega
  have hsz : szR 1048576 (wSky x) = 1048576 - (wSky x : Int) := szR_yes (by omega)
  have hsz2 : szR (1048576 - (wSky x : Int)) (wSkyPlaceS l) = 1048576 - (wSky x : Int) - (wSkyPlaceS l : Int) := szR_yes (by omega)
  have hnn : decide ((1048576 - (wSky x : Int)) < 0) = false := by simp; omega
  have hnn2 : decide ((1048576 - (wSky x : Int) - (wSkyPlaceS l : Int)) < 0) = false := by simp; omega
  have HTO := fun W (hh : SkyAt W x ao3 cap3 ao4 cap4 ao5 cap5 ao6 cap6) => toSky_any x ao3 cap3 ao4 cap4 ao5 cap5 ao6 cap6 W hh.p3 hh.p4 hh.p5 hh.p6 hn1
  have HTS := fun W (hh : SkyAt W x ao3 cap3 ao4 cap4 ao5 cap5 ao6 cap6) => toSky_sh x ao3 cap3 ao4 cap4 ao5 cap5 ao6 cap6 W hh.p3 hh.p4 hh.p5 hh.p6 hn1
  have HLO := fun W (hh : SliceAt vSkyPlace (old W) W ao cap l) => toSkyPlaceS_any ao cap l W hn2 hh
  have HLS := fun W (hh : SliceAt vSkyPlace (old W) W ao cap l) => toSkyPlaceS_sh ao cap l W hn2 hh
  have HSW := fun ao3 cap3 ao4 cap4 ao5 cap5 ao6 cap6 ao cap W (hh : SkyAt W x ao3 cap3 ao4 cap4 ao5 cap5 ao6 cap6) (hq : SliceAt vSkyPlace (old W) W ao cap l) => sPasses x.1 x.2.1 x.2.2.1 x.2.2.2.1 x.2.2.2.2.1 x.2.2.2.2.2.1 x.2.2.2.2.2.2 ao3 cap3 ao4 cap4 ao5 cap5 ao6 cap6 ao cap l W hh hq hl20
  have HIW := fun ao3 cap3 ao4 cap4 ao5 cap5 ao6 cap6 ao cap W (hh : SkyAt W x ao3 cap3 ao4 cap4 ao5 cap5 ao6 cap6) (hq : SliceAt vSkyPlace (old W) W ao cap l) (ht : TurnsLaid W) => iPasses x ao3 cap3 ao4 cap4 ao5 cap5 ao6 cap6 ao cap l W hh hq hl20 ht
  have hR : (passesOf x l).1.length ≤ 1000000000 := passesLen x l hl20
  have hcn := skySh_marks hn1
  have hcl : cnSkyPlaceS l ≤ 16777216 := by have := cnSkyPlaceS_le l; omega
  obtain ⟨R, hRe⟩ : ∃ R, R = (passesOf x l).1 := ⟨_, rfl⟩
  obtain ⟨C, hCe⟩ : ∃ C, C = (passesOf x l).2 := ⟨_, rfl⟩
  simp only [← hRe, ← hCe] at HSW HIW hR
  clear hRe hCe
  have hCC : (C != C) = false := by simp
  obtain ⟨w0, hw0⟩ : ∃ w0, w0 = w.alloc (.cells #[.int .i64 x.1, .int .i64 x.2.1, .int .i64 x.2.2.1, .slice ao3 x.2.2.2.1.length cap3, .slice ao4 x.2.2.2.2.1.length cap4, .slice ao5 x.2.2.2.2.2.1.length cap5, .slice ao6 x.2.2.2.2.2.2.length cap6] 27) := ⟨_, rfl⟩
  have hb0 : Below w.heap.size w w0 := by rw [hw0]; exact (Below.refl _ _).alloc (Nat.le_refl _) _
  have HS0 : BxL w.heap.size #[.int .i64 x.1, .int .i64 x.2.1, .int .i64 x.2.2.1, .slice ao3 x.2.2.2.1.length cap3, .slice ao4 x.2.2.2.2.1.length cap4, .slice ao5 x.2.2.2.2.2.1.length cap5, .slice ao6 x.2.2.2.2.2.2.length cap6] w0 := by rw [hw0]; exact BxL.new w _ _
  have hz0 : w0.heap.size = w.heap.size + 1 := by rw [hw0]; simp
  have hA := h.later hb0
  have HSZ := szSky_any x ao3 cap3 ao4 cap4 ao5 cap5 ao6 cap6 1048576 w0 (by omega) (by omega) hA.p3 hA.p4 hA.p5 hA.p6
  rw [hw0, hsz] at HSZ
  clear hA
  go_enter Tryz.func4, Tryz.ntmps4
  go_wp2_with fail
  refine HSZ.mono ?_
  rw [← hw0]
  rintro e w1 ⟨rfl, hb1⟩
  clear hw0 HSZ hsz
  have hz1 : w.heap.size + 1 ≤ w1.heap.size := by have := hb1.size; omega
  have hB1 : Below w.heap.size w w1 := hb0.trans (hb1.mono (by omega))
  have HS1 := HS0.below hb1 (by omega)
  clear hb1 hb0 HS0
  have HSL := szSkyPlaceS_any ao cap l (1048576 - (wSky x : Int)) w1 (by omega) (by omega) (hl.later hB1)
  rw [hsz2] at HSL
  clear hsz2
  go_wp2_with fail
  refine HSL.mono ?_
  rintro e w2 ⟨rfl, hb2⟩
  have hz2 : w.heap.size + 1 ≤ w2.heap.size := by have := hb2.size; omega
  have hB2 : Below w.heap.size w w2 := hB1.trans (hb2.mono (by omega))
  have HS2 := HS1.below hb2 (by omega)
  clear HSL hb2 hB1 HS1
  generalize (1048576 - (wSky x : Int)) = L1 at *
  generalize (L1 - (wSkyPlaceS l : Int)) = L2 at *
  have a0 := HS2 0
  have a1 := HS2 1
  have a2 := HS2 2
  have a3 := HS2 3
  have a4 := HS2 4
  have a5 := HS2 5
  have a6 := HS2 6
  simp at a0 a1 a2 a3 a4 a5 a6
  have HT := HTO w2 (h.later hB2)
  go_wp2_with fail
  refine HT.mono ?_
  rintro e w3 ⟨ao3p, cap3p, ao4p, cap4p, ao5p, cap5p, ao6p, cap6p, rfl, p3, p4, p5, p6, hb3⟩
  have hI3 := skyAt_fresh p3 p4 p5 p6
  have hB3 := hB2.trans (hb3.mono (by omega))
  have HS3 := HS2.below hb3 (by omega)
  have hz3 : w.heap.size + 1 ≤ w3.heap.size := Nat.le_trans hz2 hb3.size
  clear HT hb3 p3 p4 p5 p6 hB2 HS2 a0 a1 a2 a3 a4 a5 a6
  have HL := HLO w3 (hl.later hB3)
  go_wp2_with fail
  refine HL.mono ?_
  rintro e w4 ⟨aop, capp, rfl, p, hb4⟩
  have hI4 := hI3.later hb4
  have hL4 := ofList p
  have hB4 := hB3.trans (hb4.mono (by omega))
  have HS4 := HS3.below hb4 (by omega)
  have hz4 : w.heap.size + 1 ≤ w4.heap.size := Nat.le_trans hz3 hb4.size
  clear HL hb4 p hB3 HS3 hI3
  have HW := HSW _ _ _ _ _ _ _ _ _ _ w4 hI4 hL4
  go_wp2_with fail
  refine HW.mono ?_
  rintro e w5 ⟨hb5, v, rfl, hWo⟩
  obtain ⟨wao, wcap, rfl⟩ := own_slice hWo
  have hB5 := hB4.trans (hb5.mono (by omega))
  have HS5 := HS4.below hb5 (by omega)
  have hz5 : w.heap.size + 1 ≤ w5.heap.size := Nat.le_trans hz4 hb5.size
  have hWt := atSkyPass_owns hWo
  have hWin : ∀ g, wao = some ⟨g, 0, none⟩ → g < w5.heap.size := fun g hg => (hWo.lt g (by rw [hg]; rfl)).2
  clear HW hb5 hB4 HS4 hI4 hL4 hWo HSW
  have a0 := HS5 0
  have a1 := HS5 1
  have a2 := HS5 2
  have a3 := HS5 3
  have a4 := HS5 4
  have a5 := HS5 5
  have a6 := HS5 6
  simp at a0 a1 a2 a3 a4 a5 a6
  have HT := HTS w5 (h.later hB5)
  go_wp2_with fail
  refine HT.mono ?_
  rintro e w6 ⟨ao3q, cap3q, ao4q, cap4q, ao5q, cap5q, ao6q, cap6q, rfl, ⟨p3, s3⟩, ⟨p4, s4⟩, ⟨p5, s5⟩, ⟨p6, s6⟩, hb6⟩
  have hI6 := skyAt_fresh p3 p4 p5 p6
  have hSh6 : SkySh (fresh w5 w6) w6 x ao3q ao4q ao5q ao6q := ⟨s3, s4, s5, s6⟩
  have hB6 := hB5.trans (hb6.mono (by omega))
  have HS6 := HS5.below hb6 (by omega)
  have hz6 : w5.heap.size ≤ w6.heap.size := hb6.size
  have hWt6 := hWt.later hb6
  clear HT p3 p4 p5 p6 s3 s4 s5 s6 hB5 HS5 hWt a0 a1 a2 a3 a4 a5 a6
  obtain ⟨w7, hw7⟩ : ∃ w7, w7 = w6.alloc (.cells #[.int .i64 x.1, .int .i64 x.2.1, .int .i64 x.2.2.1, .slice ao3q x.2.2.2.1.length cap3q, .slice ao4q x.2.2.2.2.1.length cap4q, .slice ao5q x.2.2.2.2.2.1.length cap5q, .slice ao6q x.2.2.2.2.2.2.length cap6q] 39) := ⟨_, rfl⟩
  have hb7 : Below w6.heap.size w6 w7 := by rw [hw7]; exact (Below.refl _ _).alloc (Nat.le_refl _) _
  have HX7 : BxL w6.heap.size #[.int .i64 x.1, .int .i64 x.2.1, .int .i64 x.2.2.1, .slice ao3q x.2.2.2.1.length cap3q, .slice ao4q x.2.2.2.2.1.length cap4q, .slice ao5q x.2.2.2.2.2.1.length cap5q, .slice ao6q x.2.2.2.2.2.2.length cap6q] w7 := by rw [hw7]; exact BxL.new w6 _ _
  have hz7 : w7.heap.size = w6.heap.size + 1 := by rw [hw7]; simp
  have hB7 := hB6.trans (hb7.mono (by omega))
  have HL := HLS w7 (hl.later hB7)
  rw [hw7] at HL
  go_wp2_with fail
  refine HL.mono ?_
  rw [← hw7]
  rintro e w8 ⟨aoq, capq, rfl, pl, sl, hb8⟩
  clear HL hw7
  have hL8 := ofList pl
  have hb78 : Below w6.heap.size w6 w8 := hb7.trans (hb8.mono (by omega))
  have hI8 := hI6.later hb78
  have hSh8 := hSh6.stays (fun b hb => hb78.block b hb.2)
  have hWt8 := hWt6.later hb78
  have HX8 := HX7.below hb8 (by omega)
  have HS8 := HS6.below hb78 (by omega)
  have hB8 := hB6.trans (hb78.mono (by omega))
  have hz8 : w7.heap.size ≤ w8.heap.size := hb8.size
  clear pl hb7 hb8 hb78 hI6 hSh6 hWt6 HX7 HS6 hB6 hB7
  have d0 := HX8 0
  have d1 := HX8 1
  have d2 := HX8 2
  have d3 := HX8 3
  have d4 := HX8 4
  have d5 := HX8 5
  have d6 := HX8 6
  simp at d0 d1 d2 d3 d4 d5 d6
  have HW := HIW _ _ _ _ _ _ _ _ _ _ w8 hI8 hL8 (hT.later hB8)
  go_wp2_with fail
  refine HW.mono ?_
  rintro e w9 ⟨hb9, v, rfl, hGo⟩
  obtain ⟨gao, gcap, rfl⟩ := own_slice hGo
  have hB9 := hB8.trans (hb9.mono (by omega))
  have HS9 := HS8.below hb9 (by omega)
  have HX9 := HX8.below hb9 (by omega)
  have hI9 := hI8.later hb9
  have hL9 := hL8.later hb9
  have hWt9 := hWt8.later hb9
  have hSh9 := hSh8.stays (fun b hb => hb9.block b (by have := hb.2; omega))
  have sl9 := sl.stays (fun b hb => hb9.block b hb.2)
  have hz9 : w8.heap.size ≤ w9.heap.size := hb9.size
  have hGt := atSkyPass_owns hGo
  clear HW hb9 hB8 HS8 HX8 hI8 hL8 hWt8 hSh8 sl d0 d1 d2 d3 d4 d5 d6
  have HQ := eqSkyPassRS gao wao gcap wcap R w9 (by unfold maxLen; omega) hGt hWt9
  go_wp2_with fail
  refine HQ.mono ?_
  rintro e w10 ⟨rfl, hb10⟩
  have hB10 := hB9.trans (hb10.mono (by omega))
  have HS10 := HS9.below hb10 (by omega)
  have HX10 := HX9.below hb10 (by omega)
  have hI10 := hI9.later hb10
  have hL10 := hL9.later hb10
  have hWt10 := hWt9.later hb10
  have hSh10 := hSh9.stays (fun b hb => hb10.block b (by have := hb.2; omega))
  have sl10 := sl9.stays (fun b hb => hb10.block b (by have := hb.2; omega))
  have hGo10 := owns_below hGo hb10
  have hz10 : w9.heap.size ≤ w10.heap.size := hb10.size
  clear HQ hGt hb10 hB9 HS9 HX9 hI9 hL9 hWt9 hSh9 sl9 hGo
  have a0 := HS10 0
  have a1 := HS10 1
  have a2 := HS10 2
  have a3 := HS10 3
  have a4 := HS10 4
  have a5 := HS10 5
  have a6 := HS10 6
  simp at a0 a1 a2 a3 a4 a5 a6
  have d0 := HX10 0
  have d1 := HX10 1
  have d2 := HX10 2
  have d3 := HX10 3
  have d4 := HX10 4
  have d5 := HX10 5
  have d6 := HX10 6
  simp at d0 d1 d2 d3 d4 d5 d6
  have hbd : Below w10.heap.size w10 w10.drew := (Below.refl _ _).drew
  have hI10d := hI10.later hbd
  have HT := HTO w10.drew (h.later (hB10.trans (hbd.mono (by omega))))
  have hx10 : w6.heap.size < w10.heap.size := by omega
  have hx10d : w6.heap.size < w10.drew.heap.size := hx10
  go_wp2_with fail
  go_region_with (first | (go_at_call 8; refine HT.mono ?_; rintro e w11 ⟨ao3r, cap3r, ao4r, cap4r, ao5r, cap5r, ao6r, cap6r, rfl, p3, p4, p5, p6, hb11⟩; have k0 := (hb11.cell (p := ⟨w6.heap.size, 0, none⟩) hx10d).trans d0; have k1 := (hb11.cell (p := ⟨w6.heap.size, 1, none⟩) hx10d).trans d1; have k2 := (hb11.cell (p := ⟨w6.heap.size, 2, none⟩) hx10d).trans d2; have k3 := (hb11.cell (p := ⟨w6.heap.size, 3, none⟩) hx10d).trans d3; have k4 := (hb11.cell (p := ⟨w6.heap.size, 4, none⟩) hx10d).trans d4; have k5 := (hb11.cell (p := ⟨w6.heap.size, 5, none⟩) hx10d).trans d5; have k6 := (hb11.cell (p := ⟨w6.heap.size, 6, none⟩) hx10d).trans d6) | (go_at_call 12; refine (eqSky_any x ao3q cap3q ao4q cap4q ao5q cap5q ao6q cap6q ao3r cap3r ao4r cap4r ao5r cap5r ao6r cap6r _ (hI10d.p3.later hb11) (p3.mono fresh_old) (hI10d.p4.later hb11) (p4.mono fresh_old) (hI10d.p5.later hb11) (p5.mono fresh_old) (hI10d.p6.later hb11) (p6.mono fresh_old) hn1).mono ?_; rintro e w12 ⟨rfl, hb12⟩))
  all_goals
    have hb12' : Below w10.heap.size w10 w12 := (hbd.trans hb11).trans (hb12.mono (show w10.drew.heap.size ≤ w11.heap.size from hb11.size))
    have hB12 := hB10.trans (hb12'.mono (by omega))
    have HS12 := HS10.below hb12' (by omega)
    have HX12 := HX10.below hb12' (by omega)
    have hL12 := hL10.later hb12'
    have hWt12 := hWt10.later hb12'
    have hSh12 := hSh10.stays (fun b hb => hb12'.block b (by have := hb.2; omega))
    have sl12 := sl10.stays (fun b hb => hb12'.block b (by have := hb.2; omega))
    have hGo12 := owns_below hGo10 hb12'
    have hz12 : w10.heap.size ≤ w12.heap.size := hb12'.size
    clear HT hI10d hb11 hb12 hb12' p3 p4 p5 p6 hbd hI10 HS10 HX10 hL10 hWt10 hSh10 sl10 hGo10 hB10 hx10 hx10d k0 k1 k2 k3 k4 k5 k6 a0 a1 a2 a3 a4 a5 a6 d0 d1 d2 d3 d4 d5 d6
    have HL := HLO w12 (hl.later hB12)
    go_wp2_with fail
    refine HL.mono ?_
    rintro e w13 ⟨aor, capr, rfl, p, hb13⟩
    have hL13' := ofList p
    have hL13 := hL12.later hb13
    have hB13 := hB12.trans (hb13.mono (by omega))
    have hz13 : w12.heap.size ≤ w13.heap.size := hb13.size
    clear HL p
    have HQ := eqSkyPlaceS_any aoq aor capq capr l w13 hn2 hL13 hL13'
    go_wp2_with fail
    refine HQ.mono ?_
    rintro e w14 ⟨rfl, hb14⟩
    have hb14' : Below w12.heap.size w12 w14 := hb13.trans (hb14.mono (by omega))
    have hB14 := hB12.trans (hb14'.mono (by omega))
    have HS14 := HS12.below hb14' (by omega)
    have HX14 := HX12.below hb14' (by omega)
    have hWt14 := hWt12.later hb14'
    have hSh14 := hSh12.stays (fun b hb => hb14'.block b (by have := hb.2; omega))
    have sl14 := sl12.stays (fun b hb => hb14'.block b (by have := hb.2; omega))
    have hGo14 := owns_below hGo12 hb14'
    have hz14 : w12.heap.size ≤ w14.heap.size := hb14'.size
    clear HQ hb13 hb14 hb14' hL13 hL13' hL12 HS12 HX12 hWt12 hSh12 sl12 hGo12 hB12 hB13
    have d0 := HX14 0
    have d1 := HX14 1
    have d2 := HX14 2
    have d3 := HX14 3
    have d4 := HX14 4
    have d5 := HX14 5
    have d6 := HX14 6
    simp at d0 d1 d2 d3 d4 d5 d6
    have HM := markSky_any (.int .i64 x.1) (.int .i64 x.2.1) (.int .i64 x.2.2.1) ao3q x.2.2.2.1.length cap3q (cnSkyPointS x.2.2.2.1) ao4q x.2.2.2.2.1.length cap4q (cnSkyAirwayS x.2.2.2.2.1) ao5q x.2.2.2.2.2.1.length cap5q (cnSkySectorS x.2.2.2.2.2.1) ao6q x.2.2.2.2.2.2.length cap6q (cnSkyRunwayS x.2.2.2.2.2.2) 1 w5.heap.size w6.heap.size w14 hSh14.q3 hSh14.q4 hSh14.q5 hSh14.q6 hz6 (by omega) (by omega) (by omega)
    go_wp2_with fail
    refine HM.mono ?_
    rintro e w15 ⟨rfl, hS⟩
    have hBS := hS.below
    have hz15 : w14.heap.size ≤ w15.heap.size := hBS.size
    have hB15 := hB14.trans (hBS.mono (by omega))
    have HS15 := HS14.below hBS (by omega)
    have hGo15 := owns_kept hGo14 (w' := w15) (fun g h1 h2 => hS.above g (by omega) h2)
    have hWt15 : AtSkyPass w15 wao R := hWt14.kept (fun g h1 h2 => hBS.block g (hWin g h1)) hBS.size
    have sl15 := sl14.stays (w' := w15) (fun b hb => hS.above b (by have := hb.1; omega) (by have := hb.2; omega))
    clear HM hS hBS d0 d1 d2 d3 d4 d5 d6 hSh14 sl14 hGo14 hWt14 HS14 HX14 hB14
    generalize hKe : (1 + ((cnSkyPointS x.2.2.2.1 + cnSkyAirwayS x.2.2.2.2.1 + cnSkySectorS x.2.2.2.2.2.1 + cnSkyRunwayS x.2.2.2.2.2.2 : Nat) : Int)) = kk at *
    have hk0 : 0 ≤ kk := by omega
    have hk1 : kk ≤ 1099511627776 - 16777216 := by omega
    clear hKe
    have HM := markSkyPlaceS_any aoq l.length capq (cnSkyPlaceS l) kk w7.heap.size w8.heap.size w15 sl15 hz8 (by omega) hk0 (by omega)
    go_wp2_with fail
    refine HM.mono ?_
    rintro e w16 ⟨rfl, hS⟩
    have hBS := hS.below
    have hz16 : w15.heap.size ≤ w16.heap.size := hBS.size
    have hB16 := hB15.trans (hBS.mono (by omega))
    have HS16 := HS15.below hBS (by omega)
    have hGo16 := owns_kept hGo15 (w' := w16) (fun g h1 h2 => hS.above g (by omega) h2)
    have hWt16 : AtSkyPass w16 wao R := hWt15.kept (fun g h1 h2 => hBS.block g (by have := hWin g h1; omega)) hBS.size
    have hGt16 := atSkyPass_owns hGo16
    clear HM hS hBS sl15 hGo15 hWt15 HS15 hB15
    have hkd : decide (kk + (cnSkyPlaceS l : Int) < 0) = false := by simp; omega
    generalize kk + (cnSkyPlaceS l : Int) = kk2 at *
    have HQ := eqSkyPassRS gao wao gcap wcap R w16 (by unfold maxLen; omega) hGt16 hWt16
    go_wp2_with fail
    refine HQ.mono ?_
    rintro e w17 ⟨rfl, hb17⟩
    have hB17 := hB16.trans (hb17.mono (by omega))
    have HS17 := HS16.below hb17 (by omega)
    have hGo17 := owns_below hGo16 hb17
    have hWt17 := hWt16.later hb17
    have hz17 := hb17.size
    clear HQ hb17 hGo16 hWt16 hGt16 hB16 HS16
    have HMT := markSkyPassR gao gcap w8.heap.size 1 R w17 (by omega) (by omega) (by omega) hGo17
    go_wp2_with fail
    refine HMT.mono ?_
    rintro e w18 ⟨rfl, hb18, hGt18⟩
    have hB18 := hB17.trans (hb18.mono (by omega))
    have HS18 := HS17.below hb18 (by omega)
    have hWt18 : AtSkyPass w18 wao R := hWt17.kept (fun g h1 h2 => hb18.block g (by have := hWin g h1; omega)) hb18.size
    have hz18 := hb18.size
    clear HMT hb18 hGo17 hWt17 hB17 HS17
    have HH := heldSkyPassR gao gcap 1 R.length w18 (by omega) (by omega) hGt18
    generalize hLL : ((1 + 3 * R.length : Nat) : Int) = LL at *
    have hll : ¬ (LL < 0) := by omega
    have hld : decide (LL < 0) = false := by simp; omega
    go_wp2_with fail
    refine HH.mono ?_
    rintro e w19 ⟨rfl, hb19⟩
    have hB19 := hB18.trans (hb19.mono (by omega))
    have HS19 := HS18.below hb19 (by omega)
    have hWt19 := hWt18.later hb19
    have hGt19 := hGt18.later hb19
    have hz19 := hb19.size
    clear HH hb19 hWt18 hGt18 hB18 HS18
    have a0 := HS19 0
    have a1 := HS19 1
    have a2 := HS19 2
    have a3 := HS19 3
    have a4 := HS19 4
    have a5 := HS19 5
    have a6 := HS19 6
    simp at a0 a1 a2 a3 a4 a5 a6
    have HT := HTO w19 (h.later hB19)
    go_wp2_with fail
    refine HT.mono ?_
    rintro e w20 ⟨ao3s, cap3s, ao4s, cap4s, ao5s, cap5s, ao6s, cap6s, rfl, p3, p4, p5, p6, hb20⟩
    have hI20 := skyAt_fresh p3 p4 p5 p6
    have hB20 := hB19.trans (hb20.mono (by omega))
    have hWt20 := hWt19.later hb20
    have hGt20 := hGt19.later hb20
    have hz20 := hb20.size
    clear HT hb20 p3 p4 p5 p6 hB19 HS19 a0 a1 a2 a3 a4 a5 a6 hWt19 hGt19
    have HL := HLO w20 (hl.later hB20)
    go_wp2_with fail
    refine HL.mono ?_
    rintro e w21 ⟨aos, caps, rfl, p, hb21⟩
    have hI21 := hI20.later hb21
    have hL21 := ofList p
    have hB21 := hB20.trans (hb21.mono (by omega))
    have hWt21 := hWt20.later hb21
    have hGt21 := hGt20.later hb21
    have hz21 := hb21.size
    clear HL hb21 p hB20 hI20 hWt20 hGt20
    have HW := HIW _ _ _ _ _ _ _ _ _ _ w21 hI21 hL21 (hT.later hB21)
    go_wp2_with fail
    refine HW.mono ?_
    rintro e w22 ⟨hb22, v, rfl, hHo⟩
    obtain ⟨hao, hcap, rfl⟩ := own_slice hHo
    have hB22 := hB21.trans (hb22.mono (by omega))
    have hWt22 := hWt21.later hb22
    have hGt22 := hGt21.later hb22
    have hHt22 := atSkyPass_owns hHo
    have hz22 := hb22.size
    clear HW hb22 hHo hI21 hL21 hB21 hWt21 hGt21
    have HQ := eqSkyPassRS hao wao hcap wcap R w22 (by unfold maxLen; omega) hHt22 hWt22
    go_wp2_with fail
    refine HQ.mono ?_
    rintro e w23 ⟨rfl, hb23⟩
    have hB23 := hB22.trans (hb23.mono (by omega))
    have hGt23 := hGt22.later hb23
    have hz23 := hb23.size
    clear HQ hb23 hHt22 hB22 hWt22 hGt22
    have HH := heldSkyPassR gao gcap 1 R.length w23 (by omega) (by omega) hGt23
    rw [hLL] at HH
    go_wp2_with fail
    refine HH.mono ?_
    rintro e w24 ⟨rfl, hb24⟩
    have hB24 := hB23.trans (hb24.mono (by omega))
    clear HH hb24
    go_wp2
    go_ret
    exact ⟨rfl, hB24⟩

set_option maxRecDepth 100000 in
set_option maxHeartbeats 1000000 in
theorem passesLaw_big (x : DSky) (ao3 : Option Addr) (cap3 : Nat) (ao4 : Option Addr) (cap4 : Nat) (ao5 : Option Addr) (cap5 : Nat) (ao6 : Option Addr) (cap6 : Nat) (ao : Option Addr) (cap : Nat) (l : List DSkyPlace) (w : World) (h : SkyAt w x ao3 cap3 ao4 cap4 ao5 cap5 ao6 cap6) (hn : ¬ wSky x ≤ 1048576) :
    Calls Tryz.prog 4 #[.agg #[.int .i64 x.1, .int .i64 x.2.1, .int .i64 x.2.2.1, .slice ao3 x.2.2.2.1.length cap3, .slice ao4 x.2.2.2.2.1.length cap4, .slice ao5 x.2.2.2.2.2.1.length cap5, .slice ao6 x.2.2.2.2.2.2.length cap6], .slice ao l.length cap] w fun e w' => e = .returned (.bool true) ∧ Below w.heap.size w w' := by
  have hsz : szR 1048576 (wSky x) = -1 := szR_no (by omega)
  have hb0 : Below w.heap.size w (w.alloc (.cells #[.int .i64 x.1, .int .i64 x.2.1, .int .i64 x.2.2.1, .slice ao3 x.2.2.2.1.length cap3, .slice ao4 x.2.2.2.2.1.length cap4, .slice ao5 x.2.2.2.2.2.1.length cap5, .slice ao6 x.2.2.2.2.2.2.length cap6] 27)) := (Below.refl _ _).alloc (Nat.le_refl _) _
  have hA := h.later hb0
  have hcall := szSky_any x ao3 cap3 ao4 cap4 ao5 cap5 ao6 cap6 1048576 _ (by omega) (by omega) hA.p3 hA.p4 hA.p5 hA.p6
  rw [hsz] at hcall
  clear hsz
  go_enter Tryz.func4, Tryz.ntmps4
  go_wp2_with fail
  refine hcall.mono ?_
  rintro e w1 ⟨rfl, hb1⟩
  have hb2 := hb0.trans (hb1.mono hb0.size)
  clear hb1 hcall
  go_wp2
  go_ret
  exact ⟨rfl, hb2⟩

set_option maxRecDepth 100000 in
set_option maxHeartbeats 1000000 in
theorem passesLaw_long (x : DSky) (ao3 : Option Addr) (cap3 : Nat) (ao4 : Option Addr) (cap4 : Nat) (ao5 : Option Addr) (cap5 : Nat) (ao6 : Option Addr) (cap6 : Nat) (ao : Option Addr) (cap : Nat) (l : List DSkyPlace) (w : World) (h : SkyAt w x ao3 cap3 ao4 cap4 ao5 cap5 ao6 cap6) (hl : SliceAt vSkyPlace (old w) w ao cap l) (hn1 : wSky x ≤ 1048576) (hn : ¬ wSky x + wSkyPlaceS l ≤ 1048576) :
    Calls Tryz.prog 4 #[.agg #[.int .i64 x.1, .int .i64 x.2.1, .int .i64 x.2.2.1, .slice ao3 x.2.2.2.1.length cap3, .slice ao4 x.2.2.2.2.1.length cap4, .slice ao5 x.2.2.2.2.2.1.length cap5, .slice ao6 x.2.2.2.2.2.2.length cap6], .slice ao l.length cap] w fun e w' => e = .returned (.bool true) ∧ Below w.heap.size w w' := by
  have hsz : szR 1048576 (wSky x) = 1048576 - (wSky x : Int) := szR_yes (by omega)
  have hsz2 : szR (1048576 - (wSky x : Int)) (wSkyPlaceS l) = -1 := szR_no (by omega)
  have hnn : decide ((1048576 - (wSky x : Int)) < 0) = false := by simp; omega
  have hb0 : Below w.heap.size w (w.alloc (.cells #[.int .i64 x.1, .int .i64 x.2.1, .int .i64 x.2.2.1, .slice ao3 x.2.2.2.1.length cap3, .slice ao4 x.2.2.2.2.1.length cap4, .slice ao5 x.2.2.2.2.2.1.length cap5, .slice ao6 x.2.2.2.2.2.2.length cap6] 27)) := (Below.refl _ _).alloc (Nat.le_refl _) _
  have hA := h.later hb0
  have hcall := szSky_any x ao3 cap3 ao4 cap4 ao5 cap5 ao6 cap6 1048576 _ (by omega) (by omega) hA.p3 hA.p4 hA.p5 hA.p6
  rw [hsz] at hcall
  clear hsz
  go_enter Tryz.func4, Tryz.ntmps4
  go_wp2_with fail
  refine hcall.mono ?_
  rintro e w1 ⟨rfl, hb1⟩
  have hb2 := hb0.trans (hb1.mono hb0.size)
  clear hb1 hcall
  have HSL := szSkyPlaceS_any ao cap l (1048576 - (wSky x : Int)) w1 (by omega) (by omega) (hl.later hb2)
  rw [hsz2] at HSL
  generalize (1048576 - (wSky x : Int)) = L1 at *
  go_wp2_with fail
  refine HSL.mono ?_
  rintro e w2 ⟨rfl, hb3⟩
  have hb4 := hb2.trans (hb3.mono hb2.size)
  clear HSL hb3
  go_wp2
  go_ret
  exact ⟨rfl, hb4⟩

theorem passesLaw (x : DSky) (ao3 : Option Addr) (cap3 : Nat) (ao4 : Option Addr) (cap4 : Nat) (ao5 : Option Addr) (cap5 : Nat) (ao6 : Option Addr) (cap6 : Nat) (ao : Option Addr) (cap : Nat) (l : List DSkyPlace) (w : World) (h : SkyAt w x ao3 cap3 ao4 cap4 ao5 cap5 ao6 cap6) (hl : SliceAt vSkyPlace (old w) w ao cap l) (hT : TurnsLaid w) :
    Calls Tryz.prog 4 #[.agg #[.int .i64 x.1, .int .i64 x.2.1, .int .i64 x.2.2.1, .slice ao3 x.2.2.2.1.length cap3, .slice ao4 x.2.2.2.2.1.length cap4, .slice ao5 x.2.2.2.2.2.1.length cap5, .slice ao6 x.2.2.2.2.2.2.length cap6], .slice ao l.length cap] w fun e w' => e = .returned (.bool true) ∧ Below w.heap.size w w' := by
  by_cases hn1 : wSky x ≤ 1048576
  · by_cases hn : wSky x + wSkyPlaceS l ≤ 1048576
    · exact passesLaw_small x ao3 cap3 ao4 cap4 ao5 cap5 ao6 cap6 ao cap l w h hl hT hn
    · exact passesLaw_long x ao3 cap3 ao4 cap4 ao5 cap5 ao6 cap6 ao cap l w h hl hn1 hn
  · exact passesLaw_big x ao3 cap3 ao4 cap4 ao5 cap5 ao6 cap6 ao cap l w h hn1

end Go.Proofs.YtnjkkohhgbgpgaaGreatDoor
