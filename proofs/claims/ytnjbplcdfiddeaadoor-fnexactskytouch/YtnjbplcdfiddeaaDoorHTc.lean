import Derived.Test.YtnjbplcdfiddeaaDoorIV0
import Derived.Lib.LaidTab
import Derived.ChangeBears2
import Derived.Test.YtnjbplcdfiddeaaDoorHTb
import Derived.Deep.RegionWith

/- DERIVED. What a sky that comes in reads as, as plain data; what the laid words give. -/
namespace Go.Proofs.YtnjbplcdfiddeaaDoor
open Go.RowKit Go.WideShapes
set_option linter.unusedSimpArgs false
set_option linter.unusedVariables false

theorem opPoint : Opens Tryd.prog 74 vSkyPoint :=
  opens_struct Tryd.underlying74 (by kernel_rfl) (opensFs_cons rfl (by kernel_rfl) (opens_str Tryd.underlying9) (opensFs_cons rfl (by kernel_rfl) (opens_int Tryd.underlying3) (opensFs_one rfl (by kernel_rfl) (opens_int Tryd.underlying3))))
theorem opBlock : Opens Tryd.prog 132 vSkyBlock :=
  opens_struct Tryd.underlying132 (by kernel_rfl) (opensFs_cons rfl (by kernel_rfl) (opens_int Tryd.underlying3) (opensFs_cons rfl (by kernel_rfl) (opens_int Tryd.underlying3) (opensFs_cons rfl (by kernel_rfl) (opens_int Tryd.underlying3) (opensFs_cons rfl (by kernel_rfl) (opens_int Tryd.underlying3) (opensFs_cons rfl (by kernel_rfl) (opens_int Tryd.underlying3) (opensFs_one rfl (by kernel_rfl) (opens_int Tryd.underlying3)))))))
theorem opRunway : Opens Tryd.prog 85 vSkyRunway :=
  opens_struct Tryd.underlying85 (by kernel_rfl) (opensFs_cons rfl (by kernel_rfl) (opens_str Tryd.underlying9) (opensFs_cons rfl (by kernel_rfl) (opens_int Tryd.underlying3) (opensFs_cons rfl (by kernel_rfl) (opens_int Tryd.underlying3) (opensFs_one rfl (by kernel_rfl) (opens_int Tryd.underlying3)))))
theorem opAirway : Opens Tryd.prog 78 vSkyAirway :=
  opens_struct Tryd.underlying78 (by kernel_rfl) (opensFs_cons rfl (by kernel_rfl) (opens_str Tryd.underlying9) (opensFs_one rfl (by kernel_rfl) (opens_slice Tryd.underlying76 (by kernel_rfl) (by decide) (opens_str Tryd.underlying9))))
theorem opSector : Opens Tryd.prog 82 vSkySector :=
  opens_struct Tryd.underlying82 (by kernel_rfl) (opensFs_cons rfl (by kernel_rfl) (opens_str Tryd.underlying9) (opensFs_one rfl (by kernel_rfl) (opens_slice Tryd.underlying80 (by kernel_rfl) (by decide) opBlock)))
theorem opSky : Opens Tryd.prog 27 vSky :=
  opens_struct Tryd.underlying27 (by kernel_rfl) (opensFs_cons rfl (by kernel_rfl) (opens_int Tryd.underlying3) (opensFs_cons rfl (by kernel_rfl) (opens_int Tryd.underlying3) (opensFs_cons rfl (by kernel_rfl) (opens_int Tryd.underlying3)
    (opensFs_cons rfl (by kernel_rfl) (opens_slice Tryd.underlying22 (by kernel_rfl) (by decide) opPoint) (opensFs_cons rfl (by kernel_rfl) (opens_slice Tryd.underlying23 (by kernel_rfl) (by decide) opAirway)
      (opensFs_cons rfl (by kernel_rfl) (opens_slice Tryd.underlying24 (by kernel_rfl) (by decide) opSector) (opensFs_one rfl (by kernel_rfl) (opens_slice Tryd.underlying25 (by kernel_rfl) (by decide) opRunway))))))))

/-- An array of texts that reads as such a list holds them, cell for cell. -/
theorem strs_of_tab {H : Type} {enc : TypeId × Value → H} {P : Program} {w : World} {base : Nat} {sp : Nat → Bool} {held : Bool} {fuel : Nat} {t e : TypeId} {n : Nat} {cs : List Value} {zs : List (List UInt8)} {p : List MemPlace}
    (ht : P.underlying t = some (.array n e)) (he : P.underlying e = some .string) (hce : P.cellsOf e = 1) (hct : P.cellsOf t = n)
    (h : DataW.trod enc P w base sp held fuel t cs = some (.agg (zs.map fun z => .lit (.string z)), p)) : cs = zs.map fun z => Value.string ⟨z.toArray⟩ := by
  cases fuel with
  | zero => simp [DataW.trod] at h
  | succ fuel =>
    simp only [DataW.trod, ht, hce, hct, Nat.mul_one] at h
    split at h
    · rename_i hl
      obtain ⟨xs, hm, hx⟩ := Option.map_eq_some_iff.1 h
      have hxs : xs.map (·.1) = zs.map fun z => (DataW.lit (.string z) : DataW H) := by
        have := congrArg Prod.fst hx
        simpa using this
      have hxl : xs.length = n := by simpa using Lib.mapM_length hm
      have hzl : zs.length = n := by
        have := congrArg List.length hxs
        simp at this
        omega
      apply List.ext_getElem?
      intro i
      by_cases hi : i < n
      · obtain ⟨b, hb, hf⟩ := Lib.mapM_at hm i i (by simp [hi])
        obtain ⟨z, hc, rfl, _⟩ := DataW.trod_string he hf
        have h1 : cs[i]? = some (.string z) := by
          have := congrArg (·[0]?) hc
          simpa [List.getElem?_take, List.getElem?_drop] using this
        have h2 : (xs.map (·.1))[i]? = some (DataW.lit (.string z.data.toList) : DataW H) := by simp [hb]
        rw [hxs] at h2
        simp only [List.getElem?_map, Option.map_eq_some_iff, DataW.lit.injEq, Lit.string.injEq] at h2
        obtain ⟨z', hz', rfl⟩ := h2
        simp [h1, hz']
      · rw [List.getElem?_eq_none (by omega), List.getElem?_eq_none (by simp; omega)]
    · cases h

theorem gWords : Tryd.prog.globalNamed "loop.example/lapwing/impl.skyTurnWords" = some 0 := by kernel_rfl
theorem gWordsT : (Tryd.prog.globals[0]?).map (·.type) = some 146 := by kernel_rfl
theorem cellsWords : Tryd.prog.cellsOf 146 = 8 := by kernel_rfl
theorem cellsStr : Tryd.prog.cellsOf 9 = 1 := by kernel_rfl

/-- What the row's list gives: the package's array holds the words of the turns. -/
theorem turns_of_laid {W : World} {rest : List (String × DataW Unit)} (h : laidMet Tryd.prog (("loop.example/lapwing/impl.skyTurnWords", .agg [.lit (.string [110]), .lit (.string [110, 101]), .lit (.string [101]), .lit (.string [115, 101]), .lit (.string [115]), .lit (.string [115, 119]), .lit (.string [119]), .lit (.string [110, 119])]) :: rest) W) : TurnsLaid W := by
  obtain ⟨ps, ⟨g', t', cs, fuel, p, q, hg', ht', hvar, hd, _, _⟩, _⟩ := h
  obtain rfl := Option.some.inj (gWords.symm.trans hg')
  obtain rfl := Option.some.inj (gWordsT.symm.trans ht')
  have hcs := strs_of_tab (zs := [[110], [110, 101], [101], [115, 101], [115], [115, 119], [119], [110, 119]]) Tryd.underlying146 Tryd.underlying9 cellsStr cellsWords hd
  have hcs2 : cs = turnCells := by
    apply Array.ext'
    rw [hcs]
    rfl
  intro j hj
  rw [World.var?_cell gWords hvar j, hcs2]

end Go.Proofs.YtnjbplcdfiddeaaDoor

/- DERIVED. Touching: both sides are the same, on plain data. -/
namespace Go.Proofs.YtnjbplcdfiddeaaDoor
open Go.RowKit
set_option linter.unusedSimpArgs false
set_option linter.unusedVariables false

theorem bl_lt : ∀ (x y : List UInt8), Op.bytesLess x y = true ↔ x < y
  | [], [] => by simp [Op.bytesLess]
  | _ :: _, [] => by simp [Op.bytesLess]
  | [], _ :: _ => by simp [Op.bytesLess]
  | a :: x, b :: y => by
    rw [Op.bytesLess, List.cons_lt_cons_iff]
    have ih := bl_lt x y
    simp [ih]
theorem sless_trans {a b c : ByteArray} (h1 : SLess a b) (h2 : SLess b c) : SLess a c := by
  unfold SLess at *
  rw [bl_lt] at *
  exact List.lt_trans h1 h2
theorem sless_ne {a b : ByteArray} (h : SLess a b) : a.toList ≠ b.toList := fun e => by
  unfold SLess at h
  rw [e, bl_lt] at h
  exact List.lt_irrefl _ h
/-- Names that ascend are each only once. -/
theorem asc_lt {ss : List DSkySector} (h : ∀ i (h : i < ss.length) (h0 : 0 < i), SLess (ss[i - 1]'(by omega)).1 (ss[i]'h).1) : ∀ j (hj : j < ss.length) i (hi : i < j), SLess (ss[i]'(by omega)).1 (ss[j]'hj).1 := by
  intro j
  induction j with
  | zero => intro _ i hi; omega
  | succ j ih =>
    intro hj i hi
    have h1 := h (j + 1) hj (by omega)
    by_cases e : i = j
    · subst e; exact h1
    · exact sless_trans (ih (by omega) i (by omega)) h1
theorem nmEq_iff {a b : ByteArray} : nmEq a b = true ↔ a.toList = b.toList := by unfold nmEq; simp
theorem one_name {ss : List DSkySector} (h : ∀ i (h : i < ss.length) (h0 : 0 < i), SLess (ss[i - 1]'(by omega)).1 (ss[i]'h).1) {i j : Nat} (hi : i < ss.length) (hj : j < ss.length) (he : (ss[i]'hi).1.toList = (ss[j]'hj).1.toList) : i = j := by
  rcases Nat.lt_trichotomy i j with h1 | h1 | h1
  · exact absurd he (sless_ne (asc_lt h j hj i h1))
  · exact h1
  · exact absurd he.symm (sless_ne (asc_lt h i hi j h1))
theorem anyB_iff {pv : ByteArray → DSkyBlock → Bool} {ss : List DSkySector} : anyB pv ss = true ↔ ∃ i, ∃ h : i < ss.length, ∃ b ∈ (ss[i]'h).2, pv (ss[i]'h).1 b = true := by
  unfold anyB
  rw [List.any_eq_true]
  constructor
  · rintro ⟨s, hs, h⟩
    obtain ⟨i, hi, rfl⟩ := List.getElem_of_mem hs
    obtain ⟨b, hb, h2⟩ := List.any_eq_true.1 h
    exact ⟨i, hi, b, hb, h2⟩
  · rintro ⟨i, hi, b, hb, h2⟩
    exact ⟨_, List.getElem_mem hi, List.any_eq_true.2 ⟨b, hb, h2⟩⟩
theorem exT_iff {ss : List DSkySector} {a b : ByteArray} : exT ss a b = true ↔ ∃ i, ∃ hi : i < ss.length, ∃ k, ∃ hk : k < ss.length, nmEq (ss[i]'hi).1 a = true ∧ nmEq (ss[k]'hk).1 b = true ∧ bbT (ss[i]'hi).2 (ss[k]'hk).2 = true := by
  unfold exT
  rw [anyB_iff]
  constructor
  · rintro ⟨i, hi, m, hm, h⟩
    rw [Bool.and_eq_true] at h
    obtain ⟨h1, h2⟩ := h
    unfold inT at h2
    obtain ⟨k, hk, n, hn, h3⟩ := anyB_iff.1 h2
    rw [Bool.and_eq_true] at h3
    exact ⟨i, hi, k, hk, h1, h3.1, List.any_eq_true.2 ⟨m, hm, List.any_eq_true.2 ⟨n, hn, h3.2⟩⟩⟩
  · rintro ⟨i, hi, k, hk, h1, h2, h3⟩
    obtain ⟨m, hm, h4⟩ := List.any_eq_true.1 h3
    obtain ⟨n, hn, h5⟩ := List.any_eq_true.1 h4
    refine ⟨i, hi, m, hm, ?_⟩
    rw [Bool.and_eq_true]
    refine ⟨h1, anyB_iff.2 ⟨k, hk, n, hn, ?_⟩⟩
    rw [Bool.and_eq_true]
    exact ⟨h2, h5⟩
theorem exT_same {ss : List DSkySector} (hA : ∀ i (h : i < ss.length) (h0 : 0 < i), SLess (ss[i - 1]'(by omega)).1 (ss[i]'h).1) (a b : ByteArray) :
    (if nmEq a b then false else exT ss a b) = (if sIdx ss a < 0 then false else if sIdx ss b < 0 then false else if sIdx ss a = sIdx ss b then false else bbT (ss.getD (sIdx ss a).toNat (⟨#[]⟩, [])).2 (ss.getD (sIdx ss b).toNat (⟨#[]⟩, [])).2) := by
  cases hab : nmEq a b
  · rw [if_neg (by simp)]
    rcases sIdx_cases ss a with ⟨ea, na⟩ | ⟨I, ea, hI, ya⟩
    · rw [ea, if_pos (by omega)]
      cases h : exT ss a b
      · rfl
      · obtain ⟨i, hi, _, _, h1, _⟩ := exT_iff.1 h
        rw [na i hi] at h1
        cases h1
    · rcases sIdx_cases ss b with ⟨eb, nb⟩ | ⟨K, eb, hK, yb⟩
      · rw [ea, eb, if_neg (by omega), if_pos (by omega)]
        cases h : exT ss a b
        · rfl
        · obtain ⟨_, _, k, hk, _, h1, _⟩ := exT_iff.1 h
          rw [nb k hk] at h1
          cases h1
      · have hIK : I ≠ K := fun e => by
          subst e
          have h1 := nmEq_iff.1 ya
          have h2 := nmEq_iff.1 yb
          rw [nmEq_iff.2 (h1.symm.trans h2)] at hab
          cases hab
        rw [ea, eb, if_neg (by omega), if_neg (by omega), if_neg (by omega)]
        have e : bbT (ss.getD ((I : Int)).toNat (⟨#[]⟩, [])).2 (ss.getD ((K : Int)).toNat (⟨#[]⟩, [])).2 = bbT (ss[I]'hI).2 (ss[K]'hK).2 := by simp [hI, hK]
        rw [e, Bool.eq_iff_iff, exT_iff]
        constructor
        · rintro ⟨i, hi, k, hk, h1, h2, h3⟩
          obtain rfl := one_name hA hi hI ((nmEq_iff.1 h1).trans (nmEq_iff.1 ya).symm)
          obtain rfl := one_name hA hk hK ((nmEq_iff.1 h2).trans (nmEq_iff.1 yb).symm)
          exact h3
        · exact fun h => ⟨I, hI, K, hK, ya, yb, h⟩
  · rw [if_pos rfl]
    have e : sIdx ss a = sIdx ss b := by unfold sIdx; rw [nmEq_iff.1 hab]
    rw [e]
    simp

theorem touch_same (x : DSky) (a b : ByteArray) : touchSky x a b = touchS x a b := by
  unfold touchSky touchS
  cases hv : validB x
  · simp
  · rw [if_pos rfl, if_pos rfl]
    exact exT_same (fun i h h0 => ((validB_iff.1 hv).2.2.2.1.2 i h).2.1 h0) a b

end Go.Proofs.YtnjbplcdfiddeaaDoor

/- DERIVED. laws.FnExactSkyTouch: its walk (written by wip/tools/mk_tol.py). -/
namespace Go.Proofs.YtnjbplcdfiddeaaDoor
open Go.RowKit
set_option linter.unusedSimpArgs false
set_option linter.unusedVariables false

theorem skyAt_ofT {w w' : World} {x : DSky} {ao3 : Option Addr} {cap3 : Nat} {ao4 : Option Addr} {cap4 : Nat} {ao5 : Option Addr} {cap5 : Nat} {ao6 : Option Addr} {cap6 : Nat} (p3 : SliceAt vSkyPoint (fresh w w') w' ao3 cap3 x.2.2.2.1) (p4 : SliceAt vSkyAirway (fresh w w') w' ao4 cap4 x.2.2.2.2.1) (p5 : SliceAt vSkySector (fresh w w') w' ao5 cap5 x.2.2.2.2.2.1) (p6 : SliceAt vSkyRunway (fresh w w') w' ao6 cap6 x.2.2.2.2.2.2) : SkyAt w' x ao3 cap3 ao4 cap4 ao5 cap5 ao6 cap6 :=
  ⟨p3.mono fresh_old, p4.mono fresh_old, p5.mono fresh_old, p6.mono fresh_old⟩
/-- A box holds these values. -/
def BxT (b : Nat) (cs : Array Value) (W : World) : Prop := ∀ i, W.cell? ⟨b, i, none⟩ = cs[i]?
theorem BxT.below {b n : Nat} {cs : Array Value} {w w' : World} (h : BxT b cs w) (hb : Below n w w') (hn : b < n) : BxT b cs w' := fun i => (hb.cell (p := ⟨b, i, none⟩) hn).trans (h i)
theorem BxT.new (w : World) (cs : Array Value) (t : TypeId) : BxT w.heap.size cs (w.alloc (.cells cs t)) := fun i => by
  unfold World.cell?
  rw [show (w.alloc (.cells cs t)).heap[w.heap.size]? = some (.cells cs t (0, 0)) from heap_alloc_new w _]
  rfl

set_option maxRecDepth 100000 in
set_option maxHeartbeats 4000000 in
theorem touchLaw_small (x : DSky) (ao3 : Option Addr) (cap3 : Nat) (ao4 : Option Addr) (cap4 : Nat) (ao5 : Option Addr) (cap5 : Nat) (ao6 : Option Addr) (cap6 : Nat) (a b : ByteArray) (w : World) (h : SkyAt w x ao3 cap3 ao4 cap4 ao5 cap5 ao6 cap6) (hT : TurnsLaid w) (hn : wSky x ≤ 1048576) (ha : ¬ 1048576 < a.size) (hb : ¬ 1048576 < b.size) :
    Calls Tryd.prog 4 #[.agg #[.int .i64 x.1, .int .i64 x.2.1, .int .i64 x.2.2.1, .slice ao3 x.2.2.2.1.length cap3, .slice ao4 x.2.2.2.2.1.length cap4, .slice ao5 x.2.2.2.2.2.1.length cap5, .slice ao6 x.2.2.2.2.2.2.length cap6], .string a, .string b] w fun e w' => e = .returned (.bool true) ∧ Below w.heap.size w w' := by
  have hda : decide ((1048576 : Int) < (a.size : Int)) = false := by simp; omega
  have hdb : decide ((1048576 : Int) < (b.size : Int)) = false := by simp; omega
  have hsz : szR 1048576 (wSky x) = 1048576 - (wSky x : Int) := szR_yes (by omega)
  have hnn : ¬ szR 1048576 (wSky x) < 0 := by rw [hsz]; omega
  have HTO := fun W (hh : SkyAt W x ao3 cap3 ao4 cap4 ao5 cap5 ao6 cap6) => toSky_any x ao3 cap3 ao4 cap4 ao5 cap5 ao6 cap6 W hh.p3 hh.p4 hh.p5 hh.p6 hn
  have HSW := fun ao3 cap3 ao4 cap4 ao5 cap5 ao6 cap6 W (hh : SkyAt W x ao3 cap3 ao4 cap4 ao5 cap5 ao6 cap6) => sTouch x.1 x.2.1 x.2.2.1 x.2.2.2.1 x.2.2.2.2.1 x.2.2.2.2.2.1 x.2.2.2.2.2.2 ao3 cap3 ao4 cap4 ao5 cap5 ao6 cap6 a b W hh
  have HIW := fun ao3 cap3 ao4 cap4 ao5 cap5 ao6 cap6 W (hh : SkyAt W x ao3 cap3 ao4 cap4 ao5 cap5 ao6 cap6) (ht : TurnsLaid W) => iTouch x ao3 cap3 ao4 cap4 ao5 cap5 ao6 cap6 a b W hh ht
  have hsame := touch_same x a b
  have hS' : touchS (x.1, x.2.1, x.2.2.1, x.2.2.2.1, x.2.2.2.2.1, x.2.2.2.2.2.1, x.2.2.2.2.2.2) a b = touchSky x a b := hsame.symm
  rw [hS'] at HSW
  clear hS' hsame
  generalize touchSky x a b = r at *
  obtain ⟨w0, hw0⟩ : ∃ w0, w0 = w.alloc (.cells #[.int .i64 x.1, .int .i64 x.2.1, .int .i64 x.2.2.1, .slice ao3 x.2.2.2.1.length cap3, .slice ao4 x.2.2.2.2.1.length cap4, .slice ao5 x.2.2.2.2.2.1.length cap5, .slice ao6 x.2.2.2.2.2.2.length cap6] 27) := ⟨_, rfl⟩
  have hb0 : Below w.heap.size w w0 := by rw [hw0]; exact (Below.refl _ _).alloc (Nat.le_refl _) _
  have HS0 : BxT w.heap.size #[.int .i64 x.1, .int .i64 x.2.1, .int .i64 x.2.2.1, .slice ao3 x.2.2.2.1.length cap3, .slice ao4 x.2.2.2.2.1.length cap4, .slice ao5 x.2.2.2.2.2.1.length cap5, .slice ao6 x.2.2.2.2.2.2.length cap6] w0 := by rw [hw0]; exact BxT.new w _ _
  have hz0 : w0.heap.size = w.heap.size + 1 := by rw [hw0]; simp
  have hA := h.later hb0
  have HSZ := szSky_any x ao3 cap3 ao4 cap4 ao5 cap5 ao6 cap6 1048576 w0 (by omega) (by omega) hA.p3 hA.p4 hA.p5 hA.p6
  rw [hw0] at HSZ
  clear hsz hA ha hb
  go_enter Tryd.func4, Tryd.ntmps4
  go_wp2_with fail
  refine HSZ.mono ?_
  rw [← hw0]
  rintro e w1 ⟨rfl, hb1⟩
  clear hw0 HSZ
  have hz1 : w.heap.size + 1 ≤ w1.heap.size := by have := hb1.size; omega
  have hB1 : Below w.heap.size w w1 := hb0.trans (hb1.mono (by omega))
  have HS1 := HS0.below hb1 (by omega)
  clear hb1 hb0 HS0
  have a0 := HS1 0
  have a1 := HS1 1
  have a2 := HS1 2
  have a3 := HS1 3
  have a4 := HS1 4
  have a5 := HS1 5
  have a6 := HS1 6
  simp at a0 a1 a2 a3 a4 a5 a6
  have HTO1 := HTO w1 (h.later hB1)
  go_wp2_with fail
  refine HTO1.mono ?_
  rintro e w2 ⟨ao3p, cap3p, ao4p, cap4p, ao5p, cap5p, ao6p, cap6p, rfl, p3, p4, p5, p6, hb2⟩
  have hS2 := skyAt_ofT p3 p4 p5 p6
  have HS2 := HS1.below hb2 (by omega)
  have hB2 := hB1.trans (hb2.mono (by omega))
  have hz2 : w.heap.size + 1 ≤ w2.heap.size := Nat.le_trans hz1 hb2.size
  have HC2 := HSW _ _ _ _ _ _ _ _ w2 hS2
  clear a0 a1 a2 a3 a4 a5 a6 HTO1 hb2 p3 p4 p5 p6 HS1 hB1 hz1 HSW
  go_wp2_with fail
  refine HC2.mono ?_
  rintro e w4 ⟨rfl, hb4⟩
  have HS4 := HS2.below hb4 (by omega)
  have hB4 := hB2.trans (hb4.mono (by omega))
  have hz4 : w.heap.size + 1 ≤ w4.heap.size := Nat.le_trans hz2 hb4.size
  clear hS2 HS2 hB2 hz2 HC2 hb4
  have a0 := HS4 0
  have a1 := HS4 1
  have a2 := HS4 2
  have a3 := HS4 3
  have a4 := HS4 4
  have a5 := HS4 5
  have a6 := HS4 6
  simp at a0 a1 a2 a3 a4 a5 a6
  have HTO4 := HTO w4 (h.later hB4)
  go_wp2_with fail
  refine HTO4.mono ?_
  rintro e w5 ⟨ao3q, cap3q, ao4q, cap4q, ao5q, cap5q, ao6q, cap6q, rfl, p3, p4, p5, p6, hb5⟩
  have hS5 := skyAt_ofT p3 p4 p5 p6
  have HS5 := HS4.below hb5 (by omega)
  have hB5 := hB4.trans (hb5.mono (by omega))
  have hz5 : w.heap.size + 1 ≤ w5.heap.size := Nat.le_trans hz4 hb5.size
  clear a0 a1 a2 a3 a4 a5 a6 HTO4 hb5 p3 p4 p5 p6 HS4 hB4 hz4
  obtain ⟨w6, hw6⟩ : ∃ w6, w6 = w5.alloc (.cells #[.int .i64 x.1, .int .i64 x.2.1, .int .i64 x.2.2.1, .slice ao3q x.2.2.2.1.length cap3q, .slice ao4q x.2.2.2.2.1.length cap4q, .slice ao5q x.2.2.2.2.2.1.length cap5q, .slice ao6q x.2.2.2.2.2.2.length cap6q] 38) := ⟨_, rfl⟩
  have hb6 : Below w5.heap.size w5 w6 := by rw [hw6]; exact (Below.refl _ _).alloc (Nat.le_refl _) _
  have HX6 : BxT w5.heap.size #[.int .i64 x.1, .int .i64 x.2.1, .int .i64 x.2.2.1, .slice ao3q x.2.2.2.1.length cap3q, .slice ao4q x.2.2.2.2.1.length cap4q, .slice ao5q x.2.2.2.2.2.1.length cap5q, .slice ao6q x.2.2.2.2.2.2.length cap6q] w6 := by rw [hw6]; exact BxT.new w5 _ _
  have hz6 : w6.heap.size = w5.heap.size + 1 := by rw [hw6]; simp
  have hB6 := hB5.trans (hb6.mono (by omega))
  have HS6 := HS5.below hb6 (by omega)
  have HC6 := HIW _ _ _ _ _ _ _ _ w6 (hS5.later hb6) (hT.later hB6)
  rw [hw6] at HC6
  go_wp2_with fail
  refine HC6.mono ?_
  rw [← hw6]
  rintro e w8 ⟨rfl, hb8⟩
  have hS8 := (hS5.later hb6).later hb8
  have HX8 := HX6.below hb8 (by omega)
  have HS8 := HS6.below hb8 (by omega)
  have hBd := hB6.trans (hb8.mono (by omega))
  have hw58 : w5.heap.size < w8.heap.size := by have := hb8.size; omega
  have hw8 : w.heap.size ≤ w8.heap.size := by omega
  clear hw6 HC6 HX6 HS6 hB6 hS5 hb6 hb8 HS5 hB5 HIW hz6
  have a0 := HS8 0
  have a1 := HS8 1
  have a2 := HS8 2
  have a3 := HS8 3
  have a4 := HS8 4
  have a5 := HS8 5
  have a6 := HS8 6
  simp at a0 a1 a2 a3 a4 a5 a6
  have d0 := HX8 0
  have d1 := HX8 1
  have d2 := HX8 2
  have d3 := HX8 3
  have d4 := HX8 4
  have d5 := HX8 5
  have d6 := HX8 6
  simp at d0 d1 d2 d3 d4 d5 d6
  have hs2 : (r != r) = false := by simp
  have hA8 := h.later hBd
  clear HS8 HX8
  go_wp2_with fail
  have hbd : Below w8.heap.size w8 w8.drew := (Below.refl _ _).drew
  have hA8d := hA8.later hbd
  have hS8d := hS8.later hbd
  have HTO8 := HTO w8.drew hA8d
  clear HTO hA8 hS8 hA8d
  go_region_with (first | (go_at_call 7; refine HTO8.mono ?_; rintro e w9 ⟨ao3r, cap3r, ao4r, cap4r, ao5r, cap5r, ao6r, cap6r, rfl, p3, p4, p5, p6, hb9⟩; have k0 := (hb9.cell (p := ⟨w5.heap.size, 0, none⟩) hw58).trans d0; have k1 := (hb9.cell (p := ⟨w5.heap.size, 1, none⟩) hw58).trans d1; have k2 := (hb9.cell (p := ⟨w5.heap.size, 2, none⟩) hw58).trans d2; have k3 := (hb9.cell (p := ⟨w5.heap.size, 3, none⟩) hw58).trans d3; have k4 := (hb9.cell (p := ⟨w5.heap.size, 4, none⟩) hw58).trans d4; have k5 := (hb9.cell (p := ⟨w5.heap.size, 5, none⟩) hw58).trans d5; have k6 := (hb9.cell (p := ⟨w5.heap.size, 6, none⟩) hw58).trans d6) | (go_at_call 10; refine (eqSky_any x ao3q cap3q ao4q cap4q ao5q cap5q ao6q cap6q ao3r cap3r ao4r cap4r ao5r cap5r ao6r cap6r _ (hS8d.p3.later hb9) (p3.mono fresh_old) (hS8d.p4.later hb9) (p4.mono fresh_old) (hS8d.p5.later hb9) (p5.mono fresh_old) (hS8d.p6.later hb9) (p6.mono fresh_old) hn).mono ?_; rintro e w10 ⟨rfl, hb10⟩))
  all_goals
    go_wp2
    go_ret
    exact ⟨rfl, ((hBd.trans (hbd.mono hw8)).trans (hb9.mono (show w.heap.size ≤ w8.heap.size from hw8))).trans (hb10.mono (by have h1 : w8.heap.size ≤ w9.heap.size := hb9.size; omega))⟩

set_option maxRecDepth 100000 in
set_option maxHeartbeats 1000000 in
theorem touchLaw_big (x : DSky) (ao3 : Option Addr) (cap3 : Nat) (ao4 : Option Addr) (cap4 : Nat) (ao5 : Option Addr) (cap5 : Nat) (ao6 : Option Addr) (cap6 : Nat) (a b : ByteArray) (w : World) (h : SkyAt w x ao3 cap3 ao4 cap4 ao5 cap5 ao6 cap6) (hn : ¬ wSky x ≤ 1048576) (ha : ¬ 1048576 < a.size) (hb : ¬ 1048576 < b.size) :
    Calls Tryd.prog 4 #[.agg #[.int .i64 x.1, .int .i64 x.2.1, .int .i64 x.2.2.1, .slice ao3 x.2.2.2.1.length cap3, .slice ao4 x.2.2.2.2.1.length cap4, .slice ao5 x.2.2.2.2.2.1.length cap5, .slice ao6 x.2.2.2.2.2.2.length cap6], .string a, .string b] w fun e w' => e = .returned (.bool true) ∧ Below w.heap.size w w' := by
  have hda : decide ((1048576 : Int) < (a.size : Int)) = false := by simp; omega
  have hdb : decide ((1048576 : Int) < (b.size : Int)) = false := by simp; omega
  have hsz : szR 1048576 (wSky x) = -1 := szR_no (by omega)
  have hb0 : Below w.heap.size w (w.alloc (.cells #[.int .i64 x.1, .int .i64 x.2.1, .int .i64 x.2.2.1, .slice ao3 x.2.2.2.1.length cap3, .slice ao4 x.2.2.2.2.1.length cap4, .slice ao5 x.2.2.2.2.2.1.length cap5, .slice ao6 x.2.2.2.2.2.2.length cap6] 27)) := (Below.refl _ _).alloc (Nat.le_refl _) _
  have hA := h.later hb0
  have hcall := szSky_any x ao3 cap3 ao4 cap4 ao5 cap5 ao6 cap6 1048576 _ (by omega) (by omega) hA.p3 hA.p4 hA.p5 hA.p6
  rw [hsz] at hcall
  clear hsz ha hb
  go_enter Tryd.func4, Tryd.ntmps4
  go_wp2_with fail
  refine hcall.mono ?_
  rintro e w1 ⟨rfl, hb1⟩
  have hb2 := hb0.trans (hb1.mono hb0.size)
  clear hb1 hcall
  go_wp2
  go_ret
  exact ⟨rfl, hb2⟩

set_option maxRecDepth 100000 in
set_option maxHeartbeats 1000000 in
theorem touchLaw_a (x : DSky) (ao3 : Option Addr) (cap3 : Nat) (ao4 : Option Addr) (cap4 : Nat) (ao5 : Option Addr) (cap5 : Nat) (ao6 : Option Addr) (cap6 : Nat) (a b : ByteArray) (w : World) (ha : 1048576 < a.size) :
    Calls Tryd.prog 4 #[.agg #[.int .i64 x.1, .int .i64 x.2.1, .int .i64 x.2.2.1, .slice ao3 x.2.2.2.1.length cap3, .slice ao4 x.2.2.2.2.1.length cap4, .slice ao5 x.2.2.2.2.2.1.length cap5, .slice ao6 x.2.2.2.2.2.2.length cap6], .string a, .string b] w fun e w' => e = .returned (.bool true) ∧ Below w.heap.size w w' := by
  have hda : decide ((1048576 : Int) < (a.size : Int)) = true := by simp; omega
  have hb0 : Below w.heap.size w (w.alloc (.cells #[.int .i64 x.1, .int .i64 x.2.1, .int .i64 x.2.2.1, .slice ao3 x.2.2.2.1.length cap3, .slice ao4 x.2.2.2.2.1.length cap4, .slice ao5 x.2.2.2.2.2.1.length cap5, .slice ao6 x.2.2.2.2.2.2.length cap6] 27)) := (Below.refl _ _).alloc (Nat.le_refl _) _
  go_enter Tryd.func4, Tryd.ntmps4
  go_wp2_with fail
  go_ret
  exact ⟨rfl, hb0⟩

set_option maxRecDepth 100000 in
set_option maxHeartbeats 1000000 in
theorem touchLaw_b (x : DSky) (ao3 : Option Addr) (cap3 : Nat) (ao4 : Option Addr) (cap4 : Nat) (ao5 : Option Addr) (cap5 : Nat) (ao6 : Option Addr) (cap6 : Nat) (a b : ByteArray) (w : World) (ha : ¬ 1048576 < a.size) (hb : 1048576 < b.size) :
    Calls Tryd.prog 4 #[.agg #[.int .i64 x.1, .int .i64 x.2.1, .int .i64 x.2.2.1, .slice ao3 x.2.2.2.1.length cap3, .slice ao4 x.2.2.2.2.1.length cap4, .slice ao5 x.2.2.2.2.2.1.length cap5, .slice ao6 x.2.2.2.2.2.2.length cap6], .string a, .string b] w fun e w' => e = .returned (.bool true) ∧ Below w.heap.size w w' := by
  have hda : decide ((1048576 : Int) < (a.size : Int)) = false := by simp; omega
  have hdb : decide ((1048576 : Int) < (b.size : Int)) = true := by simp; omega
  have hb0 : Below w.heap.size w (w.alloc (.cells #[.int .i64 x.1, .int .i64 x.2.1, .int .i64 x.2.2.1, .slice ao3 x.2.2.2.1.length cap3, .slice ao4 x.2.2.2.2.1.length cap4, .slice ao5 x.2.2.2.2.2.1.length cap5, .slice ao6 x.2.2.2.2.2.2.length cap6] 27)) := (Below.refl _ _).alloc (Nat.le_refl _) _
  clear ha
  go_enter Tryd.func4, Tryd.ntmps4
  go_wp2_with fail
  go_ret
  exact ⟨rfl, hb0⟩

theorem touchLaw (x : DSky) (ao3 : Option Addr) (cap3 : Nat) (ao4 : Option Addr) (cap4 : Nat) (ao5 : Option Addr) (cap5 : Nat) (ao6 : Option Addr) (cap6 : Nat) (a b : ByteArray) (w : World) (h : SkyAt w x ao3 cap3 ao4 cap4 ao5 cap5 ao6 cap6) (hT : TurnsLaid w) :
    Calls Tryd.prog 4 #[.agg #[.int .i64 x.1, .int .i64 x.2.1, .int .i64 x.2.2.1, .slice ao3 x.2.2.2.1.length cap3, .slice ao4 x.2.2.2.2.1.length cap4, .slice ao5 x.2.2.2.2.2.1.length cap5, .slice ao6 x.2.2.2.2.2.2.length cap6], .string a, .string b] w fun e w' => e = .returned (.bool true) ∧ Below w.heap.size w w' := by
  by_cases ha : 1048576 < a.size
  · exact touchLaw_a x ao3 cap3 ao4 cap4 ao5 cap5 ao6 cap6 a b w ha
  · by_cases hb : 1048576 < b.size
    · exact touchLaw_b x ao3 cap3 ao4 cap4 ao5 cap5 ao6 cap6 a b w ha hb
    · by_cases hn : wSky x ≤ 1048576
      · exact touchLaw_small x ao3 cap3 ao4 cap4 ao5 cap5 ao6 cap6 a b w h hT hn ha hb
      · exact touchLaw_big x ao3 cap3 ao4 cap4 ao5 cap5 ao6 cap6 a b w h hn ha hb

end Go.Proofs.YtnjbplcdfiddeaaDoor
