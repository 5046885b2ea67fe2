import Derived.Test.YtnjbplcdfiddeaaDoorIV0
import Derived.Lib.LaidTab
import Derived.ChangeBears2
import Derived.Test.YtnjbplcdfiddeaaDoorHWa
import Derived.Deep.RegionWith
import Derived.Test.YtnjbplcdfiddeaaDoorCards
import Derived.Test.YtnjbplcdfiddeaaDoorTie
import Derived.ProofKit
import Derived.OpenShut
import Derived.OpenVars
import Derived.ChangeOld
import Derived.Deep.DeepHandedRow

/- DERIVED. What a sky that comes in reads as, as plain data; what the laid words give. -/
namespace Go.Proofs.YtnjbplcdfiddeaaDoor
open Go.RowKit Go.WideShapes
set_option linter.unusedSimpArgs false
set_option linter.unusedVariables false

theorem opPoint : Opens Tryd.prog 74 vSkyPoint :=
  opens_struct Tryd.underlying74 (by kernel_rfl) (opensFs_cons rfl (by kernel_rfl) (opens_str Tryd.underlying9) (opensFs_cons rfl (by kernel_rfl) (opens_int Tryd.underlying3) (opensFs_one rfl (by kernel_rfl) (opens_int Tryd.underlying3))))
theorem opBlock : Opens Tryd.prog 132 vSkyBlock :=
  opens_struct Tryd.underlying132 (by kernel_rfl) (opensFs_cons rfl (by kernel_rfl) (opens_int Tryd.underlying3) (opensFs_cons rfl (by kernel_rfl) (opens_int Tryd.underlying3) (opensFs_cons rfl (by kernel_rfl) (opens_int Tryd.underlying3) (opensFs_cons rfl (by kernel_rfl) (opens_int Tryd.underlying3) (opensFs_cons rfl (by kernel_rfl) (opens_int Tryd.underlying3) (opensFs_one rfl (by kernel_rfl) (opens_int Tryd.underlying3)))))))
theorem opRunway : Opens Tryd.prog 85 vSkyRunway :=
  opens_struct Tryd.underlying85 (by kernel_rfl) (opensFs_cons rfl (by kernel_rfl) (opens_str Tryd.underlying9) (opensFs_cons rfl (by kernel_rfl) (opens_int Tryd.underlying3) (opensFs_cons rfl (by kernel_rfl) (opens_int Tryd.underlying3) (opensFs_one rfl (by kernel_rfl) (opens_int Tryd.underlying3)))))
theorem opAirway : Opens Tryd.prog 78 vSkyAirway :=
  opens_struct Tryd.underlying78 (by kernel_rfl) (opensFs_cons rfl (by kernel_rfl) (opens_str Tryd.underlying9) (opensFs_one rfl (by kernel_rfl) (opens_slice Tryd.underlying76 (by kernel_rfl) (by decide) (opens_str Tryd.underlying9))))
theorem opSector : Opens Tryd.prog 82 vSkySector :=
  opens_struct Tryd.underlying82 (by kernel_rfl) (opensFs_cons rfl (by kernel_rfl) (opens_str Tryd.underlying9) (opensFs_one rfl (by kernel_rfl) (opens_slice Tryd.underlying80 (by kernel_rfl) (by decide) opBlock)))
theorem opSky : Opens Tryd.prog 27 vSky :=
  opens_struct Tryd.underlying27 (by kernel_rfl) (opensFs_cons rfl (by kernel_rfl) (opens_int Tryd.underlying3) (opensFs_cons rfl (by kernel_rfl) (opens_int Tryd.underlying3) (opensFs_cons rfl (by kernel_rfl) (opens_int Tryd.underlying3)
    (opensFs_cons rfl (by kernel_rfl) (opens_slice Tryd.underlying22 (by kernel_rfl) (by decide) opPoint) (opensFs_cons rfl (by kernel_rfl) (opens_slice Tryd.underlying23 (by kernel_rfl) (by decide) opAirway)
      (opensFs_cons rfl (by kernel_rfl) (opens_slice Tryd.underlying24 (by kernel_rfl) (by decide) opSector) (opensFs_one rfl (by kernel_rfl) (opens_slice Tryd.underlying25 (by kernel_rfl) (by decide) opRunway))))))))

/-- An array of texts that reads as such a list holds them, cell for cell. -/
theorem strs_of_tab {H : Type} {enc : TypeId × Value → H} {P : Program} {w : World} {base : Nat} {sp : Nat → Bool} {held : Bool} {fuel : Nat} {t e : TypeId} {n : Nat} {cs : List Value} {zs : List (List UInt8)} {p : List MemPlace}
    (ht : P.underlying t = some (.array n e)) (he : P.underlying e = some .string) (hce : P.cellsOf e = 1) (hct : P.cellsOf t = n)
    (h : DataW.trod enc P w base sp held fuel t cs = some (.agg (zs.map fun z => .lit (.string z)), p)) : cs = zs.map fun z => Value.string ⟨z.toArray⟩ := by
  cases fuel with
  | zero => simp [DataW.trod] at h
  | succ fuel =>
    simp only [DataW.trod, ht, hce, hct, Nat.mul_one] at h
    split at h
    · rename_i hl
      obtain ⟨xs, hm, hx⟩ := Option.map_eq_some_iff.1 h
      have hxs : xs.map (·.1) = zs.map fun z => (DataW.lit (.string z) : DataW H) := by
        have := congrArg Prod.fst hx
        simpa using this
      have hxl : xs.length = n := by simpa using Lib.mapM_length hm
      have hzl : zs.length = n := by
        have := congrArg List.length hxs
        simp at this
        omega
      apply List.ext_getElem?
      intro i
      by_cases hi : i < n
      · obtain ⟨b, hb, hf⟩ := Lib.mapM_at hm i i (by simp [hi])
        obtain ⟨z, hc, rfl, _⟩ := DataW.trod_string he hf
        have h1 : cs[i]? = some (.string z) := by
          have := congrArg (·[0]?) hc
          simpa [List.getElem?_take, List.getElem?_drop] using this
        have h2 : (xs.map (·.1))[i]? = some (DataW.lit (.string z.data.toList) : DataW H) := by simp [hb]
        rw [hxs] at h2
        simp only [List.getElem?_map, Option.map_eq_some_iff, DataW.lit.injEq, Lit.string.injEq] at h2
        obtain ⟨z', hz', rfl⟩ := h2
        simp [h1, hz']
      · rw [List.getElem?_eq_none (by omega), List.getElem?_eq_none (by simp; omega)]
    · cases h

theorem gWords : Tryd.prog.globalNamed "loop.example/lapwing/impl.skyTurnWords" = some 0 := by kernel_rfl
theorem gWordsT : (Tryd.prog.globals[0]?).map (·.type) = some 146 := by kernel_rfl
theorem cellsWords : Tryd.prog.cellsOf 146 = 8 := by kernel_rfl
theorem cellsStr : Tryd.prog.cellsOf 9 = 1 := by kernel_rfl

/-- What the row's list gives: the package's array holds the words of the turns. -/
theorem turns_of_laid {W : World} {rest : List (String × DataW Unit)} (h : laidMet Tryd.prog (("loop.example/lapwing/impl.skyTurnWords", .agg [.lit (.string [110]), .lit (.string [110, 101]), .lit (.string [101]), .lit (.string [115, 101]), .lit (.string [115]), .lit (.string [115, 119]), .lit (.string [119]), .lit (.string [110, 119])]) :: rest) W) : TurnsLaid W := by
  obtain ⟨ps, ⟨g', t', cs, fuel, p, q, hg', ht', hvar, hd, _, _⟩, _⟩ := h
  obtain rfl := Option.some.inj (gWords.symm.trans hg')
  obtain rfl := Option.some.inj (gWordsT.symm.trans ht')
  have hcs := strs_of_tab (zs := [[110], [110, 101], [101], [115, 101], [115], [115, 119], [119], [110, 119]]) Tryd.underlying146 Tryd.underlying9 cellsStr cellsWords hd
  have hcs2 : cs = turnCells := by
    apply Array.ext'
    rw [hcs]
    rfl
  intro j hj
  rw [World.var?_cell gWords hvar j, hcs2]

end Go.Proofs.YtnjbplcdfiddeaaDoor

/- DERIVED. laws.FnExactSkyWhere: its walk (written by wip/tools/mk_wl.py). -/
namespace Go.Proofs.YtnjbplcdfiddeaaDoor
open Go.RowKit
set_option linter.unusedSimpArgs false
set_option linter.unusedVariables false

theorem skyAt_of {w w' : World} {x : DSky} {ao3 : Option Addr} {cap3 : Nat} {ao4 : Option Addr} {cap4 : Nat} {ao5 : Option Addr} {cap5 : Nat} {ao6 : Option Addr} {cap6 : Nat} (p3 : SliceAt vSkyPoint (fresh w w') w' ao3 cap3 x.2.2.2.1) (p4 : SliceAt vSkyAirway (fresh w w') w' ao4 cap4 x.2.2.2.2.1) (p5 : SliceAt vSkySector (fresh w w') w' ao5 cap5 x.2.2.2.2.2.1) (p6 : SliceAt vSkyRunway (fresh w w') w' ao6 cap6 x.2.2.2.2.2.2) : SkyAt w' x ao3 cap3 ao4 cap4 ao5 cap5 ao6 cap6 :=
  ⟨p3.mono fresh_old, p4.mono fresh_old, p5.mono fresh_old, p6.mono fresh_old⟩

/-- A box holds these values. -/
def BxC (b : Nat) (cs : Array Value) (W : World) : Prop := ∀ i, W.cell? ⟨b, i, none⟩ = cs[i]?
theorem BxC.below {b n : Nat} {cs : Array Value} {w w' : World} (h : BxC b cs w) (hb : Below n w w') (hn : b < n) : BxC b cs w' := fun i => (hb.cell (p := ⟨b, i, none⟩) hn).trans (h i)
theorem BxC.new (w : World) (cs : Array Value) (t : TypeId) : BxC w.heap.size cs (w.alloc (.cells cs t)) := fun i => by
  unfold World.cell?
  rw [show (w.alloc (.cells cs t)).heap[w.heap.size]? = some (.cells cs t (0, 0)) from heap_alloc_new w _]
  rfl

theorem toPlace (p : DPlace) (w : World) :
    Calls Tryd.prog 8 #[vPl p] w fun e w' => e = .returned (vPl p) ∧ Below w.heap.size w w' := by
  obtain ⟨x, y, l⟩ := p
  simp only [vPl]
  go_enter Tryd.func8, Tryd.ntmps8
  go_wp2
  exact bodyPost_ret (v := .agg #[.int .i64 x, .int .i64 y, .int .i64 l]) (by simp [results, Tryd.results8, go_sem]) rfl ⟨rfl, by repeat (first | exact Below.refl _ _ | refine Below.alloc ?_ (by simp; try omega) _)⟩

def nmOf : Option ByteArray → ByteArray
  | none => ⟨#[]⟩
  | some n => n
theorem whereV_eq (r : Option ByteArray) : whereV r = .tuple #[.string (nmOf r), .bool r.isSome] := by cases r <;> rfl

set_option maxRecDepth 100000 in
set_option maxHeartbeats 4000000 in
theorem whereLaw_small (x : DSky) (ao3 : Option Addr) (cap3 : Nat) (ao4 : Option Addr) (cap4 : Nat) (ao5 : Option Addr) (cap5 : Nat) (ao6 : Option Addr) (cap6 : Nat) (p : DPlace) (w : World) (h : SkyAt w x ao3 cap3 ao4 cap4 ao5 cap5 ao6 cap6) (hT : TurnsLaid w) (hn : wSky x ≤ 1048576) :
    Calls Tryd.prog 3 #[.agg #[.int .i64 x.1, .int .i64 x.2.1, .int .i64 x.2.2.1, .slice ao3 x.2.2.2.1.length cap3, .slice ao4 x.2.2.2.2.1.length cap4, .slice ao5 x.2.2.2.2.2.1.length cap5, .slice ao6 x.2.2.2.2.2.2.length cap6], vPl p] w fun e w' => e = .returned (.bool true) ∧ Below w.heap.size w w' := by
  have hsz : szR 1048576 (wSky x) = 1048576 - (wSky x : Int) := szR_yes (by omega)
  have hnn : ¬ szR 1048576 (wSky x) < 0 := by rw [hsz]; omega
  have HP := fun W => toPlace p W
  have HTO := fun W (hh : SkyAt W x ao3 cap3 ao4 cap4 ao5 cap5 ao6 cap6) => toSky_any x ao3 cap3 ao4 cap4 ao5 cap5 ao6 cap6 W hh.p3 hh.p4 hh.p5 hh.p6 hn
  have HSW := fun ao3 cap3 ao4 cap4 ao5 cap5 ao6 cap6 W (hh : SkyAt W x ao3 cap3 ao4 cap4 ao5 cap5 ao6 cap6) => sWhere x ao3 cap3 ao4 cap4 ao5 cap5 ao6 cap6 p W hh
  have HIW := fun ao3 cap3 ao4 cap4 ao5 cap5 ao6 cap6 W (hh : SkyAt W x ao3 cap3 ao4 cap4 ao5 cap5 ao6 cap6) (ht : TurnsLaid W) => iWhere x ao3 cap3 ao4 cap4 ao5 cap5 ao6 cap6 p W hh ht
  rw [whereV_eq] at HSW HIW
  generalize nmOf (whereSky x p) = rn at *
  generalize (whereSky x p).isSome = rv at *
  obtain ⟨px, py, pl⟩ := p
  simp only [vPl] at *
  obtain ⟨w0, hw0⟩ : ∃ w0, w0 = (w.alloc (.cells #[.int .i64 x.1, .int .i64 x.2.1, .int .i64 x.2.2.1, .slice ao3 x.2.2.2.1.length cap3, .slice ao4 x.2.2.2.2.1.length cap4, .slice ao5 x.2.2.2.2.2.1.length cap5, .slice ao6 x.2.2.2.2.2.2.length cap6] 27)).alloc (.cells #[.int .i64 px, .int .i64 py, .int .i64 pl] 29) := ⟨_, rfl⟩
  have hb0 : Below w.heap.size w w0 := by rw [hw0]; exact ((Below.refl _ _).alloc (Nat.le_refl _) _).alloc (by simp) _
  have HS0 : BxC w.heap.size #[.int .i64 x.1, .int .i64 x.2.1, .int .i64 x.2.2.1, .slice ao3 x.2.2.2.1.length cap3, .slice ao4 x.2.2.2.2.1.length cap4, .slice ao5 x.2.2.2.2.2.1.length cap5, .slice ao6 x.2.2.2.2.2.2.length cap6] w0 := by rw [hw0]; exact (BxC.new w _ _).below ((Below.refl (w.heap.size + 1) _).alloc (by simp) _) (by omega)
  have HP0 : BxC (w.heap.size + 1) #[.int .i64 px, .int .i64 py, .int .i64 pl] w0 := by
    rw [hw0]
    have h := BxC.new (w.alloc (.cells #[.int .i64 x.1, .int .i64 x.2.1, .int .i64 x.2.2.1, .slice ao3 x.2.2.2.1.length cap3, .slice ao4 x.2.2.2.2.1.length cap4, .slice ao5 x.2.2.2.2.2.1.length cap5, .slice ao6 x.2.2.2.2.2.2.length cap6] 27)) #[.int .i64 px, .int .i64 py, .int .i64 pl] 29
    rwa [World.size_alloc] at h
  have hz0 : w0.heap.size = w.heap.size + 2 := by rw [hw0]; simp
  have hA := h.later hb0
  have HSZ := szSky_any x ao3 cap3 ao4 cap4 ao5 cap5 ao6 cap6 1048576 w0 (by omega) (by omega) hA.p3 hA.p4 hA.p5 hA.p6
  rw [hw0] at HSZ
  clear hsz hA
  go_enter Tryd.func3, Tryd.ntmps3
  go_wp2_with fail
  refine HSZ.mono ?_
  rw [← hw0]
  rintro e w1 ⟨rfl, hb1⟩
  clear hw0 HSZ
  have hz1 : w.heap.size + 2 ≤ w1.heap.size := by have := hb1.size; omega
  have hB1 : Below w.heap.size w w1 := hb0.trans (hb1.mono (by omega))
  have HS1 := HS0.below hb1 (by omega)
  have HP1 := HP0.below hb1 (by omega)
  clear hb1 hb0 HS0 HP0
  go_wp2_with fail
  have HC0 : BxC w.heap.size #[.int .i64 x.1, .int .i64 x.2.1, .int .i64 x.2.2.1, .slice ao3 x.2.2.2.1.length cap3, .slice ao4 x.2.2.2.2.1.length cap4, .slice ao5 x.2.2.2.2.2.1.length cap5, .slice ao6 x.2.2.2.2.2.2.length cap6] w1.drew ∧ BxC (w.heap.size + 1) #[.int .i64 px, .int .i64 py, .int .i64 pl] w1.drew := ⟨HS1.below ((Below.refl (w.heap.size + 2) _).drew) (by omega), HP1.below ((Below.refl (w.heap.size + 2) _).drew) (by omega)⟩
  have hBd := hB1.drew
  have hle : w.heap.size + 2 ≤ w1.drew.heap.size := hz1
  clear HS1 HP1 hB1 hz1
  refine wp_region_RC (fun W => BxC w.heap.size #[.int .i64 x.1, .int .i64 x.2.1, .int .i64 x.2.2.1, .slice ao3 x.2.2.2.1.length cap3, .slice ao4 x.2.2.2.2.1.length cap4, .slice ao5 x.2.2.2.2.2.1.length cap5, .slice ao6 x.2.2.2.2.2.2.length cap6] W ∧ BxC (w.heap.size + 1) #[.int .i64 px, .int .i64 py, .int .i64 pl] W) mixedF ?_
  refine RC.take (i := 0) (v := ?va0) rfl (by kernel_rfl) (by kernel_rfl) (by kernel_rfl) (fun _ _ _ h => h) HC0 (by rfl) ?ya0 ?ra0
  case ya0 => (intro W hW; obtain ⟨h1, h2⟩ := hW; have a0 := h1 0; have a1 := h1 1; have a2 := h1 2; have a3 := h1 3; have a4 := h1 4; have a5 := h1 5; have a6 := h1 6; simp at a0 a1 a2 a3 a4 a5 a6; have b0 := h2 0; have b1 := h2 1; have b2 := h2 2; simp at b0 b1 b2; go_simp; try with_reducible rfl)
  refine RC.take (i := 2) (v := ?va2) rfl (by kernel_rfl) (by kernel_rfl) (by kernel_rfl) (fun _ _ _ h => h) HC0 (by rfl) ?ya2 ?ra2
  case ya2 => (intro W hW; obtain ⟨h1, h2⟩ := hW; have a0 := h1 0; have a1 := h1 1; have a2 := h1 2; have a3 := h1 3; have a4 := h1 4; have a5 := h1 5; have a6 := h1 6; simp at a0 a1 a2 a3 a4 a5 a6; have b0 := h2 0; have b1 := h2 1; have b2 := h2 2; simp at b0 b1 b2; go_simp; try with_reducible rfl)
  refine RC.want (i := 1) (by kernel_rfl) rfl (by rfl) (fun K hK => ?_)
  go_simp
  refine (HTO _ (h.later hBd)).mono ?_
  rintro e w2 ⟨ao3', cap3', ao4', cap4', ao5', cap5', ao6', cap6', rfl, p3, p4, p5, p6, hc⟩
  simp only
  have HC1 := (⟨HC0.1.below hc (by omega), HC0.2.below hc (by omega)⟩ : BxC w.heap.size #[.int .i64 x.1, .int .i64 x.2.1, .int .i64 x.2.2.1, .slice ao3 x.2.2.2.1.length cap3, .slice ao4 x.2.2.2.2.1.length cap4, .slice ao5 x.2.2.2.2.2.1.length cap5, .slice ao6 x.2.2.2.2.2.2.length cap6] w2 ∧ BxC (w.heap.size + 1) #[.int .i64 px, .int .i64 py, .int .i64 pl] w2)
  have hle1 : w.heap.size + 2 ≤ w2.heap.size := Nat.le_trans hle hc.size
  have hBe := hBd.trans (hc.mono (by omega))
  have hS2 := skyAt_of p3 p4 p5 p6
  clear p3 p4 p5 p6
  clear hc HC0 hle hBd
  refine hK _ _ HC1 ?_
  clear hK K
  have HC0 := HC1
  have hle := hle1
  have hBd := hBe
  clear HC1 hle1 hBe
  refine RC.want (i := 3) (by kernel_rfl) rfl (by rfl) (fun K hK => ?_)
  go_simp
  refine (HP _).mono ?_
  rintro e w3 ⟨rfl, hc⟩
  simp only
  have HC1 := (⟨HC0.1.below hc (by omega), HC0.2.below hc (by omega)⟩ : BxC w.heap.size #[.int .i64 x.1, .int .i64 x.2.1, .int .i64 x.2.2.1, .slice ao3 x.2.2.2.1.length cap3, .slice ao4 x.2.2.2.2.1.length cap4, .slice ao5 x.2.2.2.2.2.1.length cap5, .slice ao6 x.2.2.2.2.2.2.length cap6] w3 ∧ BxC (w.heap.size + 1) #[.int .i64 px, .int .i64 py, .int .i64 pl] w3)
  have hle1 : w.heap.size + 2 ≤ w3.heap.size := Nat.le_trans hle hc.size
  have hBe := hBd.trans (hc.mono (by omega))
  have hS3 := hS2.later hc
  clear hc HC0 hle hBd
  refine hK _ _ HC1 ?_
  clear hK K
  have HC0 := HC1
  have hle := hle1
  have hBd := hBe
  clear HC1 hle1 hBe
  refine RC.want (i := 4) (by kernel_rfl) rfl (by rfl) (fun K hK => ?_)
  go_simp
  refine (HSW _ _ _ _ _ _ _ _ _ hS3).mono ?_
  rintro e w4 ⟨rfl, hc⟩
  simp only
  have HC1 := (⟨HC0.1.below hc (by omega), HC0.2.below hc (by omega)⟩ : BxC w.heap.size #[.int .i64 x.1, .int .i64 x.2.1, .int .i64 x.2.2.1, .slice ao3 x.2.2.2.1.length cap3, .slice ao4 x.2.2.2.2.1.length cap4, .slice ao5 x.2.2.2.2.2.1.length cap5, .slice ao6 x.2.2.2.2.2.2.length cap6] w4 ∧ BxC (w.heap.size + 1) #[.int .i64 px, .int .i64 py, .int .i64 pl] w4)
  have hle1 : w.heap.size + 2 ≤ w4.heap.size := Nat.le_trans hle hc.size
  have hBe := hBd.trans (hc.mono (by omega))
  clear hc HC0 hle hBd
  refine hK _ _ HC1 ?_
  clear hK K
  have HC0 := HC1
  have hle := hle1
  have hBd := hBe
  clear HC1 hle1 hBe
  refine RC.take (i := 5) (v := ?va5) rfl (by kernel_rfl) (by kernel_rfl) (by kernel_rfl) (fun _ _ _ h => h) HC0 (by rfl) ?ya5 ?ra5
  case ya5 => (intro W hW; go_simp; try with_reducible rfl)
  refine RC.take (i := 6) (v := ?va6) rfl (by kernel_rfl) (by kernel_rfl) (by kernel_rfl) (fun _ _ _ h => h) HC0 (by rfl) ?ya6 ?ra6
  case ya6 => (intro W hW; go_simp; try with_reducible rfl)
  refine RC.take (i := 7) (v := ?va7) rfl (by kernel_rfl) (by kernel_rfl) (by kernel_rfl) (fun _ _ _ h => h) HC0 (by rfl) ?ya7 ?ra7
  case ya7 => (intro W hW; go_simp; try with_reducible rfl)
  refine RC.take (i := 8) (v := ?va8) rfl (by kernel_rfl) (by kernel_rfl) (by kernel_rfl) (fun _ _ _ h => h) HC0 (by rfl) ?ya8 ?ra8
  case ya8 => (intro W hW; go_simp; try with_reducible rfl)
  refine RC.take (i := 9) (v := ?va9) rfl (by kernel_rfl) (by kernel_rfl) (by kernel_rfl) (fun _ _ _ h => h) HC0 (by rfl) ?ya9 ?ra9
  case ya9 => (intro W hW; go_simp; try with_reducible rfl)
  refine RC.done (by kernel_rfl) ?_
  have a0 := HC0.1 0
  have a1 := HC0.1 1
  have a2 := HC0.1 2
  have a3 := HC0.1 3
  have a4 := HC0.1 4
  have a5 := HC0.1 5
  have a6 := HC0.1 6
  simp at a0 a1 a2 a3 a4 a5 a6
  have HTO4 := HTO w4 (h.later hBd)
  clear hS2 hS3 HSW
  go_wp2_with fail
  refine HTO4.mono ?_
  rintro e w5 ⟨ao3q, cap3q, ao4q, cap4q, ao5q, cap5q, ao6q, cap6q, rfl, p3, p4, p5, p6, hb5⟩
  have hS5 := skyAt_of p3 p4 p5 p6
  have HS5 := HC0.1.below hb5 (by omega)
  have HP5 := HC0.2.below hb5 (by omega)
  have hB5 := hBd.trans (hb5.mono (by omega))
  have hz5 : w.heap.size + 2 ≤ w5.heap.size := Nat.le_trans hle hb5.size
  clear a0 a1 a2 a3 a4 a5 a6 HTO4 hb5 p3 p4 p5 p6 HC0 hBd hle
  go_wp2_with fail
  obtain ⟨w6, hw6⟩ : ∃ w6, w6 = w5.alloc (.cells #[.int .i64 x.1, .int .i64 x.2.1, .int .i64 x.2.2.1, .slice ao3q x.2.2.2.1.length cap3q, .slice ao4q x.2.2.2.2.1.length cap4q, .slice ao5q x.2.2.2.2.2.1.length cap5q, .slice ao6q x.2.2.2.2.2.2.length cap6q] 38) := ⟨_, rfl⟩
  have hb6 : Below w5.heap.size w5 w6 := by rw [hw6]; exact (Below.refl _ _).alloc (Nat.le_refl _) _
  have HX6 : BxC w5.heap.size #[.int .i64 x.1, .int .i64 x.2.1, .int .i64 x.2.2.1, .slice ao3q x.2.2.2.1.length cap3q, .slice ao4q x.2.2.2.2.1.length cap4q, .slice ao5q x.2.2.2.2.2.1.length cap5q, .slice ao6q x.2.2.2.2.2.2.length cap6q] w6 := by rw [hw6]; exact BxC.new w5 _ _
  have hz6 : w6.heap.size = w5.heap.size + 1 := by rw [hw6]; simp
  rw [← hw6]
  clear hw6
  have hbd6 : Below w5.heap.size w5 w6.drew := hb6.drew
  have HC0 : BxC w.heap.size #[.int .i64 x.1, .int .i64 x.2.1, .int .i64 x.2.2.1, .slice ao3 x.2.2.2.1.length cap3, .slice ao4 x.2.2.2.2.1.length cap4, .slice ao5 x.2.2.2.2.2.1.length cap5, .slice ao6 x.2.2.2.2.2.2.length cap6] w6.drew ∧ BxC (w.heap.size + 1) #[.int .i64 px, .int .i64 py, .int .i64 pl] w6.drew ∧ BxC w5.heap.size #[.int .i64 x.1, .int .i64 x.2.1, .int .i64 x.2.2.1, .slice ao3q x.2.2.2.1.length cap3q, .slice ao4q x.2.2.2.2.1.length cap4q, .slice ao5q x.2.2.2.2.2.1.length cap5q, .slice ao6q x.2.2.2.2.2.2.length cap6q] w6.drew := ⟨HS5.below hbd6 (by omega), HP5.below hbd6 (by omega), HX6.below ((Below.refl (w5.heap.size + 1) _).drew) (by omega)⟩
  have hBd := hB5.trans (hbd6.mono (by omega))
  have hle : w5.heap.size + 1 ≤ w6.drew.heap.size := by show _ ≤ w6.heap.size; omega
  have hS6 := hS5.later hbd6
  clear HS5 HP5 HX6 hb6 hbd6 hB5 hS5 hz6
  refine wp_region_RC (fun W => BxC w.heap.size #[.int .i64 x.1, .int .i64 x.2.1, .int .i64 x.2.2.1, .slice ao3 x.2.2.2.1.length cap3, .slice ao4 x.2.2.2.2.1.length cap4, .slice ao5 x.2.2.2.2.2.1.length cap5, .slice ao6 x.2.2.2.2.2.2.length cap6] W ∧ BxC (w.heap.size + 1) #[.int .i64 px, .int .i64 py, .int .i64 pl] W ∧ BxC w5.heap.size #[.int .i64 x.1, .int .i64 x.2.1, .int .i64 x.2.2.1, .slice ao3q x.2.2.2.1.length cap3q, .slice ao4q x.2.2.2.2.1.length cap4q, .slice ao5q x.2.2.2.2.2.1.length cap5q, .slice ao6q x.2.2.2.2.2.2.length cap6q] W) mixedF ?_
  refine RC.take (i := 0) (v := ?vb0) rfl (by kernel_rfl) (by kernel_rfl) (by kernel_rfl) (fun _ _ _ h => h) HC0 (by rfl) ?yb0 ?rb0
  case yb0 => (intro W hW; obtain ⟨h1, h2, h3⟩ := hW; have a0 := h1 0; have a1 := h1 1; have a2 := h1 2; have a3 := h1 3; have a4 := h1 4; have a5 := h1 5; have a6 := h1 6; simp at a0 a1 a2 a3 a4 a5 a6; have b0 := h2 0; have b1 := h2 1; have b2 := h2 2; simp at b0 b1 b2; have d0 := h3 0; have d1 := h3 1; have d2 := h3 2; have d3 := h3 3; have d4 := h3 4; have d5 := h3 5; have d6 := h3 6; simp at d0 d1 d2 d3 d4 d5 d6; go_simp; try with_reducible rfl)
  refine RC.take (i := 1) (v := ?vb1) rfl (by kernel_rfl) (by kernel_rfl) (by kernel_rfl) (fun _ _ _ h => h) HC0 (by rfl) ?yb1 ?rb1
  case yb1 => (intro W hW; obtain ⟨h1, h2, h3⟩ := hW; have a0 := h1 0; have a1 := h1 1; have a2 := h1 2; have a3 := h1 3; have a4 := h1 4; have a5 := h1 5; have a6 := h1 6; simp at a0 a1 a2 a3 a4 a5 a6; have b0 := h2 0; have b1 := h2 1; have b2 := h2 2; simp at b0 b1 b2; have d0 := h3 0; have d1 := h3 1; have d2 := h3 2; have d3 := h3 3; have d4 := h3 4; have d5 := h3 5; have d6 := h3 6; simp at d0 d1 d2 d3 d4 d5 d6; go_simp; try with_reducible rfl)
  refine RC.want (i := 2) (by kernel_rfl) rfl (by rfl) (fun K hK => ?_)
  go_simp
  refine (HP _).mono ?_
  rintro e w7 ⟨rfl, hc⟩
  simp only
  have HC1 := (⟨HC0.1.below hc (by omega), HC0.2.1.below hc (by omega), HC0.2.2.below hc (by omega)⟩ : BxC w.heap.size #[.int .i64 x.1, .int .i64 x.2.1, .int .i64 x.2.2.1, .slice ao3 x.2.2.2.1.length cap3, .slice ao4 x.2.2.2.2.1.length cap4, .slice ao5 x.2.2.2.2.2.1.length cap5, .slice ao6 x.2.2.2.2.2.2.length cap6] w7 ∧ BxC (w.heap.size + 1) #[.int .i64 px, .int .i64 py, .int .i64 pl] w7 ∧ BxC w5.heap.size #[.int .i64 x.1, .int .i64 x.2.1, .int .i64 x.2.2.1, .slice ao3q x.2.2.2.1.length cap3q, .slice ao4q x.2.2.2.2.1.length cap4q, .slice ao5q x.2.2.2.2.2.1.length cap5q, .slice ao6q x.2.2.2.2.2.2.length cap6q] w7)
  have hle1 : w5.heap.size + 1 ≤ w7.heap.size := Nat.le_trans hle hc.size
  have hBe := hBd.trans (hc.mono (by omega))
  have hS7 := hS6.later hc
  clear hc HC0 hle hBd
  refine hK _ _ HC1 ?_
  clear hK K
  have HC0 := HC1
  have hle := hle1
  have hBd := hBe
  clear HC1 hle1 hBe
  refine RC.want (i := 3) (by kernel_rfl) rfl (by rfl) (fun K hK => ?_)
  go_simp
  refine (HIW _ _ _ _ _ _ _ _ _ hS7 (hT.later hBd)).mono ?_
  rintro e w8 ⟨rfl, hc⟩
  simp only
  have HC1 := (⟨HC0.1.below hc (by omega), HC0.2.1.below hc (by omega), HC0.2.2.below hc (by omega)⟩ : BxC w.heap.size #[.int .i64 x.1, .int .i64 x.2.1, .int .i64 x.2.2.1, .slice ao3 x.2.2.2.1.length cap3, .slice ao4 x.2.2.2.2.1.length cap4, .slice ao5 x.2.2.2.2.2.1.length cap5, .slice ao6 x.2.2.2.2.2.2.length cap6] w8 ∧ BxC (w.heap.size + 1) #[.int .i64 px, .int .i64 py, .int .i64 pl] w8 ∧ BxC w5.heap.size #[.int .i64 x.1, .int .i64 x.2.1, .int .i64 x.2.2.1, .slice ao3q x.2.2.2.1.length cap3q, .slice ao4q x.2.2.2.2.1.length cap4q, .slice ao5q x.2.2.2.2.2.1.length cap5q, .slice ao6q x.2.2.2.2.2.2.length cap6q] w8)
  have hle1 : w5.heap.size + 1 ≤ w8.heap.size := Nat.le_trans hle hc.size
  have hBe := hBd.trans (hc.mono (by omega))
  have hS8 := hS7.later hc
  clear hc HC0 hle hBd
  refine hK _ _ HC1 ?_
  clear hK K
  have HC0 := HC1
  have hle := hle1
  have hBd := hBe
  clear HC1 hle1 hBe
  refine RC.take (i := 4) (v := ?vb4) rfl (by kernel_rfl) (by kernel_rfl) (by kernel_rfl) (fun _ _ _ h => h) HC0 (by rfl) ?yb4 ?rb4
  case yb4 => (intro W hW; go_simp; try with_reducible rfl)
  refine RC.take (i := 5) (v := ?vb5) rfl (by kernel_rfl) (by kernel_rfl) (by kernel_rfl) (fun _ _ _ h => h) HC0 (by rfl) ?yb5 ?rb5
  case yb5 => (intro W hW; go_simp; try with_reducible rfl)
  refine RC.take (i := 6) (v := ?vb6) rfl (by kernel_rfl) (by kernel_rfl) (by kernel_rfl) (fun _ _ _ h => h) HC0 (by rfl) ?yb6 ?rb6
  case yb6 => (intro W hW; go_simp; try with_reducible rfl)
  refine RC.take (i := 7) (v := ?vb7) rfl (by kernel_rfl) (by kernel_rfl) (by kernel_rfl) (fun _ _ _ h => h) HC0 (by rfl) ?yb7 ?rb7
  case yb7 => (intro W hW; go_simp; try with_reducible rfl)
  refine RC.take (i := 8) (v := ?vb8) rfl (by kernel_rfl) (by kernel_rfl) (by kernel_rfl) (fun _ _ _ h => h) HC0 (by rfl) ?yb8 ?rb8
  case yb8 => (intro W hW; go_simp; try with_reducible rfl)
  refine RC.done (by kernel_rfl) ?_
  have hA8 := h.later hBd
  have a0 := HC0.1 0
  have a1 := HC0.1 1
  have a2 := HC0.1 2
  have a3 := HC0.1 3
  have a4 := HC0.1 4
  have a5 := HC0.1 5
  have a6 := HC0.1 6
  simp at a0 a1 a2 a3 a4 a5 a6
  have d0 := HC0.2.2 0
  have d1 := HC0.2.2 1
  have d2 := HC0.2.2 2
  have d3 := HC0.2.2 3
  have d4 := HC0.2.2 4
  have d5 := HC0.2.2 5
  have d6 := HC0.2.2 6
  simp at d0 d1 d2 d3 d4 d5 d6
  have hs2 : (rv != rv) = false := by simp
  have hw58 : w5.heap.size < w8.heap.size := by omega
  have hw8 : w.heap.size ≤ w8.heap.size := by omega
  clear HC0 HP HIW hS6 hS7 hle
  go_wp2_with fail
  have hbd : Below w8.heap.size w8 w8.drew := (Below.refl _ _).drew
  have hA8d := hA8.later hbd
  have hS8d := hS8.later hbd
  have HTO8 := HTO w8.drew hA8d
  clear HTO hA8 hS8 hA8d
  go_region_with (first | (go_at_call 7; refine HTO8.mono ?_; rintro e w9 ⟨ao3r, cap3r, ao4r, cap4r, ao5r, cap5r, ao6r, cap6r, rfl, p3, p4, p5, p6, hb9⟩; have k0 := (hb9.cell (p := ⟨w5.heap.size, 0, none⟩) hw58).trans d0; have k1 := (hb9.cell (p := ⟨w5.heap.size, 1, none⟩) hw58).trans d1; have k2 := (hb9.cell (p := ⟨w5.heap.size, 2, none⟩) hw58).trans d2; have k3 := (hb9.cell (p := ⟨w5.heap.size, 3, none⟩) hw58).trans d3; have k4 := (hb9.cell (p := ⟨w5.heap.size, 4, none⟩) hw58).trans d4; have k5 := (hb9.cell (p := ⟨w5.heap.size, 5, none⟩) hw58).trans d5; have k6 := (hb9.cell (p := ⟨w5.heap.size, 6, none⟩) hw58).trans d6) | (go_at_call 10; refine (eqSky_any x ao3q cap3q ao4q cap4q ao5q cap5q ao6q cap6q ao3r cap3r ao4r cap4r ao5r cap5r ao6r cap6r _ (hS8d.p3.later hb9) (p3.mono fresh_old) (hS8d.p4.later hb9) (p4.mono fresh_old) (hS8d.p5.later hb9) (p5.mono fresh_old) (hS8d.p6.later hb9) (p6.mono fresh_old) hn).mono ?_; rintro e w10 ⟨rfl, hb10⟩))
  all_goals
    go_wp2
    go_ret
    exact ⟨rfl, ((hBd.trans (hbd.mono hw8)).trans (hb9.mono (show w.heap.size ≤ w8.heap.size from hw8))).trans (hb10.mono (by have h1 : w8.heap.size ≤ w9.heap.size := hb9.size; omega))⟩

set_option maxRecDepth 100000 in
set_option maxHeartbeats 1000000 in
theorem whereLaw_big (x : DSky) (ao3 : Option Addr) (cap3 : Nat) (ao4 : Option Addr) (cap4 : Nat) (ao5 : Option Addr) (cap5 : Nat) (ao6 : Option Addr) (cap6 : Nat) (p : DPlace) (w : World) (h : SkyAt w x ao3 cap3 ao4 cap4 ao5 cap5 ao6 cap6) (hn : ¬ wSky x ≤ 1048576) :
    Calls Tryd.prog 3 #[.agg #[.int .i64 x.1, .int .i64 x.2.1, .int .i64 x.2.2.1, .slice ao3 x.2.2.2.1.length cap3, .slice ao4 x.2.2.2.2.1.length cap4, .slice ao5 x.2.2.2.2.2.1.length cap5, .slice ao6 x.2.2.2.2.2.2.length cap6], vPl p] w fun e w' => e = .returned (.bool true) ∧ Below w.heap.size w w' := by
  have hsz : szR 1048576 (wSky x) = -1 := szR_no (by omega)
  obtain ⟨px, py, pl⟩ := p
  simp only [vPl] at *
  have hb0 : Below w.heap.size w ((w.alloc (.cells #[.int .i64 x.1, .int .i64 x.2.1, .int .i64 x.2.2.1, .slice ao3 x.2.2.2.1.length cap3, .slice ao4 x.2.2.2.2.1.length cap4, .slice ao5 x.2.2.2.2.2.1.length cap5, .slice ao6 x.2.2.2.2.2.2.length cap6] 27)).alloc (.cells #[.int .i64 px, .int .i64 py, .int .i64 pl] 29)) := ((Below.refl _ _).alloc (Nat.le_refl _) _).alloc (by simp) _
  have hA := h.later hb0
  have hcall := szSky_any x ao3 cap3 ao4 cap4 ao5 cap5 ao6 cap6 1048576 _ (by omega) (by omega) hA.p3 hA.p4 hA.p5 hA.p6
  rw [hsz] at hcall
  clear hsz
  go_enter Tryd.func3, Tryd.ntmps3
  go_wp2_with fail
  refine hcall.mono ?_
  rintro e w1 ⟨rfl, hb1⟩
  have hb2 := hb0.trans (hb1.mono hb0.size)
  clear hb1 hcall
  go_wp2
  go_ret
  exact ⟨rfl, hb2⟩

theorem whereLaw (x : DSky) (ao3 : Option Addr) (cap3 : Nat) (ao4 : Option Addr) (cap4 : Nat) (ao5 : Option Addr) (cap5 : Nat) (ao6 : Option Addr) (cap6 : Nat) (p : DPlace) (w : World) (h : SkyAt w x ao3 cap3 ao4 cap4 ao5 cap5 ao6 cap6) (hT : TurnsLaid w) :
    Calls Tryd.prog 3 #[.agg #[.int .i64 x.1, .int .i64 x.2.1, .int .i64 x.2.2.1, .slice ao3 x.2.2.2.1.length cap3, .slice ao4 x.2.2.2.2.1.length cap4, .slice ao5 x.2.2.2.2.2.1.length cap5, .slice ao6 x.2.2.2.2.2.2.length cap6], vPl p] w fun e w' => e = .returned (.bool true) ∧ Below w.heap.size w w' := by
  by_cases hn : wSky x ≤ 1048576
  · exact whereLaw_small x ao3 cap3 ao4 cap4 ao5 cap5 ao6 cap6 p w h hT hn
  · exact whereLaw_big x ao3 cap3 ao4 cap4 ao5 cap5 ao6 cap6 p w h hn

end Go.Proofs.YtnjbplcdfiddeaaDoor

/-
  For every sky and every place, laws.FnExactSkyWhere returns true, and both read behind the call as they read before: impl.SkyWhere answers as the specification's SkyWhere does and writes into no argument.
  The package's array of turn words starts as the program's text lays it: the given tie pays that (a tied card, Rows.FnExactSkyWhereCardSaid). No condition of ours.
-/
namespace Go.Proofs.YtnjbplcdfiddeaaDoor
namespace ExactWhere
open Go.ChangeShapes Go.WideShapes Go.ChangeAt Go.RowKit
set_option linter.unusedVariables false

theorem own : ownKnob Tryd.prog.godebug = none := by kernel_rfl
theorem laidOut : laidOutB Tryd.prog = true := by kernel_rfl

def vPlace : View DPlace := vPair vInt (vPair vInt vInt)
theorem opPlace : Opens Tryd.prog 29 vPlace :=
  opens_struct Tryd.underlying29 (by kernel_rfl) (opensFs_cons rfl (by kernel_rfl) (opens_int Tryd.underlying3) (opensFs_cons rfl (by kernel_rfl) (opens_int Tryd.underlying3) (opensFs_one rfl (by kernel_rfl) (opens_int Tryd.underlying3))))
set_option maxRecDepth 100000 in
theorem place_of {H : Type} {enc : TypeId × Value → H} {W : World} {base : Nat} {v : Value} {d : DataW H} {p : List MemPlace} (hv : Value.okWide Tryd.prog W .any base 29 v) (h : DataW.Trod enc Tryd.prog W 0 (fun _ => true) true 29 v d p) : ∃ q : DPlace, v = vPl q := by
  obtain ⟨cs, rfl, hcs⟩ := okWide_struct Tryd.underlying29 hv
  obtain ⟨fuel, h1⟩ := h
  obtain ⟨x, hx⟩ := opPlace _ _ _ _ _ _ _ _ _ h1
  obtain ⟨c0, r0, hc, ⟨rfl, p0⟩, c1, r1, rfl, ⟨rfl, p1⟩, rfl, p2⟩ := hx
  refine ⟨x, ?_⟩
  obtain rfl : cs = #[.int .i64 x.1, .int .i64 x.2.1, .int .i64 x.2.2] := by
    apply Array.ext'
    exact hc
  rfl

set_option maxRecDepth 100000 in
theorem contract (H : Type) (enc : TypeId × Value → H) (W : World) (base : Nat) (args : Array Value) (ds gs : List (DataW H)) (before : List MemPlace)
    (hval : ∀ (j : Nat) t v, Tryd.f3.params[j]? = some t → args[j]? = some v → Value.okWide Tryd.prog W .any base t v)
    (hW : DataW.Whole enc Tryd.prog Tryd.f3.params.toList Rows.fnExactSkyWhereSpec.vars false W args.toList ds gs before) (hL : laidMetH Tryd.prog Rows.fnExactSkyWhereRow.laid W) :
    Calls Tryd.prog 3 args W fun e W' => ∃ v, e = .returned v ∧ Rows.fnExactSkyWhereSpec.post enc Tryd.prog Tryd.f3 false true false false W args v W' := by
  have hW' := hW
  have hT : TurnsLaid W := turns_of_laid (rest := []) hL
  obtain ⟨p, q, hA0, hV, rfl, hfz, hnd⟩ := hW
  have hA : DataW.TrodAll enc Tryd.prog W 0 (fun _ => true) true Tryd.f3.params.toList args.toList ds p := hA0
  rw [Tryd.params3] at hA hval
  have hlt := hA.lt
  obtain ⟨v0, vs0, d0, ds0, p0, q0, hargs, rfl, rfl, h0, r0⟩ := trodAll_cons hA
  obtain ⟨v1, vs1, d1, ds1, p1, q1, rfl, rfl, rfl, h1x, r1⟩ := trodAll_cons r0
  obtain ⟨rfl, rfl, rfl⟩ := trodAll_nil r1
  obtain rfl : args = #[v0, v1] := by cases args; simp_all
  obtain ⟨pt, rfl⟩ := place_of (hval 1 29 v1 rfl rfl) h1x
  obtain ⟨cs, rfl, hcs⟩ := okWide_struct Tryd.underlying27 (hval 0 27 v0 rfl rfl)
  obtain ⟨fuel, h1⟩ := h0
  obtain ⟨x, hx⟩ := opSky _ _ _ _ _ _ _ _ _ h1
  obtain ⟨ao3, cap3, ao4, cap4, ao5, cap5, ao6, cap6, hc, _, _, _, p3, p4, p5, p6⟩ := cells_Sky hx
  obtain rfl : cs = skyCells x ao3 cap3 ao4 cap4 ao5 cap5 ao6 cap6 := by
    apply Array.ext'
    exact hc
  obtain ⟨gd, hgs⟩ : ∃ g1, gs = [g1] := by
    obtain ⟨_, _, _, _, d, _, e, _⟩ := trodVars_one hV
    exact ⟨d, e⟩
  subst hgs
  clear hA0 hval hx hc hcs
  refine (whereLaw x ao3 cap3 ao4 cap4 ao5 cap5 ao6 cap6 pt W ⟨p3, p4, p5, p6⟩ hT).mono fun e W' ⟨he, bel⟩ => ?_
  subst he
  refine ⟨_, rfl, _, _, _, [], _, _, hW', trodAll_mk1 (shut_bool Tryd.underlying4 _), trodAll_cons_mk (Below.trod laidOut (by kernel_rfl) (of_decide_eq_true (by kernel_rfl)) ⟨fuel, h1⟩ bel (fun y hy => hlt y (by simp [hy]))) (trodAll_cons_mk (Below.trod laidOut (by kernel_rfl) (of_decide_eq_true (by kernel_rfl)) h1x bel (fun y hy => hlt y (by simp [hy]))) trodAll_mk0), Below.trodVars laidOut bel (by kernel_rfl) hV, bel.frame _, fun h => by cases h⟩

/-- A world for the witness: the settled one, the array (block 0) holding what its initialiser lays. -/
noncomputable def laidWorld (os : Os) : World :=
  { World.holding Tryd.prog os ⟨#[], #[], []⟩ with heap := (World.holding Tryd.prog os ⟨#[], #[], []⟩).heap.modify 0 fun
      | .cells _ t frozen => .cells turnCells t frozen
      | o => o }
def nothing : Value := .agg #[.int .i64 0, .int .i64 0, .int .i64 0, .slice none 0 0, .slice none 0 0, .slice none 0 0, .slice none 0 0]
theorem laid_met (os : Os) : laidMet Tryd.prog Rows.fnExactSkyWhereRow.laid ((laidWorld os).forCall (fun _ _ => 0) ⟨#[], #[nothing, vPl (0, 0, 0)], []⟩).memory :=
  laidMet_of_run' 8 (by kernel_rfl) (by kernel_rfl)

theorem reads (os : Os) {H : Type} (enc : TypeId × Value → H) : ∃ places, DataW.whole enc Tryd.prog ((laidWorld os).forCall (fun _ _ => 0) ⟨#[], #[nothing, vPl (0, 0, 0)], []⟩).memory Tryd.f3.params.toList Rows.fnExactSkyWhereSpec.vars false #[nothing, vPl (0, 0, 0)].toList 8 = some ([.agg [.lit (.int .i64 0), .lit (.int .i64 0), .lit (.int .i64 0), .nil, .nil, .nil, .nil], .agg [.lit (.int .i64 0), .lit (.int .i64 0), .lit (.int .i64 0)]], [.agg [.lit (.string [110]), .lit (.string [110, 101]), .lit (.string [101]), .lit (.string [115, 101]), .lit (.string [115]), .lit (.string [115, 119]), .lit (.string [119]), .lit (.string [110, 119])]], places) :=
  ⟨MemPlace.row ⟨0, 0, none⟩ 8, by kernel_rfl⟩

set_option maxRecDepth 100000 in
theorem lifted (os : Os) (started : os.Started) (H : Type) (enc : TypeId × Value → H) (F : Stop.Interp) :
    ReturnsInHanded {} Tryd.checked os 3 .any ((OpenSpec.ofChange Rows.fnExactSkyWhereSpec).preRow enc Tryd.prog Tryd.f3 Rows.fnExactSkyWhereRow.domain false Rows.fnExactSkyWhereRow.laid) (((OpenSpec.ofChange Rows.fnExactSkyWhereSpec).at F).post enc Tryd.prog Tryd.f3 false true false false) := by
  obtain ⟨places, hx⟩ := reads os enc
  refine returnsInHanded_of_row (C := Tryd.checked) (s := OpenSpec.ofChange Rows.fnExactSkyWhereSpec) own started (by kernel_rfl) Tryd.func3
    (witness_row_at (enc := enc) (C := Tryd.checked) false (laidWorld os) #[nothing, vPl (0, 0, 0)] rfl (by kernel_rfl) (by kernel_rfl) (by kernel_rfl)
      (OpenSpec.preRow_of_cond 8 hx (by kernel_rfl) (fun k hk => by cases hk) (by kernel_rfl) (laid_met os))) ?_
  intro W base args ds gs before hval hW _ _ _ hL _ _
  exact contract H enc W base args ds gs before hval hW hL

theorem said : Rows.FnExactSkyWhereSaid :=
  OpenClaim.holds_of_cond 3 Tryd.f3 rfl rfl rfl rfl rfl rfl rfl ⟨rfl, rfl, rfl, rfl, rfl⟩ rfl rfl rfl rfl rfl (by kernel_rfl) Tryd.func3 (by kernel_rfl)
    (of_decide_eq_true (by kernel_rfl)) (by unfold Func.isWrapper; first | (rw [if_pos (by decide +kernel)]; kernel_rfl) | (rw [if_neg (by decide +kernel)]; exact ⟨rfl, rfl⟩))
    (fun os started H enc _ F => by rw [OpenClaim.pre_eq_preRow]; exact lifted os started H enc F)

theorem plain (f : FuncId) (fn : Func) (hf : Tryd.pinned.checked.prog.funcNamed "loop.example/lapwing/laws.FnExactSkyWhere" = some f) (hfn : Tryd.pinned.checked.prog.funcs[f]? = some fn) :
    false = Tryd.pinned.checked.prog.looks [] ∧ ∀ (j : Nat) t, fn.params[j]? = some t → Tryd.pinned.checked.prog.wantsStandIn t = false := by
  obtain rfl : f = 3 := Option.some.inj ((show Tryd.prog.funcNamed "loop.example/lapwing/laws.FnExactSkyWhere" = some 3 by kernel_rfl).symm.trans hf) |>.symm
  obtain rfl : fn = Tryd.f3 := (Option.some.inj (Tryd.func3.symm.trans hfn)).symm
  refine ⟨by kernel_rfl, fun j t ht => ?_⟩
  rw [Tryd.params3] at ht
  have ht2 : t = 27 ∨ t = 29 := by simpa using Array.mem_of_getElem? ht
  rcases ht2 with rfl | rfl
  · exact (show Tryd.prog.wantsStandIn 27 = false by kernel_rfl)
  · exact (show Tryd.prog.wantsStandIn 29 = false by kernel_rfl)

end ExactWhere

/-- The card. -/
theorem exactWhere_proved : Rows.FnExactSkyWhereCardSaid :=
  Claim7.holds_tied_plain_at .later [] _ _ _ _ ExactWhere.said (fun _ h => by cases h) (by kernel_rfl) (fun _ h => by cases h) fnExactSkyWhere_row_tie rfl ⟨rfl, rfl⟩ (by kernel_rfl) rfl ExactWhere.plain (by kernel_rfl)
#print axioms exactWhere_proved
end Go.Proofs.YtnjbplcdfiddeaaDoor
