/- DERIVED. What the law's argument reads as, as plain data; what the laid words give; the law at every argument. -/
import Derived.Test.YthmckgpgpmioeaaDoorVLaw
import Derived.Lib.LaidTab
import Derived.ChangeBears2
namespace Go.Proofs.YthmckgpgpmioeaaDoor
open Go.RowKit Go.WideShapes
set_option linter.unusedSimpArgs false
set_option linter.unusedVariables false

theorem opPoint : Opens Tryd.prog 58 vSkyPoint :=
  opens_struct Tryd.underlying58 (by kernel_rfl) (opensFs_cons rfl (by kernel_rfl) (opens_str Tryd.underlying9) (opensFs_cons rfl (by kernel_rfl) (opens_int Tryd.underlying3) (opensFs_one rfl (by kernel_rfl) (opens_int Tryd.underlying3))))
theorem opBlock : Opens Tryd.prog 124 vSkyBlock :=
  opens_struct Tryd.underlying124 (by kernel_rfl) (opensFs_cons rfl (by kernel_rfl) (opens_int Tryd.underlying3) (opensFs_cons rfl (by kernel_rfl) (opens_int Tryd.underlying3) (opensFs_cons rfl (by kernel_rfl) (opens_int Tryd.underlying3) (opensFs_cons rfl (by kernel_rfl) (opens_int Tryd.underlying3) (opensFs_cons rfl (by kernel_rfl) (opens_int Tryd.underlying3) (opensFs_one rfl (by kernel_rfl) (opens_int Tryd.underlying3)))))))
theorem opRunway : Opens Tryd.prog 69 vSkyRunway :=
  opens_struct Tryd.underlying69 (by kernel_rfl) (opensFs_cons rfl (by kernel_rfl) (opens_str Tryd.underlying9) (opensFs_cons rfl (by kernel_rfl) (opens_int Tryd.underlying3) (opensFs_cons rfl (by kernel_rfl) (opens_int Tryd.underlying3) (opensFs_one rfl (by kernel_rfl) (opens_int Tryd.underlying3)))))
theorem opAirway : Opens Tryd.prog 62 vSkyAirway :=
  opens_struct Tryd.underlying62 (by kernel_rfl) (opensFs_cons rfl (by kernel_rfl) (opens_str Tryd.underlying9) (opensFs_one rfl (by kernel_rfl) (opens_slice Tryd.underlying60 (by kernel_rfl) (by decide) (opens_str Tryd.underlying9))))
theorem opSector : Opens Tryd.prog 66 vSkySector :=
  opens_struct Tryd.underlying66 (by kernel_rfl) (opensFs_cons rfl (by kernel_rfl) (opens_str Tryd.underlying9) (opensFs_one rfl (by kernel_rfl) (opens_slice Tryd.underlying64 (by kernel_rfl) (by decide) opBlock)))
theorem opSky : Opens Tryd.prog 27 vSky :=
  opens_struct Tryd.underlying27 (by kernel_rfl) (opensFs_cons rfl (by kernel_rfl) (opens_int Tryd.underlying3) (opensFs_cons rfl (by kernel_rfl) (opens_int Tryd.underlying3) (opensFs_cons rfl (by kernel_rfl) (opens_int Tryd.underlying3)
    (opensFs_cons rfl (by kernel_rfl) (opens_slice Tryd.underlying22 (by kernel_rfl) (by decide) opPoint) (opensFs_cons rfl (by kernel_rfl) (opens_slice Tryd.underlying23 (by kernel_rfl) (by decide) opAirway)
      (opensFs_cons rfl (by kernel_rfl) (opens_slice Tryd.underlying24 (by kernel_rfl) (by decide) opSector) (opensFs_one rfl (by kernel_rfl) (opens_slice Tryd.underlying25 (by kernel_rfl) (by decide) opRunway))))))))

/-- An array of texts that reads as such a list holds them, cell for cell. -/
theorem strs_of_tab {H : Type} {enc : TypeId × Value → H} {P : Program} {w : World} {base : Nat} {sp : Nat → Bool} {held : Bool} {fuel : Nat} {t e : TypeId} {n : Nat} {cs : List Value} {zs : List (List UInt8)} {p : List MemPlace}
    (ht : P.underlying t = some (.array n e)) (he : P.underlying e = some .string) (hce : P.cellsOf e = 1) (hct : P.cellsOf t = n)
    (h : DataW.trod enc P w base sp held fuel t cs = some (.agg (zs.map fun z => .lit (.string z)), p)) : cs = zs.map fun z => Value.string ⟨z.toArray⟩ := by
  cases fuel with
  | zero => simp [DataW.trod] at h
  | succ fuel =>
    simp only [DataW.trod, ht, hce, hct, Nat.mul_one] at h
    split at h
    · rename_i hl
      obtain ⟨xs, hm, hx⟩ := Option.map_eq_some_iff.1 h
      have hxs : xs.map (·.1) = zs.map fun z => (DataW.lit (.string z) : DataW H) := by
        have := congrArg Prod.fst hx
        simpa using this
      have hxl : xs.length = n := by simpa using Lib.mapM_length hm
      have hzl : zs.length = n := by
        have := congrArg List.length hxs
        simp at this
        omega
      apply List.ext_getElem?
      intro i
      by_cases hi : i < n
      · obtain ⟨b, hb, hf⟩ := Lib.mapM_at hm i i (by simp [hi])
        obtain ⟨z, hc, rfl, _⟩ := DataW.trod_string he hf
        have h1 : cs[i]? = some (.string z) := by
          have := congrArg (·[0]?) hc
          simpa [List.getElem?_take, List.getElem?_drop] using this
        have h2 : (xs.map (·.1))[i]? = some (DataW.lit (.string z.data.toList) : DataW H) := by simp [hb]
        rw [hxs] at h2
        simp only [List.getElem?_map, Option.map_eq_some_iff, DataW.lit.injEq, Lit.string.injEq] at h2
        obtain ⟨z', hz', rfl⟩ := h2
        simp [h1, hz']
      · rw [List.getElem?_eq_none (by omega), List.getElem?_eq_none (by simp; omega)]
    · cases h

theorem gWords : Tryd.prog.globalNamed "loop.example/lapwing/impl.skyTurnWords" = some 0 := by kernel_rfl
theorem gWordsT : (Tryd.prog.globals[0]?).map (·.type) = some 130 := by kernel_rfl
theorem cellsWords : Tryd.prog.cellsOf 130 = 8 := by kernel_rfl
theorem cellsStr : Tryd.prog.cellsOf 9 = 1 := by kernel_rfl

/-- What the row's list gives: the package's array holds the words of the turns. -/
theorem turns_of_laid {W : World} {rest : List (String × DataW Unit)} (h : laidMet Tryd.prog (("loop.example/lapwing/impl.skyTurnWords", .agg [.lit (.string [110]), .lit (.string [110, 101]), .lit (.string [101]), .lit (.string [115, 101]), .lit (.string [115]), .lit (.string [115, 119]), .lit (.string [119]), .lit (.string [110, 119])]) :: rest) W) : TurnsLaid W := by
  obtain ⟨ps, ⟨g', t', cs, fuel, p, q, hg', ht', hvar, hd, _, _⟩, _⟩ := h
  obtain rfl := Option.some.inj (gWords.symm.trans hg')
  obtain rfl := Option.some.inj (gWordsT.symm.trans ht')
  have hcs := strs_of_tab (zs := [[110], [110, 101], [101], [115, 101], [115], [115, 119], [119], [110, 119]]) Tryd.underlying130 Tryd.underlying9 cellsStr cellsWords hd
  have hcs2 : cs = turnCells := by
    apply Array.ext'
    rw [hcs]
    rfl
  intro j hj
  rw [World.var?_cell gWords hvar j, hcs2]

set_option maxHeartbeats 1000000 in
theorem law_big (x : DSky) (ao3 : Option Addr) (cap3 : Nat) (ao4 : Option Addr) (cap4 : Nat) (ao5 : Option Addr) (cap5 : Nat) (ao6 : Option Addr) (cap6 : Nat) (w : World) (h : SkyAt w x ao3 cap3 ao4 cap4 ao5 cap5 ao6 cap6) (hn : ¬ wSky x ≤ 1048576) :
    Calls Tryd.prog 3 #[.agg (skyCells x ao3 cap3 ao4 cap4 ao5 cap5 ao6 cap6)] w fun e w' => e = .returned (.bool true) ∧ Below w.heap.size w w' := by
  have hsz : szR 1048576 (wSky x) = -1 := szR_no (by omega)
  have hb0 : Below w.heap.size w (w.alloc (.cells (skyCells x ao3 cap3 ao4 cap4 ao5 cap5 ao6 cap6) 27)) := (Below.refl _ _).alloc (Nat.le_refl _) _
  have hA := h.later hb0
  have hcall := szSky_any x ao3 cap3 ao4 cap4 ao5 cap5 ao6 cap6 1048576 _ (by omega) (by omega) hA.p3 hA.p4 hA.p5 hA.p6
  rw [hsz] at hcall
  clear hsz
  simp only [skyCells] at *
  go_enter Tryd.func3, Tryd.ntmps3
  go_wp2_with fail
  refine hcall.mono ?_
  rintro e w1 ⟨rfl, hb1⟩
  have hb2 := hb0.trans (hb1.mono hb0.size)
  clear hb1 hcall
  go_wp2
  go_ret
  exact ⟨rfl, hb2⟩

theorem law_any (x : DSky) (ao3 : Option Addr) (cap3 : Nat) (ao4 : Option Addr) (cap4 : Nat) (ao5 : Option Addr) (cap5 : Nat) (ao6 : Option Addr) (cap6 : Nat) (w : World) (h : SkyAt w x ao3 cap3 ao4 cap4 ao5 cap5 ao6 cap6) (hT : TurnsLaid w) :
    Calls Tryd.prog 3 #[.agg (skyCells x ao3 cap3 ao4 cap4 ao5 cap5 ao6 cap6)] w fun e w' => e = .returned (.bool true) ∧ Below w.heap.size w w' := by
  by_cases hn : wSky x ≤ 1048576
  · exact law_small x ao3 cap3 ao4 cap4 ao5 cap5 ao6 cap6 w h hT hn
  · exact law_big x ao3 cap3 ao4 cap4 ao5 cap5 ao6 cap6 w h hn

end Go.Proofs.YthmckgpgpmioeaaDoor
