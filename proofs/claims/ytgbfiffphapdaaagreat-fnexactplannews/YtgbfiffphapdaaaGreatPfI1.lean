/- DERIVED. (impl.planSaidRoute).fits: its walk. -/
import Derived.Test.YtgbfiffphapdaaaGreatPfI0
namespace Go.Proofs.YtgbfiffphapdaaaGreat
open Go.RowKit
set_option linter.unusedSimpArgs false
set_option linter.unusedVariables false

theorem TxtAt.at {w : World} {ao : Option Addr} {ws : List ByteArray} (h : TxtAt w ao ws) {i : Nat} (hi : i < ws.length) : ∃ g, ao = some ⟨g, 0, none⟩ ∧ g < w.heap.size ∧ ∀ j (hj : j < ws.length), w.cell? ⟨g, j, none⟩ = some (.string (ws[j]'hj)) := by
  rcases h with h | ⟨g, h1, h2, h3⟩
  · subst h; simp at hi
  · exact ⟨g, h1, h2, h3⟩

set_option maxRecDepth 100000 in
set_option maxHeartbeats 4000000 in
theorem fitsRoute (ao : Option Addr) (cap : Nat) (ps : List DPlanPoint) (v : ByteArray) (w : World) (h : SliceAt vPlanPoint (old w) w ao cap ps) (hv : v.size ≤ 1048576) :
    Calls Tryz.prog 180 #[.agg #[.slice ao ps.length cap], .string v] w fun e w' => e = .returned (.bool (pb (RouteOk ps (wordsP v)))) ∧ Below w.heap.size w w' := by
  have hb0 : Below w.heap.size w (w.alloc (.cells #[.slice ao ps.length cap] 201)) := (Below.refl _ _).alloc (Nat.le_refl _) _
  have HWL : Hid ((wordsP v).length ≤ 1048577) := Nat.le_trans (wordsP_len v) (by omega)
  have HI := fun W => iWords v W hv
  generalize wordsP v = ws at *
  have hwl := HWL.out
  go_enter Tryz.func180, Tryz.ntmps180
  go_wp2_with fail
  refine (HI _).mono ?_
  rintro e w1 ⟨aw, capw, rfl, hT, hb1⟩
  have hB1 := hb0.trans (hb1.mono hb0.size)
  have x0 := box_in hb1 0
  simp at x0
  have hz1 : w.heap.size < w1.heap.size := by have := hb1.size; simp at this; omega
  clear hb1 hb0 HI HWL
  by_cases hr : InR (ws.length : Int) 2 8
  · have hr1 := hr.1
    have hr2 := hr.2
    have HNO : Hid (¬ RouteTo ps ws ws.length → pb (RouteOk ps ws) = false) := fun h1 => pb_no (fun h2 => h1 h2.2)
    have HYES : Hid (RouteTo ps ws ws.length → pb (RouteOk ps ws) = true) := fun h1 => pb_yes ⟨hr, h1⟩
    go_wp2_with (go_at_call 123; refine (from_yes _ _ _ _ hr).mono ?_; rintro e w' ⟨rfl, rfl⟩)
    go_loopw [16] (fun i wr => ∃ k : Nat, k ≤ ws.length ∧ i = .int .i64 k ∧ Hid (RouteTo ps ws k) ∧ Below w1.heap.size w1 wr) (fun i _ => ws.length - (intOf i).toNat)
    case atStart => exact ⟨0, Nat.zero_le _, rfl, RouteTo.zero, Below.refl _ _⟩
    case round =>
      obtain ⟨k, hk, rfl, hpre, hb⟩ := hrel
      have hB := hB1.trans (hb.mono hB1.size)
      by_cases hlt : k < ws.length
      · have hk1 : k - 1 < ws.length := by omega
        obtain ⟨g, rfl, hg, hc⟩ := (hT.later hb).at hlt
        have f0 := hc k hlt
        have f1 := hc (k - 1) hk1
        have y0 := (hb.cell (p := ⟨w.heap.size, 0, none⟩) hz1).trans x0
        have hzr : w.heap.size < wr.heap.size := Nat.lt_of_lt_of_le hz1 hb.size
        have HBADH : Hid (¬ HasNm nmP ps (ws[k]'hlt) → pb (RouteOk ps ws) = false) := fun h1 => HNO.out (fun h2 => h1 (h2 k hlt hlt).1)
        have HBADE : Hid (∀ h0 : 0 < k, (ws[k - 1]'hk1) = (ws[k]'hlt) → pb (RouteOk ps ws) = false) := fun h0 h1 => HNO.out (fun h2 => (h2 k hlt hlt).2 h0 h1)
        have HOK : Hid (HasNm nmP ps (ws[k]'hlt) → (∀ h0 : 0 < k, ¬ (ws[k - 1]'hk1) = (ws[k]'hlt)) → RouteTo ps ws (k + 1)) := fun h1 h2 => hpre.out.next hlt h1 h2
        have hkI : (k : Int) < (ws.length : Int) := by omega
        clear hc hpre HNO HYES hT x0
        generalize ws[k]'hlt = wk at *
        generalize ws[k - 1]'hk1 = wp at *
        go_wp2_with fail
        refine (has_PlanPoint ao cap ps wk _ (h.later hB)).mono ?_
        rintro e w2 ⟨rfl, hb2⟩
        have hb12 := hb.trans (hb2.mono hb.size)
        have hB2 := hB.trans (hb2.mono hB.size)
        have g1 := (hb2.cell (p := ⟨g, k - 1, none⟩) hg).trans f1
        have hg2 : g < w2.heap.size := Nat.lt_of_lt_of_le hg hb2.size
        clear f0 f1 y0 hb2 hB hg
        by_cases hh : HasNm nmP ps wk
        · rw [pb_yes hh]
          by_cases hk0 : 0 < k
          · have hd0 : decide ((0 : Int) < (k : Int)) = true := by simp; omega
            have hkI1 : (k : Int) - 1 < (ws.length : Int) := by omega
            have hkN : ((k : Int) - 1).toNat = k - 1 := by omega
            have hk1I : (1 : Int) ≤ (k : Int) := by omega
            by_cases he : wp = wk
            · have HF : Hid (pb (RouteOk ps ws) = false) := HBADE.out hk0 he
              have heb : (wp.toList == wk.toList) = true := beqL.2 he
              clear HBADH HBADE HOK he hh h
              go_wp2
              go_ret
              exact ⟨by rw [HF.out]; rfl, hB2⟩
            · have HN1 : Hid (RouteTo ps ws (k + 1)) := HOK.out hh (fun _ => he)
              have heb : (wp.toList == wk.toList) = false := beqL_no he
              clear HBADH HBADE HOK he hh h
              go_wp2
              go_roundw
              case rel => exact ⟨k + 1, by omega, by go_num, HN1, hb12⟩
              case measure => simp [intOf]; omega
          · have hd0 : decide ((0 : Int) < (k : Int)) = false := by simp; omega
            have HN1 : Hid (RouteTo ps ws (k + 1)) := HOK.out hh (fun h0 => absurd h0 hk0)
            clear HBADH HBADE HOK hh h
            go_wp2
            go_roundw
            case rel => exact ⟨k + 1, by omega, by go_num, HN1, hb12⟩
            case measure => simp [intOf]; omega
        · rw [pb_no hh]
          have HF : Hid (pb (RouteOk ps ws) = false) := HBADH.out hh
          clear HBADH HBADE HOK hh h
          go_wp2
          go_ret
          exact ⟨by rw [HF.out]; rfl, hB2⟩
      · have hke : k = ws.length := by omega
        subst hke
        have HR : Hid (pb (RouteOk ps ws) = true) := HYES.out hpre.out
        clear hpre HYES HNO h hT
        go_wp2
        go_ret
        exact ⟨by rw [HR.out]; rfl, hB⟩
  · have HR : Hid (pb (RouteOk ps ws) = false) := pb_no (fun h1 => hr h1.1)
    go_wp2_with (go_at_call 123; refine (from_no _ _ _ _ hr).mono ?_; rintro e w' ⟨rfl, rfl⟩)
    go_ret
    exact ⟨by rw [HR.out]; rfl, hB1⟩

end Go.Proofs.YtgbfiffphapdaaaGreat
