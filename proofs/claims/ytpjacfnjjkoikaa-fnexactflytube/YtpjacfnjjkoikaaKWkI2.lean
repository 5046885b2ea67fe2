/- DERIVED. (impl.FlyPath).windows, impl.flyForward: their walks (written by wip/tools/mk_wk2.py). -/
import Derived.Test.YtpjacfnjjkoikaaKWkI1
import Derived.Test.YtpjacfnjjkoikaaKFlI1
import Derived.Test.YtpjacfnjjkoikaaKMtW
import Derived.Test.YtpjacfnjjkoikaaKApp0
import Derived.Maps.AppendAt
namespace Go.Proofs.Ytpjacfnjjkoikaa
namespace Fly
open Go.RowKit
set_option linter.unusedSimpArgs false
set_option linter.unusedVariables false


theorem infoSpn : (Try.prog.info? 65).map (fun i => (i.zero, i.size, i.bytes)) = some (some (.agg #[.int .i64 0, .int .i64 0]), 2, 16) := by kernel_rfl
theorem spL_snoc (T : Nat → RFlySpan) (n k : Nat) (h : k ≤ n) : valsFlySpan ((spL T n).take k) ++ [.int .i64 (T k).1, .int .i64 (T k).2] = valsFlySpan ((spL T n).take (k + 1)) := by
  rw [List.take_succ_eq_append_getElem (by rw [spL_len]; omega), spL_get, valsFlySpan_snoc]

set_option maxRecDepth 100000 in
set_option maxHeartbeats 4000000 in
theorem iWins (x : DFlyPath) (ao : Option Addr) (cap : Nat) (w : World) (h : PathAt w x ao cap) (hn : x.2.1.length ≤ 40) :
    Calls Try.prog 42 #[.agg #[.int .i64 x.1.1, .int .i64 x.1.2, .slice ao x.2.1.length cap, .int .i64 x.2.2.1, .int .i64 x.2.2.2]] w fun e w' => ∃ g c, e = .returned (.slice (some ⟨g, 0, none⟩) (x.2.1.length + 1) c) ∧
      w'.ownsRow w.heap.size 65 2 (.slice (some ⟨g, 0, none⟩) (x.2.1.length + 1) c) (x.2.1.length + 1) (valsFlySpan (spL (fwS x 0) x.2.1.length)) ∧ Below w.heap.size w w' := by
  obtain ⟨i0, hi, hz0, hz1, hz2⟩ := info_parts infoSpn
  have HB0 : Below w.heap.size w (w.alloc (.cells #[.int .i64 x.1.1, .int .i64 x.1.2, .slice ao x.2.1.length cap, .int .i64 x.2.2.1, .int .i64 x.2.2.2] 34)) := (Below.refl _ _).alloc (Nat.le_refl _) _
  have HBD := iBounds x ao cap (w.alloc (.cells #[.int .i64 x.1.1, .int .i64 x.1.2, .slice ao x.2.1.length cap, .int .i64 x.2.2.1, .int .i64 x.2.2.2] 34)) (h.later HB0) hn
  go_enter Try.func42, Try.ntmps42
  go_wp2_with fail
  refine HBD.mono ?_
  rintro e w1 ⟨g2, c2, rfl, hO, hb1⟩
  clear HBD
  have hB1 : Below w.heap.size w w1 := HB0.trans (hb1.mono HB0.size)
  have HC : Hid (∀ k, w1.cell? ⟨g2, k, none⟩ = if k < x.2.1.length + 1 then (bds x ao cap)[k]? else w1.cell? ⟨g2, k, none⟩) := fun k => by
    split
    · have := hO.cellAt k (by omega); exact this
    · rfl
  have hg2 : g2 < w1.heap.size := (hO.lt g2 rfl).2
  have hc2 := (own_caps hO).2
  clear hO hb1 HB0
  have hmS := methWS
  have hmE := methWE
  go_wp2
  go_loopw [3, 9] (fun v i wr => ∃ (k : Nat) (bo : Option Addr) (bc : Nat), k ≤ x.2.1.length + 1 ∧ i = .int .i64 k ∧ v = .slice bo k bc ∧ wr.ownsRow w1.heap.size 65 2 (.slice bo k bc) k (valsFlySpan ((spL (fwS x 0) x.2.1.length).take k)) ∧ Below w1.heap.size w1 wr) (fun _ i _ => x.2.1.length + 1 - (intOf i).toNat)
  case atStart => exact ⟨0, none, 0, Nat.zero_le _, rfl, rfl, World.ownsRow_nil _ _ _ _, Below.refl _ _⟩
  case round =>
    obtain ⟨k, bo, bc, hk, rfl, rfl, hO, hB⟩ := hrel
    by_cases hlt : k < x.2.1.length + 1
    · have hkI : (k : Int) < (x.2.1.length : Int) + 1 := by omega
      have hkI3 : (k : Int) < ((x.2.1.length + 1 : Nat) : Int) := by omega
      have y0 := (hB.cell (p := ⟨g2, k, none⟩) hg2).trans (HC.out k)
      rw [if_pos hlt] at y0
      have HSN := spL_snoc (fwS x 0) x.2.1.length k (by omega)
      rw [fwS_begin] at HSN
      simp only at HSN
      generalize valsFlySpan ((spL (fwS x 0) x.2.1.length).take k) = V0 at *
      obtain ⟨V1, hV1e⟩ : ∃ V1, valsFlySpan ((spL (fwS x 0) x.2.1.length).take (k + 1)) = V1 := ⟨_, rfl⟩
      rw [hV1e] at HSN
      have hV1 := hid hV1e
      clear hV1e
      by_cases hin : k < x.2.1.length
      · rw [bds_in x ao cap k hin] at y0
        rw [lowAt_in hin, highAt_in hin] at HSN
        have HW := fun W => iWinS (x.2.1[k]'hin) W
        generalize x.2.1[k]'hin = s at *
        obtain ⟨px, py, lo, hi', fr, up, hd⟩ := s
        simp only [bdS, vSt, cSt] at y0 HW
        simp only at HSN
        have HSN_ := hid HSN
        have hB_ := hid hB
        have hO_ := hid hO
        clear HSN hB hO h HC
        go_wp2_with fail
        refine (HW _).mono ?_
        rintro e w9 ⟨rfl, hb9⟩
        have hO9 := owns_below hO_.out hb9
        have hz9 := hb9.size
        have hB9 := hid (hB_.out.trans (hb9.mono hB_.out.size))
        have hbs : w1.heap.size ≤ w9.heap.size := Nat.le_trans hB_.out.size hz9
        clear hb9 hO_ hB_ HW y0
        go_wp2_with (at_builtin; refine wpList_append_own_at _ rfl _ _ 28 rfl w1.heap.size 65 i0 (.agg #[.int .i64 0, .int .i64 0]) 2 16 Try.underlying28 hi hz0 hz1 hz2 rfl (by decide) _ _ _ rfl (hO9.alloc _) ⟨w9.heap.size, 0, none⟩ 1 1 [.int .i64 fr, .int .i64 up] rfl rfl (newRow _ _ _) (ones rfl) (by unfold maxLen; omega) (by omega) (by simp; omega) ?_)
        intro v' w5 hown hgrow _ hpos
        obtain ⟨g5, c5, rfl⟩ := owns_pos hown
        have hb5 := hid ((hB9.out.alloc hbs _).grown hgrow (by simp; omega) (fun j hj => own_ge hO9 j hj))
        have HO5 := hid (HSN_.out ▸ hown)
        clear hown hgrow hO9 hB9
        go_wp2
        go_roundw
        case rel => exact ⟨k + 1, _, _, by omega, by go_num, rfl, by rw [hV1.out]; exact HO5.out, hb5.out⟩
        case measure => simp [intOf]; omega
      · have hke : k = x.2.1.length := by omega
        have hbe : (bds x ao cap)[k]? = some (bdE x ao cap) := by rw [hke]; exact bds_end x ao cap
        rw [hbe] at y0
        rw [lowAt_end hin, highAt_end hin] at HSN
        have HW := fun W => iWinE x.1.1 x.1.2 x.2.2.1 x.2.2.2 (.slice ao x.2.1.length cap) W
        simp only [bdE, cPa] at y0
        clear hbe
        have hke_ := hid hke
        clear hke
        have HSN_ := hid HSN
        have hB_ := hid hB
        have hO_ := hid hO
        clear HSN hB hO h HC
        go_wp2_with fail
        refine (HW _).mono ?_
        rintro e w9 ⟨rfl, hb9⟩
        have hO9 := owns_below hO_.out hb9
        have hz9 := hb9.size
        have hB9 := hid (hB_.out.trans (hb9.mono hB_.out.size))
        have hbs : w1.heap.size ≤ w9.heap.size := Nat.le_trans hB_.out.size hz9
        clear hb9 hO_ hB_ HW y0
        go_wp2_with (at_builtin; refine wpList_append_own_at _ rfl _ _ 28 rfl w1.heap.size 65 i0 (.agg #[.int .i64 0, .int .i64 0]) 2 16 Try.underlying28 hi hz0 hz1 hz2 rfl (by decide) _ _ _ rfl (hO9.alloc _) ⟨w9.heap.size, 0, none⟩ 1 1 [.int .i64 x.2.2.1, .int .i64 x.2.2.2] rfl rfl (newRow _ _ _) (ones rfl) (by unfold maxLen; omega) (by omega) (by simp; omega) ?_)
        intro v' w5 hown hgrow _ hpos
        obtain ⟨g5, c5, rfl⟩ := owns_pos hown
        have hb5 := hid ((hB9.out.alloc hbs _).grown hgrow (by simp; omega) (fun j hj => own_ge hO9 j hj))
        have HO5 := hid (HSN_.out ▸ hown)
        clear hown hgrow hO9 hB9
        go_wp2
        go_roundw
        case rel => exact ⟨k + 1, _, _, by omega, by go_num, rfl, by rw [hV1.out]; exact HO5.out, hb5.out⟩
        case measure => simp [intOf]; omega
    · have hke : k = x.2.1.length + 1 := by omega
      subst hke
      have HO : Hid _ := hid hO
      have HB : Hid _ := hid hB
      have HB1 := hid hB1
      clear hO hB HC hB1
      obtain ⟨g5, c5, hbo⟩ := owns_pos HO.out
      cases hbo
      have hfin : Hid (wr.ownsRow w.heap.size 65 2 (.slice (some ⟨g5, 0, none⟩) (x.2.1.length + 1) bc) (x.2.1.length + 1) (valsFlySpan (spL (fwS x 0) x.2.1.length))) := by
        have h1 := HO.out
        rw [List.take_of_length_le (by rw [spL_len]; omega)] at h1
        exact own_base h1 HB1.out.size
      have hfb := hid (HB1.out.trans (HB.out.mono HB1.out.size))
      go_wp2
      go_ret
      exact ⟨g5, bc, rfl, hfin.out, hfb.out⟩

end Fly
end Go.Proofs.Ytpjacfnjjkoikaa
