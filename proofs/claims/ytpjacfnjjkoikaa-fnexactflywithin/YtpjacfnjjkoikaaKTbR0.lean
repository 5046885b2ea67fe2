/- DERIVED. Rooms on plain data; (impl.FlyBox).room, (impl.flyRoom).empty, within, (impl.FlySpan).within: their walks (written by wip/tools/mk_tb.py). -/
import Derived.Test.YtpjacfnjjkoikaaKTbD
import Derived.Test.YtpjacfnjjkoikaaKFlI0
import Derived.Test.YtpjacfnjjkoikaaKWkI0
import Derived.Test.YtpjacfnjjkoikaaKRD0
import Derived.Test.YtpjacfnjjkoikaaKRFlyBox
import Derived.Test.YtpjacfnjjkoikaaKApp0
namespace Go.Proofs.Ytpjacfnjjkoikaa
namespace Fly
open Go.RowKit
set_option linter.unusedSimpArgs false
set_option linter.unusedVariables false


def InB (r a : DFlyBox) : Prop := (InR a.2.2.1 r.2.2.1 r.2.2.2.1 ∧ InR a.2.2.2.1 r.2.2.1 r.2.2.2.1) ∧ (InR a.2.2.2.2.1 r.2.2.2.2.1 r.2.2.2.2.2 ∧ InR a.2.2.2.2.2 r.2.2.2.2.1 r.2.2.2.2.2)
theorem cov_iff {r a : DFlyBox} (h : ¬ NoneB a) : CovB r a ↔ (r.1 = a.1 ∧ r.2.1 = a.2.1) ∧ InB r a := by
  unfold NoneB at h
  unfold CovB InB InR
  constructor
  · rintro ⟨h1, h2, h3, h4, h5, h6⟩; refine ⟨⟨h1.symm, h2.symm⟩, ⟨⟨?_, ?_⟩, ?_, ?_⟩, ⟨?_, ?_⟩, ?_, ?_⟩ <;> omega
  · rintro ⟨⟨h1, h2⟩, ⟨⟨h3, h4⟩, h5, h6⟩, ⟨h7, h8⟩, h9, h10⟩; refine ⟨h1.symm, h2.symm, ?_, ?_, ?_, ?_⟩ <;> omega
theorem pb_and {p q : Prop} : pb (p ∧ q) = (pb p && pb q) := by
  by_cases hp : p
  · by_cases hq : q
    · rw [pb_yes ⟨hp, hq⟩, pb_yes hp, pb_yes hq]; rfl
    · rw [pb_no (fun h => hq h.2), pb_yes hp, pb_no hq]; rfl
  · rw [pb_no (fun h => hp h.1), pb_no hp]; rfl

theorem iRoom (b : DFlyBox) (w : World) :
    Calls Try.prog 63 #[.agg #[.int .i64 b.1, .int .i64 b.2.1, .int .i64 b.2.2.1, .int .i64 b.2.2.2.1, .int .i64 b.2.2.2.2.1, .int .i64 b.2.2.2.2.2]] w fun e w' => e = .returned (.agg #[.int .i64 b.1, .int .i64 b.2.1, .int .i64 b.2.2.1, .int .i64 b.2.2.2.1, .int .i64 b.2.2.2.2.1, .int .i64 b.2.2.2.2.2]) ∧ Below w.heap.size w w' := by
  obtain ⟨a, b, c, d, e, f⟩ := b
  simp only
  go_enter Try.func63, Try.ntmps63
  go_wp2
  refine bodyPost_ret (v := .agg #[.int .i64 a, .int .i64 b, .int .i64 c, .int .i64 d, .int .i64 e, .int .i64 f]) (by simp [results, Try.results63, go_sem]) rfl ⟨rfl, ?_⟩
  repeat (first | exact Below.refl _ _ | refine Below.setCell ?_ (by simp; try omega) _ | refine Below.alloc ?_ (by simp; try omega) _)

theorem iSpanIn (a b c d : Int) (w : World) :
    Calls Try.prog 88 #[.agg #[.int .i64 a, .int .i64 b], .agg #[.int .i64 c, .int .i64 d]] w fun e w' => e = .returned (.bool (pb (InR a c d ∧ InR b c d))) ∧ Below w.heap.size w w' := by
  rw [pb_and]
  have hA := fun W => iHas c d a W
  have hB := fun W => iHas c d b W
  have hb0 : Below w.heap.size w ((w.alloc (.cells #[.int .i64 a, .int .i64 b] 65)).alloc (.cells #[.int .i64 c, .int .i64 d] 65)) := by
    repeat (first | exact Below.refl _ _ | refine Below.setCell ?_ (by simp; try omega) _ | refine Below.alloc ?_ (by simp; try omega) _)
  have HB0 := hid hb0
  clear hb0
  cases h1 : pb (InR a c d)
  · rw [h1] at hA
    have H1 := hid h1
    clear h1
    go_enter Try.func88, Try.ntmps88
    go_wp2_with fail
    refine (hA _).mono ?_
    rintro e w1 ⟨rfl, hb1⟩
    have HB := hid (HB0.out.trans (hb1.mono HB0.out.size))
    clear hb1
    go_wp2
    go_ret
    exact ⟨rfl, HB.out⟩
  · rw [h1] at hA
    have H1 := hid h1
    clear h1
    go_enter Try.func88, Try.ntmps88
    go_wp2_with fail
    refine (hA _).mono ?_
    rintro e w1 ⟨rfl, hb1⟩
    have HB := hid (HB0.out.trans (hb1.mono HB0.out.size))
    have c0 : w1.cell? ⟨w.heap.size, 0, none⟩ = some (.int .i64 a) := by rw [hb1.cell (p := ⟨w.heap.size, 0, none⟩) (by simp; omega)]; go_simp
    have c1 : w1.cell? ⟨w.heap.size, 1, none⟩ = some (.int .i64 b) := by rw [hb1.cell (p := ⟨w.heap.size, 1, none⟩) (by simp; omega)]; go_simp
    have e0 : w1.cell? ⟨w.heap.size + 1, 0, none⟩ = some (.int .i64 c) := by rw [hb1.cell (p := ⟨w.heap.size + 1, 0, none⟩) (by simp)]; go_simp
    have e1 : w1.cell? ⟨w.heap.size + 1, 1, none⟩ = some (.int .i64 d) := by rw [hb1.cell (p := ⟨w.heap.size + 1, 1, none⟩) (by simp)]; go_simp
    clear hb1
    go_wp2_with fail
    refine (hB _).mono ?_
    rintro e w2 ⟨rfl, hb2⟩
    have HB2 := hid (HB.out.trans (hb2.mono HB.out.size))
    clear hb2
    go_wp2
    go_ret
    exact ⟨rfl, HB2.out⟩

theorem iRoomEmpty (b : DFlyBox) (w : World) :
    Calls Try.prog 64 #[.agg #[.int .i64 b.1, .int .i64 b.2.1, .int .i64 b.2.2.1, .int .i64 b.2.2.2.1, .int .i64 b.2.2.2.2.1, .int .i64 b.2.2.2.2.2]] w fun e w' => e = .returned (.bool (pb (NoneB b))) ∧ Below w.heap.size w w' := by
  obtain ⟨x, y, lo, hi, fr, up⟩ := b
  simp only
  have hE : pb (NoneB (x, y, lo, hi, fr, up)) = (decide (hi < lo) || decide (up < fr)) := by
    by_cases h : NoneB (x, y, lo, hi, fr, up)
    · rw [pb_yes h]; unfold NoneB at h; simp only at h; simp; omega
    · rw [pb_no h]; unfold NoneB at h; simp only at h; simp; omega
  rw [hE]
  have hA := fun W => iEmpty (lo, hi) W
  have hB := fun W => iEmpty (fr, up) W
  simp only at hA hB
  have hb0 : Below w.heap.size w (w.alloc (.cells #[.int .i64 x, .int .i64 y, .int .i64 lo, .int .i64 hi, .int .i64 fr, .int .i64 up] 89)) := by
    repeat (first | exact Below.refl _ _ | refine Below.setCell ?_ (by simp; try omega) _ | refine Below.alloc ?_ (by simp; try omega) _)
  have HB0 := hid hb0
  clear hb0 hE
  cases h1 : decide (hi < lo)
  · rw [h1] at hA
    clear h1
    generalize decide (up < fr) = v at *
    go_enter Try.func64, Try.ntmps64
    go_wp2_with fail
    refine (hA _).mono ?_
    rintro e w1 ⟨rfl, hb1⟩
    have HB := hid (HB0.out.trans (hb1.mono HB0.out.size))
    have c4 : w1.cell? ⟨w.heap.size, 4, none⟩ = some (.int .i64 fr) := by rw [hb1.cell (p := ⟨w.heap.size, 4, none⟩) (by simp)]; go_simp
    have c5 : w1.cell? ⟨w.heap.size, 5, none⟩ = some (.int .i64 up) := by rw [hb1.cell (p := ⟨w.heap.size, 5, none⟩) (by simp)]; go_simp
    clear hb1
    go_wp2_with fail
    refine (hB _).mono ?_
    rintro e w2 ⟨rfl, hb2⟩
    have HB2 := hid (HB.out.trans (hb2.mono HB.out.size))
    clear hb2
    go_wp2
    go_ret
    exact ⟨by simp, HB2.out⟩
  · rw [h1] at hA
    clear h1
    generalize decide (up < fr) = v at *
    go_enter Try.func64, Try.ntmps64
    go_wp2_with fail
    refine (hA _).mono ?_
    rintro e w1 ⟨rfl, hb1⟩
    have HB := hid (HB0.out.trans (hb1.mono HB0.out.size))
    clear hb1
    go_wp2
    go_ret
    exact ⟨by simp, HB.out⟩

theorem iRoomIn (a r : DFlyBox) (w : World) :
    Calls Try.prog 66 #[.agg #[.int .i64 a.1, .int .i64 a.2.1, .int .i64 a.2.2.1, .int .i64 a.2.2.2.1, .int .i64 a.2.2.2.2.1, .int .i64 a.2.2.2.2.2], .agg #[.int .i64 r.1, .int .i64 r.2.1, .int .i64 r.2.2.1, .int .i64 r.2.2.2.1, .int .i64 r.2.2.2.2.1, .int .i64 r.2.2.2.2.2]] w fun e w' => e = .returned (.bool (pb (InB r a))) ∧ Below w.heap.size w w' := by
  obtain ⟨x, y, lo, hi, fr, up⟩ := a
  obtain ⟨x', y', lo', hi', fr', up'⟩ := r
  simp only
  unfold InB
  simp only
  rw [pb_and (p := InR lo lo' hi' ∧ InR hi lo' hi')]
  have hA := fun W => iSpanIn lo hi lo' hi' W
  have hB := fun W => iSpanIn fr up fr' up' W
  have hb0 : Below w.heap.size w ((w.alloc (.cells #[.int .i64 x, .int .i64 y, .int .i64 lo, .int .i64 hi, .int .i64 fr, .int .i64 up] 89)).alloc (.cells #[.int .i64 x', .int .i64 y', .int .i64 lo', .int .i64 hi', .int .i64 fr', .int .i64 up'] 89)) := by
    repeat (first | exact Below.refl _ _ | refine Below.setCell ?_ (by simp; try omega) _ | refine Below.alloc ?_ (by simp; try omega) _)
  have HB0 := hid hb0
  clear hb0
  generalize pb (InR fr fr' up' ∧ InR up fr' up') = v at *
  cases h1 : pb (InR lo lo' hi' ∧ InR hi lo' hi')
  · rw [h1] at hA
    clear h1
    go_enter Try.func66, Try.ntmps66
    go_wp2_with fail
    refine (hA _).mono ?_
    rintro e w1 ⟨rfl, hb1⟩
    have HB := hid (HB0.out.trans (hb1.mono HB0.out.size))
    clear hb1
    go_wp2
    go_ret
    exact ⟨by simp, HB.out⟩
  · rw [h1] at hA
    clear h1
    go_enter Try.func66, Try.ntmps66
    go_wp2_with fail
    refine (hA _).mono ?_
    rintro e w1 ⟨rfl, hb1⟩
    have HB := hid (HB0.out.trans (hb1.mono HB0.out.size))
    have c4 : w1.cell? ⟨w.heap.size, 4, none⟩ = some (.int .i64 fr) := by rw [hb1.cell (p := ⟨w.heap.size, 4, none⟩) (by simp; omega)]; go_simp
    have c5 : w1.cell? ⟨w.heap.size, 5, none⟩ = some (.int .i64 up) := by rw [hb1.cell (p := ⟨w.heap.size, 5, none⟩) (by simp; omega)]; go_simp
    have e4 : w1.cell? ⟨w.heap.size + 1, 4, none⟩ = some (.int .i64 fr') := by rw [hb1.cell (p := ⟨w.heap.size + 1, 4, none⟩) (by simp)]; go_simp
    have e5 : w1.cell? ⟨w.heap.size + 1, 5, none⟩ = some (.int .i64 up') := by rw [hb1.cell (p := ⟨w.heap.size + 1, 5, none⟩) (by simp)]; go_simp
    clear hb1
    go_wp2_with fail
    refine (hB _).mono ?_
    rintro e w2 ⟨rfl, hb2⟩
    have HB2 := hid (HB.out.trans (hb2.mono HB.out.size))
    clear hb2
    go_wp2
    go_ret
    exact ⟨by simp, HB2.out⟩

/-- Where the rooms of a row lie. -/
def AtRoom (w : World) (v : Value) (l : List DFlyBox) : Prop := ∃ B, w.ownsRow B 89 6 v l.length (valsFlyBox l)
def HasIn (l : List DFlyBox) (a : DFlyBox) : Prop := ∃ k, ∃ h : k < l.length, InB (l[k]'h) a
set_option maxHeartbeats 2000000 in
theorem iIdxRoom (a : DFlyBox) (l : List DFlyBox) (ao : Option Addr) (cap B : Nat) (w : World) (h : w.ownsRow B 89 6 (.slice ao l.length cap) l.length (valsFlyBox l)) (hl : l.length ≤ 9223372036854775807) :
    Calls Try.prog 87 #[.slice ao l.length cap, .func (.func 66) #[.agg #[.int .i64 a.1, .int .i64 a.2.1, .int .i64 a.2.2.1, .int .i64 a.2.2.2.1, .int .i64 a.2.2.2.2.1, .int .i64 a.2.2.2.2.2]] #[]] w fun e w' => ((HasIn l a ∧ ∃ k : Nat, k ≤ l.length ∧ e = .returned (.int .i64 k)) ∨ (¬ HasIn l a ∧ e = .returned (.int .i64 (-1)))) ∧ Below w.heap.size w w' := by
  have HE := fun (r : DFlyBox) W => iRoomIn a r W
  have hcc := (own_caps h).2
  go_enter Try.func87, Try.ntmps87
  go_wp2
  go_loopw [8] (fun v wr => ∃ k : Nat, k ≤ l.length ∧ v = .int .i64 k ∧ Hid (∀ j (h : j < l.length), j < k → ¬ InB (l[j]'h) a) ∧ Below w.heap.size w wr) (fun v _ => l.length - (intOf v).toNat)
  case atStart => exact ⟨0, Nat.zero_le _, rfl, fun j _ hj => by omega, Below.refl _ _⟩
  case round =>
    obtain ⟨k, hk, rfl, hno, hB⟩ := hrel
    by_cases hlt : k < l.length
    · obtain ⟨g, hg⟩ : ∃ g, ao = some ⟨g, 0, none⟩ := by
        rcases h.2 with ⟨_, h0⟩ | ⟨g, c3, _, h1, _⟩
        · omega
        · cases h1; exact ⟨g, rfl⟩
      subst hg
      have hgl := (h.lt g rfl).2
      have c0 := (h.cellAt (k * 6) (by omega)).trans (valsFlyBox_at0 l k hlt)
      have c1 := (h.cellAt (k * 6 + 1) (by omega)).trans (valsFlyBox_at1 l k hlt)
      have c2 := (h.cellAt (k * 6 + 2) (by omega)).trans (valsFlyBox_at2 l k hlt)
      have c3 := (h.cellAt (k * 6 + 3) (by omega)).trans (valsFlyBox_at3 l k hlt)
      have c4 := (h.cellAt (k * 6 + 4) (by omega)).trans (valsFlyBox_at4 l k hlt)
      have c5 := (h.cellAt (k * 6 + 5) (by omega)).trans (valsFlyBox_at5 l k hlt)
      have f0 := (hB.cell (p := ⟨g, k * 6, none⟩) hgl).trans c0
      have f1 := (hB.cell (p := ⟨g, k * 6 + 1, none⟩) hgl).trans c1
      have f2 := (hB.cell (p := ⟨g, k * 6 + 2, none⟩) hgl).trans c2
      have f3 := (hB.cell (p := ⟨g, k * 6 + 3, none⟩) hgl).trans c3
      have f4 := (hB.cell (p := ⟨g, k * 6 + 4, none⟩) hgl).trans c4
      have f5 := (hB.cell (p := ⟨g, k * 6 + 5, none⟩) hgl).trans c5
      have hkI : (k : Int) < (l.length : Int) := by omega
      have HY := hid (fun h1 : InB (l[k]'hlt) a => (⟨k, hlt, h1⟩ : HasIn l a))
      have HN := hid (fun (h1 : ¬ InB (l[k]'hlt) a) => (fun j hj hjk => by
        by_cases e : j = k
        · subst e; exact h1
        · exact hno.out j hj (by omega) : ∀ j (h : j < l.length), j < k + 1 → ¬ InB (l[j]'h) a))
      have HQ := HE (l[k]'hlt)
      have HB := hid hB
      generalize l[k]'hlt = s at *
      clear c0 c1 c2 c3 c4 c5 hno hB HE h
      cases he : pb (InB s a)
      · rw [he] at HQ
        have HA := hid (HN.out (fun h1 => by rw [pb_yes h1] at he; cases he))
        clear he HY HN
        go_wp2_with fail
        refine (HQ _).mono ?_
        rintro e w1 ⟨rfl, hb1⟩
        have hB1 := hid (HB.out.trans (hb1.mono HB.out.size))
        clear hb1 HQ
        go_wp2
        go_roundw
        case rel => exact ⟨k + 1, by omega, by go_num, HA, hB1.out⟩
        case measure => simp [intOf]; omega
      · rw [he] at HQ
        have HA := hid (HY.out (Classical.byContradiction fun h1 => by rw [pb_no h1] at he; cases he))
        clear he HY HN
        go_wp2_with fail
        refine (HQ _).mono ?_
        rintro e w1 ⟨rfl, hb1⟩
        have hB1 := hid (HB.out.trans (hb1.mono HB.out.size))
        clear hb1 HQ
        go_wp2
        go_ret
        exact ⟨.inl ⟨HA.out, k, by omega, rfl⟩, hB1.out⟩
    · have hke : k = l.length := by omega
      subst hke
      have HN := hid (fun (h1 : HasIn l a) => by obtain ⟨j, hj, e⟩ := h1; exact hno.out j hj hj e : ¬ HasIn l a)
      have HB := hid hB
      clear hno hB h
      go_wp2
      go_ret
      exact ⟨.inr ⟨HN.out, rfl⟩, HB.out⟩
set_option maxHeartbeats 1000000 in
theorem iHasRoom (a : DFlyBox) (l : List DFlyBox) (ao : Option Addr) (cap B : Nat) (w : World) (h : w.ownsRow B 89 6 (.slice ao l.length cap) l.length (valsFlyBox l)) (hl : l.length ≤ 9223372036854775807) :
    Calls Try.prog 65 #[.slice ao l.length cap, .func (.func 66) #[.agg #[.int .i64 a.1, .int .i64 a.2.1, .int .i64 a.2.2.1, .int .i64 a.2.2.2.1, .int .i64 a.2.2.2.2.1, .int .i64 a.2.2.2.2.2]] #[]] w fun e w' => e = .returned (.bool (pb (HasIn l a))) ∧ Below w.heap.size w w' := by
  go_enter Try.func65, Try.ntmps65
  go_wp2_with fail
  refine (iIdxRoom a l ao cap B w h hl).mono ?_
  rintro e w1 ⟨⟨ha, n, hn, rfl⟩ | ⟨ha, rfl⟩, hb1⟩
  · have HA := hid (pb_yes ha)
    have HB := hid hb1
    have hnI : (0 : Int) ≤ (n : Int) := by omega
    clear ha hb1 h
    go_wp2
    go_ret
    exact ⟨by rw [HA.out]; first | rfl | simp, HB.out⟩
  · have HA := hid (pb_no ha)
    have HB := hid hb1
    clear ha hb1 h
    go_wp2
    go_ret
    exact ⟨by rw [HA.out]; first | rfl | simp, HB.out⟩

end Fly
end Go.Proofs.Ytpjacfnjjkoikaa
