/- DERIVED. (impl.planWindow).on, impl.planPathAlong: their walks. -/
import Derived.Test.YtgnjkpmbppmoeaaGreatKGPd
import Derived.Test.YtgnjkpmbppmoeaaGreatKGMa
import Derived.Test.YtgnjkpmbppmoeaaGreatKGVw
namespace Go.Proofs.YtgnjkpmbppmoeaaGreat
open Go.RowKit
theorem Bel2.grow {B g : Nat} {w wr w1 : World} {row : Option Nat} (h : Bel2 B g w wr) (hg : wr.grownBy w1 row) (hB : B ≤ w.heap.size) (hr : ∀ j, row = some j → w.heap.size ≤ j) : Bel2 B g w w1 :=
  ⟨h.bel.grown hg (Nat.le_trans hB h.size) (fun j e => Nat.le_trans hB (hr j e)), fun b h1 h2 => (hg.block b (Nat.lt_of_lt_of_le h1 h.size) (fun e => by have := hr b e.symm; omega)).trans (h.oth b h1 h2)⟩
theorem Bel2.alloc {B g : Nat} {w wr : World} (h : Bel2 B g w wr) (hB : B ≤ w.heap.size) (o : Obj) : Bel2 B g w (wr.alloc o) := h.then ((Below.refl _ _).alloc (Nat.le_refl _) _) hB
theorem Bel2.cell {B g : Nat} {w wr : World} (h : Bel2 B g w wr) {p : Addr} (h1 : p.block < w.heap.size) (h2 : p.block ≠ g) : wr.cell? p = w.cell? p := World.cell?_of_block (h.oth p.block h1 h2)

namespace Pth
open Go.RowKit Leg Pcl Go.Proofs.YtgnjkpmbppmoeaaGreat.Std Lev
set_option linter.unusedSimpArgs false
set_option linter.unusedVariables false

theorem iOn (f b q s : Int) (n : ByteArray) (w : World) (h : 0 ≤ f ∧ f ≤ 1000000) (hb : 0 ≤ b ∧ b ≤ 1000000) (hq : 0 ≤ q ∧ q ≤ 1000) (hs : 0 ≤ s ∧ s ≤ 1000) :
    Calls Tryz.prog 86 #[.agg #[.int .i64 f, .int .i64 b], .agg #[.string n, .int .i64 q, .int .i64 s]] w fun e w' => e = .returned (.agg #[.int .i64 (f + q), .int .i64 (b + s)]) ∧ Below w.heap.size w w' := by
  obtain ⟨h1, h2⟩ := h
  obtain ⟨h3, h4⟩ := hb
  obtain ⟨h5, h6⟩ := hq
  obtain ⟨h7, h8⟩ := hs
  go_enter Tryz.func86, Tryz.ntmps86
  go_wp2
  refine bodyPost_ret (v := .agg #[.int .i64 (f + q), .int .i64 (b + s)]) (by simp [results, Tryz.results86, go_sem]) rfl ⟨rfl, ?_⟩
  repeat (first | exact Below.refl _ _ | refine Below.setCell ?_ (by simp; try omega) _ | refine Below.alloc ?_ (by simp; try omega) _)

theorem infoStep : (Tryz.prog.info? 86).map (fun i => (i.zero, i.size, i.bytes)) = some (some (.agg #[.int .i64 0, .int .i64 0, .int .i64 0, .int .i64 0, .int .i64 0, .int .i64 0]), 6, 48) := by kernel_rfl
theorem mul_le (k n q : Int) (hk : 0 ≤ k) (hkn : k ≤ 40) (hq : 0 ≤ q) (hq5 : q ≤ 50) : 0 ≤ k * q ∧ k * q ≤ 2000 := by
  refine ⟨Int.mul_nonneg hk hq, ?_⟩
  calc k * q ≤ 40 * q := Int.mul_le_mul_of_nonneg_right hkn hq
    _ ≤ 40 * 50 := Int.mul_le_mul_of_nonneg_left hq5 (by omega)
theorem succ_mul_int (k : Nat) (q : Int) : ((k + 1 : Nat) : Int) * q = (k : Int) * q + q := by
  rw [Int.natCast_add, Int.add_mul]
  simp

set_option maxRecDepth 100000 in
set_option maxHeartbeats 8000000 in
theorem iAlongP (f : DFlight) (co : Option Addr) (cc : Nat) (cs : List DCell) (ro : Option Addr) (rc : Nat) (w : World) (hf : Fine f) (hc : AtPlanCell w co cs) (hn1 : 1 ≤ cs.length) (hn : cs.length ≤ 40) (hcc : cs.length ≤ cc ∧ cc ≤ maxLen) :
    Calls Tryz.prog 44 #[.agg #[.string f.1, .string f.2.1.1, .int .i64 f.2.1.2.1, .int .i64 f.2.1.2.2, .int .i64 f.2.2.1, .int .i64 f.2.2.2.1, .int .i64 f.2.2.2.2.1, .slice ro f.2.2.2.2.2.length rc], .slice co cs.length cc] w fun e w' =>
      ∃ g c, e = .returned (.agg #[.slice (some ⟨g, 0, none⟩) cs.length c, .int .i64 (f.2.2.1 + (cs.length : Int) * f.2.1.2.1), .int .i64 (f.2.2.2.1 + (cs.length : Int) * f.2.1.2.2)]) ∧
        w'.ownsRow w.heap.size 86 6 (.slice (some ⟨g, 0, none⟩) cs.length c) cs.length (valsPlanStep (stepsL f.2.2.1 f.2.2.2.1 f.2.1.2.1 f.2.1.2.2 f.2.2.2.2.1 cs cs.length)) ∧ Below w.heap.size w w' := by
  obtain ⟨i0, hi, hz0, hz1, hz2⟩ := info_parts infoStep
  obtain ⟨t0, t1, t2, q0, q1, q2, l0, l1, hr⟩ := hf
  obtain ⟨f0, ⟨f1, q, s⟩, fr, up, lev, rt⟩ := f
  simp only at t0 t1 t2 q0 q1 q2 l0 l1 hr ⊢
  have hcm : cc ≤ 9223372036854775807 := hcc.2
  have hcl := hcc.1
  have HLV := fun W => iLevels (cs.length : Int) lev W
  have hlo : LvOk (cs.length : Int) lev := ⟨⟨by omega, by omega⟩, by omega, by omega⟩
  have hle : levelsOf (cs.length : Int) lev = levelsL (cs.length : Int) lev := if_pos hlo
  unfold GivesLv at HLV
  simp only [hle] at HLV
  have hll : (levelsL (cs.length : Int) lev).length = cs.length := by simp [levelsL]
  have hlv : ∀ k (h : k < cs.length), (levelsL (cs.length : Int) lev)[k]? = some (lvAt (cs.length : Int) lev k) := fun k h => by
    unfold levelsL
    rw [List.getElem?_map, List.getElem?_range (by omega)]
    rfl
  obtain ⟨gc, rfl, hgc, hcell⟩ : ∃ gc, co = some ⟨gc, 0, none⟩ ∧ gc < w.heap.size ∧ ∀ k (h : k < cs.length), w.cell? ⟨gc, k * 2, none⟩ = some (.int .i64 (cs[k]'h).1) ∧ w.cell? ⟨gc, k * 2 + 1, none⟩ = some (.int .i64 (cs[k]'h).2) := by
    rcases hc with h0 | ⟨g, h1, h2, h3⟩
    · rw [h0] at hn1; simp at hn1
    · exact ⟨g, h1, h2, h3⟩
  clear hc
  obtain ⟨wA, hwA⟩ : ∃ wA : World, wA = ((w.alloc (.cells #[.string f0, .string f1, .int .i64 q, .int .i64 s, .int .i64 fr, .int .i64 up, .int .i64 lev, .slice ro rt.length rc] 34)).alloc (.cells #[.slice none 0 0, .int .i64 0, .int .i64 0] 52)).alloc (.cells #[.int .i64 fr, .int .i64 up] 98) := ⟨_, rfl⟩
  have hzA : wA.heap.size = w.heap.size + 3 := by rw [hwA]; simp
  have hbA : Below w.heap.size w wA := by rw [hwA]; exact (((Below.refl _ _).alloc (Nat.le_refl _) _).alloc (by simp) _).alloc (by simp; omega) _
  have hFB : BxC w.heap.size #[.string f0, .string f1, .int .i64 q, .int .i64 s, .int .i64 fr, .int .i64 up, .int .i64 lev, .slice ro rt.length rc] wA := by
    rw [hwA]; exact ((BxC.new w _ _).below ((Below.refl (w.heap.size + 1) _).alloc (by simp) _) (by omega)).below ((Below.refl (w.heap.size + 2) _).alloc (by simp) _) (by omega)
  have hWB : Dr wA (w.heap.size + 2) [.int .i64 fr, .int .i64 up] := by
    have hd := Dr.new ((w.alloc (.cells #[.string f0, .string f1, .int .i64 q, .int .i64 s, .int .i64 fr, .int .i64 up, .int .i64 lev, .slice ro rt.length rc] 34)).alloc (.cells #[.slice none 0 0, .int .i64 0, .int .i64 0] 52)) #[.int .i64 fr, .int .i64 up] 98
    rw [World.size_alloc, World.size_alloc] at hd
    rw [hwA]; exact hd
  have hRB : Dr wA (w.heap.size + 1) [.slice none 0 0, .int .i64 0, .int .i64 0] := by
    have hd := Dr.new (w.alloc (.cells #[.string f0, .string f1, .int .i64 q, .int .i64 s, .int .i64 fr, .int .i64 up, .int .i64 lev, .slice ro rt.length rc] 34)) #[.slice none 0 0, .int .i64 0, .int .i64 0] 52
    rw [World.size_alloc] at hd
    rw [hwA]; exact hd.kept (Below.heap_alloc _ _ _ (by simp)) (by simp)
  have HT := HLV wA
  rw [hwA] at HT
  go_enter Tryz.func44, Tryz.ntmps44
  go_wp2_with fail
  refine HT.mono ?_
  rw [← hwA]
  rintro e w3 ⟨lo, lc, rfl, hO3, hb3⟩
  clear HT HLV hwA
  rw [hll] at hO3 ⊢
  obtain ⟨g3, rfl, hg3, hlc⟩ : ∃ g3, lo = some ⟨g3, 0, none⟩ ∧ g3 < w3.heap.size ∧ ∀ k (h : k < cs.length), w3.cell? ⟨g3, k, none⟩ = some (.int .i64 (lvAt (cs.length : Int) lev k)) := by
    rcases atInt_owns hll.symm hO3 with h0 | ⟨g, h1, h2, h3⟩
    · rw [h0] at hll; simp at hll; omega
    · refine ⟨g, h1, h2, fun k h => ?_⟩
      have h4 := h3 k (by rw [hll]; exact h)
      have h5 := hlv k h
      rw [List.getElem?_eq_getElem (by rw [hll]; exact h)] at h5
      rw [h4]
      simp at h5
      rw [h5]
  have hlc2 : cs.length ≤ lc ∧ lc ≤ 9223372036854775807 := by
    rcases hO3.2 with ⟨h1, _⟩ | ⟨_, c3, _, h1, _, _, h2, h3, _⟩
    · simp at h1
    · have := h3; unfold maxLen at this; cases h1; omega
  have hg3w : g3 ≠ w.heap.size + 2 := by
    have := (hO3.lt g3 rfl).1
    omega
  have hlo0 : g3 ≠ w.heap.size + 1 := by
    have := (hO3.lt g3 rfl).1
    omega
  clear hO3 hlv hle hlo hll
  rw [hzA] at hb3
  have hB3 : Below w.heap.size w w3 := hbA.trans (hb3.mono (by omega))
  have hz3 : w.heap.size + 3 ≤ w3.heap.size := by have := hb3.size; omega
  have hFB3 := hFB.below hb3 (by omega)
  have hWB3 := hWB.kept (hb3.block _ (by omega)) hb3.size
  have hRB3 := hRB.kept (hb3.block _ (by omega)) hb3.size
  clear hFB hWB hRB hb3 hbA hzA
  have hcell3 : ∀ k (h : k < cs.length), w3.cell? ⟨gc, k * 2, none⟩ = some (.int .i64 (cs[k]'h).1) ∧ w3.cell? ⟨gc, k * 2 + 1, none⟩ = some (.int .i64 (cs[k]'h).2) := fun k h =>
    ⟨(hB3.cell (p := ⟨gc, k * 2, none⟩) hgc).trans (hcell k h).1, (hB3.cell (p := ⟨gc, k * 2 + 1, none⟩) hgc).trans (hcell k h).2⟩
  clear hcell
  have hl0 := hlc 0 (by omega)
  have hn1I : (0 : Int) < (cs.length : Int) := by omega
  go_wp2
  clear hl0
  obtain ⟨wb, hwb⟩ : ∃ wb, w.heap.size + 2 = wb := ⟨_, rfl⟩
  obtain ⟨rb, hrb⟩ : ∃ rb, w.heap.size + 1 = rb := ⟨_, rfl⟩
  have hwb1 : w.heap.size + 1 + 1 = wb := by omega
  simp only [hwb1]
  simp only [hrb]
  rw [hwb] at hWB3 hg3w
  rw [hrb] at hRB3 hlo0
  have hwbl : wb < w3.heap.size ∧ w.heap.size < wb ∧ rb < wb ∧ w.heap.size < rb := by omega
  clear hwb hrb hwb1
  go_loopw [7, 8, 27] (fun a v i wr => ∃ (k : Nat) (ao : Option Addr) (cap : Nat), k ≤ cs.length ∧ i = .int .i64 k ∧ a = .int .i64 (lvB cs.length lev k) ∧ v = .slice ao k cap ∧ wr.ownsRow w3.heap.size 86 6 (.slice ao k cap) k (valsPlanStep (stepsL fr up q s lev cs k)) ∧ Bel2 w.heap.size wb w3 wr ∧ Dr wr wb [.int .i64 (fr + (k : Int) * q), .int .i64 (up + (k : Int) * s)]) (fun _ _ i _ => cs.length - (intOf i).toNat)
  case atStart => exact ⟨0, none, 0, Nat.zero_le _, rfl, rfl, rfl, World.ownsRow_nil _ _ _ _, Bel2.refl _ _ _, by simpa using hWB3⟩
  case round =>
    obtain ⟨k, ao, cap, hk, rfl, rfl, rfl, hO, hbel, hWr⟩ := hrel
    have hsz := hbel.size
    have hwc0 := hWr.c 0
    have hwc1 := hWr.c 1
    have hwf0 := hWr.f 0
    have hwf1 := hWr.f 1
    have hwlt := hWr.lt
    simp at hwc0 hwc1
    have hmq := mul_le (k : Int) cs.length q (by omega) (by omega) (by omega) (by omega)
    have hms := mul_le (k : Int) cs.length s (by omega) (by omega) (by omega) (by omega)
    by_cases hlt : k < cs.length
    · have e0 := (hbel.cell (p := ⟨gc, k * 2, none⟩) (by show gc < _; omega) (by show gc ≠ _; omega)).trans (hcell3 k hlt).1
      have e1 := (hbel.cell (p := ⟨gc, k * 2 + 1, none⟩) (by show gc < _; omega) (by show gc ≠ _; omega)).trans (hcell3 k hlt).2
      have e2 := (hbel.cell (p := ⟨g3, k, none⟩) hg3 hg3w).trans (hlc k hlt)
      have b1 := (hbel.cell (p := ⟨w.heap.size, 1, none⟩) (by show w.heap.size < _; omega) (by show w.heap.size ≠ _; omega)).trans (hFB3 1)
      have b2 := (hbel.cell (p := ⟨w.heap.size, 2, none⟩) (by show w.heap.size < _; omega) (by show w.heap.size ≠ _; omega)).trans (hFB3 2)
      have b3 := (hbel.cell (p := ⟨w.heap.size, 3, none⟩) (by show w.heap.size < _; omega) (by show w.heap.size ≠ _; omega)).trans (hFB3 3)
      simp at b1 b2 b3
      have HST : Hid (stepsL fr up q s lev cs (k + 1) = stepsL fr up q s lev cs k ++ [((cs[k]'hlt).1, (cs[k]'hlt).2, mn (lvB cs.length lev k) (lvAt (cs.length : Int) lev k), mx (lvB cs.length lev k) (lvAt (cs.length : Int) lev k), fr + (k : Int) * q, up + (k : Int) * s)]) := by
        have h := stepsL_succ fr up q s lev cs k
        unfold stepAt at h
        rw [List.getD_eq_getElem?_getD, List.getElem?_eq_getElem hlt] at h
        exact h
      have HLB : Hid (lvB cs.length lev (k + 1) = lvAt (cs.length : Int) lev k) := lvB_next _ _ _
      have HMQ : Hid (((k + 1 : Nat) : Int) * q = (k : Int) * q + q ∧ ((k + 1 : Nat) : Int) * s = (k : Int) * s + s) := ⟨succ_mul_int k q, succ_mul_int k s⟩
      have hkI : (k : Int) < (cs.length : Int) := by omega
      have hg3r : g3 < wr.heap.size := by omega
      have hw0r : w.heap.size < wr.heap.size := by omega
      generalize hcx : (cs[k]'hlt) = c at *
      obtain ⟨cx, cy⟩ := c
      simp only at e0 e1 HST
      generalize lvB cs.length lev k = lb at *
      generalize lvAt (cs.length : Int) lev k = la at *
      generalize (k : Int) * q = kq at *
      generalize (k : Int) * s = ks at *
      have HOK : Hid (∀ (v' : Value) (w1 : World), w1.ownsRow w3.heap.size 86 6 v' (k + 1) (valsPlanStep (stepsL fr up q s lev cs k) ++ [.int .i64 cx, .int .i64 cy, .int .i64 (mn lb la), .int .i64 (mx lb la), .int .i64 (fr + kq), .int .i64 (up + ks)]) → ((wr.alloc (.cells #[.int .i64 cx, .int .i64 cy] 84)).alloc (.cells #[.int .i64 cx, .int .i64 cy, .int .i64 (mn lb la), .int .i64 (mx lb la), .int .i64 (fr + kq), .int .i64 (up + ks)] 86)).grownBy w1 (Value.slice ao k cap).ownBlock →
          ∃ g cp, v' = .slice (some ⟨g, 0, none⟩) (k + 1) cp ∧ w1.ownsRow w3.heap.size 86 6 (.slice (some ⟨g, 0, none⟩) (k + 1) cp) (k + 1) (valsPlanStep (stepsL fr up q s lev cs (k + 1))) ∧ Bel2 w.heap.size wb w3 w1 ∧ Dr w1 wb [.int .i64 (fr + kq), .int .i64 (up + ks)] ∧ w.heap.size < w1.heap.size ∧
          w1.cell? ⟨w.heap.size, 1, none⟩ = some (.string f1) ∧ w1.cell? ⟨w.heap.size, 2, none⟩ = some (.int .i64 q) ∧ w1.cell? ⟨w.heap.size, 3, none⟩ = some (.int .i64 s)) := by
        intro v' w1 hown hgrow
        obtain ⟨g, cp, rfl⟩ := owns_pos hown
        have hB1 : Bel2 w.heap.size wb w3 w1 := ((hbel.alloc hB3.size _).alloc hB3.size _).grow hgrow hB3.size (fun j hj => own_ge hO j hj)
        have hD1 : Dr w1 wb [.int .i64 (fr + kq), .int .i64 (up + ks)] := hWr.kept ((hgrow.block wb (by simp; omega) (fun e => by have := own_ge hO wb e.symm; omega)).trans ((Below.heap_alloc _ _ _ (by simp; omega)).trans (Below.heap_alloc _ _ _ hwlt))) (by have := hgrow.size; simp at this; omega)
        refine ⟨g, cp, rfl, ?_, hB1, hD1, by have := hB1.size; omega, ?_, ?_, ?_⟩
        · rw [HST.out, valsPlanStep_snoc]
          exact hown
        · exact (hB1.cell (p := ⟨w.heap.size, 1, none⟩) (by show w.heap.size < _; omega) (by show w.heap.size ≠ _; omega)).trans (by have := hFB3 1; simpa using this)
        · exact (hB1.cell (p := ⟨w.heap.size, 2, none⟩) (by show w.heap.size < _; omega) (by show w.heap.size ≠ _; omega)).trans (by have := hFB3 2; simpa using this)
        · exact (hB1.cell (p := ⟨w.heap.size, 3, none⟩) (by show w.heap.size < _; omega) (by show w.heap.size ≠ _; omega)).trans (by have := hFB3 3; simpa using this)
      have HON := fun W => iOn (fr + kq) (up + ks) q s f1 W ⟨by omega, by omega⟩ ⟨by omega, by omega⟩ ⟨by omega, by omega⟩ ⟨by omega, by omega⟩
      have HMN : Hid (mn lb la = if lb < la then lb else la) := rfl
      have HMX : Hid (mx lb la = if lb < la then la else lb) := by show _ = _; unfold mx; split <;> rfl
      have hB3s := hB3.size
      clear hbel hWr HST hFB3 hRB3 hWB3 hcell3 hlc hB3
      rcases Int.lt_trichotomy lb la with hx | hx | hx
      · have HE1 : mn lb la = lb := HMN.out.trans (if_pos hx)
        have HE2 : mx lb la = la := HMX.out.trans (if_pos hx)
        rw [HE1, HE2] at HOK
        clear HMN HMX HE1 HE2
        go_wp2_with (at_builtin; refine wpList_append_own_at _ rfl _ _ 50 rfl w3.heap.size 86 i0 (.agg #[.int .i64 0, .int .i64 0, .int .i64 0, .int .i64 0, .int .i64 0, .int .i64 0]) 6 48 Tryz.underlying50 hi hz0 hz1 hz2 rfl (by decide) _ _ _ rfl ((hO.alloc _).alloc _) ⟨wr.heap.size + 1, 0, none⟩ 1 1 [.int .i64 cx, .int .i64 cy, .int .i64 lb, .int .i64 la, .int .i64 (fr + kq), .int .i64 (up + ks)] rfl rfl ?c1 ?c2 ?c3 ?c4 ?c5 ?_)
        case c1 =>
          intro j u hj
          match j, hj with
          | 0, hj => simp at hj; subst hj; simp [Addr.add]
          | 1, hj => simp at hj; subst hj; simp [Addr.add]
          | 2, hj => simp at hj; subst hj; simp [Addr.add]
          | 3, hj => simp at hj; subst hj; simp [Addr.add]
          | 4, hj => simp at hj; subst hj; simp [Addr.add]
          | 5, hj => simp at hj; subst hj; simp [Addr.add]
        case c2 =>
          intro u hu
          simp at hu
          rcases hu with rfl | rfl | rfl | rfl | rfl | rfl <;> rfl
        case c3 => unfold maxLen; omega
        case c4 => omega
        case c5 => simp; omega
        intro v' w1 hown hgrow _ _
        obtain ⟨g, cp, rfl, hown1, hB1, hD1, hw1s, a1, a2, a3⟩ := HOK.out v' w1 hown hgrow
        have hdl := hD1.lt
        have hdf0 := hD1.f 0
        have hdf1 := hD1.f 1
        have hdc0 := hD1.c 0
        have hdc1 := hD1.c 1
        simp at hdc0 hdc1
        clear HOK hO hown hgrow b1 b2 b3 e0 e1 e2
        go_wp2_with fail
        refine (HON w1).mono ?_
        rintro e w4 ⟨rfl, hb4⟩
        have hD4 := hD1.kept (hb4.block _ hD1.lt) hb4.size
        have hB4 := hB1.then hb4 hB3s
        have hO4 := owns_below hown1 hb4
        have hdl4 := hD4.lt
        have hdg0 := hD4.f 0
        have hdg1 := hD4.f 1
        have hde0 := hD4.c 0
        have hde1 := hD4.c 1
        simp at hde0 hde1
        have HFIN : Hid (((w4.setCell ⟨wb, 0, none⟩ (.int .i64 (fr + kq + q))).setCell ⟨wb, 1, none⟩ (.int .i64 (up + ks + s))).ownsRow w3.heap.size 86 6 (.slice (some ⟨g, 0, none⟩) (k + 1) cp) (k + 1) (valsPlanStep (stepsL fr up q s lev cs (k + 1))) ∧ Bel2 w.heap.size wb w3 ((w4.setCell ⟨wb, 0, none⟩ (.int .i64 (fr + kq + q))).setCell ⟨wb, 1, none⟩ (.int .i64 (up + ks + s))) ∧ Dr ((w4.setCell ⟨wb, 0, none⟩ (.int .i64 (fr + kq + q))).setCell ⟨wb, 1, none⟩ (.int .i64 (up + ks + s))) wb [.int .i64 (fr + ((k + 1 : Nat) : Int) * q), .int .i64 (up + ((k + 1 : Nat) : Int) * s)]) := by
          refine ⟨owns_kept hO4 (fun b h1 h2 => ?_), (hB4.setCell (by show _ ≤ wb; omega) _).setCell (by show _ ≤ wb; omega) _, ?_⟩
          · have hbw : b ≠ wb := by omega
            rw [Below.heap_setCell _ _ _ _ hbw, Below.heap_setCell _ _ _ _ hbw]
          · rw [HMQ.out.1, HMQ.out.2, ← Int.add_assoc, ← Int.add_assoc]
            exact (hD4.set 0 _ (by simp)).set 1 _ (by simp)
        have hkm := hlt
        clear hown1 hB1 hD1 hb4 hB4 hO4 HON hD4 a1 a2 a3 hdc0 hdc1 hdf0 hdf1 hdl HMQ
        go_wp2
        refine ⟨⟨k + 1, some ⟨g, 0, none⟩, cp, hkm, by simp, by rw [HLB.out], rfl, HFIN.out⟩, ?_⟩
        simp [intOf]
        omega
      · subst hx
        rw [mn_same, mx_same] at HOK
        clear HMN HMX
        go_wp2_with (at_builtin; refine wpList_append_own_at _ rfl _ _ 50 rfl w3.heap.size 86 i0 (.agg #[.int .i64 0, .int .i64 0, .int .i64 0, .int .i64 0, .int .i64 0, .int .i64 0]) 6 48 Tryz.underlying50 hi hz0 hz1 hz2 rfl (by decide) _ _ _ rfl ((hO.alloc _).alloc _) ⟨wr.heap.size + 1, 0, none⟩ 1 1 [.int .i64 cx, .int .i64 cy, .int .i64 lb, .int .i64 lb, .int .i64 (fr + kq), .int .i64 (up + ks)] rfl rfl ?c1 ?c2 ?c3 ?c4 ?c5 ?_)
        case c1 =>
          intro j u hj
          match j, hj with
          | 0, hj => simp at hj; subst hj; simp [Addr.add]
          | 1, hj => simp at hj; subst hj; simp [Addr.add]
          | 2, hj => simp at hj; subst hj; simp [Addr.add]
          | 3, hj => simp at hj; subst hj; simp [Addr.add]
          | 4, hj => simp at hj; subst hj; simp [Addr.add]
          | 5, hj => simp at hj; subst hj; simp [Addr.add]
        case c2 =>
          intro u hu
          simp at hu
          rcases hu with rfl | rfl | rfl | rfl | rfl <;> rfl
        case c3 => unfold maxLen; omega
        case c4 => omega
        case c5 => simp; omega
        intro v' w1 hown hgrow _ _
        obtain ⟨g, cp, rfl, hown1, hB1, hD1, hw1s, a1, a2, a3⟩ := HOK.out v' w1 hown hgrow
        have hdl := hD1.lt
        have hdf0 := hD1.f 0
        have hdf1 := hD1.f 1
        have hdc0 := hD1.c 0
        have hdc1 := hD1.c 1
        simp at hdc0 hdc1
        clear HOK hO hown hgrow b1 b2 b3 e0 e1 e2
        go_wp2_with fail
        refine (HON w1).mono ?_
        rintro e w4 ⟨rfl, hb4⟩
        have hD4 := hD1.kept (hb4.block _ hD1.lt) hb4.size
        have hB4 := hB1.then hb4 hB3s
        have hO4 := owns_below hown1 hb4
        have hdl4 := hD4.lt
        have hdg0 := hD4.f 0
        have hdg1 := hD4.f 1
        have hde0 := hD4.c 0
        have hde1 := hD4.c 1
        simp at hde0 hde1
        have HFIN : Hid (((w4.setCell ⟨wb, 0, none⟩ (.int .i64 (fr + kq + q))).setCell ⟨wb, 1, none⟩ (.int .i64 (up + ks + s))).ownsRow w3.heap.size 86 6 (.slice (some ⟨g, 0, none⟩) (k + 1) cp) (k + 1) (valsPlanStep (stepsL fr up q s lev cs (k + 1))) ∧ Bel2 w.heap.size wb w3 ((w4.setCell ⟨wb, 0, none⟩ (.int .i64 (fr + kq + q))).setCell ⟨wb, 1, none⟩ (.int .i64 (up + ks + s))) ∧ Dr ((w4.setCell ⟨wb, 0, none⟩ (.int .i64 (fr + kq + q))).setCell ⟨wb, 1, none⟩ (.int .i64 (up + ks + s))) wb [.int .i64 (fr + ((k + 1 : Nat) : Int) * q), .int .i64 (up + ((k + 1 : Nat) : Int) * s)]) := by
          refine ⟨owns_kept hO4 (fun b h1 h2 => ?_), (hB4.setCell (by show _ ≤ wb; omega) _).setCell (by show _ ≤ wb; omega) _, ?_⟩
          · have hbw : b ≠ wb := by omega
            rw [Below.heap_setCell _ _ _ _ hbw, Below.heap_setCell _ _ _ _ hbw]
          · rw [HMQ.out.1, HMQ.out.2, ← Int.add_assoc, ← Int.add_assoc]
            exact (hD4.set 0 _ (by simp)).set 1 _ (by simp)
        have hkm := hlt
        clear hown1 hB1 hD1 hb4 hB4 hO4 HON hD4 a1 a2 a3 hdc0 hdc1 hdf0 hdf1 hdl HMQ
        go_wp2
        refine ⟨⟨k + 1, some ⟨g, 0, none⟩, cp, hkm, by simp, by rw [HLB.out], rfl, HFIN.out⟩, ?_⟩
        simp [intOf]
        omega
      · have hx' : ¬ lb < la := by omega
        have HE1 : mn lb la = la := HMN.out.trans (if_neg hx')
        have HE2 : mx lb la = lb := HMX.out.trans (if_neg hx')
        rw [HE1, HE2] at HOK
        clear HMN HMX HE1 HE2
        go_wp2_with (at_builtin; refine wpList_append_own_at _ rfl _ _ 50 rfl w3.heap.size 86 i0 (.agg #[.int .i64 0, .int .i64 0, .int .i64 0, .int .i64 0, .int .i64 0, .int .i64 0]) 6 48 Tryz.underlying50 hi hz0 hz1 hz2 rfl (by decide) _ _ _ rfl ((hO.alloc _).alloc _) ⟨wr.heap.size + 1, 0, none⟩ 1 1 [.int .i64 cx, .int .i64 cy, .int .i64 la, .int .i64 lb, .int .i64 (fr + kq), .int .i64 (up + ks)] rfl rfl ?c1 ?c2 ?c3 ?c4 ?c5 ?_)
        case c2 => exact ⟨rfl, rfl, rfl, rfl, rfl, rfl⟩
        case c3 => unfold maxLen; omega
        case c4 => omega
        case c5 => omega
        intro v' w1 hown hgrow _ _
        obtain ⟨g, cp, rfl, hown1, hB1, hD1, hw1s, a1, a2, a3⟩ := HOK.out v' w1 hown hgrow
        have hdl := hD1.lt
        have hdf0 := hD1.f 0
        have hdf1 := hD1.f 1
        have hdc0 := hD1.c 0
        have hdc1 := hD1.c 1
        simp at hdc0 hdc1
        clear HOK hO hown hgrow b1 b2 b3 e0 e1 e2
        go_wp2_with fail
        refine (HON w1).mono ?_
        rintro e w4 ⟨rfl, hb4⟩
        have hD4 := hD1.kept (hb4.block _ hD1.lt) hb4.size
        have hB4 := hB1.then hb4 hB3s
        have hO4 := owns_below hown1 hb4
        have hdl4 := hD4.lt
        have hdg0 := hD4.f 0
        have hdg1 := hD4.f 1
        have hde0 := hD4.c 0
        have hde1 := hD4.c 1
        simp at hde0 hde1
        have HFIN : Hid (((w4.setCell ⟨wb, 0, none⟩ (.int .i64 (fr + kq + q))).setCell ⟨wb, 1, none⟩ (.int .i64 (up + ks + s))).ownsRow w3.heap.size 86 6 (.slice (some ⟨g, 0, none⟩) (k + 1) cp) (k + 1) (valsPlanStep (stepsL fr up q s lev cs (k + 1))) ∧ Bel2 w.heap.size wb w3 ((w4.setCell ⟨wb, 0, none⟩ (.int .i64 (fr + kq + q))).setCell ⟨wb, 1, none⟩ (.int .i64 (up + ks + s))) ∧ Dr ((w4.setCell ⟨wb, 0, none⟩ (.int .i64 (fr + kq + q))).setCell ⟨wb, 1, none⟩ (.int .i64 (up + ks + s))) wb [.int .i64 (fr + ((k + 1 : Nat) : Int) * q), .int .i64 (up + ((k + 1 : Nat) : Int) * s)]) := by
          refine ⟨owns_kept hO4 (fun b h1 h2 => ?_), (hB4.setCell (by show _ ≤ wb; omega) _).setCell (by show _ ≤ wb; omega) _, ?_⟩
          · have hbw : b ≠ wb := by omega
            rw [Below.heap_setCell _ _ _ _ hbw, Below.heap_setCell _ _ _ _ hbw]
          · rw [HMQ.out.1, HMQ.out.2, ← Int.add_assoc, ← Int.add_assoc]
            exact (hD4.set 0 _ (by simp)).set 1 _ (by simp)
        have hkm := hlt
        clear hown1 hB1 hD1 hb4 hB4 hO4 HON hD4 a1 a2 a3 hdc0 hdc1 hdf0 hdf1 hdl HMQ
        go_wp2
        refine ⟨⟨k + 1, some ⟨g, 0, none⟩, cp, hkm, by simp, by rw [HLB.out], rfl, HFIN.out⟩, ?_⟩
        simp [intOf]
        omega
    · have hkn : k = cs.length := by omega
      subst hkn
      have hkI : ¬ (cs.length : Int) < (cs.length : Int) := by omega
      have HO : Hid _ := hO
      have hRr : Dr wr rb [.slice none 0 0, .int .i64 0, .int .i64 0] := hRB3.kept (hbel.oth rb (by omega) (by omega)) hsz
      have r0 := hRr.c 0
      have r1 := hRr.c 1
      have r2 := hRr.c 2
      have g0 := hRr.f 0
      have g1 := hRr.f 1
      have g2 := hRr.f 2
      have hrl := hRr.lt
      simp at r0 r1 r2
      have hB := hB3.trans (hbel.bel.mono (Nat.le_refl _))
      have HB : Hid _ := hB
      have hz3' : w.heap.size ≤ w3.heap.size := by omega
      obtain ⟨g, cp, hao⟩ : ∃ g cp, Value.slice ao cs.length cap = .slice (some ⟨g, 0, none⟩) cs.length cp := by
        obtain ⟨m, hm⟩ : ∃ m, cs.length = m + 1 := ⟨cs.length - 1, by omega⟩
        rw [hm] at hO ⊢
        exact owns_pos hO
      cases hao
      clear hbel hWr hcell3 hlc hB3 hWB3 hRB3 hRr hFB3 hO
      have hrw : w.heap.size ≤ rb := by omega
      have hrb3 : ∀ b, w3.heap.size ≤ b → b ≠ rb := fun b h => by omega
      go_wp2
      refine bodyPost_ret (v := .agg #[.slice (some ⟨g, 0, none⟩) cs.length cap, .int .i64 (fr + (cs.length : Int) * q), .int .i64 (up + (cs.length : Int) * s)]) (by simp [results, Tryz.results44, go_sem, r0, r1, r2, hrl]) rfl ?_
      refine ⟨g, cap, rfl, own_lo (owns_kept HO.out (fun b h1 h2 => ?_)) hz3', ((HB.out.setCell hrw _).setCell hrw _).setCell hrw _⟩
      have hbw := hrb3 b h1
      rw [Below.heap_setCell _ _ _ _ hbw, Below.heap_setCell _ _ _ _ hbw, Below.heap_setCell _ _ _ _ hbw]

end Pth
end Go.Proofs.YtgnjkpmbppmoeaaGreat
