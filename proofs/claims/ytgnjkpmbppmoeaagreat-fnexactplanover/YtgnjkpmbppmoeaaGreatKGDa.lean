/- DERIVED. slices.DeleteFunc over whole numbers with the function that asks whether one is the same as a told one: its walk. -/
import Derived.Test.YtgnjkpmbppmoeaaGreatRows
import Derived.Test.YtgnjkpmbppmoeaaGreatKGVw
import Derived.WalkKit
import Derived.WalkSpells
import Derived.WalkLawsBesides
import Derived.Lib.SliceRun
import Derived.Maps.AppendAt
import Derived.Deep.AppendLies
import Derived.RegionTactic
import Derived.BigRegion
namespace Go.Proofs.YtgnjkpmbppmoeaaGreat
namespace Std
open Go.RowKit
set_option linter.unusedSimpArgs false
set_option linter.unusedVariables false

def valsI (l : List Int) : List Value := l.map (Value.int .i64)
theorem valsI_len (l : List Int) : (valsI l).length = l.length := by simp [valsI]
theorem valsI_app (a b : List Int) : valsI (a ++ b) = valsI a ++ valsI b := by simp [valsI]
abbrev Row (w : World) (B g n cap : Nat) (l : List Int) : Prop := w.ownsRow B 3 1 (.slice (some ⟨g, 0, none⟩) n cap) n (valsI l)
theorem Row.at {w : World} {B g n cap : Nat} {l : List Int} (h : Row w B g n cap l) {i : Nat} (hi : i < l.length) : w.cell? ⟨g, i, none⟩ = some (.int .i64 (l[i]'hi)) := by
  have hn : l.length = n := by have := h.1; rw [valsI_len] at this; omega
  rw [h.cellAt i (by omega)]
  simp [valsI, hi]

/-- The closure: is it the same as the told one? -/
theorem same_is (one what : Int) (Bw : Nat) (w : World) (h : w.cell? ⟨Bw, 0, none⟩ = some (.int .i64 what)) (hlt : Bw < w.heap.size) :
    Calls Tryz.prog 125 #[.int .i64 one, .pointer (some ⟨Bw, 0, none⟩)] w fun e w' => e = .returned (.bool (one == what)) ∧ w = w' := by
  go_enter Tryz.func125, Tryz.ntmps125
  go_wp2
  go_ret
  exact ⟨rfl, rfl⟩

set_option maxHeartbeats 1000000 in
/-- IndexFunc: where it stands, behind a list A that has it not. -/
theorem idx_hit (B g cap Bw : Nat) (A C : List Int) (what : Int) (w : World) (h : Row w B g (A.length + 1 + C.length) cap (A ++ what :: C)) (hA : what ∉ A) (hw : w.cell? ⟨Bw, 0, none⟩ = some (.int .i64 what)) (hlt : Bw < w.heap.size) (h9 : A.length + C.length ≤ 100) :
    Calls Tryz.prog 128 #[.slice (some ⟨g, 0, none⟩) (A.length + 1 + C.length) cap, .func (.func 125) #[] #[.pointer (some ⟨Bw, 0, none⟩)]] w fun e w' => e = .returned (.int .i64 (A.length : Int)) ∧ w = w' := by
  have HAT : Hid (∀ i (hi : i < (A ++ what :: C).length), w.cell? ⟨g, i, none⟩ = some (.int .i64 ((A ++ what :: C)[i]'hi))) := fun i hi => Row.at h hi
  have HA : Hid (what ∉ A) := hA
  clear h hA
  go_enter Tryz.func128, Tryz.ntmps128
  go_wp2
  go_loop [8] (fun v => ∃ k : Nat, k ≤ A.length ∧ v = .int .i64 k) (fun v => A.length + 1 - (intOf v).toNat)
  case atStart => exact ⟨0, Nat.zero_le _, rfl⟩
  case round =>
    obtain ⟨k, hk, rfl⟩ := hrel
    have hkl : k < (A ++ what :: C).length := by simp; omega
    have c0 := HAT.out k hkl
    have hkI : (k : Int) < (A.length : Int) + 1 + (C.length : Int) := by omega
    have hkN : k < A.length + 1 + C.length := by omega
    by_cases hlt2 : k < A.length
    · have hne : Hid (((A ++ what :: C)[k]'hkl == what) = false) := by
        show _ = _
        rw [List.getElem_append_left hlt2]
        simp only [beq_eq_false_iff_ne, ne_eq]
        exact fun e => HA.out (by rw [← e]; exact List.getElem_mem hlt2)
      generalize (A ++ what :: C)[k]'hkl = x at *
      go_wp2_with fail
      refine (same_is x what Bw _ hw hlt).mono ?_
      rw [hne.out]
      rintro e w' ⟨rfl, rfl⟩
      go_wp2
      go_round
      case rel => exact ⟨k + 1, by omega, by go_num⟩
      case measure => simp [intOf]; omega
    · have hke : k = A.length := by omega
      subst hke
      have hx : (A ++ what :: C)[A.length]'hkl = what := by simp
      rw [hx] at c0
      go_wp2_with fail
      refine (same_is what what Bw _ hw hlt).mono ?_
      rw [beq_self_eq_true]
      rintro e w' ⟨rfl, rfl⟩
      go_wp2
      go_ret
      exact ⟨rfl, rfl⟩

set_option maxHeartbeats 1000000 in
theorem idx_none (B g cap n Bw : Nat) (L : List Int) (what : Int) (w : World) (h : Row w B g n cap L) (hn : L.length = n) (hA : what ∉ L) (hw : w.cell? ⟨Bw, 0, none⟩ = some (.int .i64 what)) (hlt : Bw < w.heap.size) (h9 : n ≤ 100) :
    Calls Tryz.prog 128 #[.slice (some ⟨g, 0, none⟩) n cap, .func (.func 125) #[] #[.pointer (some ⟨Bw, 0, none⟩)]] w fun e w' => e = .returned (.int .i64 (-1)) ∧ w = w' := by
  have HAT : Hid (∀ i (hi : i < L.length), w.cell? ⟨g, i, none⟩ = some (.int .i64 (L[i]'hi))) := fun i hi => Row.at h hi
  have HA : Hid (what ∉ L) := hA
  clear h hA
  go_enter Tryz.func128, Tryz.ntmps128
  go_wp2
  go_loop [8] (fun v => ∃ k : Nat, k ≤ n ∧ v = .int .i64 k) (fun v => n - (intOf v).toNat)
  case atStart => exact ⟨0, Nat.zero_le _, rfl⟩
  case round =>
    obtain ⟨k, hk, rfl⟩ := hrel
    by_cases hlt2 : k < n
    · have hkl : k < L.length := by omega
      have c0 := HAT.out k hkl
      have hkI : (k : Int) < (n : Int) := by omega
      have hne : Hid ((L[k]'hkl == what) = false) := by
        show _ = _
        simp only [beq_eq_false_iff_ne, ne_eq]
        exact fun e => HA.out (by rw [← e]; exact List.getElem_mem hkl)
      generalize L[k]'hkl = x at *
      go_wp2_with fail
      refine (same_is x what Bw _ hw hlt).mono ?_
      rw [hne.out]
      rintro e w' ⟨rfl, rfl⟩
      go_wp2
      go_round
      case rel => exact ⟨k + 1, by omega, by go_num⟩
      case measure => simp [intOf]; omega
    · have hke : k = n := by omega
      subst hke
      go_wp2
      go_ret
      exact ⟨rfl, rfl⟩

theorem row_less {w : World} {B g n cap : Nat} {L : List Int} (x : Int) (h : Row w B g (n + 1) cap (L ++ [x])) (hn : L.length = n) : Row w B g n cap L := by
  refine ⟨by rw [valsI_len]; omega, ?_⟩
  rcases h.2 with ⟨h1, _⟩ | ⟨g', cap', cur, h1, h2, h3, h4, h5, h6, h7⟩
  · cases h1
  · cases h1
    refine .inr ⟨g, cap, cur, rfl, h2, h3, by omega, h5, h6, ?_⟩
    have e : (valsI (L ++ [x])).take (n * 1) = valsI L := by
      rw [valsI_app, List.take_append_of_le_length (by rw [valsI_len]; omega), List.take_of_length_le (by rw [valsI_len]; omega)]
    rw [← e, ← h7, List.take_take, Nat.min_eq_left (by omega)]
theorem set_mid (P R : List Int) (x y : Int) : (valsI (P ++ x :: R)).set P.length (.int .i64 y) = valsI (P ++ y :: R) := by
  simp only [valsI, List.map_append, List.map_cons]
  rw [List.set_append_right _ _ (by simp)]
  simp
theorem grown_setI {w : World} (B o : Nat) (v : Value) : w.grownBy (w.setCell ⟨B, o, none⟩ v) (some B) :=
  have b := (Below.refl 0 w).setCell (p := ⟨B, o, none⟩) (Nat.zero_le _) v
  ⟨b.os, b.tape, b.output, b.size, fun k hk hne => Below.heap_setCell w ⟨B, o, none⟩ v k (by intro e; exact hne (by rw [e]))⟩

set_option maxRecDepth 100000 in
set_option maxHeartbeats 4000000 in
theorem del_hit (B g cap Bw : Nat) (A C : List Int) (what : Int) (w : World) (h : Row w B g (A.length + 1 + C.length) cap (A ++ what :: C)) (hA : what ∉ A) (hC : what ∉ C) (hw : w.cell? ⟨Bw, 0, none⟩ = some (.int .i64 what)) (hlt : Bw < w.heap.size) (hne : Bw ≠ g) (h9 : A.length + C.length ≤ 100) (hcap : A.length + 1 + C.length ≤ cap) (hcm : cap ≤ 1000) :
    Calls Tryz.prog 124 #[.slice (some ⟨g, 0, none⟩) (A.length + 1 + C.length) cap, .func (.func 125) #[] #[.pointer (some ⟨Bw, 0, none⟩)]] w fun e w' => e = .returned (.slice (some ⟨g, 0, none⟩) (A.length + C.length) cap) ∧ Row w' B g (A.length + C.length) cap (A ++ C) ∧ w.grownBy w' (some g) := by
  have HI := idx_hit B g cap Bw A C what w h hA hw hlt h9
  have HC : Hid (what ∉ C) := hC
  have hgS : g < w.heap.size := (h.lt g rfl).2
  obtain ⟨a, ha⟩ : ∃ a, a = A.length := ⟨_, rfl⟩
  obtain ⟨c, hc⟩ : ∃ c, c = C.length := ⟨_, rfl⟩
  have HLA : Hid (a = A.length) := ha
  have HLC : Hid (c = C.length) := hc
  rw [← ha, ← hc] at HI h h9 hcap ⊢
  clear ha hc hA hC
  go_enter Tryz.func124, Tryz.ntmps124
  go_wp2_with fail
  refine HI.mono ?_
  rintro e w' ⟨rfl, rfl⟩
  clear HI
  have ha1 : ((a : Int) == -1) = false := by first | (simp; done) | (simp; omega)
  go_wp2
  go_loopw [5, 6] (fun i j wr => ∃ t : Nat, t ≤ c ∧ i = .int .i64 ((a + t : Nat) : Int) ∧ j = .int .i64 ((a + 1 + t : Nat) : Int) ∧ (∃ x, Row wr B g (a + 1 + c) cap (A ++ C.take t ++ x :: C.drop t)) ∧ w.grownBy wr (some g)) (fun _ j _ => a + 1 + c - (intOf j).toNat)
  case atStart => exact ⟨0, Nat.zero_le _, rfl, by go_num, ⟨what, by simpa using h⟩, World.grownBy.refl _ _⟩
  case round =>
    obtain ⟨t, ht, rfl, rfl, ⟨x, hO⟩, hg⟩ := hrel
    have hw' := (World.grownBy.cell_far hg ⟨Bw, 0, none⟩ hlt (by simp; exact hne)).trans hw
    have hltr : Bw < wr.heap.size := Nat.lt_of_lt_of_le hlt hg.size
    have hgr : g < wr.heap.size := Nat.lt_of_lt_of_le hgS hg.size
    by_cases hlt2 : t < c
    · have htC : t < C.length := by have := HLC.out; omega
      have eL : A ++ C.take t ++ x :: C.drop t = A ++ C.take t ++ x :: C[t]'htC :: C.drop (t + 1) := by rw [← List.drop_eq_getElem_cons htC]
      have lA : (A ++ C.take t).length = a + t := by rw [List.length_append, List.length_take, ← HLA.out, ← HLC.out]; omega
      have c1 : wr.cell? ⟨g, a + 1 + t, none⟩ = some (.int .i64 (C[t]'htC)) := by
        rw [hO.cellAt (a + 1 + t) (by omega), eL]
        simp only [valsI, List.getElem?_map]
        rw [List.getElem?_append_right (by omega), lA, show a + 1 + t - (a + t) = 1 by omega]
        rfl
      have c0 : wr.cell? ⟨g, a + t, none⟩ = some (.int .i64 x) := by
        rw [hO.cellAt (a + t) (by omega)]
        simp only [valsI, List.getElem?_map]
        rw [List.getElem?_append_right (by omega), lA, Nat.sub_self]
        rfl
      have f0 := hO.frozenAt (a + t)
      have hst := (hO.stored (a + t) (.int .i64 (C[t]'htC))).1
      have hO2 : Row (wr.setCell ⟨g, a + t, none⟩ (.int .i64 (C[t]'htC))) B g (a + 1 + c) cap (A ++ C.take (t + 1) ++ (C[t]'htC) :: C.drop (t + 1)) := by
        have e : (valsI (A ++ C.take t ++ x :: C.drop t)).set (a + t) (.int .i64 (C[t]'htC)) = valsI (A ++ C.take (t + 1) ++ (C[t]'htC) :: C.drop (t + 1)) := by
          have e2 : A ++ C.take (t + 1) ++ (C[t]'htC) :: C.drop (t + 1) = A ++ C.take t ++ (C[t]'htC) :: (C[t]'htC) :: C.drop (t + 1) := by
            rw [List.take_succ_eq_append_getElem htC]
            simp only [List.append_assoc, List.cons_append, List.nil_append]
          rw [eL, e2, ← lA]
          exact set_mid _ _ _ _
        rw [e] at hst
        exact hst
      have hcne : Hid ((C[t]'htC == what) = false) := by
        show _ = _
        simp only [beq_eq_false_iff_ne, ne_eq]
        exact fun e => HC.out (by rw [← e]; exact List.getElem_mem htC)
      have hg2 : w.grownBy (wr.setCell ⟨g, a + t, none⟩ (.int .i64 (C[t]'htC))) (some g) := hg.trans (grown_setI _ _ _)
      have HO2 : Hid _ := hO2
      have HG2 : Hid _ := hg2
      generalize C[t]'htC = y at *
      have hjI : ((a : Int) + 1 + (t : Int)) < (a : Int) + 1 + (c : Int) := by omega
      clear hO hst hO2 hg2 eL hg
      go_wp2_with fail
      refine (same_is y what Bw _ hw' hltr).mono ?_
      rw [hcne.out]
      rintro e w' ⟨rfl, rfl⟩
      go_wp2
      go_roundw
      case rel => exact ⟨t + 1, by omega, by go_num, by go_num, ⟨y, HO2.out⟩, HG2.out⟩
      case measure => simp [intOf]; omega
    · have hte : t = c := by omega
      subst hte
      have eT : A ++ C.take t ++ x :: C.drop t = (A ++ C) ++ [x] := by rw [HLC.out, List.take_length, List.drop_length]
      rw [eT] at hO
      have hcl := fun (ty : TypeId) (q : Nat) => Lib.run_clear_slice (P := Tryz.prog) wr 81 3 ty (.int .i64 0) Tryz.underlying81 (fun _ => by rfl) rfl rfl g (a + t) 1 q (by omega) (fun j hj => by
        have e : j = 0 := by omega
        subst e
        rw [Nat.add_zero, hO.cellAt (a + t) (by omega)]
        simp only [valsI, List.getElem?_map]
        rw [List.getElem?_append_right (by rw [List.length_append, ← HLA.out, ← HLC.out]; omega), List.length_append, ← HLA.out, ← HLC.out, Nat.sub_self]
        rfl) (fun j hj => hO.frozenAt (a + t + j))
      have hin : (a : Int) + (t : Int) ≤ (a : Int) + 1 + (t : Int) := by omega
      have hst := (hO.stored (a + t) (.int .i64 0)).1
      have hO2 : Row (wr.setCell ⟨g, a + t, none⟩ (.int .i64 0)) B g (a + t) cap (A ++ C) := by
        have lA : (A ++ C).length = a + t := by rw [List.length_append, ← HLA.out, ← HLC.out]
        have e : (valsI ((A ++ C) ++ [x])).set (a + t) (.int .i64 0) = valsI ((A ++ C) ++ [0]) := by rw [← lA]; exact set_mid _ [] x 0
        rw [e] at hst
        rw [show a + 1 + t = a + t + 1 by omega] at hst
        exact row_less 0 hst lA
      have HO2 : Hid _ := hO2
      have HG2 : Hid (w.grownBy (wr.setCell ⟨g, a + t, none⟩ (.int .i64 0)) (some g)) := hg.trans (grown_setI _ _ _)
      have hsub : a + 1 + t - (a + t) = 1 := by omega
      clear hO hst hO2 hg eT
      go_wp2
      go_ret
      exact ⟨rfl, HO2.out, HG2.out⟩

set_option maxHeartbeats 1000000 in
theorem del_none (B g cap n Bw : Nat) (L : List Int) (what : Int) (w : World) (h : Row w B g n cap L) (hn : L.length = n) (hA : what ∉ L) (hw : w.cell? ⟨Bw, 0, none⟩ = some (.int .i64 what)) (hlt : Bw < w.heap.size) (h9 : n ≤ 100) :
    Calls Tryz.prog 124 #[.slice (some ⟨g, 0, none⟩) n cap, .func (.func 125) #[] #[.pointer (some ⟨Bw, 0, none⟩)]] w fun e w' => e = .returned (.slice (some ⟨g, 0, none⟩) n cap) ∧ w = w' := by
  have HI := idx_none B g cap n Bw L what w h hn hA hw hlt h9
  clear h hA
  go_enter Tryz.func124, Tryz.ntmps124
  go_wp2_with fail
  refine HI.mono ?_
  rintro e w' ⟨rfl, rfl⟩
  go_wp2
  go_ret
  exact ⟨rfl, rfl⟩

end Std
end Go.Proofs.YtgnjkpmbppmoeaaGreat

/- DERIVED. (*impl.planBuilder).found: its walk. -/
namespace Go.Proofs.YtgnjkpmbppmoeaaGreat
namespace Std
open Go.RowKit
set_option linter.unusedSimpArgs false
set_option linter.unusedVariables false

/-- The box of a draft: ten cells, that may be stored into. -/
structure Dr (W : World) (Bd : Nat) (cs : List Value) : Prop where
  c : ∀ i, W.cell? ⟨Bd, i, none⟩ = cs[i]?
  f : ∀ i, W.frozen? ⟨Bd, i, none⟩ = false
  lt : Bd < W.heap.size
theorem Dr.kept {W W' : World} {Bd : Nat} {cs : List Value} (h : Dr W Bd cs) (hb : W'.heap[Bd]? = W.heap[Bd]?) (hz : W.heap.size ≤ W'.heap.size) : Dr W' Bd cs :=
  ⟨fun i => (World.cell?_of_block (w := W) hb).trans (h.c i), fun i => (World.frozen?_of_block (w := W) hb).trans (h.f i), Nat.lt_of_lt_of_le h.lt hz⟩
theorem Dr.set {W : World} {Bd : Nat} {cs : List Value} (h : Dr W Bd cs) (k : Nat) (v : Value) (hk : k < cs.length) : Dr (W.setCell ⟨Bd, k, none⟩ v) Bd (cs.set k v) where
  c := fun i => by
    by_cases e : i = k
    · subst e
      have h1 := h.c i
      rw [List.getElem?_eq_getElem hk] at h1
      rw [List.getElem?_set_self hk]
      have hlt := h.lt
      go_simp
    · rw [List.getElem?_set_ne (fun x => e x.symm)]
      have h1 := h.c i
      have hlt := h.lt
      have hne : ¬ k = i := fun x => e x.symm
      rw [← h1]
      go_simp
  f := fun i => by
    have h1 := h.f i
    have hlt := h.lt
    go_simp
  lt := by simpa using h.lt

set_option maxRecDepth 100000 in
set_option maxHeartbeats 2000000 in
theorem found_hit (B g cap Bd : Nat) (A C : List Int) (what : Int) (cs : List Value) (w : World) (hD : Dr w Bd cs) (h8 : cs[8]? = some (.slice (some ⟨g, 0, none⟩) (A.length + 1 + C.length) cap)) (hcs : cs.length = 10)
    (h : Row w B g (A.length + 1 + C.length) cap (A ++ what :: C)) (hA : what ∉ A) (hC : what ∉ C) (hne : Bd ≠ g) (h9 : A.length + C.length ≤ 100) (hcap : A.length + 1 + C.length ≤ cap) (hcm : cap ≤ 1000) :
    Calls Tryz.prog 117 #[.pointer (some ⟨Bd, 0, none⟩), .int .i64 what] w fun e w' => e = .returned (.tuple #[]) ∧ Dr w' Bd (cs.set 8 (.slice (some ⟨g, 0, none⟩) (A.length + C.length) cap)) ∧ Row w' B g (A.length + C.length) cap (A ++ C) ∧ (∀ b, b < w.heap.size → b ≠ Bd → b ≠ g → w'.heap[b]? = w.heap[b]?) ∧ Below 0 w w' := by
  have c8 := (hD.c 8).trans h8
  have f8 := hD.f 8
  have hBd := hD.lt
  have hgS : g < w.heap.size := (h.lt g rfl).2
  have hal := fun b (hb : b < w.heap.size) => Below.heap_alloc w (.cells #[.int .i64 what] 3) b hb
  have HD1 : Dr (w.alloc (.cells #[.int .i64 what] 3)) Bd cs := hD.kept (hal _ hBd) (by simp)
  have HDel := del_hit B g cap w.heap.size A C what (w.alloc (.cells #[.int .i64 what] 3)) (h.alloc _) hA hC (by simp) (by simp) (by omega) h9 hcap hcm
  have H8 : Hid _ := h8
  clear h hA hC h8
  go_enter Tryz.func117, Tryz.ntmps117
  go_wp2_with fail
  refine HDel.mono ?_
  rintro e w1 ⟨rfl, hR, hg⟩
  have hz1 : w.heap.size + 1 ≤ w1.heap.size := by have := hg.size; simpa using this
  have HD2 := HD1.kept (hg.block Bd HD1.lt (by simp; exact hne)) hg.size
  have c8' := (HD2.c 8).trans H8.out
  have f8' := HD2.f 8
  have HD3 : Hid (Dr (w1.setCell ⟨Bd, 8, none⟩ (.slice (some ⟨g, 0, none⟩) (A.length + C.length) cap)) Bd (cs.set 8 (.slice (some ⟨g, 0, none⟩) (A.length + C.length) cap))) := HD2.set 8 _ (by omega)
  have HR : Hid (Row (w1.setCell ⟨Bd, 8, none⟩ (.slice (some ⟨g, 0, none⟩) (A.length + C.length) cap)) B g (A.length + C.length) cap (A ++ C)) := hR.kept (row := some Bd) (grown_setI _ _ _) (.inr (by simp [Value.ownBlock]; exact fun e => hne e.symm))
  have HO : Hid (∀ b, b < w.heap.size → b ≠ Bd → b ≠ g → (w1.setCell ⟨Bd, 8, none⟩ (.slice (some ⟨g, 0, none⟩) (A.length + C.length) cap)).heap[b]? = w.heap[b]?) := fun b hb h1 h2 => by
    rw [Below.heap_setCell w1 ⟨Bd, 8, none⟩ _ b h1, hg.block b (by simp; omega) (by simp; exact fun e => h2 e)]
    exact hal b hb
  have HB : Hid (Below 0 w (w1.setCell ⟨Bd, 8, none⟩ (.slice (some ⟨g, 0, none⟩) (A.length + C.length) cap))) := (((Below.refl 0 w).alloc (Nat.zero_le _) _).grown hg (Nat.zero_le _) (fun _ _ => Nat.zero_le _)).setCell (Nat.zero_le _) _
  have hBd1 : Bd < w1.heap.size := by omega
  clear hR hg HD2 HD1 hal hD c8 f8
  go_wp2
  go_end0
  exact ⟨rfl, HD3.out, HR.out, HO.out, HB.out⟩

set_option maxRecDepth 100000 in
set_option maxHeartbeats 2000000 in
theorem found_none (B g cap n Bd : Nat) (L : List Int) (what : Int) (cs : List Value) (w : World) (hD : Dr w Bd cs) (h8 : cs[8]? = some (.slice (some ⟨g, 0, none⟩) n cap)) (hcs : cs.length = 10)
    (h : Row w B g n cap L) (hn : L.length = n) (hA : what ∉ L) (hne : Bd ≠ g) (h9 : n ≤ 100) :
    Calls Tryz.prog 117 #[.pointer (some ⟨Bd, 0, none⟩), .int .i64 what] w fun e w' => e = .returned (.tuple #[]) ∧ Dr w' Bd cs ∧ Row w' B g n cap L ∧ (∀ b, b < w.heap.size → b ≠ Bd → w'.heap[b]? = w.heap[b]?) ∧ Below 0 w w' := by
  have c8 := (hD.c 8).trans h8
  have f8 := hD.f 8
  have hBd := hD.lt
  have hgS : g < w.heap.size := (h.lt g rfl).2
  have hal := fun b (hb : b < w.heap.size) => Below.heap_alloc w (.cells #[.int .i64 what] 3) b hb
  have HD1 : Dr (w.alloc (.cells #[.int .i64 what] 3)) Bd cs := hD.kept (hal _ hBd) (by simp)
  have hR1 := h.alloc (.cells #[.int .i64 what] 3)
  have HDel := del_none B g cap n w.heap.size L what (w.alloc (.cells #[.int .i64 what] 3)) hR1 hn hA (by simp) (by simp) h9
  have H8 : Hid _ := h8
  clear h hA h8
  go_enter Tryz.func117, Tryz.ntmps117
  go_wp2_with fail
  refine HDel.mono ?_
  rintro e w1 ⟨rfl, rfl⟩
  obtain ⟨w1, hw1⟩ : ∃ w1 : World, w1 = w.alloc (.cells #[.int .i64 what] 3) := ⟨_, rfl⟩
  rw [← hw1] at HD1 hR1 ⊢
  have hz1 : w1.heap.size = w.heap.size + 1 := by rw [hw1]; simp
  have hal1 : ∀ b, b < w.heap.size → w1.heap[b]? = w.heap[b]? := fun b hb => by rw [hw1]; exact hal b hb
  have hB1 : Below 0 w w1 := by rw [hw1]; exact (Below.refl 0 w).alloc (Nat.zero_le _) _
  have c8' := (HD1.c 8).trans H8.out
  have f8' := HD1.f 8
  have HD3 : Hid (Dr (w1.setCell ⟨Bd, 8, none⟩ (.slice (some ⟨g, 0, none⟩) n cap)) Bd cs) := by
    have h := HD1.set 8 (.slice (some ⟨g, 0, none⟩) n cap) (by omega)
    have e : cs.set 8 (.slice (some ⟨g, 0, none⟩) n cap) = cs := by
      apply List.ext_getElem?
      intro i
      by_cases hi : i = 8
      · subst hi; rw [List.getElem?_set_self (by omega)]; exact H8.out.symm
      · rw [List.getElem?_set_ne (fun x => hi x.symm)]
    rw [e] at h
    exact h
  have HR : Hid (Row (w1.setCell ⟨Bd, 8, none⟩ (.slice (some ⟨g, 0, none⟩) n cap)) B g n cap L) := hR1.kept (row := some Bd) (grown_setI _ _ _) (.inr (by simp [Value.ownBlock]; exact fun e => hne e.symm))
  have HO : Hid (∀ b, b < w.heap.size → b ≠ Bd → (w1.setCell ⟨Bd, 8, none⟩ (.slice (some ⟨g, 0, none⟩) n cap)).heap[b]? = w.heap[b]?) := fun b hb h1 => by
    rw [Below.heap_setCell w1 ⟨Bd, 8, none⟩ _ b h1]
    exact hal1 b hb
  have HB : Hid (Below 0 w (w1.setCell ⟨Bd, 8, none⟩ (.slice (some ⟨g, 0, none⟩) n cap))) := hB1.setCell (Nat.zero_le _) _
  have hBd1 : Bd < w1.heap.size := by omega
  clear hR1 HD1 hal hD c8 f8 hw1 hal1 hB1 hz1
  go_wp2
  go_end0
  exact ⟨rfl, HD3.out, HR.out, HO.out, HB.out⟩

end Std
end Go.Proofs.YtgnjkpmbppmoeaaGreat

/- DERIVED. What a value of the draft's says: the type assertions, and (*impl.planBuilder).add (written by wip/tools/mk_df2.py). -/
namespace Go.Proofs.YtgnjkpmbppmoeaaGreat
namespace Std
open Go.RowKit
set_option linter.unusedSimpArgs false
set_option linter.unusedVariables false

theorem asKK (v : Value) (w : World) : (Instr.typeAssert (.iface 31 v) 20 31 true).run Tryz.prog w = .ok (.tuple #[v, .bool true]) w := by kernel_rfl
theorem asKT (v : Value) (w : World) : (Instr.typeAssert (.iface 31 v) 20 194 true).run Tryz.prog w = .ok (.tuple #[.agg #[.int .i64 0, .int .i64 0], .bool false]) w := by kernel_rfl
theorem asKL (v : Value) (w : World) : (Instr.typeAssert (.iface 31 v) 20 196 true).run Tryz.prog w = .ok (.tuple #[.int .i64 0, .bool false]) w := by kernel_rfl
theorem asKR (v : Value) (w : World) : (Instr.typeAssert (.iface 31 v) 20 198 true).run Tryz.prog w = .ok (.tuple #[.slice none 0 0, .bool false]) w := by kernel_rfl
theorem asKS (v : Value) (w : World) : (Instr.typeAssert (.iface 31 v) 20 167 true).run Tryz.prog w = .ok (.tuple #[.string ByteArray.empty, .bool false]) w := by kernel_rfl
theorem asTK (v : Value) (w : World) : (Instr.typeAssert (.iface 194 v) 20 31 true).run Tryz.prog w = .ok (.tuple #[.agg #[.string ByteArray.empty, .int .i64 0, .int .i64 0], .bool false]) w := by kernel_rfl
theorem asTT (v : Value) (w : World) : (Instr.typeAssert (.iface 194 v) 20 194 true).run Tryz.prog w = .ok (.tuple #[v, .bool true]) w := by kernel_rfl
theorem asTL (v : Value) (w : World) : (Instr.typeAssert (.iface 194 v) 20 196 true).run Tryz.prog w = .ok (.tuple #[.int .i64 0, .bool false]) w := by kernel_rfl
theorem asTR (v : Value) (w : World) : (Instr.typeAssert (.iface 194 v) 20 198 true).run Tryz.prog w = .ok (.tuple #[.slice none 0 0, .bool false]) w := by kernel_rfl
theorem asTS (v : Value) (w : World) : (Instr.typeAssert (.iface 194 v) 20 167 true).run Tryz.prog w = .ok (.tuple #[.string ByteArray.empty, .bool false]) w := by kernel_rfl
theorem asLK (v : Value) (w : World) : (Instr.typeAssert (.iface 196 v) 20 31 true).run Tryz.prog w = .ok (.tuple #[.agg #[.string ByteArray.empty, .int .i64 0, .int .i64 0], .bool false]) w := by kernel_rfl
theorem asLT (v : Value) (w : World) : (Instr.typeAssert (.iface 196 v) 20 194 true).run Tryz.prog w = .ok (.tuple #[.agg #[.int .i64 0, .int .i64 0], .bool false]) w := by kernel_rfl
theorem asLL (v : Value) (w : World) : (Instr.typeAssert (.iface 196 v) 20 196 true).run Tryz.prog w = .ok (.tuple #[v, .bool true]) w := by kernel_rfl
theorem asLR (v : Value) (w : World) : (Instr.typeAssert (.iface 196 v) 20 198 true).run Tryz.prog w = .ok (.tuple #[.slice none 0 0, .bool false]) w := by kernel_rfl
theorem asLS (v : Value) (w : World) : (Instr.typeAssert (.iface 196 v) 20 167 true).run Tryz.prog w = .ok (.tuple #[.string ByteArray.empty, .bool false]) w := by kernel_rfl
theorem asRK (v : Value) (w : World) : (Instr.typeAssert (.iface 198 v) 20 31 true).run Tryz.prog w = .ok (.tuple #[.agg #[.string ByteArray.empty, .int .i64 0, .int .i64 0], .bool false]) w := by kernel_rfl
theorem asRT (v : Value) (w : World) : (Instr.typeAssert (.iface 198 v) 20 194 true).run Tryz.prog w = .ok (.tuple #[.agg #[.int .i64 0, .int .i64 0], .bool false]) w := by kernel_rfl
theorem asRL (v : Value) (w : World) : (Instr.typeAssert (.iface 198 v) 20 196 true).run Tryz.prog w = .ok (.tuple #[.int .i64 0, .bool false]) w := by kernel_rfl
theorem asRR (v : Value) (w : World) : (Instr.typeAssert (.iface 198 v) 20 198 true).run Tryz.prog w = .ok (.tuple #[v, .bool true]) w := by kernel_rfl
theorem asRS (v : Value) (w : World) : (Instr.typeAssert (.iface 198 v) 20 167 true).run Tryz.prog w = .ok (.tuple #[.string ByteArray.empty, .bool false]) w := by kernel_rfl
theorem asSS (v : Value) (w : World) : (Instr.typeAssert (.iface 167 v) 20 167 true).run Tryz.prog w = .ok (.tuple #[v, .bool true]) w := by kernel_rfl

/-- The draft's box from w0 on: its cells now; every other block, g aside, lies as it lay. -/
structure At (w0 W : World) (Bd g : Nat) (cs : List Value) : Prop where
  d : Dr W Bd cs
  o : ∀ b, b < w0.heap.size → b ≠ Bd → b ≠ g → W.heap[b]? = w0.heap[b]?
  z : w0.heap.size ≤ W.heap.size
  b : Below 0 w0 W
theorem At.refl {w : World} {Bd : Nat} {cs : List Value} (h : Dr w Bd cs) : At w w Bd Bd cs := ⟨h, fun _ _ _ _ => rfl, Nat.le_refl _, Below.refl 0 w⟩
theorem At.set {w0 W : World} {Bd g : Nat} {cs : List Value} (h : At w0 W Bd g cs) (k : Nat) (v : Value) (hk : k < cs.length) : At w0 (W.setCell ⟨Bd, k, none⟩ v) Bd g (cs.set k v) :=
  ⟨h.d.set k v hk, fun b hb h1 h2 => (Below.heap_setCell W ⟨Bd, k, none⟩ _ b h1).trans (h.o b hb h1 h2), by simpa using h.z, h.b.setCell (Nat.zero_le _) _⟩
theorem At.alloc {w0 W : World} {Bd g : Nat} {cs : List Value} (h : At w0 W Bd g cs) (ob : Obj) : At w0 (W.alloc ob) Bd g cs :=
  ⟨h.d.kept (Below.heap_alloc W ob Bd h.d.lt) (by simp), fun b hb h1 h2 => (Below.heap_alloc W ob b (Nat.lt_of_lt_of_le hb h.z)).trans (h.o b hb h1 h2), by have := h.z; simp; omega, h.b.alloc (Nat.zero_le _) _⟩
theorem At.drew {w0 W : World} {Bd g : Nat} {cs : List Value} (h : At w0 W Bd g cs) : At w0 W.drew Bd g cs :=
  ⟨h.d.kept rfl (Nat.le_refl _), h.o, h.z, h.b.drew⟩
theorem At.then {w0 W W' : World} {Bd g : Nat} {cs cs' : List Value} (h : At w0 W Bd Bd cs) (hD : Dr W' Bd cs') (ho : ∀ b, b < W.heap.size → b ≠ Bd → b ≠ g → W'.heap[b]? = W.heap[b]?) (hb : Below 0 W W') : At w0 W' Bd g cs' :=
  ⟨hD, fun b hb h1 h2 => (ho b (Nat.lt_of_lt_of_le hb h.z) h1 h2).trans (h.o b hb h1 h1), Nat.le_trans h.z hb.size, h.b.trans hb⟩
theorem own_of {w W : World} {B : Nat} {e : TypeId} {size : Nat} {v : Value} {n : Nat} {xs : List Value} (h : w.ownsRow B e size v n xs) (hk : ∀ g, v.ownBlock = some g → W.heap[g]? = w.heap[g]?) : W.ownsRow B e size v n xs := by
  refine ⟨h.1, h.2.imp id ?_⟩
  rintro ⟨g, cap, cur, rfl, h2, h3, h4⟩
  exact ⟨g, cap, cur, rfl, h2, (hk g rfl).trans h3, h4⟩
theorem At.row {w0 W : World} {Bd g B n cap : Nat} {cs : List Value} {l : List Int} (h : At w0 W Bd Bd cs) (hr : Row w0 B g n cap l) (hne : Bd ≠ g) : Row W B g n cap l :=
  own_of hr (fun b hb => by
    have e : g = b := by simpa [Value.ownBlock] using hb
    subst e
    exact h.o g (hr.lt g rfl).2 (fun e => hne e.symm) (fun e => hne e.symm))

set_option maxRecDepth 100000 in
set_option maxHeartbeats 4000000 in
theorem addK (B g cap Bd : Nat) (A C : List Int) (a : ByteArray) (b c : Int) (cs : List Value) (w : World) (hD : Dr w Bd cs) (h8 : cs[8]? = some (.slice (some ⟨g, 0, none⟩) (A.length + 1 + C.length) cap)) (hcs : cs.length = 10)
    (h : Row w B g (A.length + 1 + C.length) cap (A ++ 1 :: C)) (hA : (1 : Int) ∉ A) (hC : (1 : Int) ∉ C) (hne : Bd ≠ g) (h9 : A.length + C.length ≤ 100) (hcap : A.length + 1 + C.length ≤ cap) (hcm : cap ≤ 1000) :
    Calls Tryz.prog 104 #[.pointer (some ⟨Bd, 0, none⟩), .iface 31 (.agg #[.string a, .int .i64 b, .int .i64 c])] w fun e w' => e = .returned (.tuple #[]) ∧ At w w' Bd g ((((cs.set 1 (.string a)).set 2 (.int .i64 b)).set 3 (.int .i64 c)).set 8 (.slice (some ⟨g, 0, none⟩) (A.length + C.length) cap)) ∧ Row w' B g (A.length + C.length) cap (A ++ C) := by
  have a1 := asKK (.agg #[.string a, .int .i64 b, .int .i64 c])
  have a2 := asKT (.agg #[.string a, .int .i64 b, .int .i64 c])
  have a3 := asKL (.agg #[.string a, .int .i64 b, .int .i64 c])
  have a4 := asKR (.agg #[.string a, .int .i64 b, .int .i64 c])
  have c1 := hD.c 1
  have c2 := hD.c 2
  have c3 := hD.c 3
  rw [List.getElem?_eq_getElem (by omega)] at c1 c2 c3
  have f1 := hD.f 1
  have f2 := hD.f 2
  have f3 := hD.f 3
  have hBd := hD.lt
  generalize cs[1] = q1 at c1
  generalize cs[2] = q2 at c2
  generalize cs[3] = q3 at c3
  have HA := (((((At.refl hD).set 1 (.string a) (by simp [hcs])).set 2 (.int .i64 b) (by simp [hcs])).set 3 (.int .i64 c) (by simp [hcs])).alloc (.cells #[.string a, .int .i64 b, .int .i64 c] 31))
  have HR := HA.row h hne
  have HC : ((((cs.set 1 (.string a)).set 2 (.int .i64 b)).set 3 (.int .i64 c)))[8]? = some (.slice (some ⟨g, 0, none⟩) (A.length + 1 + C.length) cap) := by simpa using h8
  have HF := found_hit B g cap Bd A C 1 _ _ HA.d HC (by simp [hcs]) HR hA hC hne h9 hcap hcm
  have HH : Hid (Dr w Bd cs ∧ At w _ Bd Bd _) := ⟨hD, HA⟩
  clear hD HA HR h h8 hA hC HC
  go_enter Tryz.func104, Tryz.ntmps104
  go_wp2_with fail
  refine HF.mono ?_
  rintro e w1 ⟨rfl, hD1, hR1, ho1, hb1⟩
  have HE : Hid (At w w1 Bd g _) := HH.out.2.then hD1 ho1 hb1
  have hR1 : Hid _ := hR1
  clear hD1 ho1 hb1
  go_wp2
  go_end0
  exact ⟨rfl, HE.out.alloc _, World.ownsRow.alloc hR1.out _⟩

set_option maxRecDepth 100000 in
set_option maxHeartbeats 4000000 in
theorem addT (B g cap Bd : Nat) (A C : List Int) (a b : Int) (cs : List Value) (w : World) (hD : Dr w Bd cs) (h8 : cs[8]? = some (.slice (some ⟨g, 0, none⟩) (A.length + 1 + C.length) cap)) (hcs : cs.length = 10)
    (h : Row w B g (A.length + 1 + C.length) cap (A ++ 2 :: C)) (hA : (2 : Int) ∉ A) (hC : (2 : Int) ∉ C) (hne : Bd ≠ g) (h9 : A.length + C.length ≤ 100) (hcap : A.length + 1 + C.length ≤ cap) (hcm : cap ≤ 1000) :
    Calls Tryz.prog 104 #[.pointer (some ⟨Bd, 0, none⟩), .iface 194 (.agg #[.int .i64 a, .int .i64 b])] w fun e w' => e = .returned (.tuple #[]) ∧ At w w' Bd g (((cs.set 4 (.int .i64 a)).set 5 (.int .i64 b)).set 8 (.slice (some ⟨g, 0, none⟩) (A.length + C.length) cap)) ∧ Row w' B g (A.length + C.length) cap (A ++ C) := by
  have a1 := asTK (.agg #[.int .i64 a, .int .i64 b])
  have a2 := asTT (.agg #[.int .i64 a, .int .i64 b])
  have a3 := asTL (.agg #[.int .i64 a, .int .i64 b])
  have a4 := asTR (.agg #[.int .i64 a, .int .i64 b])
  have c4 := hD.c 4
  have c5 := hD.c 5
  rw [List.getElem?_eq_getElem (by omega)] at c4 c5
  have f4 := hD.f 4
  have f5 := hD.f 5
  have hBd := hD.lt
  generalize cs[4] = q4 at c4
  generalize cs[5] = q5 at c5
  have HA := (((((At.refl hD).set 4 (.int .i64 a) (by simp [hcs])).set 5 (.int .i64 b) (by simp [hcs])).alloc (.cells #[.string ByteArray.empty, .int .i64 0, .int .i64 0] 31)).alloc (.cells #[.int .i64 a, .int .i64 b] 194)).drew
  have HR := HA.row h hne
  have HC : (((cs.set 4 (.int .i64 a)).set 5 (.int .i64 b)))[8]? = some (.slice (some ⟨g, 0, none⟩) (A.length + 1 + C.length) cap) := by simpa using h8
  have HF := found_hit B g cap Bd A C 2 _ _ HA.d HC (by simp [hcs]) HR hA hC hne h9 hcap hcm
  have HH : Hid (Dr w Bd cs ∧ At w _ Bd Bd _) := ⟨hD, HA⟩
  clear hD HA HR h h8 hA hC HC
  go_enter Tryz.func104, Tryz.ntmps104
  go_wp2_with fail
  go_region
  go_wp2_with fail
  refine HF.mono ?_
  rintro e w1 ⟨rfl, hD1, hR1, ho1, hb1⟩
  have HE : Hid (At w w1 Bd g _) := HH.out.2.then hD1 ho1 hb1
  have hR1 : Hid _ := hR1
  clear hD1 ho1 hb1
  go_wp2
  go_end0
  exact ⟨rfl, HE.out, hR1.out⟩

set_option maxRecDepth 100000 in
set_option maxHeartbeats 4000000 in
theorem addL (B g cap Bd : Nat) (A C : List Int) (a : Int) (cs : List Value) (w : World) (hD : Dr w Bd cs) (h8 : cs[8]? = some (.slice (some ⟨g, 0, none⟩) (A.length + 1 + C.length) cap)) (hcs : cs.length = 10)
    (h : Row w B g (A.length + 1 + C.length) cap (A ++ 3 :: C)) (hA : (3 : Int) ∉ A) (hC : (3 : Int) ∉ C) (hne : Bd ≠ g) (h9 : A.length + C.length ≤ 100) (hcap : A.length + 1 + C.length ≤ cap) (hcm : cap ≤ 1000) :
    Calls Tryz.prog 104 #[.pointer (some ⟨Bd, 0, none⟩), .iface 196 (.int .i64 a)] w fun e w' => e = .returned (.tuple #[]) ∧ At w w' Bd g ((cs.set 6 (.int .i64 a)).set 8 (.slice (some ⟨g, 0, none⟩) (A.length + C.length) cap)) ∧ Row w' B g (A.length + C.length) cap (A ++ C) := by
  have a1 := asLK (.int .i64 a)
  have a2 := asLT (.int .i64 a)
  have a3 := asLL (.int .i64 a)
  have a4 := asLR (.int .i64 a)
  have c6 := hD.c 6
  rw [List.getElem?_eq_getElem (by omega)] at c6
  have f6 := hD.f 6
  have hBd := hD.lt
  generalize cs[6] = q6 at c6
  have HA := ((((At.refl hD).set 6 (.int .i64 a) (by simp [hcs])).alloc (.cells #[.string ByteArray.empty, .int .i64 0, .int .i64 0] 31)).alloc (.cells #[.int .i64 0, .int .i64 0] 194))
  have HR := HA.row h hne
  have HC : ((cs.set 6 (.int .i64 a)))[8]? = some (.slice (some ⟨g, 0, none⟩) (A.length + 1 + C.length) cap) := by simpa using h8
  have HF := found_hit B g cap Bd A C 3 _ _ HA.d HC (by simp [hcs]) HR hA hC hne h9 hcap hcm
  have HH : Hid (Dr w Bd cs ∧ At w _ Bd Bd _) := ⟨hD, HA⟩
  clear hD HA HR h h8 hA hC HC
  go_enter Tryz.func104, Tryz.ntmps104
  go_wp2_with fail
  refine HF.mono ?_
  rintro e w1 ⟨rfl, hD1, hR1, ho1, hb1⟩
  have HE : Hid (At w w1 Bd g _) := HH.out.2.then hD1 ho1 hb1
  have hR1 : Hid _ := hR1
  clear hD1 ho1 hb1
  go_wp2
  go_end0
  exact ⟨rfl, HE.out, hR1.out⟩

set_option maxRecDepth 100000 in
set_option maxHeartbeats 4000000 in
theorem addR (B g cap Bd : Nat) (A C : List Int) (ad : Option Addr) (n c : Nat) (cs : List Value) (w : World) (hD : Dr w Bd cs) (h8 : cs[8]? = some (.slice (some ⟨g, 0, none⟩) (A.length + 1 + C.length) cap)) (hcs : cs.length = 10)
    (h : Row w B g (A.length + 1 + C.length) cap (A ++ 4 :: C)) (hA : (4 : Int) ∉ A) (hC : (4 : Int) ∉ C) (hne : Bd ≠ g) (h9 : A.length + C.length ≤ 100) (hcap : A.length + 1 + C.length ≤ cap) (hcm : cap ≤ 1000) :
    Calls Tryz.prog 104 #[.pointer (some ⟨Bd, 0, none⟩), .iface 198 (.slice ad n c)] w fun e w' => e = .returned (.tuple #[]) ∧ At w w' Bd g ((cs.set 7 (.slice ad n c)).set 8 (.slice (some ⟨g, 0, none⟩) (A.length + C.length) cap)) ∧ Row w' B g (A.length + C.length) cap (A ++ C) := by
  have a1 := asRK (.slice ad n c)
  have a2 := asRT (.slice ad n c)
  have a3 := asRL (.slice ad n c)
  have a4 := asRR (.slice ad n c)
  have c7 := hD.c 7
  rw [List.getElem?_eq_getElem (by omega)] at c7
  have f7 := hD.f 7
  have hBd := hD.lt
  generalize cs[7] = q7 at c7
  have HA := ((((At.refl hD).set 7 (.slice ad n c) (by simp [hcs])).alloc (.cells #[.string ByteArray.empty, .int .i64 0, .int .i64 0] 31)).alloc (.cells #[.int .i64 0, .int .i64 0] 194))
  have HR := HA.row h hne
  have HC : ((cs.set 7 (.slice ad n c)))[8]? = some (.slice (some ⟨g, 0, none⟩) (A.length + 1 + C.length) cap) := by simpa using h8
  have HF := found_hit B g cap Bd A C 4 _ _ HA.d HC (by simp [hcs]) HR hA hC hne h9 hcap hcm
  have HH : Hid (Dr w Bd cs ∧ At w _ Bd Bd _) := ⟨hD, HA⟩
  clear hD HA HR h h8 hA hC HC
  go_enter Tryz.func104, Tryz.ntmps104
  go_wp2_with fail
  refine HF.mono ?_
  rintro e w1 ⟨rfl, hD1, hR1, ho1, hb1⟩
  have HE : Hid (At w w1 Bd g _) := HH.out.2.then hD1 ho1 hb1
  have hR1 : Hid _ := hR1
  clear hD1 ho1 hb1
  go_wp2
  go_end0
  exact ⟨rfl, HE.out, hR1.out⟩

end Std
end Go.Proofs.YtgnjkpmbppmoeaaGreat

/- DERIVED. newPlanBuilder, (*planDraft).hear, (*planDraft).stands: their walks. -/
namespace Go.Proofs.YtgnjkpmbppmoeaaGreat
namespace Std
open Go.RowKit
set_option linter.unusedSimpArgs false
set_option linter.unusedVariables false

def closB : ByteArray := ⟨#[99, 108, 111, 115, 101, 100]⟩
theorem closB_list : closB.toList = [99, 108, 111, 115, 101, 100] := by decide +kernel
theorem lst_inj {a b : ByteArray} (h : a.toList = b.toList) : a = b := by
  rw [ByteArray.toList_eq, ByteArray.toList_eq] at h
  exact ByteArray.ext (Array.toList_inj.1 h)

set_option maxRecDepth 100000 in
set_option maxHeartbeats 2000000 in
/-- What is no state goes to add. -/
theorem hear_add (Bd : Nat) (t : TypeId) (v : Value) (w : World) (P : World → Prop) (hS : ∀ w, (Instr.typeAssert (.iface t v) 20 167 true).run Tryz.prog w = .ok (.tuple #[.string ByteArray.empty, .bool false]) w)
    (HA : Calls Tryz.prog 104 #[.pointer (some ⟨Bd, 0, none⟩), .iface t v] w fun e w' => e = .returned (.tuple #[]) ∧ P w') :
    Calls Tryz.prog 69 #[.pointer (some ⟨Bd, 0, none⟩), .iface t v] w fun e w' => e = .returned (.tuple #[]) ∧ P w' := by
  go_enter Tryz.func69, Tryz.ntmps69
  go_wp2_with fail
  refine HA.mono ?_
  rintro e w1 ⟨rfl, hP⟩
  go_wp2
  go_end0
  exact ⟨rfl, hP⟩

set_option maxRecDepth 100000 in
set_option maxHeartbeats 2000000 in
theorem hearS (Bd : Nat) (v : ByteArray) (cs : List Value) (w : World) (hD : Dr w Bd cs) (hcs : cs.length = 10) :
    Calls Tryz.prog 69 #[.pointer (some ⟨Bd, 0, none⟩), .iface 167 (.string v)] w fun e w' => e = .returned (.tuple #[]) ∧ At w w' Bd Bd (cs.set 9 (.bool (decide (v = closB)))) := by
  have a1 := asSS (.string v)
  have c9 := hD.c 9
  rw [List.getElem?_eq_getElem (by omega)] at c9
  have f9 := hD.f 9
  generalize cs[9] = q9 at c9
  have e : (decide (v = closB)) = (v.toList == [99, 108, 111, 115, 101, 100]) := by
    rw [Bool.eq_iff_iff]
    simp only [decide_eq_true_eq, beq_iff_eq]
    exact ⟨fun h => h ▸ closB_list, fun h => lst_inj (h.trans closB_list.symm)⟩
  rw [e]
  have HA : Hid (At w _ Bd Bd _) := (At.refl hD).set 9 (.bool (v.toList == [99, 108, 111, 115, 101, 100])) (by omega)
  clear hD e
  go_enter Tryz.func69, Tryz.ntmps69
  go_wp2
  refine bodyPost_ret (v := .tuple #[]) (by simp [results, Tryz.results69, go_sem]) rfl ?_
  exact ⟨rfl, HA.out⟩

set_option maxRecDepth 100000 in
set_option maxHeartbeats 2000000 in
theorem stands (Bd g cap n : Nat) (cl : Bool) (cs : List Value) (w : World) (hD : Dr w Bd cs) (h8 : cs[8]? = some (.slice (some ⟨g, 0, none⟩) n cap)) (h9 : cs[9]? = some (.bool cl)) (hn : n ≤ 100) :
    Calls Tryz.prog 70 #[.pointer (some ⟨Bd, 0, none⟩)] w fun e w' => e = .returned (.bool (decide (n = 0) && !cl)) ∧ Below w.heap.size w w' := by
  have c8 := (hD.c 8).trans h8
  have c9 := (hD.c 9).trans h9
  clear hD h8 h9
  by_cases h0 : n = 0
  · subst h0
    cases cl
    all_goals
      go_enter Tryz.func70, Tryz.ntmps70
      go_wp2
      go_ret
      exact ⟨rfl, Below.refl _ _⟩
  · have hI : ¬ ((n : Int) = 0) := by omega
    rw [decide_eq_false h0]
    go_enter Tryz.func70, Tryz.ntmps70
    go_wp2
    go_ret
    exact ⟨rfl, Below.refl _ _⟩

set_option maxRecDepth 100000 in
set_option maxHeartbeats 2000000 in
theorem builder (nm : ByteArray) (w : World) :
    Calls Tryz.prog 67 #[.string nm] w fun e w' => ∃ g, w.heap.size ≤ g ∧ e = .returned (.agg #[.string nm, .string ByteArray.empty, .int .i64 0, .int .i64 0, .int .i64 0, .int .i64 0, .int .i64 0, .slice none 0 0, .slice (some ⟨g, 0, none⟩) 4 4]) ∧ Row w' w.heap.size g 4 4 [1, 2, 3, 4] ∧ Below w.heap.size w w' := by
  go_enter Tryz.func67, Tryz.ntmps67
  go_wp2
  refine bodyPost_ret (v := .agg #[.string nm, .string ByteArray.empty, .int .i64 0, .int .i64 0, .int .i64 0, .int .i64 0, .int .i64 0, .slice none 0 0, .slice (some ⟨w.heap.size + 1, 0, none⟩) 4 4]) (by simp [results, Tryz.results67, go_sem]; try rfl) rfl ?_
  have hB : Below w.heap.size w (w.alloc (.cells #[.string nm, .string ⟨#[]⟩, .int .i64 0, .int .i64 0, .int .i64 0, .int .i64 0, .int .i64 0, .slice none 0 0, .slice (some ⟨w.heap.size + 1, 0, none⟩) 4 4] 115)) := (Below.refl _ _).alloc (Nat.le_refl _) _
  have hn := heap_alloc_new (w.alloc (.cells #[.string nm, .string ⟨#[]⟩, .int .i64 0, .int .i64 0, .int .i64 0, .int .i64 0, .int .i64 0, .slice none 0 0, .slice (some ⟨w.heap.size + 1, 0, none⟩) 4 4] 115)) (.cells #[.int .i64 1, .int .i64 2, .int .i64 3, .int .i64 4] 3)
  rw [World.size_alloc] at hn
  refine ⟨w.heap.size + 1, by omega, rfl, ⟨by simp [valsI], .inr ⟨w.heap.size + 1, 4, #[.int .i64 1, .int .i64 2, .int .i64 3, .int .i64 4], rfl, by omega, hn, by omega, by unfold maxLen; omega, rfl, rfl⟩⟩, hB.alloc (by simp) _⟩

end Std
end Go.Proofs.YtgnjkpmbppmoeaaGreat
