import Derived.Test.YtnjkkohhgbgpgaaGreatDoorHPb
import Derived.Deep.RegionWith
import Derived.Test.YtnjkkohhgbgpgaaGreatDoorIV0
import Derived.Test.YtnjkkohhgbgpgaaGreatDoorHPa

/- DERIVED. What a row that a call made keeps; a mark's bytes. -/
namespace Go.Proofs.YtnjkkohhgbgpgaaGreatDoor
open Go.RowKit
set_option linter.unusedSimpArgs false
set_option linter.unusedVariables false

theorem owns_pos {w : World} {base : Nat} {e : TypeId} {size : Nat} {v : Value} {n : Nat} {xs : List Value} (h : w.ownsRow base e size v (n + 1) xs) : ∃ g cap, v = .slice (some ⟨g, 0, none⟩) (n + 1) cap := by
  rcases h.2 with ⟨_, h0⟩ | ⟨g, cap, cur, hv, _⟩
  · omega
  · exact ⟨g, cap, hv⟩
theorem own_ge {w : World} {base : Nat} {e : TypeId} {size : Nat} {v : Value} {n : Nat} {xs : List Value} (h : w.ownsRow base e size v n xs) : ∀ k, v.ownBlock = some k → base ≤ k := fun k hk => (h.lt k hk).1
theorem owns_kept {w w' : World} {base : Nat} {e : TypeId} {size : Nat} {v : Value} {n : Nat} {xs : List Value} (h : w.ownsRow base e size v n xs) (hb : ∀ g, base ≤ g → g < w.heap.size → w'.heap[g]? = w.heap[g]?) : w'.ownsRow base e size v n xs := by
  refine ⟨h.1, ?_⟩
  rcases h.2 with hn | ⟨g, cap, cur, hv, hg, hh, r⟩
  · exact .inl hn
  · exact .inr ⟨g, cap, cur, hv, hg, by rw [hb g hg (Array.getElem?_eq_some_iff.1 hh).1]; exact hh, r⟩
theorem owns_below {w w' : World} {base : Nat} {e : TypeId} {size : Nat} {v : Value} {n : Nat} {xs : List Value} (h : w.ownsRow base e size v n xs) (hb : Below w.heap.size w w') : w'.ownsRow base e size v n xs := owns_kept h fun g _ hg => hb.block g hg

/-- A mark's bytes. -/
def mkB (k : Nat) : ByteArray := ⟨(markL k).toArray⟩

end Go.Proofs.YtnjkkohhgbgpgaaGreatDoor

/- DERIVED. By gr.py: a result that is a list of SkyPass: what it owns; the laws' own eq, mark, held over it. -/
namespace Go.Proofs.YtnjkkohhgbgpgaaGreatDoor
open Go.RowKit
set_option linter.unusedSimpArgs false
set_option linter.unusedVariables false

abbrev RSkyPass := ByteArray × Int × Int
def valsSkyPass (l : List RSkyPass) : List Value := l.flatMap fun x => [.string x.1, .int .i64 x.2.1, .int .i64 x.2.2]
theorem valsSkyPass_len (l : List RSkyPass) : (valsSkyPass l).length = l.length * 3 := by
  induction l with
  | nil => rfl
  | cons x l ih => simp only [valsSkyPass, List.flatMap_cons, List.length_append, List.length_cons, List.length_nil] at ih ⊢; omega
theorem valsSkyPass_cons (x : RSkyPass) (l : List RSkyPass) : valsSkyPass (x :: l) = (.string x.1) :: (.int .i64 x.2.1) :: (.int .i64 x.2.2) :: valsSkyPass l := rfl
theorem valsSkyPass_app (a b : List RSkyPass) : valsSkyPass (a ++ b) = valsSkyPass a ++ valsSkyPass b := by simp [valsSkyPass]
theorem valsSkyPass_snoc (l : List RSkyPass) (x : RSkyPass) : valsSkyPass (l ++ [x]) = valsSkyPass l ++ [.string x.1, .int .i64 x.2.1, .int .i64 x.2.2] := by rw [valsSkyPass_app]; rfl
theorem valsSkyPass_at0 : ∀ (l : List RSkyPass) (i : Nat) (h : i < l.length), (valsSkyPass l)[i * 3]? = some (.string (l[i]'h).1)
  | x :: l, 0, _ => rfl
  | x :: l, i + 1, h => by
    rw [valsSkyPass_cons, show (i + 1) * 3 = i * 3 + 1 + 1 + 1 by omega]
    simpa using valsSkyPass_at0 l i (by simpa using h)
theorem valsSkyPass_at1 : ∀ (l : List RSkyPass) (i : Nat) (h : i < l.length), (valsSkyPass l)[i * 3 + 1]? = some (.int .i64 (l[i]'h).2.1)
  | x :: l, 0, _ => rfl
  | x :: l, i + 1, h => by
    rw [valsSkyPass_cons, show (i + 1) * 3 + 1 = i * 3 + 1 + 1 + 1 + 1 by omega]
    simpa using valsSkyPass_at1 l i (by simpa using h)
theorem valsSkyPass_at2 : ∀ (l : List RSkyPass) (i : Nat) (h : i < l.length), (valsSkyPass l)[i * 3 + 2]? = some (.int .i64 (l[i]'h).2.2)
  | x :: l, 0, _ => rfl
  | x :: l, i + 1, h => by
    rw [valsSkyPass_cons, show (i + 1) * 3 + 2 = i * 3 + 2 + 1 + 1 + 1 by omega]
    simpa using valsSkyPass_at2 l i (by simpa using h)

/-- Where a slice's elements are l, from cell 0 of its block on. -/
def AtSkyPass (w : World) (ao : Option Addr) (l : List RSkyPass) : Prop :=
  l = [] ∨ ∃ g, ao = some ⟨g, 0, none⟩ ∧ g < w.heap.size ∧ ∀ i (h : i < l.length), w.cell? ⟨g, i * 3, none⟩ = some (.string (l[i]'h).1) ∧ w.cell? ⟨g, i * 3 + 1, none⟩ = some (.int .i64 (l[i]'h).2.1) ∧ w.cell? ⟨g, i * 3 + 2, none⟩ = some (.int .i64 (l[i]'h).2.2)
theorem AtSkyPass.kept {w w' : World} {ao : Option Addr} {l : List RSkyPass} (h : AtSkyPass w ao l) (hb : ∀ g, ao = some ⟨g, 0, none⟩ → g < w.heap.size → w'.heap[g]? = w.heap[g]?) (hs : w.heap.size ≤ w'.heap.size) : AtSkyPass w' ao l := by
  rcases h with h0 | ⟨g, h1, h2, h3⟩
  · exact .inl h0
  · refine .inr ⟨g, h1, by omega, fun i hi => ?_⟩
    have hk := fun o => World.cell?_of_block (a := ⟨g, o, none⟩) (hb g h1 h2)
    have h4 := h3 i hi
    exact ⟨(hk _).trans h4.1, (hk _).trans h4.2.1, (hk _).trans h4.2.2⟩
theorem AtSkyPass.later {w w' : World} {ao : Option Addr} {l : List RSkyPass} (h : AtSkyPass w ao l) (hb : Below w.heap.size w w') : AtSkyPass w' ao l := h.kept (fun g _ hg => hb.block g hg) hb.size
theorem AtSkyPass.elem {w : World} {ao : Option Addr} {l : List RSkyPass} (h : AtSkyPass w ao l) {i : Nat} (hi : i < l.length) : ∃ g, ao = some ⟨g, 0, none⟩ ∧ g < w.heap.size ∧ w.cell? ⟨g, i * 3, none⟩ = some (.string (l[i]'hi).1) ∧ w.cell? ⟨g, i * 3 + 1, none⟩ = some (.int .i64 (l[i]'hi).2.1) ∧ w.cell? ⟨g, i * 3 + 2, none⟩ = some (.int .i64 (l[i]'hi).2.2) := by
  rcases h with rfl | ⟨g, h1, h2, h3⟩
  · simp at hi
  · exact ⟨g, h1, h2, h3 i hi⟩
theorem atSkyPass_owns {w : World} {B : Nat} {ao : Option Addr} {cap : Nat} {l : List RSkyPass} (h : w.ownsRow B 93 3 (.slice ao l.length cap) l.length (valsSkyPass l)) : AtSkyPass w ao l := by
  by_cases he : l = []
  · exact .inl he
  · right
    have hpos : 0 < l.length := List.length_pos_iff.2 he
    rcases h.2 with ⟨_, h0⟩ | ⟨g, c, cur, hv, hg, hh, hn2, hc, hsz, ht⟩
    · omega
    · cases hv
      refine ⟨g, rfl, (Array.getElem?_eq_some_iff.1 hh).1, fun i hi => ?_⟩
      have e1 : ∀ j, j < 3 → cur[i * 3 + j]? = (valsSkyPass l)[i * 3 + j]? := fun j hj => by
        rw [← ht, List.getElem?_take, if_pos (idx_ne hi hj)]
        simp
      simp only [World.cell?, hh]
      exact ⟨(e1 0 (by decide)).trans (valsSkyPass_at0 l i hi), (e1 1 (by decide)).trans (valsSkyPass_at1 l i hi), (e1 2 (by decide)).trans (valsSkyPass_at2 l i hi)⟩

set_option maxHeartbeats 400000 in
theorem eqSkyPassR (x : RSkyPass) (w : World) :
    Calls Tryz.prog 57 #[.agg #[.string x.1, .int .i64 x.2.1, .int .i64 x.2.2], .agg #[.string x.1, .int .i64 x.2.1, .int .i64 x.2.2]] w fun e w' => e = .returned (.bool true) ∧ Below w.heap.size w w' := by
  go_enter Tryz.func57, Tryz.ntmps57
  go_wp2
  go_ret
  exact ⟨rfl, by repeat (first | exact Below.refl _ _ | refine Below.alloc ?_ (by simp; try omega) _)⟩

set_option maxHeartbeats 1000000 in
theorem eqSkyPassRS (ao bo : Option Addr) (ca cb : Nat) (l : List RSkyPass) (w : World) (hl : l.length ≤ maxLen) (ha : AtSkyPass w ao l) (hb : AtSkyPass w bo l) :
    Calls Tryz.prog 22 #[.slice ao l.length ca, .slice bo l.length cb] w fun e w' => e = .returned (.bool true) ∧ Below w.heap.size w w' := by
  unfold maxLen at hl
  go_enter Tryz.func22, Tryz.ntmps22
  go_wp2
  go_loopw [5] (fun i wr => ∃ k : Nat, k ≤ l.length ∧ i = .int .i64 k ∧ Below w.heap.size w wr) (fun i _ => l.length - (intOf i).toNat)
  case atStart => exact ⟨0, Nat.zero_le _, rfl, Below.refl _ _⟩
  case round =>
    obtain ⟨k, hk, rfl, hbel⟩ := hrel
    by_cases hlt : k < l.length
    · obtain ⟨g, rfl, hok, c0, c1, c2⟩ := ha.elem hlt
      obtain ⟨g', rfl, hok', c0', c1', c2'⟩ := hb.elem hlt
      have d0 := (hbel.cell (p := ⟨g, k * 3, none⟩) hok).trans c0
      have d1 := (hbel.cell (p := ⟨g, k * 3 + 1, none⟩) hok).trans c1
      have d2 := (hbel.cell (p := ⟨g, k * 3 + 2, none⟩) hok).trans c2
      have d0' := (hbel.cell (p := ⟨g', k * 3, none⟩) hok').trans c0'
      have d1' := (hbel.cell (p := ⟨g', k * 3 + 1, none⟩) hok').trans c1'
      have d2' := (hbel.cell (p := ⟨g', k * 3 + 2, none⟩) hok').trans c2'
      generalize l[k] = x at *
      have hsz := hbel.size
      clear c0 c1 c2 c0' c1' c2' ha hb
      go_wp2
      go_region_with (go_at_call 57; refine (eqSkyPassR _ _).mono ?_; rintro e w1 ⟨rfl, hb1⟩)
      all_goals
        go_wp2
        go_roundw
        case rel => exact ⟨k + 1, by omega, by go_num, hbel.trans (Below.trans (below_drewN (Below.refl _ _) 1) (hb1.mono hsz))⟩
        case measure => simp [intOf]; omega
    · go_wp2
      go_ret
      exact ⟨rfl, hbel⟩

/-- The marks. -/
def mkSkyPass (q : Nat) : RSkyPass := (mkB (q), ((q + 1 : Nat) : Int), ((q + 2 : Nat) : Int))
def marksSkyPass (k n : Nat) : List RSkyPass := (List.range n).map fun i => mkSkyPass (k + 3 * i)
theorem marksSkyPass_len (k n : Nat) : (marksSkyPass k n).length = n := by simp [marksSkyPass]
theorem marksSkyPass_succ (k n : Nat) : marksSkyPass k (n + 1) = marksSkyPass k n ++ [mkSkyPass (k + 3 * n)] := by simp [marksSkyPass, List.range_succ]
theorem markSkyPass_set (k j : Nat) (l : List RSkyPass) (hj : j < l.length) : (((valsSkyPass (marksSkyPass k j ++ l.drop j)).set (j * 3) (.string (mkB (k + 3 * j)))).set (j * 3 + 1) (.int .i64 ((k + 3 * j + 1 : Nat) : Int))).set (j * 3 + 2) (.int .i64 ((k + 3 * j + 2 : Nat) : Int)) = valsSkyPass (marksSkyPass k (j + 1) ++ l.drop (j + 1)) := by
  have e1 : l.drop j = l[j] :: l.drop (j + 1) := List.drop_eq_getElem_cons hj
  have hl : (valsSkyPass (marksSkyPass k j)).length = j * 3 := by rw [valsSkyPass_len, marksSkyPass_len]
  rw [e1, valsSkyPass_app, marksSkyPass_succ, List.append_assoc, valsSkyPass_app, List.singleton_append, valsSkyPass_cons, valsSkyPass_cons]
  generalize valsSkyPass (marksSkyPass k j) = A at *
  generalize valsSkyPass (l.drop (j + 1)) = B at *
  simp only [mkSkyPass]
  rw [List.set_append_right _ _ (by omega), hl, show j * 3 - j * 3 = 0 by omega]
  rw [List.set_append_right _ _ (by omega), hl, show j * 3 + 1 - j * 3 = 1 by omega]
  rw [List.set_append_right _ _ (by omega), hl, show j * 3 + 2 - j * 3 = 2 by omega]
  rfl

theorem markSkyPass_none (ao : Option Addr) (ca : Nat) (k : Int) (w : World) :
    Calls Tryz.prog 25 #[.slice ao 0 ca, .int .i64 k] w fun e w' => e = .returned (.int .i64 k) ∧ w' = w := by
  go_enter Tryz.func25, Tryz.ntmps25
  go_wp2
  go_loop [1, 5] (fun a i => a = .int .i64 k ∧ i = .int .i64 0) (fun _ _ => 0)
  case atStart => exact ⟨rfl, rfl⟩
  case round =>
    obtain ⟨rfl, rfl⟩ := hrel
    go_wp2
    go_ret
    exact ⟨rfl, rfl⟩

set_option maxRecDepth 100000 in
set_option maxHeartbeats 2000000 in
theorem markSkyPass_g (g cap B k : Nat) (l : List RSkyPass) (w : World) (hn : l.length ≤ 1000000000) (hk : k ≤ 1000) (hB : B ≤ w.heap.size)
    (hown : w.ownsRow B 93 3 (.slice (some ⟨g, 0, none⟩) l.length cap) l.length (valsSkyPass l)) :
    Calls Tryz.prog 25 #[.slice (some ⟨g, 0, none⟩) l.length cap, .int .i64 k] w fun e w' => e = .returned (.int .i64 ((k + 3 * l.length : Nat) : Int)) ∧ Below B w w' ∧
      w'.ownsRow B 93 3 (.slice (some ⟨g, 0, none⟩) l.length cap) l.length (valsSkyPass (marksSkyPass k l.length)) := by
  go_enter Tryz.func25, Tryz.ntmps25
  go_wp2
  go_loopw [1, 5] (fun a i wr => ∃ (j q : Nat), j ≤ l.length ∧ i = .int .i64 j ∧ a = .int .i64 q ∧ Hid (q = k + 3 * j) ∧ Below B w wr ∧
     wr.ownsRow B 93 3 (.slice (some ⟨g, 0, none⟩) l.length cap) l.length (valsSkyPass (marksSkyPass k j ++ l.drop j))) (fun _ i _ => l.length - (intOf i).toNat)
  case atStart => exact ⟨0, k, Nat.zero_le _, rfl, rfl, rfl, Below.refl _ _, by simpa [marksSkyPass] using hown⟩
  case round =>
    obtain ⟨j, q, hj, rfl, rfl, hq, hbel, hO⟩ := hrel
    by_cases hlt : j < l.length
    · have hsz := hbel.size
      have hgB : B ≤ g := own_ge hO g rfl
      have HX : Hid _ := markSkyPass_set k j l hlt
      rw [← hq.out] at HX
      have hqb : q ≤ 1099511627776 - 100 := by have := hq.out; omega
      have HQ : Hid (q + 3 = k + 3 * (j + 1)) := by have := hq.out; show _ = _; omega
      have hlen := hO.1
      generalize valsSkyPass (marksSkyPass k j ++ l.drop j) = X0 at *
      clear hown hq
      obtain ⟨v0, d0⟩ : ∃ v, wr.cell? ⟨g, j * 3, none⟩ = some v := ⟨_, by rw [hO.cellAt (j * 3) (by omega)]; exact List.getElem?_eq_getElem (by (try simp only [List.length_set]); have := Nat.mul_le_mul_right 3 hlt; omega)⟩
      have f0 := hO.frozenAt (j * 3)
      obtain ⟨v1, d1⟩ : ∃ v, wr.cell? ⟨g, j * 3 + 1, none⟩ = some v := ⟨_, by rw [hO.cellAt (j * 3 + 1) (by omega)]; exact List.getElem?_eq_getElem (by (try simp only [List.length_set]); have := Nat.mul_le_mul_right 3 hlt; omega)⟩
      have f1 := hO.frozenAt (j * 3 + 1)
      obtain ⟨v2, d2⟩ : ∃ v, wr.cell? ⟨g, j * 3 + 2, none⟩ = some v := ⟨_, by rw [hO.cellAt (j * 3 + 2) (by omega)]; exact List.getElem?_eq_getElem (by (try simp only [List.length_set]); have := Nat.mul_le_mul_right 3 hlt; omega)⟩
      have f2 := hO.frozenAt (j * 3 + 2)
      have hP1 := hO
      have hPB1 := hbel
      have hPs1 := hPB1.size
      go_wp2_with fail
      refine (markText_int _ _ (by omega) (by omega)).mono ?_
      rintro e w1 ⟨rfl, hb1⟩
      rw [show ((q : Int)).toNat = q from by omega, show (⟨(markL (q)).toArray⟩ : ByteArray) = mkB (q) from rfl]
      have hO1 := owns_below hP1 hb1
      have hB1 := hPB1.trans (hb1.mono (by omega))
      clear hP1 hPB1 hPs1 hb1 hO hbel d0 f0 d1 f1 d2 f2
      obtain ⟨v0, d0⟩ : ∃ v, w1.cell? ⟨g, j * 3, none⟩ = some v := ⟨_, by rw [hO1.cellAt (j * 3) (by omega)]; exact List.getElem?_eq_getElem (by (try simp only [List.length_set]); have := Nat.mul_le_mul_right 3 hlt; omega)⟩
      have f0 := hO1.frozenAt (j * 3)
      obtain ⟨v1, d1⟩ : ∃ v, w1.cell? ⟨g, j * 3 + 1, none⟩ = some v := ⟨_, by rw [hO1.cellAt (j * 3 + 1) (by omega)]; exact List.getElem?_eq_getElem (by (try simp only [List.length_set]); have := Nat.mul_le_mul_right 3 hlt; omega)⟩
      have f1 := hO1.frozenAt (j * 3 + 1)
      obtain ⟨v2, d2⟩ : ∃ v, w1.cell? ⟨g, j * 3 + 2, none⟩ = some v := ⟨_, by rw [hO1.cellAt (j * 3 + 2) (by omega)]; exact List.getElem?_eq_getElem (by (try simp only [List.length_set]); have := Nat.mul_le_mul_right 3 hlt; omega)⟩
      have f2 := hO1.frozenAt (j * 3 + 2)
      have hE := (((hO1.stored (j * 3) (.string (mkB (q)))).1.stored (j * 3 + 1) (.int .i64 ((q + 1 : Nat) : Int))).1.stored (j * 3 + 2) (.int .i64 ((q + 2 : Nat) : Int))).1
      have hEB := (((hB1.setCell (p := ⟨g, j * 3, none⟩) hgB (.string (mkB (q)))).setCell (p := ⟨g, j * 3 + 1, none⟩) hgB (.int .i64 ((q + 1 : Nat) : Int))).setCell (p := ⟨g, j * 3 + 2, none⟩) hgB (.int .i64 ((q + 2 : Nat) : Int)))
      rw [HX.out] at hE
      rw [show ((q + 1 : Nat) : Int) = (q : Int) + 1 from by omega] at hE hEB
      rw [show ((q + 2 : Nat) : Int) = (q : Int) + 1 + 1 from by omega] at hE hEB
      have HE : Hid _ := hE
      have HEB : Hid _ := hEB
      clear hE hEB hO1 hB1 HX hlen
      go_wp2
      go_roundw
      case rel => exact ⟨j + 1, q + 3, by omega, by go_num, by go_num, HQ, HEB.out, HE.out⟩
      case measure => simp [intOf]; omega
    · have hj2 : j = l.length := by omega
      subst hj2
      have hO2 : wr.ownsRow B 93 3 (.slice (some ⟨g, 0, none⟩) l.length cap) l.length (valsSkyPass (marksSkyPass k l.length)) := by simpa using hO
      have HO2 : Hid _ := hO2
      clear hO hO2
      go_wp2
      go_ret
      exact ⟨by rw [hq.out]; rfl, hbel, HO2.out⟩

theorem markSkyPassR (ao : Option Addr) (cap B k : Nat) (l : List RSkyPass) (w : World) (hn : l.length ≤ 1000000000) (hk : k ≤ 1000) (hB : B ≤ w.heap.size)
    (hown : w.ownsRow B 93 3 (.slice ao l.length cap) l.length (valsSkyPass l)) :
    Calls Tryz.prog 25 #[.slice ao l.length cap, .int .i64 k] w fun e w' => e = .returned (.int .i64 ((k + 3 * l.length : Nat) : Int)) ∧ Below B w w' ∧ AtSkyPass w' ao (marksSkyPass k l.length) := by
  cases l with
  | nil =>
    refine (markSkyPass_none ao cap k w).mono fun e w' h => ⟨by rw [h.1]; simp, by rw [h.2]; exact Below.refl _ _, .inl rfl⟩
  | cons x l =>
    obtain ⟨g, cap', hv⟩ := owns_pos (n := l.length) hown
    have hao : ao = some ⟨g, 0, none⟩ := by cases hv; rfl
    subst hao
    refine (markSkyPass_g g cap B k (x :: l) w hn hk hB hown).mono fun e w' h => ⟨h.1, h.2.1, ?_⟩
    have h3 := h.2.2
    have hl := marksSkyPass_len k (x :: l).length
    rw [← hl] at h3
    rw [hl] at h3
    exact atSkyPass_owns (by rw [hl]; exact h3)

theorem heldSkyPass_none (ao : Option Addr) (ca : Nat) (k : Int) (w : World) :
    Calls Tryz.prog 26 #[.slice ao 0 ca, .int .i64 k] w fun e w' => e = .returned (.int .i64 k) ∧ w' = w := by
  go_enter Tryz.func26, Tryz.ntmps26
  go_wp2
  go_loop [1, 5] (fun a i => a = .int .i64 k ∧ i = .int .i64 0) (fun _ _ => 0)
  case atStart => exact ⟨rfl, rfl⟩
  case round =>
    obtain ⟨rfl, rfl⟩ := hrel
    go_wp2
    go_ret
    exact ⟨rfl, rfl⟩

set_option maxRecDepth 100000 in
set_option maxHeartbeats 2000000 in
theorem heldSkyPass_g (g cap k n : Nat) (w : World) (hn : n ≤ 1000000000) (hk : k ≤ 1000)
    (hc : ∀ i, i < n → w.cell? ⟨g, i * 3, none⟩ = some (.string (mkB (k + 3 * i))) ∧ w.cell? ⟨g, i * 3 + 1, none⟩ = some (.int .i64 ((k + 3 * i + 1 : Nat) : Int)) ∧ w.cell? ⟨g, i * 3 + 2, none⟩ = some (.int .i64 ((k + 3 * i + 2 : Nat) : Int))) (hg : g < w.heap.size) :
    Calls Tryz.prog 26 #[.slice (some ⟨g, 0, none⟩) n cap, .int .i64 k] w fun e w' => e = .returned (.int .i64 ((k + 3 * n : Nat) : Int)) ∧ Below w.heap.size w w' := by
  go_enter Tryz.func26, Tryz.ntmps26
  go_wp2
  go_loopw [1, 5] (fun a i wr => ∃ (j q : Nat), j ≤ n ∧ i = .int .i64 j ∧ a = .int .i64 q ∧ Hid (q = k + 3 * j) ∧ Below w.heap.size w wr) (fun _ i _ => n - (intOf i).toNat)
  case atStart => exact ⟨0, k, Nat.zero_le _, rfl, rfl, rfl, Below.refl _ _⟩
  case round =>
    obtain ⟨j, q, hj, rfl, rfl, hq, hbel⟩ := hrel
    by_cases hlt : j < n
    · have hsz := hbel.size
      have hg1 : g < wr.heap.size := by omega
      have hqb : q ≤ 1099511627776 - 100 := by have := hq.out; omega
      have HQ : Hid (q + 3 = k + 3 * (j + 1)) := by have := hq.out; show _ = _; omega
      obtain ⟨e0, e1, e2⟩ := hc j hlt
      rw [← hq.out] at e0 e1 e2
      have c0 := (hbel.cell (p := ⟨g, j * 3, none⟩) hg).trans e0
      have c1 := (hbel.cell (p := ⟨g, j * 3 + 1, none⟩) hg).trans e1
      have c2 := (hbel.cell (p := ⟨g, j * 3 + 2, none⟩) hg).trans e2
      rw [show ((q + 1 : Nat) : Int) = (q : Int) + 1 from by omega] at c1
      rw [show ((q + 2 : Nat) : Int) = (q : Int) + 1 + 1 from by omega] at c2
      clear e0 e1 e2 hq
      go_wp2
      go_region_with (go_at_call 52; refine (markText_int _ _ (by omega) (by omega)).mono ?_; rintro e w1 ⟨rfl, hb1⟩; rw [show ((q : Int)).toNat = q from by omega, show (⟨(markL (q)).toArray⟩ : ByteArray) = mkB (q) from rfl]; have c0 := (hb1.cell (p := ⟨g, j * 3, none⟩) (by simpa using hg1)).trans (by simpa using c0); have c1 := (hb1.cell (p := ⟨g, j * 3 + 1, none⟩) (by simpa using hg1)).trans (by simpa using c1); have c2 := (hb1.cell (p := ⟨g, j * 3 + 2, none⟩) (by simpa using hg1)).trans (by simpa using c2))
      all_goals
        have hB1 := hbel.drew.trans (hb1.mono hsz)
        have hg1 : g < w1.heap.size := by have := hB1.size; omega
        have hsz := hB1.size
        go_wp2
        go_roundw
        case rel => exact ⟨j + 1, q + 3, by omega, by go_num, by go_num, HQ, hB1⟩
        case measure => simp [intOf]; omega
    · have hj2 : j = n := by omega
      subst hj2
      go_wp2
      go_ret
      exact ⟨by rw [hq.out]; rfl, hbel⟩

theorem heldSkyPassR (ao : Option Addr) (cap k n : Nat) (w : World) (hn : n ≤ 1000000000) (hk : k ≤ 1000) (h : AtSkyPass w ao (marksSkyPass k n)) :
    Calls Tryz.prog 26 #[.slice ao n cap, .int .i64 k] w fun e w' => e = .returned (.int .i64 ((k + 3 * n : Nat) : Int)) ∧ Below w.heap.size w w' := by
  rcases h with h0 | ⟨g, rfl, hg, hc⟩
  · have : n = 0 := by have := congrArg List.length h0; simpa [marksSkyPass_len] using this
    subst this
    refine (heldSkyPass_none ao cap k w).mono fun e w' h => ⟨by rw [h.1]; simp, by rw [h.2]; exact Below.refl _ _⟩
  · refine heldSkyPass_g g cap k n w hn hk (fun i hi => ?_) hg
    have h4 := hc i (by rw [marksSkyPass_len]; exact hi)
    simpa [marksSkyPass, mkSkyPass] using h4

end Go.Proofs.YtnjkkohhgbgpgaaGreatDoor

/- DERIVED. Helpers of the exact laws over a sky (mk_law2.py). -/
namespace Go.Proofs.YtnjkkohhgbgpgaaGreatDoor
open Go.RowKit
set_option linter.unusedSimpArgs false
set_option linter.unusedVariables false

theorem skyAt_fresh {w w' : World} {x : DSky} {ao3 : Option Addr} {cap3 : Nat} {ao4 : Option Addr} {cap4 : Nat} {ao5 : Option Addr} {cap5 : Nat} {ao6 : Option Addr} {cap6 : Nat} (p3 : SliceAt vSkyPoint (fresh w w') w' ao3 cap3 x.2.2.2.1) (p4 : SliceAt vSkyAirway (fresh w w') w' ao4 cap4 x.2.2.2.2.1) (p5 : SliceAt vSkySector (fresh w w') w' ao5 cap5 x.2.2.2.2.2.1) (p6 : SliceAt vSkyRunway (fresh w w') w' ao6 cap6 x.2.2.2.2.2.2) : SkyAt w' x ao3 cap3 ao4 cap4 ao5 cap5 ao6 cap6 :=
  ⟨p3.mono fresh_old, p4.mono fresh_old, p5.mono fresh_old, p6.mono fresh_old⟩

/-- The shapes of a sky's four lists. -/
structure SkySh (ok : Nat → Prop) (w : World) (x : DSky) (ao3 ao4 ao5 ao6 : Option Addr) : Prop where
  q3 : SlSh shSkyPoint 113 ok w ao3 x.2.2.2.1.length (cnSkyPointS x.2.2.2.1)
  q4 : SlSh shSkyAirway 118 ok w ao4 x.2.2.2.2.1.length (cnSkyAirwayS x.2.2.2.2.1)
  q5 : SlSh shSkySector 122 ok w ao5 x.2.2.2.2.2.1.length (cnSkySectorS x.2.2.2.2.2.1)
  q6 : SlSh shSkyRunway 124 ok w ao6 x.2.2.2.2.2.2.length (cnSkyRunwayS x.2.2.2.2.2.2)
theorem SkySh.stays {ok : Nat → Prop} {w w' : World} {x : DSky} {ao3 ao4 ao5 ao6 : Option Addr} (h : SkySh ok w x ao3 ao4 ao5 ao6) (hb : ∀ b, ok b → w'.heap[b]? = w.heap[b]?) : SkySh ok w' x ao3 ao4 ao5 ao6 :=
  ⟨h.q3.stays hb, h.q4.stays hb, h.q5.stays hb, h.q6.stays hb⟩
theorem skySh_marks {x : DSky} (h : wSky x ≤ 1048576) : cnSkyPointS x.2.2.2.1 + cnSkyAirwayS x.2.2.2.2.1 + cnSkySectorS x.2.2.2.2.2.1 + cnSkyRunwayS x.2.2.2.2.2.2 ≤ 134217728 := by
  have h3 := cnSkyPointS_le x.2.2.2.1
  have h4 := cnSkyAirwayS_le x.2.2.2.2.1
  have h5 := cnSkySectorS_le x.2.2.2.2.2.1
  have h6 := cnSkyRunwayS_le x.2.2.2.2.2.2
  unfold wSky at h
  omega

/-- A box holds these values. -/
def BxL (b : Nat) (cs : Array Value) (W : World) : Prop := ∀ i, W.cell? ⟨b, i, none⟩ = cs[i]?
theorem BxL.below {b n : Nat} {cs : Array Value} {w w' : World} (h : BxL b cs w) (hb : Below n w w') (hn : b < n) : BxL b cs w' := fun i => (hb.cell (p := ⟨b, i, none⟩) hn).trans (h i)
theorem BxL.new (w : World) (cs : Array Value) (t : TypeId) : BxL w.heap.size cs (w.alloc (.cells cs t)) := fun i => by
  unfold World.cell?
  rw [show (w.alloc (.cells cs t)).heap[w.heap.size]? = some (.cells cs t (0, 0)) from heap_alloc_new w _]
  rfl

theorem own_slice {w : World} {B : Nat} {e : TypeId} {K : Nat} {v : Value} {n : Nat} {xs : List Value} (h : w.ownsRow B e K v n xs) : ∃ ao cap, v = .slice ao n cap := by
  rcases h.2 with ⟨rfl, rfl⟩ | ⟨g, cap, cur, rfl, _⟩
  · exact ⟨none, 0, rfl⟩
  · exact ⟨_, cap, rfl⟩
theorem ofList {α : Type} {A : View α} {w w' : World} {ao : Option Addr} {cap : Nat} {l : List α} (h : SliceAt A (fresh w w') w' ao cap l) : SliceAt A (old w') w' ao cap l := h.mono fresh_old

end Go.Proofs.YtnjkkohhgbgpgaaGreatDoor

/- DERIVED. The sectors along places, on plain data; impl.SkyPasses' own closure: its walk. -/
namespace Go.Proofs.YtnjkkohhgbgpgaaGreatDoor
open Go.RowKit
set_option linter.unusedSimpArgs false
set_option linter.unusedVariables false

/-- A place more, in sector n. -/
def passAdd (out : List RSkyPass) (n : ByteArray) (i : Nat) : List RSkyPass :=
  match out.getLast? with
  | some l => if l.1 = n then out.dropLast ++ [(l.1, l.2.1, (i : Int))] else out ++ [(n, (i : Int), (i : Int))]
  | none => [(n, (i : Int), (i : Int))]
/-- Of the first k places; none where one is none. -/
def passTo (ss : List DSkySector) (l : List DPlace) : Nat → Option (List RSkyPass)
  | 0 => some []
  | k + 1 => match passTo ss l k, (l[k]?).bind (whereOf ss) with
    | some out, some n => some (passAdd out n k)
    | _, _ => none
theorem pass_none {ss : List DSkySector} {l : List DPlace} {k : Nat} (h : passTo ss l k = none) : ∀ m, passTo ss l (k + m) = none
  | 0 => h
  | m + 1 => by
    show passTo ss l (k + m + 1) = none
    rw [passTo, pass_none h m]
theorem pass_fail {ss : List DSkySector} {l : List DPlace} {k : Nat} (hk : k < l.length) (h : whereOf ss (l[k]'hk) = none) : passTo ss l l.length = none := by
  have h1 : passTo ss l (k + 1) = none := by
    rw [passTo, List.getElem?_eq_getElem hk, Option.bind_some, h]
    cases passTo ss l k <;> rfl
  have h2 := pass_none h1 (l.length - (k + 1))
  rwa [show k + 1 + (l.length - (k + 1)) = l.length by omega] at h2
theorem pass_step {ss : List DSkySector} {l : List DPlace} {k : Nat} {out : List RSkyPass} {n : ByteArray} (hk : k < l.length) (ho : passTo ss l k = some out) (h : whereOf ss (l[k]'hk) = some n) : passTo ss l (k + 1) = some (passAdd out n k) := by
  rw [passTo, ho, List.getElem?_eq_getElem hk, Option.bind_some, h]
theorem passAdd_len (out : List RSkyPass) (n : ByteArray) (i : Nat) : (passAdd out n i).length ≤ out.length + 1 := by
  unfold passAdd
  cases h : out.getLast? with
  | none => simp
  | some l =>
    simp only
    have hne : out ≠ [] := by rintro rfl; simp at h
    have := List.length_pos_iff.2 hne
    split
    · simp only [List.length_append, List.length_dropLast, List.length_cons, List.length_nil]; omega
    · simp
theorem passTo_len {ss : List DSkySector} {l : List DPlace} : ∀ {k : Nat} {out : List RSkyPass}, passTo ss l k = some out → out.length ≤ k
  | 0, out, h => by simp [passTo] at h; subst h; simp
  | k + 1, out, h => by
    rw [passTo] at h
    split at h
    · rename_i o n h1 h2
      cases h
      have := passTo_len h1
      have := passAdd_len o n k
      omega
    · cases h

noncomputable def passesOf (x : DSky) (l : List DPlace) : List RSkyPass × Int :=
  if validB x then (match passTo x.2.2.2.2.2.1 l l.length with | some out => (out, 0) | none => ([], 2)) else ([], 1)

theorem add_none' (n : ByteArray) (i : Nat) : passAdd [] n i = [(n, (i : Int), (i : Int))] := rfl
theorem add_same (init : List RSkyPass) (a : ByteArray) (f t : Int) (i : Nat) : passAdd (init ++ [(a, f, t)]) a i = init ++ [(a, f, (i : Int))] := by
  simp [passAdd]
theorem add_other {a n : ByteArray} (h : ¬ a = n) (init : List RSkyPass) (f t : Int) (i : Nat) : passAdd (init ++ [(a, f, t)]) n i = init ++ [(a, f, t)] ++ [(n, (i : Int), (i : Int))] := by
  simp [passAdd, h]
theorem set_last (init : List RSkyPass) (a : ByteArray) (f t u : Int) : (valsSkyPass (init ++ [(a, f, t)])).set (init.length * 3 + 2) (.int .i64 u) = valsSkyPass (init ++ [(a, f, u)]) := by
  rw [valsSkyPass_snoc, valsSkyPass_snoc, List.set_append_right _ _ (by rw [valsSkyPass_len]; omega), valsSkyPass_len, show init.length * 3 + 2 - init.length * 3 = 2 by omega]
  rfl
theorem lstP_no {a b : ByteArray} (h : ¬ a = b) : (a.toList == b.toList) = false := by
  rw [beq_eq_false_iff_ne]; exact fun e => h (toList_inj e)
theorem Tryz.infoPass : (Tryz.prog.info? 93).map (fun i => (i.zero, i.size, i.bytes)) = some (some (.agg #[.string ByteArray.empty, .int .i64 0, .int .i64 0]), 3, 32) := by kernel_rfl

/-- The passes so far: the cell in block bp holds their slice, the row lies behind block B. -/
structure PassBox (bp B : Nat) (out : List RSkyPass) (w : World) : Prop where
  lt : bp < B
  le : B ≤ w.heap.size
  box : ∃ ao cap, w.heap[bp]? = some (.cells #[.slice ao out.length cap] 50 (0, 0)) ∧ w.ownsRow B 93 3 (.slice ao out.length cap) out.length (valsSkyPass out)
theorem PassBox.later {bp B : Nat} {out : List RSkyPass} {w w' : World} (h : PassBox bp B out w) (hb : Below w.heap.size w w') : PassBox bp B out w' := by
  obtain ⟨h1, h2, ao, cap, h3, h4⟩ := h
  exact ⟨h1, Nat.le_trans h2 hb.size, ao, cap, (hb.block bp (by omega)).trans h3, owns_below h4 hb⟩

theorem slice_spot {w : World} {B : Nat} {e : TypeId} {K : Nat} {ao : Option Addr} {n cap : Nat} {xs : List Value} (h : w.ownsRow B e K (.slice ao n cap) n xs) (hn : 0 < n) : ∃ g, ao = some ⟨g, 0, none⟩ ∧ B ≤ g ∧ g < w.heap.size := by
  rcases h.2 with ⟨_, h0⟩ | ⟨g, c, cur, h1, h2, h3, _⟩
  · omega
  · cases h1
    exact ⟨g, rfl, h2, (Array.getElem?_eq_some_iff.1 h3).1⟩

set_option maxRecDepth 100000 in
set_option maxHeartbeats 2000000 in
theorem iGather_new (N : Nat) (X : List Value) (n : ByteArray) (i bp B : Nat) (ao : Option Addr) (cap : Nat) (w : World) (hlt : bp < B) (hle : B ≤ w.heap.size) (hbox : w.heap[bp]? = some (.cells #[.slice ao N cap] 50 (0, 0))) (hown : w.ownsRow B 93 3 (.slice ao N cap) N X) (hN : N ≤ 1048576) (hi : i ≤ 1048576)
    (hne : N = 0 ∨ ∃ m g a, N = m + 1 ∧ ao = some ⟨g, 0, none⟩ ∧ w.cell? ⟨g, m * 3, none⟩ = some (.string a) ∧ ¬ a = n) :
    Calls Tryz.prog 55 #[.string n, .int .i64 i, .pointer (some ⟨bp, 0, none⟩)] w fun e w' => e = .returned (.tuple #[]) ∧ (∃ ao' cap', w'.heap[bp]? = some (.cells #[.slice ao' (N + 1) cap'] 50 (0, 0)) ∧ w'.ownsRow B 93 3 (.slice ao' (N + 1) cap') (N + 1) (X ++ [.string n, .int .i64 i, .int .i64 i])) ∧ Below bp w w' := by
  obtain ⟨i0, hi0, hz0, hz1, hz2⟩ := info_parts Tryz.infoPass
  have hcell : w.cell? ⟨bp, 0, none⟩ = some (.slice ao N cap) := cell_of_block hbox
  have hfr : w.frozen? ⟨bp, 0, none⟩ = false := free_of_block hbox
  have hge := own_ge hown
  rcases hne with rfl | ⟨m, g, a, rfl, rfl, hc, hne⟩
  · go_enter Tryz.func55, Tryz.ntmps55
    go_wp2_with (at_builtin; refine wpList_append_own_at _ rfl _ _ 50 rfl B 93 i0 (.agg #[.string ByteArray.empty, .int .i64 0, .int .i64 0]) 3 32 Tryz.underlying50 hi0 hz0 hz1 hz2 rfl (by decide) _ _ _ rfl (hown.alloc _) ⟨w.heap.size, 0, none⟩ 1 1 [.string n, .int .i64 i, .int .i64 i] rfl rfl ?c1 ?c2 ?c3 ?c4 ?c5 ?_)
    case c1 =>
      intro j u hj
      match j, hj with
      | 0, hj => simp at hj; subst hj; simp [Addr.add]
      | 1, hj => simp at hj; subst hj; simp [Addr.add]
      | 2, hj => simp at hj; subst hj; simp [Addr.add]
    case c2 =>
      intro u hu
      simp at hu
      rcases hu with rfl | rfl | rfl <;> rfl
    case c3 => unfold maxLen; omega
    case c4 => omega
    case c5 => simp; omega
    intro v' w6 hown' hgrow _ hat
    have hB6 : Below B w w6 := ((Below.refl _ w).alloc (by omega) _).grown hgrow (by simp; omega) (by intro k hk; exact hge k hk)
    have hbox6 := (hB6.block bp hlt).trans hbox
    have hc6 : w6.cell? ⟨bp, 0, none⟩ = some _ := cell_of_block hbox6
    have hf6 : w6.frozen? ⟨bp, 0, none⟩ = false := free_of_block hbox6
    obtain ⟨g6, cap6, rfl⟩ := owns_pos hown'
    have HO : Hid _ := owns_kept hown' (w' := w6.setCell ⟨bp, 0, none⟩ (.slice (some ⟨g6, 0, none⟩) (0 + 1) cap6)) fun g h1 _ => Below.heap_setCell w6 ⟨bp, 0, none⟩ _ g (by show g ≠ bp; omega)
    have HX : Hid ((w6.setCell ⟨bp, 0, none⟩ (.slice (some ⟨g6, 0, none⟩) (0 + 1) cap6)).heap[bp]? = some (.cells #[.slice (some ⟨g6, 0, none⟩) (0 + 1) cap6] 50 (0, 0))) := by
      show _ = _
      rw [heap_setCell_same w6 bp 0 _ _ _ hbox6]
      rfl
    have HBB : Hid (Below bp w (w6.setCell ⟨bp, 0, none⟩ (.slice (some ⟨g6, 0, none⟩) (0 + 1) cap6))) := (hB6.mono (Nat.le_of_lt hlt)).setCell (p := ⟨bp, 0, none⟩) (Nat.le_refl _) _
    clear hown' hgrow hat hown hB6 hbox hbox6
    go_wp2
    go_end0
    exact ⟨rfl, ⟨_, _, HX.out, HO.out⟩, HBB.out⟩
  · have hne' := lstP_no hne
    have hm1 : ((m : Int) + 1 - 1) = (m : Int) := by omega
    go_enter Tryz.func55, Tryz.ntmps55
    go_wp2_with (at_builtin; refine wpList_append_own_at _ rfl _ _ 50 rfl B 93 i0 (.agg #[.string ByteArray.empty, .int .i64 0, .int .i64 0]) 3 32 Tryz.underlying50 hi0 hz0 hz1 hz2 rfl (by decide) _ _ _ rfl (hown.alloc _) ⟨w.heap.size, 0, none⟩ 1 1 [.string n, .int .i64 i, .int .i64 i] rfl rfl ?c1 ?c2 ?c3 ?c4 ?c5 ?_)
    case c1 =>
      intro j u hj
      match j, hj with
      | 0, hj => simp at hj; subst hj; simp [Addr.add]
      | 1, hj => simp at hj; subst hj; simp [Addr.add]
      | 2, hj => simp at hj; subst hj; simp [Addr.add]
    case c2 =>
      intro u hu
      simp at hu
      rcases hu with rfl | rfl | rfl <;> rfl
    case c3 => unfold maxLen; omega
    case c4 => omega
    case c5 => simp; omega
    intro v' w6 hown' hgrow _ hat
    have hB6 : Below B w w6 := ((Below.refl _ w).alloc (by omega) _).grown hgrow (by simp; omega) (by intro k hk; exact hge k hk)
    have hbox6 := (hB6.block bp hlt).trans hbox
    have hc6 : w6.cell? ⟨bp, 0, none⟩ = some _ := cell_of_block hbox6
    have hf6 : w6.frozen? ⟨bp, 0, none⟩ = false := free_of_block hbox6
    obtain ⟨g6, cap6, rfl⟩ := owns_pos hown'
    have HO : Hid _ := owns_kept hown' (w' := w6.setCell ⟨bp, 0, none⟩ (.slice (some ⟨g6, 0, none⟩) ((m + 1) + 1) cap6)) fun g h1 _ => Below.heap_setCell w6 ⟨bp, 0, none⟩ _ g (by show g ≠ bp; omega)
    have HX : Hid ((w6.setCell ⟨bp, 0, none⟩ (.slice (some ⟨g6, 0, none⟩) ((m + 1) + 1) cap6)).heap[bp]? = some (.cells #[.slice (some ⟨g6, 0, none⟩) ((m + 1) + 1) cap6] 50 (0, 0))) := by
      show _ = _
      rw [heap_setCell_same w6 bp 0 _ _ _ hbox6]
      rfl
    have HBB : Hid (Below bp w (w6.setCell ⟨bp, 0, none⟩ (.slice (some ⟨g6, 0, none⟩) ((m + 1) + 1) cap6))) := (hB6.mono (Nat.le_of_lt hlt)).setCell (p := ⟨bp, 0, none⟩) (Nat.le_refl _) _
    clear hown' hgrow hat hown hB6 hbox hbox6
    go_wp2
    go_end0
    exact ⟨rfl, ⟨_, _, HX.out, HO.out⟩, HBB.out⟩

set_option maxRecDepth 100000 in
set_option maxHeartbeats 2000000 in
theorem iGather_same (m g : Nat) (X : List Value) (n : ByteArray) (i bp B cap : Nat) (w : World) (hlt : bp < B) (hle : B ≤ w.heap.size) (hbox : w.heap[bp]? = some (.cells #[.slice (some ⟨g, 0, none⟩) (m + 1) cap] 50 (0, 0))) (hown : w.ownsRow B 93 3 (.slice (some ⟨g, 0, none⟩) (m + 1) cap) (m + 1) X) (hN : m + 1 ≤ 1048576) (hi : i ≤ 1048576)
    (hc : w.cell? ⟨g, m * 3, none⟩ = some (.string n)) :
    Calls Tryz.prog 55 #[.string n, .int .i64 i, .pointer (some ⟨bp, 0, none⟩)] w fun e w' => e = .returned (.tuple #[]) ∧ (w'.heap[bp]? = some (.cells #[.slice (some ⟨g, 0, none⟩) (m + 1) cap] 50 (0, 0)) ∧ w'.ownsRow B 93 3 (.slice (some ⟨g, 0, none⟩) (m + 1) cap) (m + 1) (X.set (m * 3 + 2) (.int .i64 i))) ∧ Below bp w w' := by
  have hcell : w.cell? ⟨bp, 0, none⟩ = some (.slice (some ⟨g, 0, none⟩) (m + 1) cap) := cell_of_block hbox
  have hgB : B ≤ g := own_ge hown g rfl
  have hX : X.length = (m + 1) * 3 := hown.1
  obtain ⟨u, hu⟩ : ∃ u, w.cell? ⟨g, m * 3 + 2, none⟩ = some u := ⟨_, by rw [hown.cellAt (m * 3 + 2) (by omega)]; exact List.getElem?_eq_getElem (by omega)⟩
  have hfr := hown.frozenAt (m * 3 + 2)
  have HS : Hid _ := (hown.stored (m * 3 + 2) (.int .i64 i)).1
  have HBX : Hid ((w.setCell ⟨g, m * 3 + 2, none⟩ (.int .i64 i)).heap[bp]? = some (.cells #[.slice (some ⟨g, 0, none⟩) (m + 1) cap] 50 (0, 0))) := (Below.heap_setCell w ⟨g, m * 3 + 2, none⟩ _ bp (by show bp ≠ g; omega)).trans hbox
  have HB : Hid (Below bp w (w.setCell ⟨g, m * 3 + 2, none⟩ (.int .i64 i))) := (Below.refl bp w).setCell (p := ⟨g, m * 3 + 2, none⟩) (by show bp ≤ g; omega) _
  have hm1 : ((m : Int) + 1 - 1) = (m : Int) := by omega
  clear hown hbox
  go_enter Tryz.func55, Tryz.ntmps55
  go_wp2
  exact bodyPost_ret (v := .tuple #[]) (by simp [results, Tryz.results55, go_sem]) rfl ⟨rfl, ⟨HBX.out, HS.out⟩, HB.out⟩

/-- A place more. -/
theorem iGather (out : List RSkyPass) (n : ByteArray) (i bp B : Nat) (w : World) (h : PassBox bp B out w) (hl : out.length ≤ 1048575) (hi : i ≤ 1048576) :
    Calls Tryz.prog 55 #[.string n, .int .i64 i, .pointer (some ⟨bp, 0, none⟩)] w fun e w' => e = .returned (.tuple #[]) ∧ PassBox bp B (passAdd out n i) w' ∧ Below bp w w' := by
  obtain ⟨h1, h2, ao, cap, h3, h4⟩ := h
  rcases List.eq_nil_or_concat out with rfl | ⟨init, ⟨a, f, t⟩, rfl⟩
  · refine (iGather_new 0 _ n i bp B ao cap w h1 h2 h3 h4 (by omega) hi (.inl rfl)).mono ?_
    rintro e w' ⟨rfl, ⟨ao', cap', k1, k2⟩, k3⟩
    exact ⟨rfl, ⟨h1, by have := k3.size; exact Nat.le_trans h2 this, ao', cap', k1, k2⟩, k3⟩
  · rw [List.concat_eq_append] at *
    have hla : (init ++ [(a, f, t)]).length = init.length + 1 := by simp
    rw [hla] at h3 h4 hl
    obtain ⟨g, rfl, hg, _⟩ := slice_spot h4 (by omega)
    have hat := valsSkyPass_at0 (init ++ [(a, f, t)]) init.length (by omega)
    have hc : w.cell? ⟨g, init.length * 3, none⟩ = some (.string a) := by
      rw [h4.cellAt (init.length * 3) (by omega)]
      simpa using hat
    by_cases e : a = n
    · subst e
      refine (iGather_same init.length g _ a i bp B cap w h1 h2 h3 h4 (by omega) hi hc).mono ?_
      rintro e w' ⟨rfl, ⟨k1, k2⟩, k3⟩
      rw [set_last] at k2
      refine ⟨rfl, ⟨h1, Nat.le_trans h2 k3.size, some ⟨g, 0, none⟩, cap, ?_, ?_⟩, k3⟩
      · rw [add_same]; simpa using k1
      · rw [add_same]; simpa using k2
    · refine (iGather_new (init.length + 1) _ n i bp B _ cap w h1 h2 h3 h4 (by omega) hi (.inr ⟨_, g, a, rfl, rfl, hc, e⟩)).mono ?_
      rintro e' w' ⟨rfl, ⟨ao', cap', k1, k2⟩, k3⟩
      refine ⟨rfl, ⟨h1, Nat.le_trans h2 k3.size, ao', cap', ?_, ?_⟩, k3⟩
      · rw [add_other e]; simpa using k1
      · rw [add_other e, valsSkyPass_snoc]; simpa using k2

end Go.Proofs.YtnjkkohhgbgpgaaGreatDoor

/- DERIVED. impl.SkyPasses: its walk (by wip/tools/mk_pa.py). -/
namespace Go.Proofs.YtnjkkohhgbgpgaaGreatDoor
open Go.RowKit
set_option linter.unusedSimpArgs false
set_option linter.unusedVariables false

theorem nil_owns (w : World) (B : Nat) : w.ownsRow B 93 3 (.slice none 0 0) 0 (valsSkyPass []) := ⟨rfl, .inl ⟨rfl, rfl⟩⟩

set_option maxRecDepth 100000 in
set_option maxHeartbeats 2000000 in
theorem iPasses' (W H L : Int) (ps : List DSkyPoint) (aw : List DSkyAirway) (ss : List DSkySector) (rs : List DSkyRunway) (ao3 : Option Addr) (cap3 : Nat) (ao4 : Option Addr) (cap4 : Nat) (ao5 : Option Addr) (cap5 : Nat) (ao6 : Option Addr) (cap6 : Nat) (ao : Option Addr) (cap : Nat) (l : List DSkyPlace) (w : World) (h : SkyAt w (W, H, L, ps, aw, ss, rs) ao3 cap3 ao4 cap4 ao5 cap5 ao6 cap6) (hl : SliceAt vSkyPlace (old w) w ao cap l) (hl20 : l.length ≤ 1048576) (hT : TurnsLaid w) :
    Calls Tryz.prog 21 #[.agg #[.int .i64 W, .int .i64 H, .int .i64 L, .slice ao3 ps.length cap3, .slice ao4 aw.length cap4, .slice ao5 ss.length cap5, .slice ao6 rs.length cap6], .slice ao l.length cap] w fun e w' => Below w.heap.size w w' ∧ ∃ v, e = .returned (.tuple #[v, .int .i64 (passesOf (W, H, L, ps, aw, ss, rs) l).2]) ∧ w'.ownsRow w.heap.size 93 3 v (passesOf (W, H, L, ps, aw, ss, rs) l).1.length (valsSkyPass (passesOf (W, H, L, ps, aw, ss, rs) l).1) := by
  have HD : Hid (passesOf (W, H, L, ps, aw, ss, rs) l = if validB (W, H, L, ps, aw, ss, rs) then (match passTo ss l l.length with | some out => (out, (0 : Int)) | none => ([], (2 : Int))) else ([], (1 : Int))) := rfl
  generalize passesOf (W, H, L, ps, aw, ss, rs) l = R at *
  obtain ⟨w0, hw0⟩ : ∃ w0, w0 = w.alloc (.cells #[.int .i64 W, .int .i64 H, .int .i64 L, .slice ao3 ps.length cap3, .slice ao4 aw.length cap4, .slice ao5 ss.length cap5, .slice ao6 rs.length cap6] 39) := ⟨_, rfl⟩
  have hb0 : Below w.heap.size w w0 := by rw [hw0]; exact (Below.refl _ _).alloc (Nat.le_refl _) _
  have HS0 : BxL w.heap.size #[.int .i64 W, .int .i64 H, .int .i64 L, .slice ao3 ps.length cap3, .slice ao4 aw.length cap4, .slice ao5 ss.length cap5, .slice ao6 rs.length cap6] w0 := by rw [hw0]; exact BxL.new w _ _
  have hz0 : w0.heap.size = w.heap.size + 1 := by rw [hw0]; simp
  have HV := iSkyValid (W, H, L, ps, aw, ss, rs) ao3 cap3 ao4 cap4 ao5 cap5 ao6 cap6 w0 (h.later hb0) (hT.later hb0)
  rw [hw0] at HV
  go_enter Tryz.func21, Tryz.ntmps21
  go_wp2_with fail
  refine HV.mono ?_
  rw [← hw0]
  rintro e w1 ⟨he, hb1⟩
  have he := validB_of he
  subst he
  clear HV hw0
  have hB1 := hb0.trans (hb1.mono (by omega))
  have HS1 := HS0.below hb1 (by omega)
  have hz1 : w.heap.size + 1 ≤ w1.heap.size := by have := hb1.size; omega
  have h5 := h.p5
  clear hb1 hb0 HS0 h hT
  generalize validB (W, H, L, ps, aw, ss, rs) = v at *
  cases v
  · have hR : Hid (R = ([], 1)) := HD.out
    clear HD
    go_wp2
    exact bodyPost_ret (v := .tuple #[.slice none 0 0, .int .i64 1]) (by simp [results, Tryz.results21, go_sem]) rfl ⟨hB1, _, by rw [hR.out], by rw [hR.out]; exact nil_owns _ _⟩
  · have HD2 : Hid (R = (match passTo ss l l.length with | some out => (out, (0 : Int)) | none => ([], (2 : Int)))) := HD.out
    clear HD
    have hbx : Below w1.heap.size w1 (w1.alloc (.cells #[.slice none 0 0] 50)) := (Below.refl _ _).alloc (Nat.le_refl _) _
    have hP0 : PassBox w1.heap.size (w1.heap.size + 1) [] (w1.alloc (.cells #[.slice none 0 0] 50)) := ⟨by omega, by simp, none, 0, heap_alloc_new w1 _, nil_owns _ _⟩
    have hB2 := hB1.trans (hbx.mono (by omega))
    have HS2 := HS1.below hbx (by omega)
    have hlen : l.length ≤ 9223372036854775807 := by omega
    clear hB1 HS1
    go_wp2
    go_loopw [18] (fun i wr => ∃ (k : Nat) (out : List RSkyPass), k ≤ l.length ∧ i = .int .i64 k ∧ Hid (passTo ss l k = some out) ∧ PassBox w1.heap.size (w1.heap.size + 1) out wr ∧ Below w.heap.size w wr ∧ BxL w.heap.size #[.int .i64 W, .int .i64 H, .int .i64 L, .slice ao3 ps.length cap3, .slice ao4 aw.length cap4, .slice ao5 ss.length cap5, .slice ao6 rs.length cap6] wr) (fun i _ => l.length - (intOf i).toNat)
    case atStart => exact ⟨0, [], Nat.zero_le _, rfl, rfl, hP0, hB2, HS2⟩
    case round =>
      clear hP0 hB2 HS2 hbx
      obtain ⟨k, out, hk, rfl, hto, hP, hB, HS⟩ := hrel
      have hPl := hP.le
      have hws : w.heap.size < wr.heap.size := by omega
      by_cases hlt : k < l.length
      · obtain ⟨b1, off, rfl, hok, c0, c1, c2, _, _, _⟩ := elem_SkyPlace hl hlt
        have f0 := (hB.cell (p := ⟨b1, off + k * 3, none⟩) hok).trans c0
        have f1 := (hB.cell (p := ⟨b1, off + k * 3 + 1, none⟩) hok).trans c1
        have f2 := (hB.cell (p := ⟨b1, off + k * 3 + 2, none⟩) hok).trans c2
        have hkI : (k : Int) < (l.length : Int) := by omega
        have hol := passTo_len hto.out
        have HFAIL : Hid (whereOf ss (l[k]'hlt) = none → R = ([], 2)) := fun hw => by rw [HD2.out, pass_fail hlt hw]
        have HSTEP : Hid (∀ n, whereOf ss (l[k]'hlt) = some n → passTo ss l (k + 1) = some (passAdd out n k)) := fun n hw => pass_step hlt hto.out hw
        have HC0 := fun Wd (hh : SliceAt vSkySector (old Wd) Wd ao5 cap5 ss) => iSectorOf W H L ss (.slice ao3 ps.length cap3) (.slice ao4 aw.length cap4) (.slice ao6 rs.length cap6) ao5 cap5 (l[k]'hlt) Wd hh
        generalize hqe : whereOf ss (l[k]'hlt) = r at *
        clear hqe hto
        generalize l[k]'hlt = pk at *
        obtain ⟨px, py, pl⟩ := pk
        simp only [vPl] at f0 f1 f2 HC0
        obtain ⟨wx, hwx⟩ : ∃ x, x = wr.alloc (.cells #[.int .i64 px, .int .i64 py, .int .i64 pl] 91) := ⟨_, rfl⟩
        have hbx : Below wr.heap.size wr wx := by rw [hwx]; exact (Below.refl _ _).alloc (Nat.le_refl _) _
        have hBx := hB.trans (hbx.mono hB.size)
        have HC := HC0 wx (h5.later hBx)
        rw [hwx] at HC
        clear c0 c1 c2 HC0
        have x0 := HS 0
        have x1 := HS 1
        have x2 := HS 2
        have x3 := HS 3
        have x4 := HS 4
        have x5 := HS 5
        have x6 := HS 6
        simp at x0 x1 x2 x3 x4 x5 x6
        go_wp2_with fail
        refine HC.mono ?_
        rw [← hwx]
        rintro e w3 ⟨rfl, hb3⟩
        have hP3 := (hP.later hbx).later hb3
        have hB3 := hBx.trans (hb3.mono (by have := hBx.size; omega))
        have HS3 := (HS.below hbx (by omega)).below hb3 (by have := hbx.size; omega)
        have hz3 : w1.heap.size + 1 ≤ w3.heap.size := hP3.le
        clear HC hwx hbx hBx hb3 hP hB HS f0 f1 f2 x0 x1 x2 x3 x4 x5 x6
        cases r with
        | none =>
          have hR : Hid (R = ([], 2)) := HFAIL.out rfl
          simp only [whereV]
          clear HFAIL HSTEP HD2 hP3
          go_wp2
          exact bodyPost_ret (v := .tuple #[.slice none 0 0, .int .i64 2]) (by simp [results, Tryz.results21, go_sem]) rfl ⟨hB3, _, by rw [hR.out], by rw [hR.out]; exact nil_owns _ _⟩
        | some n =>
          have hTO : Hid (passTo ss l (k + 1) = some (passAdd out n k)) := HSTEP.out n rfl
          have HG := iGather out n k w1.heap.size (w1.heap.size + 1) w3 hP3 (by omega) (by omega)
          simp only [whereV]
          clear HFAIL HSTEP hP3
          go_wp2_with fail
          refine HG.mono ?_
          rintro e w4 ⟨rfl, hP4, hb4⟩
          have hB4 := hB3.trans (hb4.mono (by omega))
          have HS4 := HS3.below hb4 (by omega)
          clear HG hB3 HS3 hb4
          go_wp2
          go_roundw
          case rel => exact ⟨k + 1, _, by omega, by go_num, hTO, hP4, hB4, HS4⟩
          case measure => simp [intOf]; omega
      · have hke : k = l.length := by omega
        subst hke
        have hR : Hid (R = (out, 0)) := by show _ = _; rw [HD2.out, hto.out]
        obtain ⟨_, _, ao', cap', hx1, hx2⟩ := hP
        have hc := cell_of_block (i := 0) hx1
        simp at hc
        have hO : wr.ownsRow w.heap.size 93 3 (.slice ao' out.length cap') out.length (valsSkyPass out) := by
          refine ⟨hx2.1, ?_⟩
          rcases hx2.2 with hn | ⟨g, c, cur, hv, hg, r⟩
          · exact .inl hn
          · exact .inr ⟨g, c, cur, hv, by omega, r⟩
        have HO : Hid _ := hO
        clear HD2 hto hx1 hx2 hO
        go_wp2
        exact bodyPost_ret (v := .tuple #[.slice ao' out.length cap', .int .i64 0]) (by simp [results, Tryz.results21, go_sem]) rfl ⟨hB, _, by rw [hR.out], by rw [hR.out]; exact HO.out⟩

theorem iPasses (x : DSky) (ao3 : Option Addr) (cap3 : Nat) (ao4 : Option Addr) (cap4 : Nat) (ao5 : Option Addr) (cap5 : Nat) (ao6 : Option Addr) (cap6 : Nat) (ao : Option Addr) (cap : Nat) (l : List DSkyPlace) (w : World) (h : SkyAt w x ao3 cap3 ao4 cap4 ao5 cap5 ao6 cap6) (hl : SliceAt vSkyPlace (old w) w ao cap l) (hl20 : l.length ≤ 1048576) (hT : TurnsLaid w) :
    Calls Tryz.prog 21 #[.agg #[.int .i64 x.1, .int .i64 x.2.1, .int .i64 x.2.2.1, .slice ao3 x.2.2.2.1.length cap3, .slice ao4 x.2.2.2.2.1.length cap4, .slice ao5 x.2.2.2.2.2.1.length cap5, .slice ao6 x.2.2.2.2.2.2.length cap6], .slice ao l.length cap] w fun e w' => Below w.heap.size w w' ∧ ∃ v, e = .returned (.tuple #[v, .int .i64 (passesOf x l).2]) ∧ w'.ownsRow w.heap.size 93 3 v (passesOf x l).1.length (valsSkyPass (passesOf x l).1) :=
  iPasses' x.1 x.2.1 x.2.2.1 x.2.2.2.1 x.2.2.2.2.1 x.2.2.2.2.2.1 x.2.2.2.2.2.2 ao3 cap3 ao4 cap4 ao5 cap5 ao6 cap6 ao cap l w h hl hl20 hT

end Go.Proofs.YtnjkkohhgbgpgaaGreatDoor

/- DERIVED. spec.SkyPasses: its walk (by wip/tools/mk_pa.py). -/
namespace Go.Proofs.YtnjkkohhgbgpgaaGreatDoor
open Go.RowKit Go.Sort
set_option linter.unusedSimpArgs false
set_option linter.unusedVariables false

/-- What the loop has: the passes so far, their slice, how many. -/
def PassIs (out : List RSkyPass) (N : Nat) (X : List Value) : Prop := N = out.length ∧ X = valsSkyPass out

theorem empty_owns (w : World) (B : Nat) (hB : B ≤ w.heap.size) : (w.alloc (.cells #[] 93)).ownsRow B 93 3 (.slice (some ⟨w.heap.size, 0, none⟩) 0 0) 0 [] :=
  ⟨rfl, .inr ⟨w.heap.size, 0, #[], rfl, hB, heap_alloc_new w _, Nat.le_refl _, by decide, rfl, rfl⟩⟩

set_option maxRecDepth 100000 in
set_option maxHeartbeats 4000000 in
theorem sPasses (W H L : Int) (ps : List DSkyPoint) (aw : List DSkyAirway) (ss : List DSkySector) (rs : List DSkyRunway) (ao3 : Option Addr) (cap3 : Nat) (ao4 : Option Addr) (cap4 : Nat) (ao5 : Option Addr) (cap5 : Nat) (ao6 : Option Addr) (cap6 : Nat) (ao : Option Addr) (cap : Nat) (l : List DSkyPlace) (w : World) (h : SkyAt w (W, H, L, ps, aw, ss, rs) ao3 cap3 ao4 cap4 ao5 cap5 ao6 cap6) (hl : SliceAt vSkyPlace (old w) w ao cap l) (hl20 : l.length ≤ 1048576) :
    Calls Tryz.prog 19 #[.agg #[.int .i64 W, .int .i64 H, .int .i64 L, .slice ao3 ps.length cap3, .slice ao4 aw.length cap4, .slice ao5 ss.length cap5, .slice ao6 rs.length cap6], .slice ao l.length cap] w fun e w' => Below w.heap.size w w' ∧ ∃ v, e = .returned (.tuple #[v, .int .i64 (passesOf (W, H, L, ps, aw, ss, rs) l).2]) ∧ w'.ownsRow w.heap.size 93 3 v (passesOf (W, H, L, ps, aw, ss, rs) l).1.length (valsSkyPass (passesOf (W, H, L, ps, aw, ss, rs) l).1) := by
  obtain ⟨i0, hi0, hz0, hz1, hz2⟩ := info_parts Tryz.infoPass
  have HD : Hid (passesOf (W, H, L, ps, aw, ss, rs) l = if validB (W, H, L, ps, aw, ss, rs) then (match passTo ss l l.length with | some out => (out, (0 : Int)) | none => ([], (2 : Int))) else ([], (1 : Int))) := rfl
  generalize passesOf (W, H, L, ps, aw, ss, rs) l = R at *
  obtain ⟨w0, hw0⟩ : ∃ w0, w0 = (w.alloc (.cells #[.int .i64 W, .int .i64 H, .int .i64 L, .slice ao3 ps.length cap3, .slice ao4 aw.length cap4, .slice ao5 ss.length cap5, .slice ao6 rs.length cap6] 39)).alloc (.cells #[] 93) := ⟨_, rfl⟩
  have hb0 : Below w.heap.size w w0 := by rw [hw0]; exact ((Below.refl _ _).alloc (Nat.le_refl _) _).alloc (by simp) _
  have HS0 : BxL w.heap.size #[.int .i64 W, .int .i64 H, .int .i64 L, .slice ao3 ps.length cap3, .slice ao4 aw.length cap4, .slice ao5 ss.length cap5, .slice ao6 rs.length cap6] w0 := by rw [hw0]; exact (BxL.new w _ _).below ((Below.refl (w.heap.size + 1) _).alloc (by simp) _) (by omega)
  have hz0' : w0.heap.size = w.heap.size + 2 := by rw [hw0]; simp
  have hO0 : w0.ownsRow (w.heap.size + 1) 93 3 (.slice (some ⟨w.heap.size + 1, 0, none⟩) 0 0) 0 [] := by
    rw [hw0]
    have := empty_owns (w.alloc (.cells #[.int .i64 W, .int .i64 H, .int .i64 L, .slice ao3 ps.length cap3, .slice ao4 aw.length cap4, .slice ao5 ss.length cap5, .slice ao6 rs.length cap6] 39)) (w.heap.size + 1) (by simp)
    rwa [World.size_alloc] at this
  have HV := sSkyValid_any W H L ps aw ss rs ao3 cap3 ao4 cap4 ao5 cap5 ao6 cap6 w0 (h.later hb0)
  rw [hw0] at HV
  go_enter Tryz.func19, Tryz.ntmps19
  go_wp2_with fail
  refine HV.mono ?_
  rw [← hw0]
  rintro e w1 ⟨he, hb1⟩
  have he := validB_of he
  subst he
  clear HV hw0
  have hB1 := hb0.trans (hb1.mono (by omega))
  have HS1 := HS0.below hb1 (by omega)
  have hO1 := owns_below hO0 hb1
  have hz1' : w.heap.size + 2 ≤ w1.heap.size := by have := hb1.size; omega
  have h5 := h.p5
  clear hb1 hb0 HS0 h hO0
  generalize validB (W, H, L, ps, aw, ss, rs) = v at *
  cases v
  · have hR : Hid (R = ([], 1)) := HD.out
    have HO : Hid _ := hO1
    clear HD hO1
    go_wp2
    exact bodyPost_ret (v := .tuple #[.slice (some ⟨w.heap.size + 1, 0, none⟩) 0 0, .int .i64 1]) (by simp [results, Tryz.results19, go_sem]) rfl ⟨hB1, _, by rw [hR.out], by
      rw [hR.out]
      rcases HO.out.2 with ⟨hn, _⟩ | ⟨g, c, cur, hv, hg, r⟩
      · cases hn
      · exact ⟨rfl, .inr ⟨g, c, cur, hv, by omega, r⟩⟩⟩
  · have HD2 : Hid (R = (match passTo ss l l.length with | some out => (out, (0 : Int)) | none => ([], (2 : Int)))) := HD.out
    clear HD
    have hlen : l.length ≤ 9223372036854775807 := by omega
    go_wp2
    go_loopw [6, 7] (fun vv i wr => ∃ (k : Nat) (out : List RSkyPass) (N : Nat) (X : List Value) (v : Value), k ≤ l.length ∧ i = .int .i64 k ∧ v = vv ∧ Hid (passTo ss l k = some out) ∧ Hid (PassIs out N X) ∧ wr.ownsRow (w.heap.size + 1) 93 3 v N X ∧ Below w.heap.size w wr ∧ BxL w.heap.size #[.int .i64 W, .int .i64 H, .int .i64 L, .slice ao3 ps.length cap3, .slice ao4 aw.length cap4, .slice ao5 ss.length cap5, .slice ao6 rs.length cap6] wr ∧ w.heap.size + 2 ≤ wr.heap.size) (fun _ i _ => l.length - (intOf i).toNat)
    case atStart => exact ⟨0, [], 0, [], _, Nat.zero_le _, rfl, rfl, rfl, ⟨rfl, rfl⟩, hO1, hB1, HS1, hz1'⟩
    case round =>
      clear hO1 hB1 HS1 hz1'
      obtain ⟨k, out, N, X, v, hk, rfl, hv, hto, his, hown, hB, HS, hws⟩ := hrel
      obtain ⟨sao, scap, hvs⟩ := own_slice hown
      subst hv hvs
      have hws1 : w.heap.size < wr.heap.size := by omega
      by_cases hlt : k < l.length
      · obtain ⟨b1, off, rfl, hok, c0, c1, c2, _, _, _⟩ := elem_SkyPlace hl hlt
        have f0 := (hB.cell (p := ⟨b1, off + k * 3, none⟩) hok).trans c0
        have f1 := (hB.cell (p := ⟨b1, off + k * 3 + 1, none⟩) hok).trans c1
        have f2 := (hB.cell (p := ⟨b1, off + k * 3 + 2, none⟩) hok).trans c2
        have hkI : (k : Int) < (l.length : Int) := by omega
        have hol : N ≤ k := by have := passTo_len hto.out; rw [his.out.1]; exact this
        have HFAIL : Hid (whereOf ss (l[k]'hlt) = none → R = ([], 2)) := fun hw => by rw [HD2.out, pass_fail hlt hw]
        have HSTEP : Hid (∀ n, whereOf ss (l[k]'hlt) = some n → passTo ss l (k + 1) = some (passAdd out n k)) := fun n hw => pass_step hlt hto.out hw
        have HC0 := fun Wd (hh : SliceAt vSkySector (old Wd) Wd ao5 cap5 ss) => sWhereIn W H L ps aw ss rs ao3 cap3 ao4 cap4 ao5 cap5 ao6 cap6 (l[k]'hlt).1 (l[k]'hlt).2.1 (l[k]'hlt).2.2 Wd hh
        have he3 : ((l[k]'hlt).1, (l[k]'hlt).2.1, (l[k]'hlt).2.2) = l[k]'hlt := rfl
        rw [he3] at HC0
        clear he3
        generalize hqe : whereOf ss (l[k]'hlt) = r at *
        clear hqe hto
        generalize l[k]'hlt = pk at *
        obtain ⟨px, py, pl⟩ := pk
        simp only at f0 f1 f2 HC0
        clear c0 c1 c2
        have x0 := HS 0
        have x1 := HS 1
        have x2 := HS 2
        have x3 := HS 3
        have x4 := HS 4
        have x5 := HS 5
        have x6 := HS 6
        simp at x0 x1 x2 x3 x4 x5 x6
        cases r with
        | none =>
          have hR : Hid (R = ([], 2)) := HFAIL.out rfl
          simp only [whereV] at HC0
          clear HFAIL HSTEP HD2
          have cT : ∀ d os, Calls Tryz.prog 53 #[.agg #[.int .i64 W, .int .i64 H, .int .i64 L, .slice ao3 ps.length cap3, .slice ao4 aw.length cap4, .slice ao5 ss.length cap5, .slice ao6 rs.length cap6], .agg #[.int .i64 px, .int .i64 py, .int .i64 pl]] (grow (redrawn wr d) os) fun e w'' => e = .returned (.tuple #[.string ⟨#[]⟩, .bool false]) ∧ ∃ p : Regrown, w'' = grow (redrawn wr p.d) p.os := fun d os => Calls.regrown_of (HC0 _ (h5.later (hB.trans ((below_regrown wr d os).mono hB.size))))
          have r0 := cell_regrown x0
          have r1 := cell_regrown x1
          have r2 := cell_regrown x2
          have r3 := cell_regrown x3
          have r4 := cell_regrown x4
          have r5 := cell_regrown x5
          have r6 := cell_regrown x6
          have y0 := cell_regrown f0
          have y1 := cell_regrown f1
          have y2 := cell_regrown f2
          clear HC0 x0 x1 x2 x3 x4 x5 x6 f0 f1 f2
          go_wp2_with fail
          refine Leg.wp_region_qw (by kernel_rfl) (by kernel_rfl) ?_
          refine Leg.QW.want (by kernel_rfl) (fun K hK => ?_)
          go_big_quiet_op
          refine hK _ ?_
          clear hK K
          refine Leg.QW.want (by kernel_rfl) (fun K hK => ?_)
          go_big_quiet_op
          refine hK _ ?_
          clear hK K
          refine Leg.QW.want (by kernel_rfl) (fun K hK => ?_)
          go_big_quiet_op
          refine hK _ ?_
          clear hK K
          refine Leg.QW.want (by kernel_rfl) (fun K hK => ?_)
          go_big_quiet_op
          refine hK _ ?_
          clear hK K
          refine Leg.QW.want (by kernel_rfl) (fun K hK => ?_)
          go_big_quiet_op
          refine hK _ ?_
          clear hK K
          refine Leg.QW.want (by kernel_rfl) (fun K hK => ?_)
          go_big_quiet_op
          refine ⟨_, fun _ => cT _ _, hK _ ?_⟩
          clear hK K
          refine Leg.QW.want (by kernel_rfl) (fun K hK => ?_)
          go_big_quiet_op
          refine hK _ ?_
          clear hK K
          refine Leg.QW.want (by kernel_rfl) (fun K hK => ?_)
          go_big_quiet_op
          refine hK _ ?_
          clear hK K
          refine Leg.QW.want (by kernel_rfl) (fun K hK => ?_)
          go_big_quiet_op
          refine hK _ ?_
          clear hK K
          refine Leg.QW.want (by kernel_rfl) (fun K hK => ?_)
          go_big_quiet_op
          refine hK _ ?_
          clear hK K
          refine Leg.QW.want (by kernel_rfl) (fun K hK => ?_)
          go_big_quiet_op
          refine hK _ ?_
          clear hK K
          refine Leg.QW.nil ?_
          intro _ hw'
          obtain ⟨⟨dq, osq⟩, hw''⟩ := hw'
          subst hw''
          have hbq := below_regrown wr dq osq
          have hBq := hB.trans (hbq.mono hB.size)
          have HSq := HS.below hbq (by omega)
          have hOq := owns_below hown hbq
          have hzq := hbq.size
          clear r0 r1 r2 r3 r4 r5 r6 y0 y1 y2 cT hbq HS hown hB
          generalize grow (redrawn wr dq) osq = w9 at hBq HSq hOq hzq ⊢
          go_wp2
          exact bodyPost_ret (v := .tuple #[.slice (some ⟨w9.heap.size, 0, none⟩) 0 0, .int .i64 2]) (by simp [results, Tryz.results19, go_sem]) rfl ⟨hBq.alloc (by omega) _, _, by rw [hR.out], by rw [hR.out]; exact empty_owns w9 w.heap.size (by omega)⟩
        | some n =>
          have hTO0 : Hid (passTo ss l (k + 1) = some (passAdd out n k)) := HSTEP.out n rfl
          simp only [whereV] at HC0
          clear HFAIL HSTEP
          have cT : ∀ d os, Calls Tryz.prog 53 #[.agg #[.int .i64 W, .int .i64 H, .int .i64 L, .slice ao3 ps.length cap3, .slice ao4 aw.length cap4, .slice ao5 ss.length cap5, .slice ao6 rs.length cap6], .agg #[.int .i64 px, .int .i64 py, .int .i64 pl]] (grow (redrawn wr d) os) fun e w'' => e = .returned (.tuple #[.string n, .bool true]) ∧ ∃ p : Regrown, w'' = grow (redrawn wr p.d) p.os := fun d os => Calls.regrown_of (HC0 _ (h5.later (hB.trans ((below_regrown wr d os).mono hB.size))))
          have r0 := cell_regrown x0
          have r1 := cell_regrown x1
          have r2 := cell_regrown x2
          have r3 := cell_regrown x3
          have r4 := cell_regrown x4
          have r5 := cell_regrown x5
          have r6 := cell_regrown x6
          have y0 := cell_regrown f0
          have y1 := cell_regrown f1
          have y2 := cell_regrown f2
          clear HC0 x0 x1 x2 x3 x4 x5 x6 f0 f1 f2
          go_wp2_with fail
          refine Leg.wp_region_qw (by kernel_rfl) (by kernel_rfl) ?_
          refine Leg.QW.want (by kernel_rfl) (fun K hK => ?_)
          go_big_quiet_op
          refine hK _ ?_
          clear hK K
          refine Leg.QW.want (by kernel_rfl) (fun K hK => ?_)
          go_big_quiet_op
          refine hK _ ?_
          clear hK K
          refine Leg.QW.want (by kernel_rfl) (fun K hK => ?_)
          go_big_quiet_op
          refine hK _ ?_
          clear hK K
          refine Leg.QW.want (by kernel_rfl) (fun K hK => ?_)
          go_big_quiet_op
          refine hK _ ?_
          clear hK K
          refine Leg.QW.want (by kernel_rfl) (fun K hK => ?_)
          go_big_quiet_op
          refine hK _ ?_
          clear hK K
          refine Leg.QW.want (by kernel_rfl) (fun K hK => ?_)
          go_big_quiet_op
          refine ⟨_, fun _ => cT _ _, hK _ ?_⟩
          clear hK K
          refine Leg.QW.want (by kernel_rfl) (fun K hK => ?_)
          go_big_quiet_op
          refine hK _ ?_
          clear hK K
          refine Leg.QW.want (by kernel_rfl) (fun K hK => ?_)
          go_big_quiet_op
          refine hK _ ?_
          clear hK K
          refine Leg.QW.want (by kernel_rfl) (fun K hK => ?_)
          go_big_quiet_op
          refine hK _ ?_
          clear hK K
          refine Leg.QW.want (by kernel_rfl) (fun K hK => ?_)
          go_big_quiet_op
          refine hK _ ?_
          clear hK K
          refine Leg.QW.want (by kernel_rfl) (fun K hK => ?_)
          go_big_quiet_op
          refine hK _ ?_
          clear hK K
          refine Leg.QW.nil ?_
          intro _ hw'
          obtain ⟨⟨dq, osq⟩, hw''⟩ := hw'
          subst hw''
          have hbq := below_regrown wr dq osq
          have hBq := hB.trans (hbq.mono hB.size)
          have HSq := HS.below hbq (by omega)
          have hOq := owns_below hown hbq
          have hzq := hbq.size
          clear r0 r1 r2 r3 r4 r5 r6 y0 y1 y2 cT hbq HS hown hB
          generalize grow (redrawn wr dq) osq = w9 at hBq HSq hOq hzq ⊢
          obtain ⟨hN, hX⟩ := his.out
          rcases List.eq_nil_or_concat out with ho | ⟨init, ⟨a, f, t⟩, ho⟩
          · subst ho
            subst hN hX
            have HTO : Hid (passTo ss l (k + 1) = some [(n, (k : Int), (k : Int))]) := hTO0.out
            simp only [List.length_nil] at hOq hol ⊢
            go_wp2_with (at_builtin; refine wpList_append_own_at _ rfl _ _ 50 rfl (w.heap.size + 1) 93 i0 (.agg #[.string ByteArray.empty, .int .i64 0, .int .i64 0]) 3 32 Tryz.underlying50 hi0 hz0 hz1 hz2 rfl (by decide) _ _ _ rfl (hOq.alloc _) ⟨w9.heap.size, 0, none⟩ 1 1 [.string n, .int .i64 k, .int .i64 k] rfl rfl ?c1 ?c2 ?c3 ?c4 ?c5 ?_)
            case c1 =>
              intro j u hj
              match j, hj with
              | 0, hj => simp at hj; subst hj; simp [Addr.add]
              | 1, hj => simp at hj; subst hj; simp [Addr.add]
              | 2, hj => simp at hj; subst hj; simp [Addr.add]
            case c2 =>
              intro u hu
              simp at hu
              rcases hu with rfl | rfl | rfl <;> rfl
            case c3 => unfold maxLen; omega
            case c4 => omega
            case c5 => simp; omega
            intro v' w6 hown' hgrow _ hat
            have hge := own_ge hOq
            have hB6 : Below (w.heap.size + 1) w9 w6 := ((Below.refl _ w9).alloc (by omega) _).grown hgrow (by simp; omega) (by intro k hk; exact hge k hk)
            have hBe := hBq.trans (hB6.mono (by omega))
            have HSe := HSq.below hB6 (by omega)
            have hze := hB6.size
            obtain ⟨g6, cap6, rfl⟩ := owns_pos hown'
            have HO : Hid (w6.ownsRow (w.heap.size + 1) 93 3 (.slice (some ⟨g6, 0, none⟩) (0 + 1) cap6) (0 + 1) _) := hown'
            clear hown' hgrow hat hOq hB6 hBq HSq hge
            go_wp2
            go_roundw
            case rel => exact ⟨k + 1, _, _, _, _, by omega, by go_num, rfl, HTO, ⟨rfl, rfl⟩, HO.out, hBe, HSe, by omega⟩
            case measure => simp [intOf]; omega
          · rw [List.concat_eq_append] at ho
            subst ho
            have hla : (init ++ [(a, f, t)]).length = init.length + 1 := by simp
            rw [hla] at hN
            obtain ⟨m, hm⟩ : ∃ m, m = init.length := ⟨_, rfl⟩
            rw [← hm] at hN
            subst hN
            obtain ⟨g, hsg, hg, _⟩ := slice_spot hOq (by omega)
            subst hsg
            have hat := valsSkyPass_at0 (init ++ [(a, f, t)]) m (by omega)
            have hc : w9.cell? ⟨g, m * 3, none⟩ = some (.string a) := by
              rw [hOq.cellAt (m * 3) (by omega), hX]
              subst hm
              simpa using hat
            have hm1 : ((m : Int) + 1 - 1) = (m : Int) := by omega
            clear hat
            by_cases e : a = n
            · have HTO : Hid (passTo ss l (k + 1) = some (init ++ [(a, f, (k : Int))])) := by rw [show Hid (passTo ss l (k + 1) = some (init ++ [(a, f, (k : Int))])) = (passTo ss l (k + 1) = some (init ++ [(a, f, (k : Int))])) from rfl, hTO0.out, ← e, add_same]
              subst e
              have hXl : X.length = (m + 1) * 3 := hOq.1
              obtain ⟨u, hu⟩ : ∃ u, w9.cell? ⟨g, m * 3 + 2, none⟩ = some u := ⟨_, by rw [hOq.cellAt (m * 3 + 2) (by omega)]; exact List.getElem?_eq_getElem (by omega)⟩
              have hfr := hOq.frozenAt (m * 3 + 2)
              have HO : Hid _ := (hOq.stored (m * 3 + 2) (.int .i64 k)).1
              have HPI : Hid (PassIs (init ++ [(a, f, (k : Int))]) (m + 1) (X.set (m * 3 + 2) (.int .i64 k))) := by
                refine ⟨by simp [hm], ?_⟩
                rw [hX, hm, set_last]
              have hBe : Below w.heap.size w (w9.setCell ⟨g, m * 3 + 2, none⟩ (.int .i64 k)) := hBq.setCell (p := ⟨g, m * 3 + 2, none⟩) (by show w.heap.size ≤ g; omega) _
              have HSe : BxL w.heap.size #[.int .i64 W, .int .i64 H, .int .i64 L, .slice ao3 ps.length cap3, .slice ao4 aw.length cap4, .slice ao5 ss.length cap5, .slice ao6 rs.length cap6] (w9.setCell ⟨g, m * 3 + 2, none⟩ (.int .i64 k)) := HSq.below ((Below.refl (w.heap.size + 1) w9).setCell (p := ⟨g, m * 3 + 2, none⟩) (by show w.heap.size + 1 ≤ g; omega) _) (by omega)
              clear hX hOq hBq HSq hTO0 his hXl hm hla
              go_wp2
              go_roundw
              case rel => exact ⟨k + 1, _, _, _, _, by omega, by go_num, rfl, HTO, HPI, HO.out, hBe, HSe, by simp [World.setCell]; omega⟩
              case measure => simp [intOf]; omega
            · have HTO : Hid (passTo ss l (k + 1) = some (init ++ [(a, f, t)] ++ [(n, (k : Int), (k : Int))])) := by rw [show Hid (passTo ss l (k + 1) = some (init ++ [(a, f, t)] ++ [(n, (k : Int), (k : Int))])) = (passTo ss l (k + 1) = some (init ++ [(a, f, t)] ++ [(n, (k : Int), (k : Int))])) from rfl, hTO0.out, add_other e]
              have HPI : Hid (PassIs (init ++ [(a, f, t)] ++ [(n, (k : Int), (k : Int))]) (m + 1 + 1) (X ++ [.string n, .int .i64 k, .int .i64 k])) := by
                refine ⟨by simp [hm], ?_⟩
                rw [valsSkyPass_snoc, hX]
              have e' := lstP_no e
              clear hX his hTO0 hm hla
              go_wp2_with (at_builtin; refine wpList_append_own_at _ rfl _ _ 50 rfl (w.heap.size + 1) 93 i0 (.agg #[.string ByteArray.empty, .int .i64 0, .int .i64 0]) 3 32 Tryz.underlying50 hi0 hz0 hz1 hz2 rfl (by decide) _ _ _ rfl (hOq.alloc _) ⟨w9.heap.size, 0, none⟩ 1 1 [.string n, .int .i64 k, .int .i64 k] rfl rfl ?c1 ?c2 ?c3 ?c4 ?c5 ?_)
              case c1 =>
                intro j u hj
                match j, hj with
                | 0, hj => simp at hj; subst hj; simp [Addr.add]
                | 1, hj => simp at hj; subst hj; simp [Addr.add]
                | 2, hj => simp at hj; subst hj; simp [Addr.add]
              case c2 =>
                intro u hu
                simp at hu
                rcases hu with rfl | rfl | rfl <;> rfl
              case c3 => unfold maxLen; omega
              case c4 => omega
              case c5 => simp; omega
              intro v' w6 hown' hgrow _ hat
              have hge := own_ge hOq
              have hB6 : Below (w.heap.size + 1) w9 w6 := ((Below.refl _ w9).alloc (by omega) _).grown hgrow (by simp; omega) (by intro k hk; exact hge k hk)
              have hBe := hBq.trans (hB6.mono (by omega))
              have HSe := HSq.below hB6 (by omega)
              have hze := hB6.size
              obtain ⟨g6, cap6, rfl⟩ := owns_pos hown'
              have HO : Hid (w6.ownsRow (w.heap.size + 1) 93 3 (.slice (some ⟨g6, 0, none⟩) ((m + 1) + 1) cap6) ((m + 1) + 1) _) := hown'
              clear hown' hgrow hat hOq hB6 hBq HSq hge
              go_wp2
              go_roundw
              case rel => exact ⟨k + 1, _, _, _, _, by omega, by go_num, rfl, HTO, HPI, HO.out, hBe, HSe, by omega⟩
              case measure => simp [intOf]; omega
      · have hke : k = l.length := by omega
        subst hke
        obtain ⟨hN, hX⟩ := his.out
        have hR : Hid (R = (out, 0)) := by show _ = _; rw [HD2.out, hto.out]
        have hO : wr.ownsRow w.heap.size 93 3 (.slice sao N scap) out.length (valsSkyPass out) := by
          rw [← hN, ← hX]
          refine ⟨hown.1, ?_⟩
          rcases hown.2 with hn | ⟨g, c, cur, hv, hg, r⟩
          · exact .inl hn
          · exact .inr ⟨g, c, cur, hv, by omega, r⟩
        have HO : Hid _ := hO
        clear HD2 hto hO his hN hX hown
        go_wp2
        exact bodyPost_ret (v := .tuple #[.slice sao N scap, .int .i64 0]) (by simp [results, Tryz.results19, go_sem]) rfl ⟨hB, _, by rw [hR.out], by rw [hR.out]; exact HO.out⟩

end Go.Proofs.YtnjkkohhgbgpgaaGreatDoor
