/- DERIVED. Data of: A result that is a list of int: what it owns; the laws' own eqIntS, markIntS, heldIntS over it. -/
import Derived.Test.YtgnjkpmbppmoeaaGreatRows
import Derived.WalkKit
import Derived.WalkSpells
import Derived.WalkLawsBesides
import Derived.Test.YtgnjkpmbppmoeaaGreatKGVw
import Derived.Deep.QuietTactic
import Derived.BigQuiet
import Derived.Deep.RegionWith
import Derived.Maps.AppendAt
namespace Go.Proofs.YtgnjkpmbppmoeaaGreat
open Go.RowKit
set_option linter.unusedSimpArgs false
set_option linter.unusedVariables false

theorem Tryz.infoInt : (Tryz.prog.info? 3).map (fun i => (i.zero, i.size, i.bytes)) = some (some (.int .i64 0), 1, 8) := by kernel_rfl

def valsInt (l : List Int) : List Value := l.map (Value.int .i64)
theorem valsInt_len (l : List Int) : (valsInt l).length = l.length := by simp [valsInt]
theorem valsInt_snoc (l : List Int) (x : Int) : valsInt (l ++ [x]) = valsInt l ++ [.int .i64 x] := by simp [valsInt]
theorem valsInt_app (a b : List Int) : valsInt (a ++ b) = valsInt a ++ valsInt b := by simp [valsInt]

/-- Where a slice's elements are l, from cell 0 of its block on. -/
def AtInt (w : World) (ao : Option Addr) (l : List Int) : Prop :=
  l = [] ∨ ∃ g, ao = some ⟨g, 0, none⟩ ∧ g < w.heap.size ∧ ∀ i (h : i < l.length), w.cell? ⟨g, i, none⟩ = some (.int .i64 (l[i]'h))
theorem AtInt.kept {w w' : World} {ao : Option Addr} {l : List Int} (h : AtInt w ao l) (hb : ∀ g, ao = some ⟨g, 0, none⟩ → g < w.heap.size → w'.heap[g]? = w.heap[g]?) (hs : w.heap.size ≤ w'.heap.size) : AtInt w' ao l := by
  rcases h with h0 | ⟨g, h1, h2, h3⟩
  · exact .inl h0
  · exact .inr ⟨g, h1, by omega, fun i hi => (World.cell?_of_block (a := ⟨g, i, none⟩) (hb g h1 h2)).trans (h3 i hi)⟩
theorem AtInt.later {w w' : World} {ao : Option Addr} {l : List Int} (h : AtInt w ao l) (hb : Below w.heap.size w w') : AtInt w' ao l := h.kept (fun g _ hg => hb.block g hg) hb.size
theorem AtInt.elem {w : World} {ao : Option Addr} {l : List Int} (h : AtInt w ao l) {i : Nat} (hi : i < l.length) : ∃ g, ao = some ⟨g, 0, none⟩ ∧ g < w.heap.size ∧ w.cell? ⟨g, i, none⟩ = some (.int .i64 (l[i]'hi)) := by
  rcases h with rfl | ⟨g, h1, h2, h3⟩
  · simp at hi
  · exact ⟨g, h1, h2, h3 i hi⟩
theorem atInt_owns {w : World} {B : Nat} {ao : Option Addr} {n cap : Nat} {l : List Int} (hn : n = l.length) (h : w.ownsRow B 3 1 (.slice ao n cap) n (valsInt l)) : AtInt w ao l := by
  by_cases he : l = []
  · exact .inl he
  · right
    have hpos : 0 < n := by rw [hn]; exact List.length_pos_iff.2 he
    rcases h.2 with ⟨_, h0⟩ | ⟨g, c, cur, hv, hg, hh, hn2, hc, hsz, ht⟩
    · omega
    · cases hv
      refine ⟨g, rfl, (Array.getElem?_eq_some_iff.1 hh).1, fun i hi => ?_⟩
      have e1 : cur.toList[i]? = (valsInt l)[i]? := by
        rw [← ht, List.getElem?_take, if_pos (by omega)]
      have e2 : (valsInt l)[i]? = some (.int .i64 (l[i]'hi)) := by simp [valsInt, hi]
      rw [e2] at e1
      simp only [World.cell?, hh]
      simpa using e1

end Go.Proofs.YtgnjkpmbppmoeaaGreat

/- DERIVED. impl.PlanLevels and spec.PlanLevels: their walks. -/
namespace Go.Proofs.YtgnjkpmbppmoeaaGreat
namespace Lev
open Go.RowKit
set_option linter.unusedSimpArgs false
set_option linter.unusedVariables false

def lvMin (a b : Int) : Int := if a < b then a else b
def lvAt (s l : Int) (k : Nat) : Int := lvMin l (lvMin (k : Int) (s - 1 - (k : Int)))
def LvOk (s l : Int) : Prop := (1 ≤ s ∧ s ≤ 40) ∧ 1 ≤ l ∧ l ≤ 6
instance (s l : Int) : Decidable (LvOk s l) := by unfold LvOk; infer_instance
def levelsL (s l : Int) : List Int := (List.range s.toNat).map (lvAt s l)
def levelsOf (s l : Int) : List Int := if LvOk s l then levelsL s l else []
theorem levels_len (s l : Int) : (levelsOf s l).length ≤ 40 := by
  unfold levelsOf
  split
  · rename_i h
    simp only [levelsL, List.length_map, List.length_range]
    have := h.1.2
    omega
  · simp

theorem from_i (n lo hi : Int) (w : World) (v : Bool) (h : v = decide (lo ≤ n ∧ n ≤ hi)) :
    Calls Tryz.prog 109 #[.int .i64 n, .int .i64 lo, .int .i64 hi] w fun e w' => e = .returned (.bool v) ∧ w = w' := by
  subst h
  by_cases h1 : lo ≤ n
  · by_cases h2 : n ≤ hi
    · go_enter Tryz.func109, Tryz.ntmps109
      go_wp2
      go_ret
      exact ⟨by simp [h1, h2], rfl⟩
    · go_enter Tryz.func109, Tryz.ntmps109
      go_wp2
      go_ret
      exact ⟨by simp [h1, h2]; try omega, rfl⟩
  · go_enter Tryz.func109, Tryz.ntmps109
    go_wp2
    go_ret
    exact ⟨by simp [h1]; try omega, rfl⟩

theorem in_s (n lo hi : Int) (w : World) (v : Bool) (h : v = decide (lo ≤ n ∧ n ≤ hi)) :
    Calls Tryz.prog 81 #[.int .i64 n, .int .i64 lo, .int .i64 hi] w fun e w' => e = .returned (.bool v) ∧ w = w' := by
  subst h
  by_cases h1 : lo ≤ n
  · by_cases h2 : n ≤ hi
    · go_enter Tryz.func81, Tryz.ntmps81
      go_wp2
      go_ret
      exact ⟨by simp [h1, h2], rfl⟩
    · go_enter Tryz.func81, Tryz.ntmps81
      go_wp2
      go_ret
      exact ⟨by simp [h1, h2]; try omega, rfl⟩
  · go_enter Tryz.func81, Tryz.ntmps81
    go_wp2
    go_ret
    exact ⟨by simp [h1]; try omega, rfl⟩

theorem sMin (a b m : Int) (w : World) (h : m = lvMin a b) :
    Calls Tryz.prog 41 #[.int .i64 a, .int .i64 b] w fun e w' => e = .returned (.int .i64 m) ∧ w = w' := by
  subst h
  by_cases h1 : a < b
  · rw [show lvMin a b = a from if_pos h1]
    go_enter Tryz.func41, Tryz.ntmps41
    go_wp2
    go_ret
    exact ⟨rfl, rfl⟩
  · rw [show lvMin a b = b from if_neg h1]
    go_enter Tryz.func41, Tryz.ntmps41
    go_wp2
    go_ret
    exact ⟨rfl, rfl⟩

theorem emptyInt (w : World) (e : TypeId) (B : Nat) (hB : B ≤ w.heap.size) : (w.alloc (.cells #[] e)).ownsRow B e 1 (.slice (some ⟨w.heap.size, 0, none⟩) 0 0) 0 [] :=
  World.ownsRow_made w #[] 0 hB (Nat.zero_le _) rfl

/-- What a call that gives the levels leaves. -/
def GivesLv (s l : Int) (w : World) (e : Ending) (w' : World) : Prop := ∃ ao cap, e = .returned (.slice ao (levelsOf s l).length cap) ∧ w'.ownsRow w.heap.size 3 1 (.slice ao (levelsOf s l).length cap) (levelsOf s l).length (valsInt (levelsOf s l)) ∧ Below w.heap.size w w'

theorem lvMin3 (l k b : Int) : (if (if k < l then k else l) > b then b else (if k < l then k else l)) = lvMin l (lvMin k b) := by
  unfold lvMin
  repeat' split
  all_goals omega

set_option maxRecDepth 100000 in
set_option maxHeartbeats 2000000 in
theorem iLevels_yes (s l : Int) (w : World) (hs : 1 ≤ s ∧ s ≤ 40) (hl : 1 ≤ l ∧ l ≤ 6) :
    Calls Tryz.prog 85 #[.int .i64 s, .int .i64 l] w (GivesLv s l w) := by
  obtain ⟨i0, hi, hz0, hz1, hz2⟩ := info_parts Tryz.infoInt
  have H1 := fun W => from_i s 1 40 W true (by simp [hs])
  have H2 := fun W => from_i l 1 6 W true (by simp [hl])
  have he : levelsOf s l = levelsL s l := if_pos ⟨hs, hl⟩
  unfold GivesLv
  rw [he]
  obtain ⟨n, rfl⟩ : ∃ n : Nat, s = (n : Int) := ⟨s.toNat, by omega⟩
  obtain ⟨hs1, hs2⟩ := hs
  obtain ⟨hl1, hl2⟩ := hl
  have hlen : (levelsL (n : Int) l).length = n := by simp [levelsL]
  clear he
  go_enter Tryz.func85, Tryz.ntmps85
  go_wp2_with fail
  refine (H1 _).mono ?_
  rintro e w1 ⟨rfl, rfl⟩
  clear H1
  go_wp2_with fail
  refine (H2 _).mono ?_
  rintro e w1 ⟨rfl, rfl⟩
  clear H2
  go_wp2
  go_loopw [5, 17] (fun v i wr => ∃ (k : Nat) (ao : Option Addr) (cap : Nat), k ≤ n ∧ i = .int .i64 k ∧ v = .slice ao k cap ∧ wr.ownsRow w.heap.size 3 1 (.slice ao k cap) k (valsInt ((List.range k).map (lvAt n l))) ∧ Below w.heap.size w wr) (fun _ i _ => n - (intOf i).toNat)
  case atStart => exact ⟨0, none, 0, Nat.zero_le _, rfl, rfl, World.ownsRow_nil _ _ _ _, Below.refl _ _⟩
  case round =>
    obtain ⟨k, ao, cap, hk, rfl, rfl, hO, hbel⟩ := hrel
    by_cases hlt : k < n
    · have hsz := hbel.size
      have hw1 : IntKind.i64.wrap ((n : Int) - 1) = (n : Int) - 1 := by rw [IntKind.wrap_i64]; all_goals omega
      have hw2 : IntKind.i64.wrap ((n : Int) - 1 - (k : Int)) = (n : Int) - 1 - (k : Int) := by rw [IntKind.wrap_i64]; all_goals omega
      go_wp2_with (at_builtin; refine wpList_append_own _ rfl _ _ 81 rfl w.heap.size 3 i0 (.int .i64 0) 1 8 Tryz.underlying81 hi hz0 hz1 hz2 rfl (by decide) _ _ _ rfl (hO.alloc _) ⟨wr.heap.size, 0, none⟩ 1 1 [.int .i64 (lvAt n l k)] rfl rfl ?c1 ?c2 ?c3 ?c4 ?c5 ?_)
      all_goals first
        | (intro j u hj
           match j, hj with
           | 0, hj => simp at hj; subst hj; simp [Addr.add, lvAt, lvMin]; repeat' split
                      all_goals first | rfl | omega)
        | (intro u hu; simp at hu; subst hu; rfl)
        | (unfold maxLen; omega)
        | omega
        | (simp; done)
        | (simp; omega)
        | (simp only [World.size_alloc]; omega)
        | skip
      all_goals
        intro v' w1 hown' hgrow _
        obtain ⟨g, cap', rfl⟩ := owns_pos hown'
        have hb1 : Below w.heap.size w w1 := (hbel.alloc hbel.size _).grown hgrow (by simp; omega) (fun j hj => own_ge hO j hj)
        have hO2 : w1.ownsRow w.heap.size 3 1 (.slice (some ⟨g, 0, none⟩) (k + 1) cap') (k + 1) (valsInt ((List.range (k + 1)).map (lvAt n l))) := by
          rw [List.range_succ, List.map_append, List.map_cons, List.map_nil, valsInt_snoc]
          exact hown'
        have HO2 : Hid _ := hO2
        clear hO hown' hgrow hO2 hbel
        go_wp2
        go_roundw
        case rel => exact ⟨k + 1, _, _, by omega, by go_num, rfl, HO2.out, hb1⟩
        case measure => simp [intOf]; omega
    · have hkn : k = n := by omega
      subst hkn
      have HO : Hid _ := hO
      clear hO
      go_wp2
      go_ret
      exact ⟨ao, cap, by rw [hlen]; rfl, by rw [hlen]; exact HO.out, hbel⟩

set_option maxRecDepth 100000 in
set_option maxHeartbeats 1000000 in
theorem iLevels_no (s l : Int) (w : World) (h : ¬ LvOk s l) :
    Calls Tryz.prog 85 #[.int .i64 s, .int .i64 l] w (GivesLv s l w) := by
  have he : levelsOf s l = [] := if_neg h
  unfold GivesLv
  rw [he]
  by_cases hs : 1 ≤ s ∧ s ≤ 40
  · have H1 := fun W => from_i s 1 40 W true (by simp [hs])
    have H2 := fun W => from_i l 1 6 W false (decide_eq_false (fun h2 => h ⟨hs, h2⟩)).symm
    clear h he hs
    go_enter Tryz.func85, Tryz.ntmps85
    go_wp2_with fail
    refine (H1 _).mono ?_
    rintro e w1 ⟨rfl, rfl⟩
    clear H1
    go_wp2_with fail
    refine (H2 _).mono ?_
    rintro e w1 ⟨rfl, rfl⟩
    clear H2
    go_wp2
    go_ret
    exact ⟨none, 0, rfl, World.ownsRow_nil _ _ _ _, Below.refl _ _⟩
  · have H1 := fun W => from_i s 1 40 W false (decide_eq_false hs).symm
    clear h he hs
    go_enter Tryz.func85, Tryz.ntmps85
    go_wp2_with fail
    refine (H1 _).mono ?_
    rintro e w1 ⟨rfl, rfl⟩
    clear H1
    go_wp2
    go_ret
    exact ⟨none, 0, rfl, World.ownsRow_nil _ _ _ _, Below.refl _ _⟩

theorem iLevels (s l : Int) (w : World) : Calls Tryz.prog 85 #[.int .i64 s, .int .i64 l] w (GivesLv s l w) := by
  by_cases h : LvOk s l
  · exact iLevels_yes s l w h.1 h.2
  · exact iLevels_no s l w h

set_option maxRecDepth 100000 in
set_option maxHeartbeats 2000000 in
theorem sLevels_yes (s l : Int) (w : World) (hs : 1 ≤ s ∧ s ≤ 40) (hl : 1 ≤ l ∧ l ≤ 6) :
    Calls Tryz.prog 40 #[.int .i64 s, .int .i64 l] w (GivesLv s l w) := by
  obtain ⟨i0, hi, hz0, hz1, hz2⟩ := info_parts Tryz.infoInt
  have H1 := fun W => in_s s 1 40 W true (by simp [hs])
  have H2 := fun W => in_s l 1 6 W true (by simp [hl])
  have he : levelsOf s l = levelsL s l := if_pos ⟨hs, hl⟩
  unfold GivesLv
  rw [he]
  obtain ⟨n, rfl⟩ : ∃ n : Nat, s = (n : Int) := ⟨s.toNat, by omega⟩
  obtain ⟨hs1, hs2⟩ := hs
  obtain ⟨hl1, hl2⟩ := hl
  have hlen : (levelsL (n : Int) l).length = n := by simp [levelsL]
  have hE := emptyInt w 3 w.heap.size (Nat.le_refl _)
  clear he
  go_enter Tryz.func40, Tryz.ntmps40
  go_wp2_with fail
  refine (H1 _).mono ?_
  rintro e w1 ⟨rfl, rfl⟩
  clear H1
  go_wp2_with fail
  refine (H2 _).mono ?_
  rintro e w1 ⟨rfl, rfl⟩
  clear H2
  go_wp2
  go_loopw [5, 6] (fun v i wr => ∃ (k : Nat) (ao : Option Addr) (cap : Nat), k ≤ n ∧ i = .int .i64 k ∧ v = .slice ao k cap ∧ wr.ownsRow w.heap.size 3 1 (.slice ao k cap) k (valsInt ((List.range k).map (lvAt n l))) ∧ Below w.heap.size w wr) (fun _ i _ => n - (intOf i).toNat)
  case atStart => exact ⟨0, _, 0, Nat.zero_le _, rfl, rfl, hE, (Below.refl _ _).alloc (Nat.le_refl _) _⟩
  case round =>
    obtain ⟨k, ao, cap, hk, rfl, rfl, hO, hbel⟩ := hrel
    by_cases hlt : k < n
    · have hsz := hbel.size
      have hw1 : IntKind.i64.wrap ((n : Int) - 1) = (n : Int) - 1 := by rw [IntKind.wrap_i64]; all_goals omega
      have hw2 : IntKind.i64.wrap ((n : Int) - 1 - (k : Int)) = (n : Int) - 1 - (k : Int) := by rw [IntKind.wrap_i64]; all_goals omega
      have M1 := fun W => sMin (k : Int) ((n : Int) - 1 - (k : Int)) _ W rfl
      have M2 := fun W => sMin l (lvMin (k : Int) ((n : Int) - 1 - (k : Int))) (lvAt n l k) W rfl
      generalize hm1 : lvMin (k : Int) ((n : Int) - 1 - (k : Int)) = m1 at *
      have hx : ∃ x, x = lvAt n l k := ⟨_, rfl⟩
      obtain ⟨x, hx⟩ := hx
      rw [← hx] at M2
      have HX : Hid _ := hx
      clear hx
      go_wp2_with fail
      refine (M1 _).mono ?_
      rintro e w1 ⟨rfl, rfl⟩
      clear M1
      go_wp2_with fail
      refine (M2 _).mono ?_
      rintro e w1 ⟨rfl, rfl⟩
      clear M2
      go_wp2_with (at_builtin; refine wpList_append_own _ rfl _ _ 81 rfl w.heap.size 3 i0 (.int .i64 0) 1 8 Tryz.underlying81 hi hz0 hz1 hz2 rfl (by decide) _ _ _ rfl (hO.alloc _) ⟨wr.heap.size, 0, none⟩ 1 1 [.int .i64 x] rfl rfl ?c1 ?c2 ?c3 ?c4 ?c5 ?_)
      case c1 =>
        intro j u hj
        match j, hj with
        | 0, hj => simp at hj; subst hj; simp [Addr.add]
      case c2 => intro u hu; simp at hu; subst hu; rfl
      case c3 => unfold maxLen; omega
      case c4 => omega
      case c5 => simp; omega
      intro v' w1 hown' hgrow _
      obtain ⟨g, cap', rfl⟩ := owns_pos hown'
      have hb1 : Below w.heap.size w w1 := (hbel.alloc hbel.size _).grown hgrow (by simp; omega) (fun j hj => own_ge hO j hj)
      have hO2 : w1.ownsRow w.heap.size 3 1 (.slice (some ⟨g, 0, none⟩) (k + 1) cap') (k + 1) (valsInt ((List.range (k + 1)).map (lvAt n l))) := by
        rw [List.range_succ, List.map_append, List.map_cons, List.map_nil, valsInt_snoc, ← HX.out]
        exact hown'
      have HO2 : Hid _ := hO2
      clear hO hown' hgrow hO2 hbel
      go_wp2
      go_roundw
      case rel => exact ⟨k + 1, _, _, by omega, by go_num, rfl, HO2.out, hb1⟩
      case measure => simp [intOf]; omega
    · have hkn : k = n := by omega
      subst hkn
      have HO : Hid _ := hO
      clear hO
      go_wp2
      go_ret
      exact ⟨ao, cap, by rw [hlen]; rfl, by rw [hlen]; exact HO.out, hbel⟩

set_option maxRecDepth 100000 in
set_option maxHeartbeats 1000000 in
theorem sLevels_no (s l : Int) (w : World) (h : ¬ LvOk s l) :
    Calls Tryz.prog 40 #[.int .i64 s, .int .i64 l] w (GivesLv s l w) := by
  have he : levelsOf s l = [] := if_neg h
  unfold GivesLv
  rw [he]
  by_cases hs : 1 ≤ s ∧ s ≤ 40
  · have H1 := fun W => in_s s 1 40 W true (by simp [hs])
    have H2 := fun W => in_s l 1 6 W false (decide_eq_false (fun h2 => h ⟨hs, h2⟩)).symm
    clear h he hs
    go_enter Tryz.func40, Tryz.ntmps40
    go_wp2_with fail
    refine (H1 _).mono ?_
    rintro e w1 ⟨rfl, rfl⟩
    clear H1
    go_wp2_with fail
    refine (H2 _).mono ?_
    rintro e w1 ⟨rfl, rfl⟩
    clear H2
    go_wp2
    go_ret
    exact ⟨_, 0, rfl, emptyInt w 3 w.heap.size (Nat.le_refl _), (Below.refl _ _).alloc (Nat.le_refl _) _⟩
  · have H1 := fun W => in_s s 1 40 W false (decide_eq_false hs).symm
    clear h he hs
    go_enter Tryz.func40, Tryz.ntmps40
    go_wp2_with fail
    refine (H1 _).mono ?_
    rintro e w1 ⟨rfl, rfl⟩
    clear H1
    go_wp2
    go_ret
    exact ⟨_, 0, rfl, emptyInt w 3 w.heap.size (Nat.le_refl _), (Below.refl _ _).alloc (Nat.le_refl _) _⟩

theorem sLevels (s l : Int) (w : World) : Calls Tryz.prog 40 #[.int .i64 s, .int .i64 l] w (GivesLv s l w) := by
  by_cases h : LvOk s l
  · exact sLevels_yes s l w h.1 h.2
  · exact sLevels_no s l w h

end Lev
end Go.Proofs.YtgnjkpmbppmoeaaGreat
