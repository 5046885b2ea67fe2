/- DERIVED. spec.PlanRead: its walk (written by wip/tools/mk_pr2.py). -/
import Derived.Test.YtgibkckmdedhjaaDoorPrI0
import Derived.Test.YtgibkckmdedhjaaDoorFmS1
import Derived.Test.YtgibkckmdedhjaaDoorPwS0
namespace Go.Proofs.YtgibkckmdedhjaaDoor
open Go.RowKit
set_option linter.unusedSimpArgs false
set_option linter.unusedVariables false

/-- Block B is a change's, unfrozen, with these cells. -/
def OB (B : Nat) (cs : Array Value) (W : World) : Prop := W.heap[B]? = some (.cells cs 23 (0, 0))
theorem OB.cell {B : Nat} {cs : Array Value} {W : World} (h : OB B cs W) (i : Nat) : W.cell? ⟨B, i, none⟩ = cs[i]? := by
  unfold OB at h
  unfold World.cell?
  simp only [h]
  rfl
theorem OB.free {B : Nat} {cs : Array Value} {W : World} (h : OB B cs W) (i : Nat) : W.frozen? ⟨B, i, none⟩ = false := by
  unfold OB at h
  simp [World.frozen?, h]
theorem OB.set {B : Nat} {cs : Array Value} {W : World} (h : OB B cs W) (i : Nat) (v : Value) : OB B (cs.setIfInBounds i v) (W.setCell ⟨B, i, none⟩ v) := heap_setCell_same W B i cs _ v h
theorem OB.below {B m : Nat} {cs : Array Value} {W W' : World} (h : OB B cs W) (hb : Below m W W') (hB : B < m) : OB B cs W' := (hb.block B hB).trans h
theorem OB.lt {B : Nat} {cs : Array Value} {W : World} (h : OB B cs W) : B < W.heap.size := (Array.getElem?_eq_some_iff.1 h).1
theorem OB.new (W : World) (cs : Array Value) : OB W.heap.size cs (W.alloc (.cells cs 23)) := heap_alloc_new W _

/-- The first four words of a list. -/
def Wd (g : Nat) (a b c d : ByteArray) (W : World) : Prop := W.cell? ⟨g, 0, none⟩ = some (.string a) ∧ W.cell? ⟨g, 1, none⟩ = some (.string b) ∧ W.cell? ⟨g, 2, none⟩ = some (.string c) ∧ W.cell? ⟨g, 3, none⟩ = some (.string d)
theorem Wd.below {g m : Nat} {a b c d : ByteArray} {W W' : World} (h : Wd g a b c d W) (hb : Below m W W') (hg : g < m) : Wd g a b c d W' :=
  ⟨(hb.cell (p := ⟨g, 0, none⟩) hg).trans h.1, (hb.cell (p := ⟨g, 1, none⟩) hg).trans h.2.1, (hb.cell (p := ⟨g, 2, none⟩) hg).trans h.2.2.1, (hb.cell (p := ⟨g, 3, none⟩) hg).trans h.2.2.2⟩

theorem id_imp {X G : Prop} (h1 : X → G) (h2 : X) : G := h1 h2
theorem id_imp2 {m : Nat} {u : World} {X : World → Nat → Prop} {G : Prop} (h1 : (∀ w5 g2, Below m u w5 → X w5 g2) → G) (h2 : ∀ w5 g2, Below m u w5 → X w5 g2) : G := h1 h2

theorem cutFive (s a b c d e5 : ByteArray) (r : List ByteArray) (hs : s.size ≤ 1048576) (hw : wordsP s = a :: b :: c :: d :: e5 :: r) (L : Nat) (hL : L = (a :: b :: c :: d :: e5 :: r).length) (w : World) :
    Calls Tryd.prog 7 #[.string s, .int .u8 32] w fun e w' => ∃ g cap, e = .returned (.slice (some ⟨g, 0, none⟩) L cap) ∧ g < w'.heap.size ∧ Wd g a b c d w' ∧ Below w.heap.size w w' := by
  refine (sCut s w hs).mono fun e w' h => ?_
  obtain ⟨ao, cap, rfl, hT, hb⟩ := h
  rw [hw] at hT ⊢
  rcases hT with h0 | ⟨g, rfl, hg, hc⟩
  · cases h0
  · exact ⟨g, cap, by rw [hL], hg, ⟨hc 0 (by simp), hc 1 (by simp), hc 2 (by simp), hc 3 (by simp)⟩, hb⟩

set_option maxRecDepth 100000 in
set_option maxHeartbeats 2000000 in
theorem sRead_few (s : ByteArray) (w : World) (hs : s.size ≤ 1048576) (hw : (wordsP s).length < 5) :
    Calls Tryd.prog 4 #[.string s] w fun e w' => e = .returned (rdVal ByteArray.empty 0 0 ByteArray.empty false) ∧ Below w.heap.size w w' := by
  have hb0 : Below w.heap.size w (w.alloc (.cells #[.string ⟨#[]⟩, .int .i64 0, .int .i64 0, .string ⟨#[]⟩] 23)) := (Below.refl _ _).alloc (Nat.le_refl _) _
  have HCUT := fun W => sCut s W hs
  have hlI : ((wordsP s).length : Int) < 5 := by omega
  generalize wordsP s = ws at *
  go_enter Tryd.func4, Tryd.ntmps4
  go_wp2_with fail
  refine (HCUT _).mono ?_
  rintro e w1 ⟨ao, cap, rfl, hT, hb1⟩
  have hB1 := hb0.trans (hb1.mono hb0.size)
  have hO : OB w.heap.size #[.string ⟨#[]⟩, .int .i64 0, .int .i64 0, .string ⟨#[]⟩] w1 := (OB.new w _).below hb1 (by simp)
  have hz1 : w.heap.size < w1.heap.size := hO.lt
  have hfz := hO.free
  have c0 := hO.cell 0
  have c1 := hO.cell 1
  have c2 := hO.cell 2
  have c3 := hO.cell 3
  simp at c0 c1 c2 c3
  clear hb1 hb0 HCUT hT hO
  go_wp2
  exact bodyPost_ret (v := .tuple #[.agg #[.string ⟨#[]⟩, .int .i64 0, .int .i64 0, .string ⟨#[]⟩], .bool false]) (by simp [results, Tryd.results4, go_sem, c0, c1, c2, c3, hfz, hz1]) rfl ⟨rfl, by repeat (first | exact hB1 | refine Below.setCell ?_ (by simp) _)⟩

set_option maxRecDepth 100000 in
set_option maxHeartbeats 8000000 in
theorem sRead_many (s a b c d e5 : ByteArray) (r : List ByteArray) (w : World) (hs : s.size ≤ 1048576) (hw : wordsP s = a :: b :: c :: d :: e5 :: r) (v : ByteArray) (hv : v = s.extract (pre (wordsP s) 4) s.size) :
    Calls Tryd.prog 4 #[.string s] w fun e w' => e = .returned (rdVal b (whatOf c) (decM d) v (pb (formOf b (whatOf c) (decM d) v = s))) ∧ Below w.heap.size w w' := by
  have hb0 : Below w.heap.size w (w.alloc (.cells #[.string ⟨#[]⟩, .int .i64 0, .int .i64 0, .string ⟨#[]⟩] 23)) := (Below.refl _ _).alloc (Nat.le_refl _) _
  have hsz : ∀ x ∈ wordsP s, x.size ≤ s.size := wordsP_sizes s
  have ha6 : a.size ≤ 1048576 := Nat.le_trans (hsz a (by rw [hw]; simp)) hs
  have hb6 : b.size ≤ 1048576 := Nat.le_trans (hsz b (by rw [hw]; simp)) hs
  have hc6 : c.size ≤ 1048576 := Nat.le_trans (hsz c (by rw [hw]; simp)) hs
  have hd6 : d.size ≤ 1048576 := Nat.le_trans (hsz d (by rw [hw]; simp)) hs
  have hbm : b.size ≤ maxLen := by unfold maxLen; omega
  have hdm : d.size ≤ maxLen := by unfold maxLen; omega
  have hvm : v.size ≤ 1048576 := by rw [hv]; simp [ByteArray.size_extract]; omega
  obtain ⟨Np, hNp⟩ : ∃ k, k = pre (wordsP s) 4 := ⟨_, rfl⟩
  have hNle : Np ≤ s.size := by rw [hNp]; exact (split_some 4 s (by rw [hw]; simp)).2
  have hNI : (a.size : Int) + (b.size : Int) + (c.size : Int) + (d.size : Int) + 4 = (Np : Int) := by
    rw [hNp, hw]; unfold pre; simp; omega
  have hX : s.extract Np s.size = v := by rw [hNp, hv]
  obtain ⟨L, hL⟩ : ∃ k, k = (a :: b :: c :: d :: e5 :: r).length := ⟨_, rfl⟩
  have hL5 : 5 ≤ L := by rw [hL]; simp
  have hLm : L ≤ 1048577 := by rw [hL, ← hw]; exact Nat.le_trans (wordsP_len s) (by omega)
  have HCUT := cutFive s a b c d e5 r hs hw L hL
  have HNUM := fun W => sNum d W hdm
  have HFO := fun W => sForm b (whatOf c) (decM d) v W hbm hvm
  have hnb := decM_bound d
  clear hsz hv hw hL hNp
  generalize decM d = n at *
  have l5 : ¬ (L : Int) < 5 := by omega
  have l0 : (0 : Int) < (L : Int) := by omega
  have l1 : (1 : Int) < (L : Int) := by omega
  have l2 : (2 : Int) < (L : Int) := by omega
  have l3 : (3 : Int) < (L : Int) := by omega
  have l0n : 0 < L := by omega
  have l1n : 1 < L := by omega
  have l2n : 2 < L := by omega
  have l3n : 3 < L := by omega
  go_enter Tryd.func4, Tryd.ntmps4
  go_wp2_with fail
  refine (HCUT _).mono ?_
  rintro e w1 ⟨g, cap, rfl, hg, hW1, hb1⟩
  have hB1 := hb0.trans (hb1.mono hb0.size)
  have hO1 : OB w.heap.size #[.string ⟨#[]⟩, .int .i64 0, .int .i64 0, .string ⟨#[]⟩] w1 := (OB.new w _).below hb1 (by simp)
  have hz1 : w.heap.size < w1.heap.size := hO1.lt
  clear hb1 hb0 HCUT
  go_wp2_with fail
  have HC0 : Wd g a b c d w1.drew := hW1.below (Below.refl w1.heap.size _).drew hg
  have HCz : Wd g a b c d (w1.alloc (.cells #[.string ⟨#[]⟩, .int .i64 0, .int .i64 0, .string ⟨#[]⟩] 23)).drew := hW1.below ((Below.refl w1.heap.size _).alloc (Nat.le_refl _) _).drew hg
  have HCn : Wd g a b c d (w1.alloc (.cells #[.string b, .int .i64 0, .int .i64 n, .string ⟨#[]⟩] 23)).drew := hW1.below ((Below.refl w1.heap.size _).alloc (Nat.le_refl _) _).drew hg
  apply id_imp
  case h1 =>
    intro hfin
    refine wp_region_RC (fun W => Wd g a b c d W) mixedF ?_
    refine RC.take (i := 0) (v := .slice (some ⟨g, 0, none⟩) L cap) rfl (by kernel_rfl) (by kernel_rfl) (by kernel_rfl) (fun _ _ _ h => h) HC0 (by kernel_rfl) ?y0 ?r0
    case y0 => (intro W hW; go_simp; try with_reducible rfl)
    case r0 =>
      refine RC.take (i := 1) (v := .pointer (some ⟨g, 1, none⟩)) rfl (by kernel_rfl) (by kernel_rfl) (by kernel_rfl) (fun _ _ _ h => h) HC0 (by kernel_rfl) ?y1 ?r1
      case y1 => (intro W hW; go_simp; try with_reducible rfl)
      case r1 =>
        refine RC.take (i := 2) (v := .string b) rfl (by kernel_rfl) (by kernel_rfl) (by kernel_rfl) (fun _ _ _ h => h) HC0 (by kernel_rfl) ?y2 ?r2
        case y2 => (intro W hW; obtain ⟨u0, u1, u2, u3⟩ := hW; go_simp; try with_reducible rfl)
        case r2 =>
          refine RC.take (i := 3) (v := .slice (some ⟨g, 0, none⟩) L cap) rfl (by kernel_rfl) (by kernel_rfl) (by kernel_rfl) (fun _ _ _ h => h) HC0 (by kernel_rfl) ?y3 ?r3
          case y3 => (intro W hW; go_simp; try with_reducible rfl)
          case r3 =>
            refine RC.take (i := 4) (v := .pointer (some ⟨g, 3, none⟩)) rfl (by kernel_rfl) (by kernel_rfl) (by kernel_rfl) (fun _ _ _ h => h) HC0 (by kernel_rfl) ?y4 ?r4
            case y4 => (intro W hW; go_simp; try with_reducible rfl)
            case r4 =>
              refine RC.take (i := 5) (v := .string d) rfl (by kernel_rfl) (by kernel_rfl) (by kernel_rfl) (fun _ _ _ h => h) HC0 (by kernel_rfl) ?y5 ?r5
              case y5 => (intro W hW; obtain ⟨u0, u1, u2, u3⟩ := hW; go_simp; try with_reducible rfl)
              case r5 =>
                refine RC.two (i := 6) (k := 8) (by kernel_rfl) rfl rfl (fun K hK => ?_) (fun K hK => ?_)
                · rw [if_pos (by kernel_rfl)]
                  go_simp
                  refine (HNUM _).mono ?_
                  rintro e w' ⟨rfl, hwq⟩
                  subst hwq
                  simp only
                  refine hK _ _ HC0 ?_
                  clear hK K
                  refine RC.take (i := 7) (v := .agg #[.string b, .int .i64 0, .int .i64 n, .string ⟨#[]⟩]) rfl (by kernel_rfl) (by kernel_rfl) (by kernel_rfl) (fun _ _ _ h => h) HC0 (by kernel_rfl) ?y6 ?r6
                  case y6 => (intro W hW; go_simp; try with_reducible rfl)
                  case r6 =>
                    refine RC.want (i := 8) (by kernel_rfl) rfl (by kernel_rfl) (fun K hK => ?_)
                    go_simp
                    refine hK _ _ HCz ?_
                    clear hK K
                    refine RC.want (i := 9) (by kernel_rfl) rfl (by kernel_rfl) (fun K hK => ?_)
                    go_simp
                    refine hK _ _ HCn ?_
                    clear hK K
                    refine RC.done (by kernel_rfl) ?_
                    exact hfin
                · rw [if_pos (by kernel_rfl)]
                  go_simp
                  refine hK _ _ HCz ?_
                  clear hK K
                  refine RC.want (i := 6) (by kernel_rfl) rfl (by kernel_rfl) (fun K hK => ?_)
                  go_simp
                  refine (HNUM _).mono ?_
                  rintro e w' ⟨rfl, hwq⟩
                  subst hwq
                  simp only
                  refine hK _ _ HCz ?_
                  clear hK K
                  refine RC.take (i := 7) (v := .agg #[.string b, .int .i64 0, .int .i64 n, .string ⟨#[]⟩]) rfl (by kernel_rfl) (by kernel_rfl) (by kernel_rfl) (fun _ _ _ h => h) HCz (by kernel_rfl) ?y7 ?r7
                  case y7 => (intro W hW; go_simp; try with_reducible rfl)
                  case r7 =>
                    refine RC.want (i := 9) (by kernel_rfl) rfl (by kernel_rfl) (fun K hK => ?_)
                    go_simp
                    refine hK _ _ HCn ?_
                    clear hK K
                    refine RC.done (by kernel_rfl) ?_
                    exact hfin
  case h2 =>
    obtain ⟨w3, hw3⟩ : ∃ w3, w3 = (w1.alloc (.cells #[.string b, .int .i64 0, .int .i64 n, .string ⟨#[]⟩] 23)).drew := ⟨_, rfl⟩
    have hb3 : Below w1.heap.size w1 w3 := by rw [hw3]; exact ((Below.refl _ _).alloc (Nat.le_refl _) _).drew
    have hC3 : OB w1.heap.size #[.string b, .int .i64 0, .int .i64 n, .string ⟨#[]⟩] w3 := by rw [hw3]; exact (OB.new w1 _).below (Below.refl (w1.heap.size + 1) _).drew (by omega)
    have hO3 := hO1.below hb3 hz1
    have hW3 := hW1.below hb3 hg
    have hB3 := hB1.trans (hb3.mono (by omega))
    rw [← hw3]
    clear hw3 hb3 HC0 HCz HCn hO1 hW1 hB1 HNUM
    obtain ⟨C, hC⟩ : ∃ C, C = w1.heap.size := ⟨_, rfl⟩
    rw [← hC] at hC3 hz1 hg ⊢
    clear hC
    go_wp2
    go_loopw [6] (fun i wr => ∃ k : Nat, k ≤ 5 ∧ i = .int .i64 k ∧ OB C #[.string b, .int .i64 (whatTo c k), .int .i64 n, .string ⟨#[]⟩] wr ∧ Below C w3 wr) (fun i _ => 5 - (intOf i).toNat)
    case atStart => exact ⟨0, Nat.zero_le _, rfl, hC3, Below.refl _ _⟩
    case round =>
      obtain ⟨k, hk, rfl, hCr, hbr⟩ := hrel
      have hWr := hW3.below hbr hg
      have hOr := hO3.below hbr hz1
      have hBr := hB3.trans (hbr.mono (by omega))
      have hCz := hCr.lt
      clear hC3 hW3 hO3
      by_cases hk5 : k < 5
      · have hkI : (k : Int) < 5 := by omega
        go_wp2_with fail
        refine (specWords _).mono ?_
        rintro e w4 ⟨rfl, hw4⟩
        have hb4 : Below wr.heap.size wr w4 := by rw [hw4]; exact (Below.refl _ _).alloc (Nat.le_refl _) _
        have hC4 := hCr.below hb4 hCz
        have hW4 := hWr.below hb4 (by omega)
        have hbr4 := hbr.trans (hb4.mono (by omega))
        clear hw4 hb4 hCr hWr hbr
        obtain ⟨wk, hwk⟩ : ∃ wk : ByteArray, whatV[k]? = some (.string wk) ∧ (whatL[k]? = some c.data.toList ↔ wk = c) := by
          obtain rfl | rfl | rfl | rfl | rfl : k = 0 ∨ k = 1 ∨ k = 2 ∨ k = 3 ∨ k = 4 := by omega
          all_goals
            refine ⟨_, rfl, ?_⟩
            constructor
            · intro h
              exact (of_list (Option.some.inj h).symm).symm
            · intro h
              rw [← h]; rfl
        have HC0 : Wd g a b c d w4.drew := hW4.below (Below.refl w4.heap.size _).drew (by have := hC4.lt; omega)
        have hkk := hC4.lt
        have hwv := hwk.1
        go_wp2_with fail
        apply id_imp2 (m := w4.heap.size) (u := w4)
        case h1 =>
          intro hfin
          refine wp_region_RC (fun W => Wd g a b c d W) mixedF ?_
          refine RC.take (i := 1) (v := .int .i64 (k : Int)) rfl (by kernel_rfl) (by kernel_rfl) (by kernel_rfl) (fun _ _ _ h => h) HC0 (by kernel_rfl) ?y8 ?r8
          case y8 => (intro W hW; go_simp; try with_reducible rfl)
          case r8 =>
            refine RC.take (i := 4) (v := .slice (some ⟨g, 0, none⟩) L cap) rfl (by kernel_rfl) (by kernel_rfl) (by kernel_rfl) (fun _ _ _ h => h) HC0 (by kernel_rfl) ?y9 ?r9
            case y9 => (intro W hW; go_simp; try with_reducible rfl)
            case r9 =>
              refine RC.take (i := 5) (v := .pointer (some ⟨g, 2, none⟩)) rfl (by kernel_rfl) (by kernel_rfl) (by kernel_rfl) (fun _ _ _ h => h) HC0 (by kernel_rfl) ?y10 ?r10
              case y10 => (intro W hW; go_simp; try with_reducible rfl)
              case r10 =>
                refine RC.take (i := 6) (v := .string c) rfl (by kernel_rfl) (by kernel_rfl) (by kernel_rfl) (fun _ _ _ h => h) HC0 (by kernel_rfl) ?y11 ?r11
                case y11 => (intro W hW; obtain ⟨u0, u1, u2, u3⟩ := hW; go_simp; try with_reducible rfl)
                case r11 =>
                  refine RC.want (i := 0) (by kernel_rfl) rfl (by kernel_rfl) (fun K hK => ?_)
                  go_simp
                  refine (specWords _).mono ?_
                  rintro e w5 ⟨rfl, hw5⟩
                  simp only
                  have hb5 : Below w4.heap.size w4 w5 := by rw [hw5]; exact (Below.refl w4.heap.size w4).drew.alloc (Nat.le_refl _) _
                  have HV5 : BxC w4.drew.heap.size whatV w5 := by rw [hw5]; exact BxC.new _ _ _
                  have HC5 := hW4.below hb5 (by omega)
                  clear hw5
                  refine hK _ _ HC5 ?_
                  clear hK K
                  generalize w4.drew.heap.size = g2 at *
                  refine RC.narrow (fun W => Wd g a b c d W ∧ BxC g2 whatV W) (fun _ h => h.1) ?_
                  have HC6 : Wd g a b c d w5 ∧ BxC g2 whatV w5 := ⟨HC5, HV5⟩
                  refine RC.take (i := 2) (v := .pointer (some ⟨g2, k, none⟩)) rfl (by kernel_rfl) (by kernel_rfl) (by kernel_rfl) (fun _ _ _ h => h) HC6 (by kernel_rfl) ?y12 ?r12
                  case y12 => (intro W hW; go_simp; try with_reducible rfl)
                  case r12 =>
                    refine RC.take (i := 3) (v := .string wk) rfl (by kernel_rfl) (by kernel_rfl) (by kernel_rfl) (fun _ _ _ h => h) HC6 (by kernel_rfl) ?y13 ?r13
                    case y13 => (intro W hW; have u9 := hW.2 k; rw [hwv] at u9; go_simp; try with_reducible rfl)
                    case r13 =>
                      refine RC.take (i := 7) (v := .bool (wk.toList == c.toList)) rfl (by kernel_rfl) (by kernel_rfl) (by kernel_rfl) (fun _ _ _ h => h) HC6 (by kernel_rfl) ?y14 ?r14
                      case y14 => (intro W hW; go_simp; try with_reducible rfl)
                      case r14 =>
                        refine RC.done (by kernel_rfl) ?_
                        exact hfin w5 g2 hb5
        case h2 =>
          intro w5 g2 hb5
          have hC5 := hC4.below hb5 hkk
          have hbr5 := hbr4.trans (hb5.mono (by omega))
          have hC5z := hC5.lt
          have f5 := hC5.free
          have q0 := hC5.cell 0
          have q1 := hC5.cell 1
          have q2 := hC5.cell 2
          have q3 := hC5.cell 3
          simp at q0 q1 q2 q3
          by_cases hh : wk = c
          · have hq : (wk.toList == c.toList) = true := beqL.2 hh
            have hC6 : OB C #[.string b, .int .i64 (whatTo c (k + 1)), .int .i64 n, .string ⟨#[]⟩] (w5.setCell ⟨C, 1, none⟩ (.int .i64 ((k : Int) + 1))) := by
              have e : whatTo c (k + 1) = (k : Int) + 1 := by
                show (if whatL[k]? = some c.data.toList then (k : Int) + 1 else whatTo c k) = _
                rw [if_pos (hwk.2.2 hh)]
              rw [e]
              exact hC5.set 1 (.int .i64 ((k : Int) + 1))
            have hbr6 : Below C w3 (w5.setCell ⟨C, 1, none⟩ (.int .i64 ((k : Int) + 1))) := hbr5.setCell (p := ⟨C, 1, none⟩) (Nat.le_refl _) _
            have HC6 : Hid (OB C #[.string b, .int .i64 (whatTo c (k + 1)), .int .i64 n, .string ⟨#[]⟩] (w5.setCell ⟨C, 1, none⟩ (.int .i64 ((k : Int) + 1)))) := hC6
            clear hh hwk hC5 hC6
            rw [hq]
            clear hq
            go_wp2
            go_roundw
            case rel => exact ⟨k + 1, by omega, by go_num, HC6.out, hbr6⟩
            case measure => simp [intOf]; omega
          · have hq : (wk.toList == c.toList) = false := beqL_no hh
            have HC6 : Hid (OB C #[.string b, .int .i64 (whatTo c (k + 1)), .int .i64 n, .string ⟨#[]⟩] w5) := by
              have e : whatTo c (k + 1) = whatTo c k := by
                show (if whatL[k]? = some c.data.toList then (k : Int) + 1 else whatTo c k) = _
                rw [if_neg (fun h => hh (hwk.2.1 h))]
              show OB C _ w5
              rw [e]
              exact hC5
            clear hh hwk hC5
            rw [hq]
            clear hq
            go_wp2
            go_roundw
            case rel => exact ⟨k + 1, by omega, by go_num, HC6.out, hbr5⟩
            case measure => simp [intOf]; omega
      · have hke : k = 5 := by omega
        subst hke
        have hCr : OB C #[.string b, .int .i64 (whatOf c), .int .i64 n, .string ⟨#[]⟩] wr := hCr
        obtain ⟨wh, hwh⟩ : ∃ x, x = whatOf c := ⟨_, rfl⟩
        obtain ⟨F, hF0⟩ : ∃ x, x = formOf b (whatOf c) n v := ⟨_, rfl⟩
        rw [← hF0, ← hwh] at HFO
        rw [← hwh] at hCr
        have HWH : Hid (wh = whatOf c) := hwh
        have HFF : Hid (F = formOf b (whatOf c) n v) := hF0
        clear hwh hF0
        go_wp2_with fail
        refine (specWords _).mono ?_
        rintro e w4 ⟨rfl, hw4⟩
        have hb4 : Below wr.heap.size wr w4 := by rw [hw4]; exact (Below.refl _ _).alloc (Nat.le_refl _) _
        have hC4 := hCr.below hb4 hCz
        have hW4 := hWr.below hb4 (by omega)
        have hO4 := hOr.below hb4 (by omega)
        have hB4 := hBr.trans (hb4.mono (by have := hBr.size; omega))
        have hC4z := hC4.lt
        have hO4z := hO4.lt
        have hgz : g < w4.heap.size := by omega
        obtain ⟨u0, u1, u2, u3⟩ := hW4
        clear hw4 hb4 hCr hWr hOr hBr hbr
        go_wp2_with fail
        go_quiet (fail)
        obtain ⟨w6, hw6⟩ : ∃ w6, w6 = w4.drewN nq := ⟨_, rfl⟩
        have hb6 : Below w4.heap.size w4 w6 := by rw [hw6]; exact below_drewN (Below.refl _ _) nq
        have hC6 := hC4.below hb6 hC4z
        have hO6 := hO4.below hb6 hO4z
        have hB6 := hB4.trans (hb6.mono (by have := hB4.size; omega))
        have hb7 : Below C w6 (w6.setCell ⟨C, 3, none⟩ (.string v)) := (Below.refl C w6).setCell (p := ⟨C, 3, none⟩) (Nat.le_refl _) _
        have hC7 : OB C #[.string b, .int .i64 wh, .int .i64 n, .string v] (w6.setCell ⟨C, 3, none⟩ (.string v)) := hC6.set 3 (.string v)
        have hO7 := hO6.below hb7 hz1
        have hB7 : Below w.heap.size w (w6.setCell ⟨C, 3, none⟩ (.string v)) := hB6.setCell (p := ⟨C, 3, none⟩) (Nat.le_of_lt hz1) _
        rw [← hw6]
        have hC6z := hC6.lt
        have f6 := hC6.free
        have q0 := hC6.cell 0
        have q1 := hC6.cell 1
        have q2 := hC6.cell 2
        have q3 := hC6.cell 3
        simp at q0 q1 q2 q3
        clear hw6 hb6 hC4 hO4 hB4 hC6 hO6 hB6 hb7 u0 u1 u2 u3 hgz hC4z hO4z
        have HO7 : Hid (OB w.heap.size #[.string ⟨#[]⟩, .int .i64 0, .int .i64 0, .string ⟨#[]⟩] (w6.setCell ⟨C, 3, none⟩ (.string v))) := hO7
        have HC7 : Hid (OB C #[.string b, .int .i64 wh, .int .i64 n, .string v] (w6.setCell ⟨C, 3, none⟩ (.string v))) := hC7
        clear hO7 hC7
        go_wp2_with fail
        refine (HFO _).mono ?_
        rintro e w8 ⟨rfl, hb8⟩
        have hC8 := HC7.out.below hb8 (by simpa using hC6z)
        have hO8 := HO7.out.below hb8 (by simp; omega)
        have hB8 := hB7.trans (hb8.mono hB7.size)
        have hC8z := hC8.lt
        have hO8z := hO8.lt
        have f8 := hC8.free
        have p8 := hO8.free
        have q0 := hC8.cell 0
        have q1 := hC8.cell 1
        have q2 := hC8.cell 2
        have q3 := hC8.cell 3
        have o0 := hO8.cell 0
        have o1 := hO8.cell 1
        have o2 := hO8.cell 2
        have o3 := hO8.cell 3
        simp at q0 q1 q2 q3 o0 o1 o2 o3
        clear hb8 HC7 HO7 hB7 HFO hC8 hO8 f6
        by_cases hF : F = s
        · have HP : Hid (pb (F = s) = true) := pb_yes hF
          have hne : (F.toList == s.toList) = true := beqL.2 hF
          have hne2 : F.toList = s.toList := by rw [hF]
          clear hF
          go_wp2
          exact bodyPost_ret (v := .tuple #[.agg #[.string b, .int .i64 wh, .int .i64 n, .string v], .bool true]) (by simp [results, Tryd.results4, go_sem, o0, o1, o2, o3, p8, hO8z]) rfl ⟨by rw [← HFF.out, ← HWH.out, HP.out]; rfl, by repeat (first | exact hB8 | refine Below.setCell ?_ (by simp) _)⟩
        · have HP : Hid (pb (F = s) = false) := pb_no hF
          have hne : (F.toList == s.toList) = false := beqL_no hF
          have hne2 : ¬ F.toList = s.toList := fun e => by rw [e] at hne; simp at hne
          clear hF
          go_wp2
          exact bodyPost_ret (v := .tuple #[.agg #[.string ⟨#[]⟩, .int .i64 0, .int .i64 0, .string ⟨#[]⟩], .bool false]) (by simp [results, Tryd.results4, go_sem, o0, o1, o2, o3, p8, hO8z]) rfl ⟨by rw [← HFF.out, ← HWH.out, HP.out]; rfl, by repeat (first | exact hB8 | refine Below.setCell ?_ (by simp) _)⟩

end Go.Proofs.YtgibkckmdedhjaaDoor
