/- DERIVED. (impl.skyTaken).take, takeBlock: their walks. -/
import Derived.Test.YthkpjljhjdjbfaaDoorIM2
namespace Go.Proofs.YthkpjljhjdjbfaaDoor
open Go.RowKit Go.Maps
set_option linter.unusedSimpArgs false
set_option linter.unusedVariables false

theorem take_new (s : Spot) (hs : InS s) (B n : Nat) (S : Spot → Prop) (w : World) (h : Taken w B S n) (hn : n < 1000000) (hS : ¬ S s) :
    Calls Tryd.prog 69 #[.map (some B), spotVal s] w fun e w' => e = .returned (.bool true) ∧ Taken w' B (fun t => S t ∨ t = s) (n + 1) ∧ w.grownBy w' (some B) := by
  obtain ⟨D, h1, h2, h3, h4⟩ := h
  have hno := h4 s hs hS
  refine (take_raw s hs B n D 0 w h1 hn (atKey_of_not_has hno _) (by omega) (by omega)).mono ?_
  rintro e w' ⟨rfl, g1, g2⟩
  refine ⟨rfl, ⟨_, g1, ?_, fun t ht hSt => ?_, fun t ht hSt => ?_⟩, g2⟩
  · rw [size_put (h1.tidy (Keyed.of_law spotLaw)), hno, h2]; rfl
  · by_cases e : t = s
    · subst e
      exact ⟨atKey_put_same h1.isMap (spotIsKey _ hs) _ _, has_put_same h1.isMap (spotIsKey _ hs) _⟩
    · have hne : spotLit t ≠ spotLit s := fun h => e (spotInj ht hs h)
      rw [atKey_put_other hne, has_put_other hne]
      exact h3 t ht (hSt.resolve_right e)
  · have e : t ≠ s := fun h => hSt (.inr h)
    have hne : spotLit t ≠ spotLit s := fun h => e (spotInj ht hs h)
    rw [has_put_other hne]
    exact h4 t ht (fun h => hSt (.inl h))

theorem take_old (s : Spot) (hs : InS s) (B n : Nat) (S : Spot → Prop) (w : World) (h : Taken w B S n) (hn : n < 1000000) (hS : S s) :
    Calls Tryd.prog 69 #[.map (some B), spotVal s] w fun e w' => e = .returned (.bool false) ∧ w.grownBy w' (some B) := by
  obtain ⟨D, h1, h2, h3, h4⟩ := h
  refine (take_raw s hs B n D 1 w h1 hn (h3 s hs hS).1 (by omega) (by omega)).mono ?_
  rintro e w' ⟨rfl, g1, g2⟩
  exact ⟨rfl, g2⟩

/-- Numbers that are small. -/
def Small (b : DSkyBlock) : Prop := (0 ≤ b.1 ∧ b.1 ≤ b.2.2.1 ∧ b.2.2.1 ≤ 16) ∧ (0 ≤ b.2.1 ∧ b.2.1 ≤ b.2.2.2.1 ∧ b.2.2.2.1 ≤ 16) ∧ (0 ≤ b.2.2.2.2.1 ∧ b.2.2.2.2.1 ≤ b.2.2.2.2.2 ∧ b.2.2.2.2.2 ≤ 16)

def FreeB (S : Spot → Prop) (b : DSkyBlock) : Prop := ∀ s, InB s b → ¬ S s
def HitB (S : Spot → Prop) (b : DSkyBlock) : Prop := ∃ s, InB s b ∧ S s

set_option maxRecDepth 100000 in
set_option maxHeartbeats 2000000 in
theorem takeBlock_any (b : DSkyBlock) (B n : Nat) (S : Spot → Prop) (w : World) (h : Taken w B S n) (hn : n ≤ 900000) (hb : Small b) :
    Calls Tryd.prog 87 #[.map (some B), .agg #[.int .i64 b.1, .int .i64 b.2.1, .int .i64 b.2.2.1, .int .i64 b.2.2.2.1, .int .i64 b.2.2.2.2.1, .int .i64 b.2.2.2.2.2]] w fun e w' =>
      ((e = .returned (.bool true) ∧ FreeB S b ∧ ∃ m : Nat, Taken w' B (fun s => S s ∨ InB s b) m ∧ (m : Int) = n + vol b) ∨ (e = .returned (.bool false) ∧ HitB S b)) ∧ w.grownBy w' (some B) := by
  have hBlt := h.lt
  obtain ⟨X0, Y0, X1, Y1, lo, hi⟩ := b
  obtain ⟨⟨a1, a2, a3⟩, ⟨a4, a5, a6⟩, ⟨a7, a8, a9⟩⟩ := hb
  simp only at a1 a2 a3 a4 a5 a6 a7 a8 a9
  have HV : Hid (vol (X0, Y0, X1, Y1, lo, hi) = cntI (X1 - X0 + 1) (Y1 - Y0 + 1) (hi - lo + 1) 0 0) := (cnt_end _ _ _).symm
  have hrel0 : Taken (w.alloc (.cells #[.int .i64 X0, .int .i64 Y0, .int .i64 X1, .int .i64 Y1, .int .i64 lo, .int .i64 hi] 77)) B (fun s => S s ∨ Gone (X0, Y0, X1, Y1, lo, hi) X0 Y0 lo s) n :=
    (h.alloc _).same (fun s => ⟨.inl, fun h => h.resolve_right (gone_start (X0, Y0, X1, Y1, lo, hi) s)⟩)
  have HR0 : Hid (∀ s, Gone (X0, Y0, X1, Y1, lo, hi) X0 Y0 lo s → ¬ S s) := fun s h => absurd h (gone_start (X0, Y0, X1, Y1, lo, hi) s)
  have HGO : Hid (∀ W : World, (w.alloc (.cells #[.int .i64 X0, .int .i64 Y0, .int .i64 X1, .int .i64 Y1, .int .i64 lo, .int .i64 hi] 77)).grownBy W (some B) → w.grownBy W (some B)) := fun W hW => (World.grownBy_alloc w _ _).trans hW
  have hbox : ∀ W : World, (w.alloc (.cells #[.int .i64 X0, .int .i64 Y0, .int .i64 X1, .int .i64 Y1, .int .i64 lo, .int .i64 hi] 77)).grownBy W (some B) → ∀ i, W.cell? ⟨w.heap.size, i, none⟩ = (#[Value.int .i64 X0, .int .i64 Y0, .int .i64 X1, .int .i64 Y1, .int .i64 lo, .int .i64 hi] : Array Value)[i]? := by
    intro W hg i
    have hb : W.heap[w.heap.size]? = some (.cells #[.int .i64 X0, .int .i64 Y0, .int .i64 X1, .int .i64 Y1, .int .i64 lo, .int .i64 hi] 77 (0, 0)) := (hg.block w.heap.size (by simp) (by simp; omega)).trans (heap_alloc_new w _)
    unfold World.cell?
    simp only [hb]
    rfl
  have HBX : Hid (∀ W : World, (w.alloc (.cells #[.int .i64 X0, .int .i64 Y0, .int .i64 X1, .int .i64 Y1, .int .i64 lo, .int .i64 hi] 77)).grownBy W (some B) → ∀ i, W.cell? ⟨w.heap.size, i, none⟩ = (#[Value.int .i64 X0, .int .i64 Y0, .int .i64 X1, .int .i64 Y1, .int .i64 lo, .int .i64 hi] : Array Value)[i]?) := hbox
  clear hbox
  have hwlt : w.heap.size < (w.alloc (.cells #[.int .i64 X0, .int .i64 Y0, .int .i64 X1, .int .i64 Y1, .int .i64 lo, .int .i64 hi] 77)).heap.size := by simp
  have hrefl : (w.alloc (.cells #[.int .i64 X0, .int .i64 Y0, .int .i64 X1, .int .i64 Y1, .int .i64 lo, .int .i64 hi] 77)).grownBy (w.alloc (.cells #[.int .i64 X0, .int .i64 Y0, .int .i64 X1, .int .i64 Y1, .int .i64 lo, .int .i64 hi] 77)) (some B) := ⟨rfl, rfl, rfl, Nat.le_refl _, fun _ _ _ => rfl⟩
  generalize hW0 : w.alloc (.cells #[.int .i64 X0, .int .i64 Y0, .int .i64 X1, .int .i64 Y1, .int .i64 lo, .int .i64 hi] 77) = W0 at hrel0 HGO HBX hwlt hrefl
  have p0 := HBX.out W0 hrefl 0
  simp at p0
  go_enter Tryd.func87, Tryd.ntmps87
  go_wp2
  have HW0 : Hid (w.alloc (.cells #[.int .i64 X0, .int .i64 Y0, .int .i64 X1, .int .i64 Y1, .int .i64 lo, .int .i64 hi] 77) = W0) := hW0
  clear hW0
  go_loopw [5] (fun vx wr => ∃ (x : Int) (m : Nat), X0 ≤ x ∧ x ≤ X1 + 1 ∧ vx = .int .i64 x ∧ Taken wr B (fun s => S s ∨ Gone (X0, Y0, X1, Y1, lo, hi) x Y0 lo s) m ∧ Hid ((m : Int) = n + cntI (x - X0) (Y1 - Y0 + 1) (hi - lo + 1) 0 0) ∧ Hid (∀ s, Gone (X0, Y0, X1, Y1, lo, hi) x Y0 lo s → ¬ S s) ∧ W0.grownBy wr (some B)) (fun vx _ => (X1 + 1 - intOf vx).toNat)
  case atStart => exact ⟨X0, n, by omega, by omega, rfl, hrel0, by show _ = _; simp [cnt_0], HR0, hrefl⟩
  case round =>
    obtain ⟨x, m, hx1, hx2, rfl, htk, hm, hfr, hg⟩ := hrel
    have q2 := HBX.out wr hg 2
    have q1 := HBX.out wr hg 1
    simp at q1 q2
    by_cases hlt : x ≤ X1
    · have HFR : Hid (∀ s, Gone (X0, Y0, X1, Y1, lo, hi) x Y0 lo s → ¬ S s) := hfr
      have HM0 : Hid ((m : Int) = n + cntI (x - X0) (Y1 - Y0 + 1) (hi - lo + 1) 0 0) := hm
      clear hfr hm
      go_wp2
      go_loopw [6] (fun vy wr => ∃ (y : Int) (m : Nat), Y0 ≤ y ∧ y ≤ Y1 + 1 ∧ vy = .int .i64 y ∧ Taken wr B (fun s => S s ∨ Gone (X0, Y0, X1, Y1, lo, hi) x y lo s) m ∧ Hid ((m : Int) = n + cntI (x - X0) (Y1 - Y0 + 1) (hi - lo + 1) (y - Y0) 0) ∧ Hid (∀ s, Gone (X0, Y0, X1, Y1, lo, hi) x y lo s → ¬ S s) ∧ W0.grownBy wr (some B)) (fun vy _ => (Y1 + 1 - intOf vy).toNat)
      case atStart => exact ⟨Y0, m, by omega, by omega, rfl, htk, by show _ = _; rw [HM0.out, Int.sub_self], HFR, hg⟩
      case round =>
        obtain ⟨y, m2, hy1, hy2, rfl, htk2, hm2, hfr2, hg2⟩ := hrel
        have q3 := HBX.out _ hg2 3
        have q4 := HBX.out _ hg2 4
        simp at q3 q4
        by_cases hly : y ≤ Y1
        · have HFR2 : Hid (∀ s, Gone (X0, Y0, X1, Y1, lo, hi) x y lo s → ¬ S s) := hfr2
          have HM2 : Hid ((m2 : Int) = n + cntI (x - X0) (Y1 - Y0 + 1) (hi - lo + 1) (y - Y0) 0) := hm2
          clear hfr2 hm2
          go_wp2
          go_loopw [7] (fun vl wr => ∃ (l : Int) (m : Nat), lo ≤ l ∧ l ≤ hi + 1 ∧ vl = .int .i64 l ∧ Taken wr B (fun s => S s ∨ Gone (X0, Y0, X1, Y1, lo, hi) x y l s) m ∧ Hid ((m : Int) = n + cntI (x - X0) (Y1 - Y0 + 1) (hi - lo + 1) (y - Y0) (l - lo)) ∧ Hid (∀ s, Gone (X0, Y0, X1, Y1, lo, hi) x y l s → ¬ S s) ∧ W0.grownBy wr (some B)) (fun vl _ => (hi + 1 - intOf vl).toNat)
          case atStart => exact ⟨lo, m2, by omega, by omega, rfl, htk2, by show _ = _; rw [HM2.out, Int.sub_self], HFR2, hg2⟩
          case round =>
            obtain ⟨l, m3, hl1, hl2, rfl, htk3, hm3, hfr3, hg3⟩ := hrel
            have q5 := HBX.out _ hg3 5
            simp at q5
            by_cases hll : l ≤ hi
            · have hbd := cnt_bd (a := x - X0) (A := Y1 - Y0 + 1) (C := hi - lo + 1) (b := y - Y0) (d := l - lo) (by omega) (by omega) (by omega) (by omega) (by omega)
              have hm3' := hm3.out
              have hm3b : m3 < 1000000 := by omega
              have hin : InS (x, y, l) := ⟨⟨by simp only; omega, by simp only; omega⟩, ⟨by simp only; omega, by simp only; omega⟩, ⟨by simp only; omega, by simp only; omega⟩⟩
              have HIN : Hid (InB (x, y, l) (X0, Y0, X1, Y1, lo, hi)) := ⟨⟨hx1, hlt⟩, ⟨hy1, hly⟩, ⟨hl1, hll⟩⟩
              by_cases hS : S (x, y, l)
              · have HS : Hid (S (x, y, l)) := hS
                clear hm3' hbd hS
                go_wp2_with fail
                refine (take_old (x, y, l) hin B m3 _ _ htk3 hm3b (.inl HS.out)).mono ?_
                rintro e w1 ⟨rfl, hg4⟩
                go_wp2
                go_ret
                exact ⟨.inr ⟨rfl, ⟨_, HIN.out, HS.out⟩⟩, HGO.out _ (hg3.trans hg4)⟩
              · have HNS : Hid (¬ S (x, y, l)) := hS
                have HM4 : Hid (((m3 + 1 : Nat) : Int) = n + cntI (x - X0) (Y1 - Y0 + 1) (hi - lo + 1) (y - Y0) (l + 1 - lo)) := by
                  show _ = _
                  rw [show l + 1 - lo = (l - lo) + 1 by omega, cnt_d]
                  omega
                have HFR4 : Hid (∀ s, Gone (X0, Y0, X1, Y1, lo, hi) x y (l + 1) s → ¬ S s) := fun s hs => by
                  rcases (gone_step (X0, Y0, X1, Y1, lo, hi) x y l hl1 s).1 hs with h | rfl
                  · exact hfr3.out s h
                  · exact HNS.out
                have hnot : ¬ (S (x, y, l) ∨ Gone (X0, Y0, X1, Y1, lo, hi) x y l (x, y, l)) := fun h => h.elim HNS.out (gone_not _ _ _ _)
                clear hm3' hbd hS hfr3 hm3
                go_wp2_with fail
                refine (take_new (x, y, l) hin B m3 _ _ htk3 hm3b hnot).mono ?_
                rintro e w1 ⟨rfl, htk4, hg4⟩
                have HT4 : Hid (Taken w1 B (fun s => S s ∨ Gone (X0, Y0, X1, Y1, lo, hi) x y (l + 1) s) (m3 + 1)) := htk4.same (fun s => by
                  rw [gone_step (X0, Y0, X1, Y1, lo, hi) x y l hl1 s, or_assoc])
                have hg5 := hg3.trans hg4
                clear htk4 htk3 hnot
                go_wp2
                go_roundw
                case rel => exact ⟨l + 1, m3 + 1, by omega, by omega, by go_num, HT4.out, HM4, HFR4, hg5⟩
                case measure => simp [intOf]; omega
            · have hle : l = hi + 1 := by omega
              subst hle
              have HT : Hid (Taken _ B (fun s => S s ∨ Gone (X0, Y0, X1, Y1, lo, hi) x (y + 1) lo s) m3) := htk3.same (fun s => by rw [gone_y (X0, Y0, X1, Y1, lo, hi) x y hy1 s])
              have HF : Hid (∀ s, Gone (X0, Y0, X1, Y1, lo, hi) x (y + 1) lo s → ¬ S s) := fun s hs => hfr3.out s ((gone_y (X0, Y0, X1, Y1, lo, hi) x y hy1 s).2 hs)
              have HM : Hid ((m3 : Int) = n + cntI (x - X0) (Y1 - Y0 + 1) (hi - lo + 1) (y + 1 - Y0) 0) := by
                show _ = _
                rw [hm3.out, show hi + 1 - lo = hi - lo + 1 by omega, cnt_b, show y + 1 - Y0 = y - Y0 + 1 by omega]
              clear htk3 hm3 hfr3
              go_wp2
              go_roundw
              case rel => exact ⟨y + 1, m3, by omega, by omega, by go_num, HT.out, HM, HF, hg3⟩
              case measure => simp [intOf]; omega
        · have hye : y = Y1 + 1 := by omega
          subst hye
          have HT : Hid (Taken _ B (fun s => S s ∨ Gone (X0, Y0, X1, Y1, lo, hi) (x + 1) Y0 lo s) m2) := htk2.same (fun s => by rw [gone_x (X0, Y0, X1, Y1, lo, hi) x hx1 s])
          have HF : Hid (∀ s, Gone (X0, Y0, X1, Y1, lo, hi) (x + 1) Y0 lo s → ¬ S s) := fun s hs => hfr2.out s ((gone_x (X0, Y0, X1, Y1, lo, hi) x hx1 s).2 hs)
          have HM : Hid ((m2 : Int) = n + cntI (x + 1 - X0) (Y1 - Y0 + 1) (hi - lo + 1) 0 0) := by
            show _ = _
            rw [hm2.out, show Y1 + 1 - Y0 = Y1 - Y0 + 1 by omega, cnt_a, show x + 1 - X0 = x - X0 + 1 by omega]
          clear htk2 hm2 hfr2
          go_wp2
          go_roundw
          case rel => exact ⟨x + 1, m2, by omega, by omega, by go_num, HT.out, HM, HF, hg2⟩
          case measure => simp [intOf]; omega
    · have hxe : x = X1 + 1 := by omega
      subst hxe
      have HT : Hid (Taken wr B (fun s => S s ∨ InB s (X0, Y0, X1, Y1, lo, hi)) m) := htk.same (fun s => by rw [gone_end (X0, Y0, X1, Y1, lo, hi) s])
      have HF : Hid (FreeB S (X0, Y0, X1, Y1, lo, hi)) := fun s hs => hfr.out s ((gone_end (X0, Y0, X1, Y1, lo, hi) s).2 hs)
      have HM : Hid ((m : Int) = n + vol (X0, Y0, X1, Y1, lo, hi)) := by
        show _ = _
        rw [hm.out, HV.out, show X1 + 1 - X0 = X1 - X0 + 1 by omega]
      clear htk hm hfr
      go_wp2
      go_ret
      exact ⟨.inl ⟨rfl, HF.out, m, HT.out, HM.out⟩, HGO.out _ hg⟩

end Go.Proofs.YthkpjljhjdjbfaaDoor
