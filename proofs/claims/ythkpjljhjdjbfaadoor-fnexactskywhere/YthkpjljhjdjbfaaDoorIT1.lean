/- DERIVED. impl.skyTurns: its walk. -/
import Derived.Test.YthkpjljhjdjbfaaDoorIT0
namespace Go.Proofs.YthkpjljhjdjbfaaDoor
open Go.RowKit
set_option linter.unusedSimpArgs false
set_option linter.unusedVariables false

theorem ownsI_pos {w : World} {base : Nat} {e : TypeId} {size : Nat} {v : Value} {n : Nat} {xs : List Value} (h : w.ownsRow base e size v (n + 1) xs) : ∃ g cap, v = .slice (some ⟨g, 0, none⟩) (n + 1) cap := by
  rcases h.2 with ⟨_, h0⟩ | ⟨g, cap, cur, hv, _⟩
  · omega
  · exact ⟨g, cap, hv⟩

theorem takeI_next (s : ByteArray) (k : Nat) (h : k < s.size) : s.data.toList.take (k + 1) = s.data.toList.take k ++ [s[k]] := by
  rw [List.take_succ_eq_append_getElem (by simpa using h)]; rfl

theorem ownsI_below {w w' : World} {base : Nat} {e : TypeId} {size : Nat} {v : Value} {n : Nat} {xs : List Value} (h : w.ownsRow base e size v n xs) (hb : Below w.heap.size w w') : w'.ownsRow base e size v n xs := by
  refine ⟨h.1, ?_⟩
  rcases h.2 with hn | ⟨g, cap, cur, hv, hg, hh, r⟩
  · exact .inl hn
  · exact .inr ⟨g, cap, cur, hv, hg, by rw [hb.block g (Array.getElem?_eq_some_iff.1 hh).1]; exact hh, r⟩

theorem cell_of_heap {w : World} {b : Nat} {cs : Array Value} {t : TypeId} (h : w.heap[b]? = some (.cells cs t (0, 0))) (i : Nat) : w.cell? ⟨b, i, none⟩ = cs[i]? := by
  unfold World.cell?
  simp only [h]
  rfl
theorem free_of_heap {w : World} {b : Nat} {cs : Array Value} {t : TypeId} (h : w.heap[b]? = some (.cells cs t (0, 0))) (i : Nat) : w.frozen? ⟨b, i, none⟩ = false := by
  simp [World.frozen?, h]

/-- Two cells of a box are written. -/
theorem box_put {w : World} {b b' : Nat} {x y x' y' : Value} {t : TypeId} (h : w.heap[b]? = some (.cells #[x, y] t (0, 0))) (hne : b' ≠ b) :
    ((w.setCell ⟨b, 0, none⟩ x').setCell ⟨b, 1, none⟩ y').heap[b]? = some (.cells #[x', y'] t (0, 0)) ∧ ((w.setCell ⟨b, 0, none⟩ x').setCell ⟨b, 1, none⟩ y').heap[b']? = w.heap[b']? := by
  have h1 := heap_setCell_same w b 0 _ t x' h
  have h2 := heap_setCell_same _ b 1 _ t y' h1
  refine ⟨h2, ?_⟩
  rw [Below.heap_setCell _ ⟨b, 1, none⟩ y' b' hne, Below.heap_setCell w ⟨b, 0, none⟩ x' b' hne]

set_option maxRecDepth 100000 in
set_option maxHeartbeats 2000000 in
theorem turns_any (w : World) (hT : TurnsLaid w) :
    Calls Tryd.prog 88 #[] w fun e w' => ∃ g cap, e = .returned (.slice (some ⟨g, 0, none⟩) 8 cap) ∧ w'.ownsRow w.heap.size 133 2 (.slice (some ⟨g, 0, none⟩) 8 cap) 8 (goesL 8) ∧ Below w.heap.size w w' := by
  obtain ⟨i0, hi, hz0, hz1, hz2⟩ := info_parts Tryd.infoGoes
  have hmk := make_turns
  have hpos := hT.pos
  have hb1 : Below w.heap.size w (w.alloc (.cells #[.int .i64 0, .int .i64 0, .int .i64 0, .int .i64 0, .int .i64 0, .int .i64 0, .int .i64 0, .int .i64 0, .int .i64 0, .int .i64 0, .int .i64 0, .int .i64 0, .int .i64 0, .int .i64 0, .int .i64 0, .int .i64 0] 133)) := (Below.refl _ _).alloc (Nat.le_refl _) _
  have hown0 : (w.alloc (.cells #[.int .i64 0, .int .i64 0, .int .i64 0, .int .i64 0, .int .i64 0, .int .i64 0, .int .i64 0, .int .i64 0, .int .i64 0, .int .i64 0, .int .i64 0, .int .i64 0, .int .i64 0, .int .i64 0, .int .i64 0, .int .i64 0] 133)).ownsRow w.heap.size 133 2 (.slice (some ⟨w.heap.size, 0, none⟩) 0 8) 0 (goesL 0) := World.ownsRow_made w _ 8 (Nat.le_refl _) (by decide) rfl
  have t0 := (hT.later hb1) 0 (by decide)
  have t1 := (hT.later hb1) 1 (by decide)
  have t2 := (hT.later hb1) 2 (by decide)
  have t3 := (hT.later hb1) 3 (by decide)
  have t4 := (hT.later hb1) 4 (by decide)
  have t5 := (hT.later hb1) 5 (by decide)
  have t6 := (hT.later hb1) 6 (by decide)
  have t7 := (hT.later hb1) 7 (by decide)
  simp only [turnCells] at t0 t1 t2 t3 t4 t5 t6 t7
  simp at t0 t1 t2 t3 t4 t5 t6 t7
  go_enter Tryd.func88, Tryd.ntmps88
  go_wp2
  clear t0 t1 t2 t3 t4 t5 t6 t7 hmk
  go_loopw [1, 9] (fun v i wr => ∃ (k g cap : Nat), k ≤ 8 ∧ i = .int .i64 k ∧ v = .slice (some ⟨g, 0, none⟩) k cap ∧ wr.ownsRow w.heap.size 133 2 (.slice (some ⟨g, 0, none⟩) k cap) k (goesL k) ∧ Below w.heap.size w wr) (fun _ i _ => 8 - (intOf i).toNat)
  case atStart => exact ⟨0, w.heap.size, 8, by omega, rfl, rfl, hown0, hb1⟩
  case round =>
    clear hown0 hb1
    obtain ⟨k, g, cap, hk, rfl, rfl, hown, hB⟩ := hrel
    by_cases hlt : k < 8
    · have hix := fun W => index_turn k hlt W
      simp only [turnCells] at hix
      obtain ⟨hs2, hasc⟩ := wordT_fine k hlt
      have hkI : (k : Int) < 8 := by omega
      have HG : Hid (goesL (k + 1) = goesL k ++ [.int .i64 (goXs (wordT k).data.toList), .int .i64 (goYs (wordT k).data.toList)]) := rfl
      generalize wordT k = s at *
      have HASC : Hid (∀ c ∈ s.data.toList, c.toNat < 128) := hasc
      clear hasc
      go_wp2
      obtain ⟨wo, hwo⟩ : ∃ x, x = wr := ⟨wr, rfl⟩
      subst hwo
      go_loopw [6] (fun _ wr => ∃ pos : Nat, pos ≤ s.size ∧ wr.heap[wo.heap.size + 1]? = some (.stringIter s pos) ∧ wr.heap[wo.heap.size]? = some (.cells #[.int .i64 (goXs (s.data.toList.take pos)), .int .i64 (goYs (s.data.toList.take pos))] 133 (0, 0)) ∧ Below wo.heap.size wo wr) (fun _ wr => s.size - wr.iterPos (wo.heap.size + 1))
      case atStart => exact ⟨0, Nat.zero_le _, (by have := World.iter_heap (wo.alloc (.cells #[.int .i64 0, .int .i64 0] 133)) s 0; rwa [show (wo.alloc (.cells #[.int .i64 0, .int .i64 0] 133)).heap.size = wo.heap.size + 1 by simp] at this), (by first | exact (heap_alloc_old _ _ (by simp)).trans (heap_alloc_new wo _) | simp [goXs, goYs]), ((Below.refl _ _).alloc (Nat.le_refl _) _).alloc (by simp) _⟩
      case round =>
        obtain ⟨pos, hp0, hit, hbx, hB2⟩ := hrel
        have hsz2 : wo.heap.size + 1 < wr.heap.size := (Array.getElem?_eq_some_iff.1 hit).1
        have hbdX := goXs_bd (s.data.toList.take pos)
        have hbdY := goYs_bd (s.data.toList.take pos)
        have hlen : (s.data.toList.take pos).length ≤ 2 := Nat.le_trans (List.length_take_le' _ _) (by simpa using hs2)
        by_cases hp : pos < s.size
        · have ha : s[pos].toNat < 128 := HASC.out s[pos] (by
            have : s[pos] = s.data.toList[pos]'(by simpa using hp) := rfl
            rw [this]; exact List.getElem_mem _)
          have hnx := fun ty => Lib.run_next_ascii_at (P := Tryd.prog) wr (wo.heap.size + 1) s pos ty hit hp ha
          have hkeep : Below (wo.heap.size + 1) wr (wr.iterAt (wo.heap.size + 1) s (pos + 1)) := Lib.below_iterAt (Below.refl _ _) (Nat.le_refl _) s (pos + 1)
          have hit3 : (wr.iterAt (wo.heap.size + 1) s (pos + 1)).heap[wo.heap.size + 1]? = some (.stringIter s (pos + 1)) := Lib.iterAt_heap _ _ _ _ _ hit
          have hbx3 := (hkeep.block wo.heap.size (by omega)).trans hbx
          have hB3 : Below wo.heap.size wo (wr.iterAt (wo.heap.size + 1) s (pos + 1)) := hB2.trans (hkeep.mono (by omega))
          have hsz3 : (wr.iterAt (wo.heap.size + 1) s (pos + 1)).heap.size = wr.heap.size := Lib.iterAt_size _ _ _ _
          have HX : Hid (goXs (s.data.toList.take (pos + 1)) = goXs (s.data.toList.take pos) + dxr s[pos].toNat) := by show _ = _; rw [takeI_next s pos hp, goXs_snoc]
          have HY : Hid (goYs (s.data.toList.take (pos + 1)) = goYs (s.data.toList.take pos) + dyr s[pos].toNat) := by show _ = _; rw [takeI_next s pos hp, goYs_snoc]
          have HME : Hid (pos < s.size) := hp
          have HIT : Hid (wr.heap[wo.heap.size + 1]? = some (.stringIter s pos)) := hit
          generalize goXs (s.data.toList.take pos) = gx at *
          generalize goYs (s.data.toList.take pos) = gy at *
          have c0 := cell_of_heap hbx3 0
          have c1 := cell_of_heap hbx3 1
          simp at c0 c1
          clear hkeep hbx hit
          go_wp2_with fail
          refine (towards_any gx gy s[pos].toNat _ (by omega) (by omega)).mono ?_
          rintro e w4 ⟨rfl, hb4⟩
          have hbx4 := (hb4.block wo.heap.size (by omega)).trans hbx3
          have hit4 := (hb4.block (wo.heap.size + 1) (by omega)).trans hit3
          have hB4 := hB3.trans (hb4.mono (by omega))
          have d0 := cell_of_heap hbx4 0
          have d1 := cell_of_heap hbx4 1
          have e0 := free_of_heap hbx4 0
          have e1 := free_of_heap hbx4 1
          simp at d0 d1
          have hput := fun (x' y' : Value) => box_put (x' := x') (y' := y') hbx4 (show wo.heap.size + 1 ≠ wo.heap.size by omega)
          clear hb4 hbx3 hit3 hB3 c0 c1
          go_wp2
          go_roundw
          case rel => exact ⟨pos + 1, by omega, (hput _ _).2.trans hit4, by rw [HX.out, HY.out]; exact (hput _ _).1, (hB4.setCell (p := ⟨wo.heap.size, 0, none⟩) (Nat.le_refl _) _).setCell (p := ⟨wo.heap.size, 1, none⟩) (Nat.le_refl _) _⟩
          case measure =>
            rw [iterPos_of HIT.out, iterPos_of ((hput _ _).2.trans hit4)]
            have := HME.out
            omega
        · have hpe : pos = s.size := by omega
          subst hpe
          have hnx := fun ty => Lib.run_next_end_at (P := Tryd.prog) wr (wo.heap.size + 1) s s.size ty hit hp
          have htk : s.data.toList.take s.size = s.data.toList := List.take_of_length_le (by simp)
          rw [htk] at hbx hbdX hbdY
          have c0 := cell_of_heap hbx 0
          have c1 := cell_of_heap hbx 1
          simp at c0 c1
          have hown2 := ownsI_below hown hB2
          have hBw : Below w.heap.size w wr := hB.trans (hB2.mono hB.size)
          have hszw := hBw.size
          clear htk hlen
          go_wp2_with (at_builtin; refine wpList_append_own _ rfl _ _ 130 rfl w.heap.size 133 i0 (.agg #[.int .i64 0, .int .i64 0]) 2 16 Tryd.underlying130 hi hz0 hz1 hz2 rfl (by decide) _ _ _ rfl (hown2.alloc _) ⟨wr.heap.size, 0, none⟩ 1 1 [.int .i64 (goXs s.data.toList), .int .i64 (goYs s.data.toList)] rfl rfl ?c1 ?c2 ?c3 ?c4 ?c5 ?_)
          case c1 =>
            intro j u hj
            match j, hj with
            | 0, hj => simp at hj; subst hj; simp [Addr.add]
            | 1, hj => simp at hj; subst hj; simp [Addr.add]
          case c2 =>
            intro u hu
            simp at hu
            rcases hu with rfl | rfl <;> rfl
          case c3 => unfold maxLen; omega
          case c4 => omega
          case c5 => simp; omega
          intro v' w5 hown' hgrow _
          obtain ⟨g', cap', rfl⟩ := ownsI_pos hown'
          have hB5 : Below w.heap.size w w5 := (hBw.alloc hszw _).grown hgrow (by simp; omega) (fun j hj => (hown2.lt j hj).1)
          have hO : w5.ownsRow w.heap.size 133 2 (.slice (some ⟨g', 0, none⟩) (k + 1) cap') (k + 1) (goesL (k + 1)) := by rw [HG.out]; exact hown'
          clear hgrow hown' hown hown2 hit hbx hB2 hBw c0 c1
          go_wp2
          go_roundw
          case rel => exact ⟨k + 1, g', cap', by omega, by go_num, rfl, hO, hB5⟩
          case measure => simp [intOf]; omega
    · have hke : k = 8 := by omega
      subst hke
      go_wp2
      go_ret
      exact ⟨g, cap, rfl, hown, hB⟩

end Go.Proofs.YthkpjljhjdjbfaaDoor
