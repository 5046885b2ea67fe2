/- DERIVED. (impl.FlyPath).bounds: its walk. -/
import Derived.Test.YtpjacfnjjkoikaaKFlI0
import Derived.Test.YtpjacfnjjkoikaaKOr0
namespace Go.Proofs.Ytpjacfnjjkoikaa
namespace Fly
open Go.RowKit
set_option linter.unusedSimpArgs false
set_option linter.unusedVariables false

theorem infoBd : (Try.prog.info? 105).map (fun i => (i.zero, i.size, i.bytes)) = some (some .nilIface, 1, 16) := by kernel_rfl

/-- What bounds the k-th tick, as a value. -/
def bdS (s : DFlyStep) : Value := .iface 76 (vSt s)
def bdE (x : DFlyPath) (ao : Option Addr) (cap : Nat) : Value := .iface 116 (.agg (cPa x ao cap))
def bds (x : DFlyPath) (ao : Option Addr) (cap : Nat) : List Value := x.2.1.map bdS ++ [bdE x ao cap]
theorem bds_len (x : DFlyPath) (ao : Option Addr) (cap : Nat) : (bds x ao cap).length = x.2.1.length + 1 := by simp [bds]
theorem bds_in (x : DFlyPath) (ao : Option Addr) (cap : Nat) (k : Nat) (h : k < x.2.1.length) : (bds x ao cap)[k]? = some (bdS (x.2.1[k])) := by
  unfold bds
  rw [List.getElem?_append_left (by simpa using h), List.getElem?_map, List.getElem?_eq_getElem h]
  rfl
theorem bds_end (x : DFlyPath) (ao : Option Addr) (cap : Nat) : (bds x ao cap)[x.2.1.length]? = some (bdE x ao cap) := by
  unfold bds
  rw [List.getElem?_append_right (by simp)]
  simp
theorem map_take_snoc {α : Type} (f : α → Value) (l : List α) (k : Nat) (h : k < l.length) : (l.map f).take (k + 1) = (l.map f).take k ++ [f l[k]] := by
  rw [List.take_add_one, List.getElem?_map, List.getElem?_eq_getElem h]
  rfl
theorem ownsRow_base {W : World} {b b' : Nat} {e : TypeId} {size k : Nat} {v : Value} {xs : List Value} (h : W.ownsRow b e size v k xs) (hb : b' ≤ b) : W.ownsRow b' e size v k xs := by
  refine ⟨h.1, ?_⟩
  rcases h.2 with h1 | ⟨g, cap, cur, h1, h2, h3⟩
  · exact .inl h1
  · exact .inr ⟨g, cap, cur, h1, Nat.le_trans hb h2, h3⟩

set_option maxRecDepth 100000 in
set_option maxHeartbeats 4000000 in
theorem iBounds (x : DFlyPath) (ao : Option Addr) (cap : Nat) (w : World) (h : PathAt w x ao cap) (hn : x.2.1.length ≤ 40) :
    Calls Try.prog 81 #[.agg #[.int .i64 x.1.1, .int .i64 x.1.2, .slice ao x.2.1.length cap, .int .i64 x.2.2.1, .int .i64 x.2.2.2]] w fun e w' => ∃ g c, e = .returned (.slice (some ⟨g, 0, none⟩) (x.2.1.length + 1) c) ∧
      w'.ownsRow w.heap.size 105 1 (.slice (some ⟨g, 0, none⟩) (x.2.1.length + 1) c) (x.2.1.length + 1) (bds x ao cap) ∧ Below w.heap.size w w' := by
  obtain ⟨i0, hi, hz0, hz1, hz2⟩ := info_parts infoBd
  have hB0 : Below (w.heap.size + 1) (w.alloc (.cells #[.int .i64 x.1.1, .int .i64 x.1.2, .slice ao x.2.1.length cap, .int .i64 x.2.2.1, .int .i64 x.2.2.2] 34)) (w.alloc (.cells #[.int .i64 x.1.1, .int .i64 x.1.2, .slice ao x.2.1.length cap, .int .i64 x.2.2.1, .int .i64 x.2.2.2] 34)) := Below.refl _ _
  go_enter Try.func81, Try.ntmps81
  go_wp2
  go_loopw [3, 9] (fun v i wr => ∃ (k : Nat) (bo : Option Addr) (bc : Nat), k ≤ x.2.1.length ∧ i = .int .i64 k ∧ v = .slice bo k bc ∧ wr.ownsRow (w.heap.size + 1) 105 1 (.slice bo k bc) k ((x.2.1.map bdS).take k) ∧ Below (w.heap.size + 1) (w.alloc (.cells #[.int .i64 x.1.1, .int .i64 x.1.2, .slice ao x.2.1.length cap, .int .i64 x.2.2.1, .int .i64 x.2.2.2] 34)) wr) (fun _ i _ => x.2.1.length - (intOf i).toNat)
  case atStart => exact ⟨0, none, 0, Nat.zero_le _, rfl, rfl, World.ownsRow_nil _ _ _ _, hB0⟩
  clear hB0
  case round =>
    obtain ⟨k, bo, bc, hk, rfl, rfl, hO, hbel⟩ := hrel
    have hsz := hbel.size
    simp at hsz
    by_cases hlt : k < x.2.1.length
    · obtain ⟨g, off, rfl, hok, c0, c1, c2, c3, c4, c5, c6, _⟩ := elem_FlyStep h hlt
      have hU := box_under hbel
      have f0 := (hU.cell (p := ⟨g, off + k * 7, none⟩) hok).trans c0
      have f1 := (hU.cell (p := ⟨g, off + k * 7 + 1, none⟩) hok).trans c1
      have f2 := (hU.cell (p := ⟨g, off + k * 7 + 2, none⟩) hok).trans c2
      have f3 := (hU.cell (p := ⟨g, off + k * 7 + 3, none⟩) hok).trans c3
      have f4 := (hU.cell (p := ⟨g, off + k * 7 + 4, none⟩) hok).trans c4
      have f5 := (hU.cell (p := ⟨g, off + k * 7 + 5, none⟩) hok).trans c5
      have f6 := (hU.cell (p := ⟨g, off + k * 7 + 6, none⟩) hok).trans c6
      clear c0 c1 c2 c3 c4 c5 c6 hU
      have HSN : Hid ((x.2.1.map bdS).take (k + 1) = (x.2.1.map bdS).take k ++ [bdS (x.2.1[k]'hlt)]) := map_take_snoc bdS _ k hlt
      have hkI : (k : Int) < (x.2.1.length : Int) := by omega
      generalize x.2.1[k]'hlt = s at *
      obtain ⟨px, py, lo, hi', fr, up, hd⟩ := s
      simp only at f0 f1 f2 f3 f4 f5 f6
      go_wp2_with (at_builtin; refine wpList_append_own_at _ rfl _ _ 102 rfl (w.heap.size + 1) 105 i0 .nilIface 1 16 Try.underlying102 hi hz0 hz1 hz2 rfl (by decide) _ _ _ rfl ((hO.alloc _).alloc _) ⟨wr.heap.size + 1, 0, none⟩ 1 1 [bdS (px, py, lo, hi', fr, up, hd)] rfl rfl ?c1 ?c2 ?c3 ?c4 ?c5 ?_)
      case c1 =>
        intro j u hj
        match j, hj with
        | 0, hj => simp at hj; subst hj; simp [Addr.add, bdS, vSt, cSt]
      case c2 =>
        first | rfl | (intro u hu; simp at hu; subst hu; rfl)
      case c3 => unfold maxLen; omega
      case c4 => omega
      case c5 => first | omega | (simp; omega)
      intro v' w1 hown' hgrow _ hpos
      obtain ⟨g2, cap', rfl⟩ := owns_pos hown'
      have hb1 : Below (w.heap.size + 1) (w.alloc (.cells #[.int .i64 x.1.1, .int .i64 x.1.2, .slice (some ⟨g, off, none⟩) x.2.1.length cap, .int .i64 x.2.2.1, .int .i64 x.2.2.2] 34)) w1 := ((hbel.alloc (by omega) _).alloc (by simp; omega) _).grown hgrow (by simp; omega) (fun j hj => own_ge hO j hj)
      have HO2 : Hid (w1.ownsRow (w.heap.size + 1) 105 1 (.slice (some ⟨g2, 0, none⟩) (k + 1) cap') (k + 1) ((x.2.1.map bdS).take (k + 1))) := by
        show World.ownsRow _ _ _ _ _ _ _
        rw [HSN.out]
        exact hown'
      clear hO hown' hgrow hbel HSN f0 f1 f2 f3 f4 f5 f6
      go_wp2
      go_roundw
      case rel => exact ⟨k + 1, _, _, by omega, by go_num, rfl, HO2.out, hb1⟩
      case measure => simp [intOf]; omega
    · have hke : k = x.2.1.length := by omega
      subst hke
      have hkI : ¬ (x.2.1.length : Int) < (x.2.1.length : Int) := by omega
      have z0 := box_at hbel 0
      have z1 := box_at hbel 1
      have z2 := box_at hbel 2
      have z3 := box_at hbel 3
      have z4 := box_at hbel 4
      simp at z0 z1 z2 z3 z4
      rw [List.take_of_length_le (by simp)] at hO
      go_wp2_with (at_builtin; refine wpList_append_own_at _ rfl _ _ 102 rfl (w.heap.size + 1) 105 i0 .nilIface 1 16 Try.underlying102 hi hz0 hz1 hz2 rfl (by decide) _ _ _ rfl (hO.alloc _) ⟨wr.heap.size, 0, none⟩ 1 1 [bdE x ao cap] rfl rfl ?c1 ?c2 ?c3 ?c4 ?c5 ?_)
      case c1 =>
        intro j u hj
        match j, hj with
        | 0, hj => simp at hj; subst hj; simp [Addr.add, bdE, cPa]
      case c2 =>
        first | rfl | (intro u hu; simp at hu; subst hu; rfl)
      case c3 => unfold maxLen; omega
      case c4 => omega
      case c5 => first | omega | (simp; omega)
      intro v' w1 hown' hgrow _ hpos
      obtain ⟨g2, cap', rfl⟩ := owns_pos hown'
      have hb1 : Below w.heap.size w w1 := box_under ((hbel.alloc (by omega) _).grown hgrow (by simp; omega) (fun j hj => own_ge hO j hj))
      have HO2 : Hid (w1.ownsRow w.heap.size 105 1 (.slice (some ⟨g2, 0, none⟩) (x.2.1.length + 1) cap') (x.2.1.length + 1) (bds x ao cap)) := ownsRow_base hown' (by omega)
      clear hO hown' hgrow hbel
      go_wp2
      go_ret
      exact ⟨_, _, rfl, HO2.out, hb1⟩

end Fly
end Go.Proofs.Ytpjacfnjjkoikaa
