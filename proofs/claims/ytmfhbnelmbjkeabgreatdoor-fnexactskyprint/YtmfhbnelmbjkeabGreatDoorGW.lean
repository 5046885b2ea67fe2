import Derived.Test.YtmfhbnelmbjkeabGreatDoorVw1
import Derived.Test.YtmfhbnelmbjkeabGreatDoorRows
import Derived.Lib.Builder
import Derived.Lib.AppendStr
import Derived.Lib.UnsafeStr
import Derived.Lib.OthersKept
import Derived.RegionTactic
import Derived.BigRegion
import Derived.Test.YtmfhbnelmbjkeabGreatDoorShelf
import Derived.OwnWalk
import Derived.Deep.RegionWith

/- DERIVED. A strings.Builder that is a writer's first field: copyCheck, WriteString, String: their walks. -/
namespace Go.Proofs.YtmfhbnelmbjkeabGreatDoor
open Go.RowKit
set_option linter.unusedSimpArgs false
set_option linter.unusedVariables false

/-- The writer in block b has written l. -/
def WrAt (w : World) (b : Nat) (l : List UInt8) : Prop :=
  ∃ p v, w.heap[b]? = some (.cells #[p, v] 69 (0, 0)) ∧ (p = .pointer none ∨ p = .pointer (some ⟨b, 0, none⟩)) ∧ w.ownsRow (b + 1) 5 1 v l.length (Lib.byteCells l)

/-- Nothing below b has turned; of what lies behind it only rows of bytes and of texts may have. -/
structure Kp (b : Nat) (w w' : World) : Prop where
  below : Below b w w'
  rest : ∀ k o, w.heap[k]? = some o → k ≠ b → (∀ c fz, o ≠ .cells c 5 fz) → (∀ c fz, o ≠ .cells c 9 fz) → w'.heap[k]? = some o
  size : w.heap.size ≤ w'.heap.size

theorem Kp.refl (b : Nat) (w : World) : Kp b w w := ⟨Below.refl _ _, fun _ _ h _ _ _ => h, Nat.le_refl _⟩
theorem Kp.trans {b : Nat} {w1 w2 w3 : World} (h : Kp b w1 w2) (k : Kp b w2 w3) : Kp b w1 w3 :=
  ⟨h.below.trans k.below, fun i o h1 h2 h3 h4 => k.rest i o (h.rest i o h1 h2 h3 h4) h2 h3 h4, Nat.le_trans h.size k.size⟩
theorem Kp.of_below {b : Nat} {w w' : World} (h : Below w.heap.size w w') (hb : b ≤ w.heap.size) : Kp b w w' :=
  ⟨h.mono hb, fun k o h1 _ _ _ => (h.block k (Array.getElem?_eq_some_iff.1 h1).1).trans h1, h.size⟩

theorem WrAt.lt {w : World} {b : Nat} {l : List UInt8} (h : WrAt w b l) : b < w.heap.size := by
  obtain ⟨p, v, h1, _⟩ := h
  exact (Array.getElem?_eq_some_iff.1 h1).1

theorem WrAt.later {w w' : World} {b : Nat} {l : List UInt8} (h : WrAt w b l) (hb : Below w.heap.size w w') : WrAt w' b l := by
  have hlt := h.lt
  obtain ⟨p, v, h1, h2, h3⟩ := h
  refine ⟨p, v, (hb.block b hlt).trans h1, h2, h3.1, ?_⟩
  rcases h3.2 with hn | ⟨g, cap, cur, hv, hg, hh, r⟩
  · exact .inl hn
  · exact .inr ⟨g, cap, cur, hv, hg, by rw [hb.block g (Array.getElem?_eq_some_iff.1 hh).1]; exact hh, r⟩

theorem WrAt.made (w : World) : WrAt (w.alloc (.cells #[.pointer none, .slice none 0 0] 69)) w.heap.size [] :=
  ⟨_, _, heap_alloc_new w _, .inl rfl, World.ownsRow_nil _ _ _ _⟩

theorem Tryz.infoBuilder : (Tryz.prog.info? 67).map (·.size) = some 2 := by kernel_rfl
theorem Tryz.infoByte : (Tryz.prog.info? 5).map (fun i => (i.zero, i.size, i.bytes)) = some (some (.int .u8 0), 1, 1) := by kernel_rfl
theorem liesBuilderW : liesAt Tryz.prog Tryz.prog.depth 69 (2 / Tryz.prog.cellsOf 69) 0 67 1 = true := by kernel_rfl

theorem cell_of_heapW {w : World} {b : Nat} {cs : Array Value} {t : TypeId} (h : w.heap[b]? = some (.cells cs t (0, 0))) (i : Nat) : w.cell? ⟨b, i, none⟩ = cs[i]? := by
  unfold World.cell?
  simp only [h]
  rfl
theorem free_of_heapW {w : World} {b : Nat} {cs : Array Value} {t : TypeId} (h : w.heap[b]? = some (.cells cs t (0, 0))) (i : Nat) : w.frozen? ⟨b, i, none⟩ = false := by
  simp [World.frozen?, h]

set_option maxHeartbeats 1000000 in
set_option maxRecDepth 100000 in
theorem copyCheck_used (b : Nat) (v : Value) (w : World) (h : w.heap[b]? = some (.cells #[.pointer (some ⟨b, 0, none⟩), v] 69 (0, 0))) :
    Calls Tryz.prog 82 #[.pointer (some ⟨b, 0, none⟩)] w fun e w' => e = .returned (.tuple #[]) ∧ w' = w := by
  obtain ⟨j, hj, _⟩ := Option.map_eq_some_iff.1 Tryz.infoBuilder
  have c0 : w.cell? ⟨b, 0, none⟩ = some (.pointer (some ⟨b, 0, none⟩)) := cell_of_heapW h 0
  go_enter Tryz.func82, Tryz.ntmps82
  go_wp2
  rw [Lib.run_neq_ptr_same w _ Tryz.underlying64 hj]
  go_wp2
  go_end0
  exact ⟨rfl, rfl⟩

set_option maxHeartbeats 1000000 in
set_option maxRecDepth 100000 in
theorem copyCheck_fresh (b : Nat) (v : Value) (w : World) (h : w.heap[b]? = some (.cells #[.pointer none, v] 69 (0, 0))) :
    Calls Tryz.prog 82 #[.pointer (some ⟨b, 0, none⟩)] w fun e w' => e = .returned (.tuple #[]) ∧ w' = w.setCell ⟨b, 0, none⟩ (.pointer (some ⟨b, 0, none⟩)) := by
  obtain ⟨j, hj, hjs⟩ := Option.map_eq_some_iff.1 Tryz.infoBuilder
  have c0 : w.cell? ⟨b, 0, none⟩ = some (.pointer none) := cell_of_heapW h 0
  have hfz := free_of_heapW h 0
  have hsh : w.shape? b = some (69, 2) := by simp [World.shape?, h]
  go_enter Tryz.func82, Tryz.ntmps82
  go_wp2
  rw [Lib.run_to_unsafe w ⟨b, 0, none⟩ Tryz.underlying64 Tryz.underlying149 hj (by rw [hjs]; decide) hsh (Nat.zero_lt_succ 1)]
  simp only [Result.andThen]
  rw [Oper.upon_value]
  go_wp2
  rw [run_callFunc_extern Tryz.func95 (by kernel_rfl) (by kernel_rfl) (by kernel_rfl) (e := Extern.AbiNoEscape.same) (by kernel_rfl)]
  rw [Lib.run_noEscape]
  simp only [Result.andThen]
  rw [Oper.upon_value]
  go_wp2
  rw [Lib.run_from_unsafe w ⟨b, 0, none⟩ Tryz.underlying149 Tryz.underlying64 hj hsh liesBuilderW]
  simp only [Result.andThen]
  rw [Oper.upon_value]
  go_wp2
  go_end0
  exact ⟨rfl, rfl⟩

theorem owns_setCell {w : World} {base e' size n b : Nat} {v u : Value} {xs : List Value} (h : w.ownsRow base e' size v n xs) (hb : b < base) (off : Nat) : (w.setCell ⟨b, off, none⟩ u).ownsRow base e' size v n xs := by
  refine ⟨h.1, ?_⟩
  rcases h.2 with hn | ⟨g, cap, cur, hv, hg, hh, r⟩
  · exact .inl hn
  · exact .inr ⟨g, cap, cur, hv, hg, by rw [Below.heap_setCell w ⟨b, off, none⟩ u g (show g ≠ b by omega)]; exact hh, r⟩

theorem kp_setCell {w : World} {b off : Nat} (u : Value) : Kp b w (w.setCell ⟨b, off, none⟩ u) :=
  ⟨(Below.refl b w).setCell (p := ⟨b, off, none⟩) (Nat.le_refl _) u, fun k o h1 h2 _ _ => (Below.heap_setCell w ⟨b, off, none⟩ u k h2).trans h1, by simp [World.setCell]⟩

/-- copyCheck: the writer knows its own place behind it. -/
theorem copyCheck_any (b : Nat) (l : List UInt8) (w : World) (h : WrAt w b l) :
    Calls Tryz.prog 82 #[.pointer (some ⟨b, 0, none⟩)] w fun e w' => e = .returned (.tuple #[]) ∧ (∃ v, w'.heap[b]? = some (.cells #[.pointer (some ⟨b, 0, none⟩), v] 69 (0, 0)) ∧ w'.ownsRow (b + 1) 5 1 v l.length (Lib.byteCells l)) ∧ Kp b w w' := by
  obtain ⟨p, v, h1, rfl | rfl, h3⟩ := h
  · refine (copyCheck_fresh b v w h1).mono ?_
    rintro e w' ⟨rfl, rfl⟩
    exact ⟨rfl, ⟨v, heap_setCell_same w b 0 _ _ _ h1, owns_setCell h3 (by omega) 0⟩, kp_setCell _⟩
  · refine (copyCheck_used b v w h1).mono ?_
    rintro e w' ⟨rfl, rfl⟩
    exact ⟨rfl, ⟨v, h1, h3⟩, Kp.refl _ _⟩

set_option maxHeartbeats 2000000 in
set_option maxRecDepth 100000 in
theorem writeString_any (b : Nat) (l : List UInt8) (s : ByteArray) (w : World) (h : WrAt w b l) (hlen : l.length + s.size ≤ 1000000) :
    Calls Tryz.prog 49 #[.pointer (some ⟨b, 0, none⟩), .string s] w fun e w' => e = .returned (.tuple #[.int .i64 s.size, .nilIface]) ∧ WrAt w' b (l ++ s.data.toList) ∧ Kp b w w' := by
  obtain ⟨i0, hi, hz0, hz1, hz2⟩ := info_parts Tryz.infoByte
  have hblt := h.lt
  go_enter Tryz.func49, Tryz.ntmps49
  go_wp2_with fail
  refine (copyCheck_any b l w h).mono ?_
  rintro e w1 ⟨rfl, ⟨v, hbk, hown⟩, hk1⟩
  have c0 : w1.cell? ⟨b, 0, none⟩ = some (.pointer (some ⟨b, 0, none⟩)) := cell_of_heapW hbk 0
  have c1 : w1.cell? ⟨b, 1, none⟩ = some v := cell_of_heapW hbk 1
  have hsz1 := hk1.size
  go_wp2_with (at_builtin; refine Lib.wpList_append_own_string _ rfl _ _ 65 9 rfl (b + 1) 5 i0 Tryz.underlying65 Tryz.underlying9 hi hz0 hz1 hz2 _ _ _ rfl hown s rfl ?c3 ?c4 ?c5 ?_)
  case c3 => unfold maxLen; omega
  case c4 => omega
  case c5 => omega
  intro v' w2 hown' hgrow _
  obtain ⟨ao', n', cap', rfl⟩ : ∃ ao n cap, v' = .slice ao n cap := by
    rcases hown'.2 with ⟨hv, _⟩ | ⟨g, cap, cur, hv, _⟩
    · exact ⟨_, _, _, hv⟩
    · exact ⟨_, _, _, hv⟩
  have hne : v.ownBlock ≠ some b := fun e => by have := (hown.lt b e).1; omega
  have hb2 : w2.heap[b]? = some (.cells #[.pointer (some ⟨b, 0, none⟩), v] 69 (0, 0)) := (hgrow.block b (by omega) (fun e => hne e.symm)).trans hbk
  have d0 : w2.cell? ⟨b, 0, none⟩ = some (.pointer (some ⟨b, 0, none⟩)) := cell_of_heapW hb2 0
  have d1 : w2.cell? ⟨b, 1, none⟩ = some v := cell_of_heapW hb2 1
  have e1 := free_of_heapW hb2 1
  have hk2 : Kp b w1 w2 := by
    refine ⟨⟨hgrow.os, hgrow.tape, hgrow.output, by have := hgrow.size; omega, fun k hk => hgrow.block k (by omega) (fun e => by have := (hown.lt k e.symm).1; omega)⟩, fun k o h1 h2 h3 h4 => ?_, hgrow.size⟩
    refine (hgrow.block k (Array.getElem?_eq_some_iff.1 h1).1 (fun e => ?_)).trans h1
    rcases hown.2 with ⟨hv, _⟩ | ⟨g, cap, cur, hv, hg, hh, _⟩
    · rw [hv] at e; cases e
    · rw [hv] at e
      cases e
      rw [hh] at h1
      cases h1
      exact h3 _ _ rfl
  have hfin := heap_setCell_same w2 b 1 _ _ (.slice ao' n' cap') hb2
  have hownF : (w2.setCell ⟨b, 1, none⟩ (.slice ao' n' cap')).ownsRow (b + 1) 5 1 (.slice ao' n' cap') (l ++ s.data.toList).length (Lib.byteCells (l ++ s.data.toList)) := by
    have e2 : (l ++ s.data.toList).length = l.length + s.size := by rw [List.length_append, Array.length_toList]; rfl
    have e3 : Lib.byteCells (l ++ s.data.toList) = Lib.byteCells l ++ Lib.strCells s := by simp [Lib.byteCells, Lib.strCells]
    rw [e2, e3]
    exact owns_setCell hown' (by omega) 1
  have hK : Kp b w (w2.setCell ⟨b, 1, none⟩ (.slice ao' n' cap')) := (hk1.trans hk2).trans (kp_setCell _)
  clear hgrow hown hown' hk1 hk2 c0 c1
  go_wp2
  go_ret2
  exact ⟨rfl, ⟨_, _, hfin, .inr rfl, hownF⟩, hK⟩

end Go.Proofs.YtmfhbnelmbjkeabGreatDoor

/- DERIVED. (*strings.Builder).String of a writer that has written; (*impl.skyWriter).line: their walks. -/
namespace Go.Proofs.YtmfhbnelmbjkeabGreatDoor
open Go.RowKit
set_option linter.unusedSimpArgs false
set_option linter.unusedVariables false

set_option maxHeartbeats 1000000 in
set_option maxRecDepth 100000 in
theorem string_any (b : Nat) (l : List UInt8) (w : World) (h : WrAt w b l) (h0 : l ≠ []) :
    Calls Tryz.prog 23 #[.pointer (some ⟨b, 0, none⟩)] w fun e w' => e = .returned (.string ⟨l.toArray⟩) ∧ Below b w w' := by
  obtain ⟨p, v, hbk, _, hown⟩ := h
  have hl0 : l.length ≠ 0 := by simpa using h0
  obtain ⟨g, cap, cur, rfl, hbg, hg, hnc, hcm, hcs, htake⟩ : ∃ g cap cur, v = .slice (some ⟨g, 0, none⟩) l.length cap ∧ b + 1 ≤ g ∧ w.heap[g]? = some (.cells cur 5 (0, 0)) ∧ l.length ≤ cap ∧ cap ≤ maxLen ∧ cur.size = cap * 1 ∧ cur.toList.take (l.length * 1) = Lib.byteCells l := by
    rcases hown.2 with ⟨_, hz⟩ | ⟨g, cap, cur, hv, r⟩
    · exact absurd hz hl0
    · exact ⟨g, cap, cur, hv, r⟩
  have c1 : w.drew.cell? ⟨b, 1, none⟩ = some (.slice (some ⟨g, 0, none⟩) l.length cap) := cell_of_heapW hbk 1
  have hSD : (Builtin.unsafeSliceData_ #[65] 103 #[.slice (some ⟨g, 0, none⟩) l.length cap]).run Tryz.prog w.drew = .ok (.pointer (some ⟨g, 0, none⟩)) w.drew :=
    Lib.run_unsafeSliceData_row _ _ _ _ _ _ (by omega)
  have hUS : (Builtin.unsafeString_ #[103, 3] 9 #[.pointer (some ⟨g, 0, none⟩), .int .i64 l.length]).run Tryz.prog w.drew = .ok (.string ⟨l.toArray⟩) (w.drew.freeze ⟨g, 0, none⟩ l.length) := by
    refine Lib.run_unsafeString_row w.drew 103 3 9 5 Tryz.underlying103 (by kernel_rfl) g cur.size (by have hg' : w.drew.heap[g]? = some (.cells cur 5 (0, 0)) := hg; simp [World.shape?, hg']) l h0 (by omega) (by unfold maxLen at hcm; omega) ?_
    intro j x hx
    exact hown.cells (g := g) rfl j (.int .u8 x.toNat) (by simp [Lib.byteCells, hx])
  go_enter Tryz.func23, Tryz.ntmps23
  go_wp2
  go_region
  all_goals (go_wp2; go_ret; exact ⟨rfl, Lib.below_freeze (Below.drew (Below.refl b w)) (p := ⟨g, 0, none⟩) (by show b ≤ g; omega) _⟩)

/-- A line: words with one space between. -/
def lineW (ws : List (List UInt8)) : List UInt8 := Lib.join ws [32] ++ [10]

def strVals (ws : List (List UInt8)) : List Value := ws.map fun l => Value.string ⟨l.toArray⟩

theorem itoa_small (n : Int) (h0 : 0 ≤ n) (h1 : n < 100) (w : World) : Calls Tryz.prog 48 #[.int .i64 n] w fun e w' => e = .returned (.string ⟨(Lib.decDigits n.toNat).toArray⟩) ∧ w = w' := by
  obtain ⟨k, rfl⟩ := Int.eq_ofNat_of_zero_le h0
  refine (Tryz.strconv_Itoa_small k (by omega) w).mono ?_
  rintro e w' ⟨rfl, rfl⟩
  exact ⟨by rw [Int.toNat_natCast], rfl⟩

theorem Tryz.infoStrW : (Tryz.prog.info? 9).map (fun i => (i.zero, i.size, i.bytes)) = some (some (.string ByteArray.empty), 1, 16) := by kernel_rfl

def decsL (ns : List Int) : List (List UInt8) := ns.map fun n => Lib.decDigits n.toNat

theorem dec_len {n : Nat} (h : n < 100) : (Lib.decDigits n).length ≤ 2 := by
  unfold Lib.decDigits
  split
  · simp
  · unfold Lib.decDigits
    rw [dif_pos (by omega)]
    simp

end Go.Proofs.YtmfhbnelmbjkeabGreatDoor

/- DERIVED. (*impl.skyWriter).line: its walk. -/
namespace Go.Proofs.YtmfhbnelmbjkeabGreatDoor
open Go.RowKit
set_option linter.unusedSimpArgs false
set_option linter.unusedVariables false

/-- A row of texts is written: the writer stays. -/
theorem WrAt.grown {w w' : World} {b n : Nat} {l : List UInt8} {v : Value} {xs : List Value} (h : WrAt w b l) (hg : w.grownBy w' v.ownBlock) (hown : w.ownsRow (b + 1) 9 1 v n xs) : WrAt w' b l := by
  have hlt := h.lt
  obtain ⟨p, u, h1, h2, h3⟩ := h
  refine ⟨p, u, (hg.block b hlt (fun e => by have := (hown.lt b e.symm).1; omega)).trans h1, h2, h3.1, ?_⟩
  rcases h3.2 with hn | ⟨g, cap, cur, hv, hgb, hh, r⟩
  · exact .inl hn
  · refine .inr ⟨g, cap, cur, hv, hgb, (hg.block g (Array.getElem?_eq_some_iff.1 hh).1 (fun e => ?_)).trans hh, r⟩
    rcases hown.2 with ⟨hv2, _⟩ | ⟨g2, cap2, cur2, hv2, _, hh2, _⟩
    · rw [hv2] at e; cases e
    · rw [hv2] at e
      cases e
      rw [hh2] at hh
      cases hh

theorem kp_grown {w w' : World} {b n : Nat} {v : Value} {xs : List Value} (hb : b < w.heap.size) (hg : w.grownBy w' v.ownBlock) (hown : w.ownsRow (b + 1) 9 1 v n xs) : Kp b w w' := by
  refine ⟨⟨hg.os, hg.tape, hg.output, by have := hg.size; omega, fun k hk => hg.block k (by omega) (fun e => by have := (hown.lt k e.symm).1; omega)⟩, fun k o h1 h2 h3 h4 => ?_, hg.size⟩
  refine (hg.block k (Array.getElem?_eq_some_iff.1 h1).1 (fun e => ?_)).trans h1
  rcases hown.2 with ⟨hv2, _⟩ | ⟨g2, cap2, cur2, hv2, _, hh2, _⟩
  · rw [hv2] at e; cases e
  · rw [hv2] at e
    cases e
    rw [hh2] at h1
    cases h1
    exact h4 _ _ rfl

theorem ownsW_pos {w : World} {base : Nat} {e : TypeId} {size : Nat} {v : Value} {n : Nat} {xs : List Value} (h : w.ownsRow base e size v n xs) (hn : 0 < n) : ∃ g cap, v = .slice (some ⟨g, 0, none⟩) n cap := by
  rcases h.2 with ⟨_, h0⟩ | ⟨g, cap, cur, hv, _⟩
  · omega
  · exact ⟨g, cap, hv⟩

/-- Where the numbers of a line lie. -/
def NumsAt (w : World) (an : Option Addr) (ns : List Int) : Prop :=
  ns = [] ∨ ∃ gn cs, an = some ⟨gn, 0, none⟩ ∧ w.heap[gn]? = some (.cells cs 3 (0, 0)) ∧ ∀ j (h : j < ns.length), cs[j]? = some (.int .i64 (ns[j]'h))

theorem NumsAt.kept {w w' : World} {b : Nat} {an : Option Addr} {ns : List Int} (h : NumsAt w an ns) (hk : Kp b w w') (hb : ∀ gn, an = some ⟨gn, 0, none⟩ → gn ≠ b) : NumsAt w' an ns := by
  rcases h with h | ⟨gn, cs, h1, h2, h3⟩
  · exact .inl h
  · exact .inr ⟨gn, cs, h1, hk.rest gn _ h2 (hb gn h1) (fun c fz => by simp) (fun c fz => by simp), h3⟩

theorem strVals_app (a b : List (List UInt8)) : strVals (a ++ b) = strVals a ++ strVals b := by simp [strVals]

set_option maxRecDepth 100000 in
set_option maxHeartbeats 2000000 in
theorem line_any (b : Nat) (l : List UInt8) (gw capw : Nat) (ws : List (List UInt8)) (an : Option Addr) (capn : Nat) (ns : List Int) (w : World) (hW : WrAt w b l) (hws : 0 < ws.length) (hws2 : ws.length ≤ 100) (hns : ns.length ≤ 6)
    (hown : w.ownsRow (b + 1) 9 1 (.slice (some ⟨gw, 0, none⟩) ws.length capw) ws.length (strVals ws)) (hN : NumsAt w an ns) (hne : ∀ gn, an = some ⟨gn, 0, none⟩ → gn ≠ b) (hsm : ∀ n ∈ ns, 0 ≤ n ∧ n < 100)
    (hlen : l.length + (lineW (ws ++ decsL ns)).length ≤ 1000000) :
    Calls Tryz.prog 21 #[.pointer (some ⟨b, 0, none⟩), .slice (some ⟨gw, 0, none⟩) ws.length capw, .slice an ns.length capn] w fun e w' => e = .returned (.tuple #[]) ∧ WrAt w' b (l ++ lineW (ws ++ decsL ns)) ∧ Kp b w w' := by
  obtain ⟨i0, hi, hz0, hz1, hz2⟩ := info_parts Tryz.infoStrW
  have HSM : Hid (∀ n ∈ ns, 0 ≤ n ∧ n < 100) := hsm
  have HNE : Hid (∀ gn, an = some ⟨gn, 0, none⟩ → gn ≠ b) := hne
  have hblt := hW.lt
  have hown0 : w.ownsRow (b + 1) 9 1 (.slice (some ⟨gw, 0, none⟩) ws.length capw) ws.length (strVals (ws ++ (decsL ns).take 0)) := by simpa using hown
  clear hsm hne hown
  go_enter Tryz.func21, Tryz.ntmps21
  go_wp2
  go_loopw [1, 10] (fun v i wr => ∃ (k n g cap : Nat), k ≤ ns.length ∧ i = .int .i64 k ∧ v = .slice (some ⟨g, 0, none⟩) n cap ∧ Hid (n = ws.length + k) ∧ n ≤ 110 ∧ wr.ownsRow (b + 1) 9 1 (.slice (some ⟨g, 0, none⟩) n cap) n (strVals (ws ++ (decsL ns).take k)) ∧ WrAt wr b l ∧ NumsAt wr an ns ∧ Kp b w wr) (fun _ i _ => ns.length - (intOf i).toNat)
  case atStart => exact ⟨0, ws.length, gw, capw, Nat.zero_le _, rfl, rfl, rfl, by omega, hown0, hW, hN, Kp.refl _ _⟩
  case round =>
    clear hown0 hW hN
    obtain ⟨k, n, g, cap, hk, rfl, rfl, hn, hn2, hown, hW, hN, hK⟩ := hrel
    have hszr := hK.size
    by_cases hlt : k < ns.length
    · have hN2 := hN
      rcases hN2 with hN2 | ⟨gn, cs, rfl, hgn, hcs⟩
      · subst hN2; simp at hlt
      · have c0 : wr.cell? ⟨gn, k, none⟩ = some (.int .i64 (ns[k]'hlt)) := (cell_of_heapW hgn k).trans (hcs k hlt)
        have hsm := HSM.out _ (List.getElem_mem hlt)
        have hkI : (k : Int) < (ns.length : Int) := by omega
        have HD : Hid (strVals (ws ++ (decsL ns).take (k + 1)) = strVals (ws ++ (decsL ns).take k) ++ [.string ⟨(Lib.decDigits (ns[k]'hlt).toNat).toArray⟩]) := by
          show _ = _
          rw [List.take_succ_eq_append_getElem (by simpa [decsL] using hlt), ← List.append_assoc, strVals_app]
          simp [strVals, decsL]
        have HN1 : Hid (n + 1 = ws.length + (k + 1)) := by have := hn.out; show _ = _; omega
        have hn3 : n + 1 ≤ 110 := by have := hn.out; omega
        clear hn hcs hgn
        go_wp2_with fail
        refine (itoa_small (ns[k]'hlt) hsm.1 hsm.2 wr).mono ?_
        rintro e w1 ⟨rfl, rfl⟩
        generalize Lib.decDigits (ns[k]'hlt).toNat = dg at *
        go_wp2_with (at_builtin; refine wpList_append_own _ rfl _ _ 48 rfl (b + 1) 9 i0 (.string ByteArray.empty) 1 16 Tryz.underlying48 hi hz0 hz1 hz2 rfl (by decide) _ _ _ rfl (hown.alloc _) ⟨wr.heap.size, 0, none⟩ 1 1 [.string ⟨dg.toArray⟩] rfl rfl ?c1 ?c2 ?c3 ?c4 ?c5 ?_)
        case c1 =>
          intro j u hj
          match j, hj with
          | 0, hj => simp at hj; subst hj; simp [Addr.add]
        case c2 => intro u hu; simp at hu; subst hu; rfl
        case c3 => unfold maxLen; omega
        case c4 => omega
        case c5 => simp; omega
        intro v' w2 hown' hgrow _
        obtain ⟨g', cap', rfl⟩ := ownsW_pos hown' (by omega)
        have hbA : Below wr.heap.size wr (wr.alloc (.cells #[.string ⟨dg.toArray⟩] 9)) := (Below.refl _ _).alloc (Nat.le_refl _) _
        have hWA := hW.later hbA
        have hK1 : Kp b wr w2 := (Kp.of_below hbA (by omega)).trans (kp_grown (by simp; omega) hgrow (hown.alloc _))
        have hW2 := hWA.grown hgrow (hown.alloc _)
        have hN2 := hN.kept hK1 HNE.out
        have hK2 := hK.trans hK1
        have hO : w2.ownsRow (b + 1) 9 1 (.slice (some ⟨g', 0, none⟩) (n + 1) cap') (n + 1) (strVals (ws ++ (decsL ns).take (k + 1))) := by rw [HD.out]; exact hown'
        clear hgrow hown' hown hbA hWA hK1 hN c0
        go_wp2
        go_roundw
        case rel => exact ⟨k + 1, n + 1, g', cap', by omega, by go_num, rfl, HN1, hn3, hO, hW2, hN2, hK2⟩
        case measure => simp [intOf]; omega
    · have hke : k = ns.length := by omega
      subst hke
      have htk : (decsL ns).take ns.length = decsL ns := List.take_of_length_le (by simp [decsL])
      rw [htk] at hown
      clear htk
      obtain ⟨xs, hxs⟩ : ∃ xs : List ByteArray, xs = (ws ++ decsL ns).map fun l => ⟨l.toArray⟩ := ⟨_, rfl⟩
      have hxl : n = xs.length := by rw [hn.out, hxs]; simp [decsL]
      have hxm : xs.map (·.data.toList) = ws ++ decsL ns := by
        rw [hxs, List.map_map]
        have : ((fun x : ByteArray => x.data.toList) ∘ fun l : List UInt8 => (⟨l.toArray⟩ : ByteArray)) = id := by funext l; simp
        rw [this, List.map_id]
      have hsv : strVals (ws ++ decsL ns) = xs.map Value.string := by rw [hxs, strVals, List.map_map]; rfl
      rw [hsv] at hown
      subst hxl
      have hgl := (hown.lt g rfl).2
      have hcap : xs.length ≤ cap := by
        rcases hown.2 with ⟨h0, _⟩ | ⟨g', cap', cur, hv, _, _, h1, _⟩
        · cases h0
        · cases hv; exact h1
      have hcl := hown.cells (g := g) rfl
      have HJ := Tryz.strings_Join g 0 cap xs ⟨#[32]⟩ wr.drew (fun j x hx => by
        have := hcl j (.string x) (by simp [hx])
        rw [add_none] at this
        exact this) hgl (by omega) hcap (by
          rw [hxm]
          have : (Lib.join (ws ++ decsL ns) [32]).length ≤ (lineW (ws ++ decsL ns)).length := by simp [lineW]
          have e32 : (⟨#[32]⟩ : ByteArray).data.toList = [32] := rfl
          rw [e32]
          omega)
      have e32 : (⟨#[32]⟩ : ByteArray).data.toList = [32] := rfl
      rw [hxm, e32] at HJ
      have hll : lineW (ws ++ decsL ns) = Lib.join (ws ++ decsL ns) [32] ++ [10] := rfl
      have HLL : Hid (lineW (ws ++ decsL ns) = Lib.join (ws ++ decsL ns) [32] ++ [10]) := hll
      rw [hll] at hlen
      clear hll hcl hxm hsv hxs hn e32 hown
      generalize Lib.join (ws ++ decsL ns) [32] = J at *
      have hJs : (⟨J.toArray⟩ : ByteArray).size = J.length := by show J.toArray.size = _; simp
      have h10 : (⟨#[10]⟩ : ByteArray).size = 1 := rfl
      have hadd := fun W => run_string_add_sum (P := Tryz.prog) W ⟨J.toArray⟩ ⟨#[10]⟩ (by simp at hlen; omega)
      obtain ⟨t, ht⟩ : ∃ t : ByteArray, t = (⟨J.toArray⟩ : ByteArray) ++ ⟨#[10]⟩ := ⟨_, rfl⟩
      have hts : l.length + t.size ≤ 1000000 := by rw [ht, ByteArray.size_append, hJs, h10]; simp at hlen; omega
      have HT : Hid (t.data.toList = J ++ [10]) := by show _ = _; rw [ht, ByteArray.data_append]; simp
      rw [← ht] at hadd
      have hWd : WrAt wr.drew b l := hW
      clear ht hJs h10 hlen hN
      go_wp2
      go_region_with (first | (go_at_call 50; refine HJ.mono ?_; rintro e w6 ⟨rfl, hb6⟩) | (go_at_call 49; refine (writeString_any b l t _ (hWd.later hb6) hts).mono ?_; rintro e w7 ⟨rfl, hW7, hk7⟩))
      all_goals
        go_wp2
        go_end0
        refine ⟨rfl, ?_, hK.trans (((Kp.of_below ((Below.refl _ _).drew : Below wr.heap.size wr wr.drew) (Nat.le_of_lt (Nat.lt_of_lt_of_le hblt hszr))).trans (Kp.of_below hb6 (Nat.le_of_lt (Nat.lt_of_lt_of_le hblt hszr)))).trans hk7)⟩
        rw [HLL.out, ← HT.out]
        exact hW7

end Go.Proofs.YtmfhbnelmbjkeabGreatDoor
