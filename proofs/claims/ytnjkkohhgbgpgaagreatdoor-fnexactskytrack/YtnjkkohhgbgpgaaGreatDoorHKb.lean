import Derived.Test.YtnjkkohhgbgpgaaGreatDoorSkySA
import Derived.Test.YtnjkkohhgbgpgaaGreatDoorIV0
import Derived.Test.YtnjkkohhgbgpgaaGreatDoorHKa

/- DERIVED. impl.skyStays, impl.skyCellOf: their walks. -/
namespace Go.Proofs.YtnjkkohhgbgpgaaGreatDoor
namespace Trk
open Go.RowKit Leg
set_option linter.unusedSimpArgs false
set_option linter.unusedVariables false

theorem cell_of_heapR {w : World} {b : Nat} {cs : Array Value} {t : TypeId} (h : w.heap[b]? = some (.cells cs t (0, 0))) (i : Nat) : w.cell? ⟨b, i, none⟩ = cs[i]? := by
  unfold World.cell?
  simp only [h]
  rfl
theorem free_of_heapR {w : World} {b : Nat} {cs : Array Value} {t : TypeId} (h : w.heap[b]? = some (.cells cs t (0, 0))) (i : Nat) : w.frozen? ⟨b, i, none⟩ = false := by
  simp [World.frozen?, h]

/-- Whether a name is the same as the one ahead of it. -/
def stayAt (l : List ByteArray) (i : Nat) : Bool := (l.getD (i + 1) ⟨#[]⟩).toList == (l.getD i ⟨#[]⟩).toList
def staysB (l : List ByteArray) : Bool := (List.range (l.length - 1)).any (stayAt l)

set_option maxHeartbeats 1000000 in
theorem iStays (ao : Option Addr) (cap : Nat) (l : List ByteArray) (w : World) (h : SliceAt vStr (old w) w ao cap l) :
    Calls Tryz.prog 41 #[.slice ao l.length cap] w fun e w' => e = .returned (.bool (staysB l)) ∧ Below w.heap.size w w' := by
  have hlen : l.length ≤ 9223372036854775807 := Nat.le_trans h.1 h.2.1
  go_enter Tryz.func41, Tryz.ntmps41
  go_wp2
  go_loopw [3] (fun i wr => ∃ k : Nat, 1 ≤ k ∧ (k ≤ l.length ∨ k = 1) ∧ i = .int .i64 k ∧ Hid (∀ i, i + 1 < k → stayAt l i = false) ∧ Below w.heap.size w wr) (fun i _ => l.length + 1 - (intOf i).toNat)
  case atStart => exact ⟨1, Nat.le_refl _, .inr rfl, rfl, fun i hi => by omega, Below.refl _ _⟩
  case round =>
    obtain ⟨k, hk1, hk2, rfl, hno, hB⟩ := hrel
    by_cases hlt : k < l.length
    · obtain ⟨j, hj⟩ : ∃ j, j = k - 1 := ⟨_, rfl⟩
      have hjl : j < l.length := by omega
      have e1 : (k : Int) - 1 = (j : Int) := by omega
      have e2 : k = j + 1 := by omega
      obtain ⟨b, off, rfl, hok, c0, _⟩ := elem_String h hlt
      obtain ⟨b', off', eb, hok', c1, _⟩ := elem_String h hjl
      cases eb
      have d0 := (hB.cell (p := ⟨b, off + k, none⟩) hok).trans c0
      have d1 := (hB.cell (p := ⟨b, off + j, none⟩) hok).trans c1
      have hst : Hid (stayAt l j = ((l[k]'hlt).toList == (l[j]'hjl).toList)) := by
        show _ = _
        unfold stayAt
        rw [← e2]
        simp [hlt, hjl]
      have hkI : (k : Int) < (l.length : Int) := by omega
      have hjI : (j : Int) < (l.length : Int) := by omega
      generalize l[k]'hlt = x at *
      generalize l[j]'hjl = y at *
      clear c0 c1
      by_cases he : (x.toList == y.toList) = true
      · have HR : Hid (staysB l = true) := List.any_eq_true.2 ⟨j, List.mem_range.2 (by omega), by rw [hst.out]; exact he⟩
        clear hno hst e2 hj
        go_wp2
        go_quiet (fail)
        go_wp2
        go_ret
        exact ⟨by rw [HR.out]; rfl, by repeat (first | exact hB | refine below_drewN ?_ _ | refine Below.drew ?_)⟩
      · have he : (x.toList == y.toList) = false := by simpa using he
        have HN : Hid (∀ i, i + 1 < k + 1 → stayAt l i = false) := fun i hi => by
          by_cases e : i = j
          · subst e; rw [hst.out]; exact he
          · exact hno.out i (by omega)
        clear hno hst e2 hj
        go_wp2
        go_quiet (fail)
        go_wp2
        go_roundw
        case rel => exact ⟨k + 1, by omega, .inl (by omega), by go_num, HN, below_drewN hB _⟩
        case measure => simp [intOf]; omega
    · have HR : Hid (staysB l = false) := by
        show _ = _
        unfold staysB
        rw [List.any_eq_false]
        intro i hi
        have := List.mem_range.1 hi
        rw [hno.out i (by omega)]
        simp
      clear hno
      go_wp2
      go_ret
      exact ⟨by rw [HR.out]; rfl, hB⟩

/-- The cell of a point. -/
def cellOfP (ps : List DSkyPoint) (n : ByteArray) : Option DCell := (ps.find? fun p => p.1.toList == n.toList).map fun p => (p.2.1, p.2.2)
def NoP (ps : List DSkyPoint) (n : ByteArray) (k : Nat) : Prop := ∀ j (h : j < ps.length), j < k → ((ps[j]'h).1.toList == n.toList) = false
theorem cellOfP_none {ps : List DSkyPoint} {n : ByteArray} (h : NoP ps n ps.length) : cellOfP ps n = none := by
  unfold cellOfP
  rw [List.find?_eq_none.2 ?_]
  · rfl
  · intro s hs
    obtain ⟨i, hi, rfl⟩ := List.getElem_of_mem hs
    rw [h i hi hi]
    simp
theorem cellOfP_some {ps : List DSkyPoint} {n : ByteArray} {k : Nat} (hk : k < ps.length) (h : NoP ps n k) (he : ((ps[k]'hk).1.toList == n.toList) = true) : cellOfP ps n = some ((ps[k]'hk).2.1, (ps[k]'hk).2.2) := by
  unfold cellOfP
  rw [(List.find?_eq_some_iff_getElem (b := ps[k]'hk)).2 ?_]
  · rfl
  · refine ⟨he, k, hk, rfl, fun j hj => ?_⟩
    rw [h j (by omega) hj]
    rfl
def cellV (c : Option DCell) : Value := .tuple #[.agg #[.int .i64 (c.getD (0, 0)).1, .int .i64 (c.getD (0, 0)).2], .bool c.isSome]

/-- Two cells written. -/
def put2 (w : World) (p : Nat) (v0 v1 : Value) : World := (w.setCell ⟨p, 0, none⟩ v0).setCell ⟨p, 1, none⟩ v1
theorem put2_below {n p : Nat} {w0 w : World} (h : Below n w0 w) (hp : n ≤ p) (v0 v1 : Value) : Below n w0 (put2 w p v0 v1) := (h.setCell (p := ⟨p, 0, none⟩) hp v0).setCell (p := ⟨p, 1, none⟩) hp v1

set_option maxRecDepth 100000 in
set_option maxHeartbeats 1000000 in
theorem iCellOf (W H L : Int) (ps : List DSkyPoint) (n4 n5 n6 : Nat) (ao3 : Option Addr) (cap3 : Nat) (ao4 : Option Addr) (cap4 : Nat) (ao5 : Option Addr) (cap5 : Nat) (ao6 : Option Addr) (cap6 : Nat) (n : ByteArray) (w : World) (h : SliceAt vSkyPoint (old w) w ao3 cap3 ps) :
    Calls Tryz.prog 81 #[.agg #[.int .i64 W, .int .i64 H, .int .i64 L, .slice ao3 ps.length cap3, .slice ao4 n4 cap4, .slice ao5 n5 cap5, .slice ao6 n6 cap6], .string n] w fun e w' => e = .returned (cellV (cellOfP ps n)) ∧ Below w.heap.size w w' := by
  have hlen : ps.length ≤ 9223372036854775807 := Nat.le_trans h.1 h.2.1
  obtain ⟨w0, hw0⟩ : ∃ w0, w0 = (w.alloc (.cells #[.int .i64 W, .int .i64 H, .int .i64 L, .slice ao3 ps.length cap3, .slice ao4 n4 cap4, .slice ao5 n5 cap5, .slice ao6 n6 cap6] 39)).alloc (.cells #[.int .i64 0, .int .i64 0] 67) := ⟨_, rfl⟩
  have hb0 : Below w.heap.size w w0 := by rw [hw0]; exact ((Below.refl _ _).alloc (Nat.le_refl _) _).alloc (by simp) _
  have hr0 : w0.heap[w.heap.size + 1]? = some (.cells #[.int .i64 0, .int .i64 0] 67 (0, 0)) := by
    rw [hw0]
    have h := heap_alloc_new (w.alloc (.cells #[.int .i64 W, .int .i64 H, .int .i64 L, .slice ao3 ps.length cap3, .slice ao4 n4 cap4, .slice ao5 n5 cap5, .slice ao6 n6 cap6] 39)) (.cells #[.int .i64 0, .int .i64 0] 67)
    rwa [World.size_alloc] at h
  go_enter Tryz.func81, Tryz.ntmps81
  go_wp2
  rw [← hw0]
  clear hw0
  go_loopw [11] (fun i wr => ∃ k : Nat, k ≤ ps.length ∧ i = .int .i64 k ∧ Hid (NoP ps n k) ∧ Below w.heap.size w wr ∧ wr.heap[w.heap.size + 1]? = some (.cells #[.int .i64 0, .int .i64 0] 67 (0, 0))) (fun i _ => ps.length - (intOf i).toNat)
  case atStart => exact ⟨0, Nat.zero_le _, rfl, fun j _ hj => by omega, hb0, hr0⟩
  case round =>
    clear hb0 hr0
    obtain ⟨k, hk, rfl, hno, hB, hR⟩ := hrel
    have hwz := hB.size
    have hRlt := (Array.getElem?_eq_some_iff.1 hR).1
    have z0 := cell_of_heapR hR 0
    have z1 := cell_of_heapR hR 1
    have e0 := free_of_heapR hR 0
    have e1 := free_of_heapR hR 1
    simp at z0 z1
    by_cases hlt : k < ps.length
    · obtain ⟨b, off, rfl, hok, c0, c1, c2, _⟩ := elem_SkyPoint h hlt
      have f0 := (hB.cell (p := ⟨b, off + k * 3, none⟩) hok).trans c0
      have f1 := (hB.cell (p := ⟨b, off + k * 3 + 1, none⟩) hok).trans c1
      have f2 := (hB.cell (p := ⟨b, off + k * 3 + 2, none⟩) hok).trans c2
      have hkI : (k : Int) < (ps.length : Int) := by omega
      have HSOME : Hid (((ps[k]'hlt).1.toList == n.toList) = true → cellOfP ps n = some ((ps[k]'hlt).2.1, (ps[k]'hlt).2.2)) := fun he => cellOfP_some hlt hno.out he
      have HNEXT : Hid (((ps[k]'hlt).1.toList == n.toList) = false → NoP ps n (k + 1)) := fun hf j hj h2 => by
        by_cases e : j = k
        · subst e; exact hf
        · exact hno.out j hj (by omega)
      generalize ps[k]'hlt = pk at *
      obtain ⟨nm, px, py⟩ := pk
      simp only at f0 f1 f2 HSOME HNEXT
      clear c0 c1 c2 hno
      by_cases he : (nm.toList == n.toList) = true
      · have HC : Hid (cellOfP ps n = some (px, py)) := HSOME.out he
        clear HSOME HNEXT hR
        go_wp2
        refine bodyPost_ret (v := .tuple #[.agg #[.int .i64 px, .int .i64 py], .bool true]) (by simp [results, Tryz.results81, go_sem, z0, z1, hRlt, Nat.ne_of_lt hRlt]) rfl ⟨by rw [HC.out]; rfl, ?_⟩
        have hP := put2_below hB (Nat.le_succ w.heap.size) (.int .i64 px) (.int .i64 py)
        exact hP.alloc hP.size _
      · have he : (nm.toList == n.toList) = false := by simpa using he
        have HN : Hid (NoP ps n (k + 1)) := HNEXT.out he
        have hR2 : (wr.alloc (.cells #[.string nm, .int .i64 px, .int .i64 py] 113)).heap[w.heap.size + 1]? = some (.cells #[.int .i64 0, .int .i64 0] 67 (0, 0)) := (Below.heap_alloc _ _ _ hRlt).trans hR
        have hB2 : Below w.heap.size w (wr.alloc (.cells #[.string nm, .int .i64 px, .int .i64 py] 113)) := hB.alloc (by omega) _
        have HR2 : Hid _ := hR2
        clear HSOME HNEXT hR z0 z1 e0 e1 hR2
        go_wp2
        go_roundw
        case rel => exact ⟨k + 1, by omega, by go_num, HN, hB2, HR2.out⟩
        case measure => simp [intOf]; omega
    · have hke : k = ps.length := by omega
      subst hke
      have HE : Hid (cellOfP ps n = none) := cellOfP_none hno.out
      clear hno hR
      go_wp2
      refine bodyPost_ret (v := .tuple #[.agg #[.int .i64 0, .int .i64 0], .bool false]) (by simp [results, Tryz.results81, go_sem, z0, z1]) rfl ⟨by rw [HE.out]; rfl, ?_⟩
      exact put2_below hB (Nat.le_succ w.heap.size) (.int .i64 0) (.int .i64 0)

end Trk
end Go.Proofs.YtnjkkohhgbgpgaaGreatDoor

/- DERIVED. impl.skyCellsOf: its walk. -/
namespace Go.Proofs.YtnjkkohhgbgpgaaGreatDoor
namespace Trk
open Go.RowKit Leg
set_option linter.unusedSimpArgs false
set_option linter.unusedVariables false

def cellsL (ps : List DSkyPoint) (l : List ByteArray) : List DCell := l.map fun n => (cellOfP ps n).getD (0, 0)
def allP (ps : List DSkyPoint) (l : List ByteArray) : Bool := l.all fun n => (cellOfP ps n).isSome
theorem cellsL_len (ps : List DSkyPoint) (l : List ByteArray) : (cellsL ps l).length = l.length := by simp [cellsL]

theorem own_ge {w : World} {base size n : Nat} {e : TypeId} {v : Value} {xs : List Value} (h : w.ownsRow base e size v n xs) : ∀ k, v.ownBlock = some k → base ≤ k := by
  intro k hk
  rcases h.2 with ⟨h1, _⟩ | ⟨g, c, cur, h1, h2, _⟩
  · subst h1; simp [Value.ownBlock] at hk
  · subst h1; simp [Value.ownBlock] at hk; omega

theorem kept_any {w w' : World} {base size n : Nat} {e : TypeId} {v : Value} {xs : List Value} (h : w.ownsRow base e size v n xs) (hb : Below w.heap.size w w') : w'.ownsRow base e size v n xs := by
  refine h.kept (row := none) (grown_of_below hb) ?_
  rcases h.2 with ⟨h1, _⟩ | ⟨g, c, cur, h1, h2, _⟩
  · subst h1; exact .inl rfl
  · subst h1; exact .inr (by simp [Value.ownBlock])

set_option maxRecDepth 100000 in
set_option maxHeartbeats 2000000 in
theorem iCellsOf (W H L : Int) (ps : List DSkyPoint) (n4 n5 n6 : Nat) (ao3 : Option Addr) (cap3 : Nat) (ao4 : Option Addr) (cap4 : Nat) (ao5 : Option Addr) (cap5 : Nat) (ao6 : Option Addr) (cap6 : Nat) (ao : Option Addr) (cap : Nat) (l : List ByteArray) (w : World) (h : SliceAt vSkyPoint (old w) w ao3 cap3 ps) (hl : SliceAt vStr (old w) w ao cap l) (hl20 : l.length ≤ 1048576) :
    Calls Tryz.prog 40 #[.agg #[.int .i64 W, .int .i64 H, .int .i64 L, .slice ao3 ps.length cap3, .slice ao4 n4 cap4, .slice ao5 n5 cap5, .slice ao6 n6 cap6], .slice ao l.length cap] w fun e w' => Below w.heap.size w w' ∧ ((allP ps l = false ∧ e = .returned (.tuple #[.slice none 0 0, .bool false])) ∨ (allP ps l = true ∧ ∃ v, e = .returned (.tuple #[v, .bool true]) ∧ w'.ownsRow w.heap.size 67 2 v l.length (cellVals (cellsL ps l)))) := by
  obtain ⟨i0, hi, hz0, hz1, hz2⟩ := info_parts infoCell
  obtain ⟨w0, hw0⟩ : ∃ w0, w0 = w.alloc (.cells #[.int .i64 W, .int .i64 H, .int .i64 L, .slice ao3 ps.length cap3, .slice ao4 n4 cap4, .slice ao5 n5 cap5, .slice ao6 n6 cap6] 39) := ⟨_, rfl⟩
  have hb0 : Below w.heap.size w w0 := by rw [hw0]; exact (Below.refl _ _).alloc (Nat.le_refl _) _
  have hz : w0.heap.size = w.heap.size + 1 := by rw [hw0]; simp
  have hx0 : w0.heap[w.heap.size]? = some (.cells #[.int .i64 W, .int .i64 H, .int .i64 L, .slice ao3 ps.length cap3, .slice ao4 n4 cap4, .slice ao5 n5 cap5, .slice ao6 n6 cap6] 39 (0, 0)) := by rw [hw0]; exact heap_alloc_new w _
  go_enter Tryz.func40, Tryz.ntmps40
  go_wp2
  rw [← hw0]
  clear hw0
  go_loopw [6, 13] (fun u i wr => ∃ (k : Nat) (v : Value), k ≤ l.length ∧ i = .int .i64 k ∧ v = u ∧ Hid (∀ j (h : j < l.length), j < k → (cellOfP ps (l[j]'h)).isSome = true) ∧ wr.ownsRow (w.heap.size + 1) 67 2 v k (cellVals (cellsL ps (l.take k))) ∧ Below w.heap.size w wr ∧ Below (w.heap.size + 1) w0 wr) (fun _ i _ => l.length - (intOf i).toNat)
  case atStart => exact ⟨0, .slice none 0 0, Nat.zero_le _, rfl, rfl, fun j _ hj => by omega, by simpa [cellsL, cellVals] using World.ownsRow_nil w0 _ _ _, hb0, Below.refl _ _⟩
  case round =>
    clear hb0
    obtain ⟨k, v, hk, rfl, hv, hall, hown, hB, hB0⟩ := hrel
    subst hv
    have hsz : w.heap.size + 1 ≤ wr.heap.size := by have := hB0.size; omega
    by_cases hlt : k < l.length
    · obtain ⟨b, off, rfl, hok, c0, _⟩ := elem_String hl hlt
      have d0 := (hB.cell (p := ⟨b, off + k, none⟩) hok).trans c0
      have hkI : (k : Int) < (l.length : Int) := by omega
      have hxr := (hB0.block w.heap.size (by omega)).trans hx0
      have x0 := cell_of_heapR hxr 0
      have x1 := cell_of_heapR hxr 1
      have x2 := cell_of_heapR hxr 2
      have x3 := cell_of_heapR hxr 3
      have x4 := cell_of_heapR hxr 4
      have x5 := cell_of_heapR hxr 5
      have x6 := cell_of_heapR hxr 6
      simp at x0 x1 x2 x3 x4 x5 x6
      have HC := iCellOf W H L ps n4 n5 n6 ao3 cap3 ao4 cap4 ao5 cap5 ao6 cap6 (l[k]'hlt) wr (h.later hB)
      have HT : Hid (cellsL ps (l.take (k + 1)) = cellsL ps (l.take k) ++ [(cellOfP ps (l[k]'hlt)).getD (0, 0)]) := by
        show _ = _
        unfold cellsL
        rw [List.take_succ_eq_append_getElem hlt, List.map_append]
        rfl
      have HNO : Hid ((cellOfP ps (l[k]'hlt)).isSome = false → allP ps l = false) := fun hf => by
        unfold allP
        rw [List.all_eq_false]
        exact ⟨_, List.getElem_mem hlt, by rw [hf]; simp⟩
      have HAL : Hid ((cellOfP ps (l[k]'hlt)).isSome = true → ∀ j (h : j < l.length), j < k + 1 → (cellOfP ps (l[j]'h)).isSome = true) := fun hf j hj h1 => by
        by_cases e : j = k
        · subst e; exact hf
        · exact hall.out j hj (by omega)
      generalize cellOfP ps (l[k]'hlt) = oc at *
      generalize l[k]'hlt = nm at *
      clear c0 hall hxr
      go_wp2_with fail
      refine HC.mono ?_
      rintro e w1 ⟨rfl, hb1⟩
      have hB1 := hB.trans (hb1.mono (by omega))
      have hB01 := hB0.trans (hb1.mono hsz)
      have hown1 := kept_any hown hb1
      have hz1' := hb1.size
      clear HC hb1 x0 x1 x2 x3 x4 x5 x6 hown
      cases oc with
      | none =>
        have HF : Hid (allP ps l = false) := HNO.out rfl
        simp only [cellV, Option.getD_none, Option.isSome_none]
        clear HNO HAL HT hown1
        go_wp2
        refine bodyPost_ret (v := .tuple #[.slice none 0 0, .bool false]) (by simp [results, Tryz.results40, go_sem]) rfl ⟨?_, .inl ⟨HF.out, rfl⟩⟩
        exact hB1.alloc (by omega) _
      | some c =>
        obtain ⟨cx, cy⟩ := c
        have HAL2 : Hid (∀ j (h : j < l.length), j < k + 1 → (cellOfP ps (l[j]'h)).isSome = true) := HAL.out rfl
        simp only [cellV, Option.getD_some, Option.isSome_some]
        simp only [Option.getD_some] at HT
        clear HNO HAL
        go_wp2_with (at_builtin; refine wpList_append_own_at _ rfl _ _ 31 rfl (w.heap.size + 1) 67 i0 (.agg #[.int .i64 0, .int .i64 0]) 2 16 Tryz.underlying31 hi hz0 hz1 hz2 rfl (by decide) _ _ _ rfl ((hown1.alloc _).alloc _) ⟨w1.heap.size + 1, 0, none⟩ 1 1 [.int .i64 cx, .int .i64 cy] rfl rfl ?c1 ?c2 ?c3 ?c4 ?c5 ?_)
        case c1 =>
          intro j u hj
          match j, hj with
          | 0, hj => simp at hj; subst hj; simp [Addr.add]
          | 1, hj => simp at hj; subst hj; simp [Addr.add]
        case c2 =>
          intro u hu
          simp at hu
          rcases hu with rfl | rfl <;> rfl
        case c3 => unfold maxLen; omega
        case c4 => omega
        case c5 => simp; omega
        intro v' w6 hown' hgrow _ hat
        have hO6 : w6.ownsRow (w.heap.size + 1) 67 2 v' (k + 1) (cellVals (cellsL ps (l.take (k + 1)))) := by
          rw [HT.out, cellVals_snoc]
          exact hown'
        have hge := own_ge hown1
        have hB6 : Below (w.heap.size + 1) w1 w6 := (((Below.refl _ w1).alloc (by omega) _).alloc (by simp; omega) _).grown hgrow (by simp; omega) (by intro k hk; exact hge k hk)
        have hB7 := hB1.trans (hB6.mono (by omega))
        have hB07 := hB01.trans hB6
        have HO6 : Hid _ := hO6
        clear hown1 hown' hgrow hat hB6 hB1 hB01 hO6 HT d0
        go_wp2
        go_roundw
        case rel => exact ⟨k + 1, v', by omega, by go_num, rfl, HAL2, HO6.out, hB7, hB07⟩
        case measure => simp [intOf]; omega
    · have hke : k = l.length := by omega
      subst hke
      have HA : Hid (allP ps l = true) := by
        show _ = _
        unfold allP
        rw [List.all_eq_true]
        intro n hn
        obtain ⟨i, hi', rfl⟩ := List.getElem_of_mem hn
        exact hall.out i hi' hi'
      have HO : Hid (wr.ownsRow w.heap.size 67 2 v l.length (cellVals (cellsL ps l))) := by
        have h1 := ownsRow_base hown (show w.heap.size ≤ w.heap.size + 1 by omega)
        rwa [List.take_of_length_le (Nat.le_refl _)] at h1
      clear hown hall
      go_wp2
      exact bodyPost_ret (v := .tuple #[v, .bool true]) (by simp [results, Tryz.results40, go_sem]) rfl ⟨hB, .inr ⟨HA.out, v, rfl, HO.out⟩⟩

end Trk
end Go.Proofs.YtnjkkohhgbgpgaaGreatDoor

/- DERIVED. impl.skyJoinLegs: its walk (written by wip/tools/mk_tr2.py). -/
namespace Go.Proofs.YtnjkkohhgbgpgaaGreatDoor
namespace Trk
open Go.RowKit Leg
set_option linter.unusedSimpArgs false
set_option linter.unusedVariables false

/-- The cells of the legs from each of the first k cells to the next one. -/
def joinP (E : List DCell) : Nat → List DCell
  | 0 => []
  | k + 1 => joinP E k ++ (if k = 0 then [E.getD 0 (0, 0)] else (legOf (E.getD (k - 1) (0, 0)) (E.getD k (0, 0))).drop 1)
theorem leg_len16 (a b : DCell) : (legOf a b).length ≤ 16 := by
  unfold legOf
  split
  · rename_i h
    have h1 := steps_le h.1 h.2
    have h2 := steps_comm a b
    split
    · rw [legUp_len]; omega
    · rw [List.length_reverse, legUp_len]; omega
  · simp
theorem leg_len1 {a b : DCell} (ha : InLeg a) (hb : InLeg b) : 1 ≤ (legOf a b).length := by
  unfold legOf
  rw [if_pos ⟨ha, hb⟩]
  split
  · rw [legUp_len]; omega
  · rw [List.length_reverse, legUp_len]; omega
theorem joinP_len (E : List DCell) (k : Nat) : (joinP E k).length ≤ 16 * k := by
  induction k with
  | zero => simp [joinP]
  | succ k ih =>
    unfold joinP
    rw [List.length_append]
    split
    · simp; omega
    · have := leg_len16 (E.getD (k - 1) (0, 0)) (E.getD k (0, 0))
      rw [List.length_drop]
      omega

theorem cellVals_drop1 (l : List DCell) : cellVals (l.drop 1) = (cellVals l).drop 2 := by
  cases l with
  | nil => rfl
  | cons c l => simp [cellVals]

def JnC (ge o p : Nat) (a b : DCell) (W : World) : Prop :=
  W.cell? ⟨ge, o, none⟩ = some (.int .i64 a.1) ∧ W.cell? ⟨ge, o + 1, none⟩ = some (.int .i64 a.2) ∧ W.cell? ⟨p, 0, none⟩ = some (.int .i64 b.1) ∧ W.cell? ⟨p, 1, none⟩ = some (.int .i64 b.2)
theorem JnC.kept {ge o p : Nat} {a b : DCell} {w w' : World} (h : JnC ge o p a b w) (h1 : w'.heap[ge]? = w.heap[ge]?) (h2 : w'.heap[p]? = w.heap[p]?) : JnC ge o p a b w' :=
  ⟨(World.cell?_of_block (w := w) h1).trans h.1, (World.cell?_of_block (w := w) h1).trans h.2.1, (World.cell?_of_block (w := w) h2).trans h.2.2.1, (World.cell?_of_block (w := w) h2).trans h.2.2.2⟩
theorem mixedJ : Tryz.prog.follows .mixedOrders = true := by kernel_rfl
theorem own_lt {w : World} {base size n : Nat} {e : TypeId} {v : Value} {xs : List Value} (h : w.ownsRow base e size v n xs) : ∀ k, v.ownBlock = some k → k < w.heap.size := by
  intro k hk
  rcases h.2 with ⟨h1, _⟩ | ⟨g, c, cur, h1, h2, h3, _⟩
  · subst h1; simp [Value.ownBlock] at hk
  · subst h1; simp [Value.ownBlock] at hk; subst hk; exact (Array.getElem?_eq_some_iff.1 h3).1

set_option maxRecDepth 100000 in
set_option maxHeartbeats 4000000 in
theorem iJoin (ao : Option Addr) (cap : Nat) (E : List DCell) (w : World) (hc : CellsAt w ao E) (hE : ∀ c ∈ E, InLeg c) (hl20 : E.length ≤ 1048576) :
    Calls Tryz.prog 42 #[.slice ao E.length cap] w fun e w' => Below w.heap.size w w' ∧ ∃ v, e = .returned v ∧ w'.ownsRow w.heap.size 67 2 v (joinP E E.length).length (cellVals (joinP E E.length)) := by
  obtain ⟨i0, hi, hz0, hz1, hz2⟩ := info_parts infoCell
  have HE : Hid (∀ c ∈ E, InLeg c) := hE
  clear hE
  go_enter Tryz.func42, Tryz.ntmps42
  go_wp2
  go_loopw [3, 8] (fun u i wr => ∃ (k : Nat) (v : Value), k ≤ E.length ∧ i = .int .i64 k ∧ v = u ∧ wr.ownsRow w.heap.size 67 2 v (joinP E k).length (cellVals (joinP E k)) ∧ Below w.heap.size w wr) (fun _ i _ => E.length - (intOf i).toNat)
  case atStart => exact ⟨0, .slice none 0 0, Nat.zero_le _, rfl, rfl, by simpa [joinP, cellVals] using World.ownsRow_nil w _ _ _, Below.refl _ _⟩
  case round =>
    obtain ⟨k, v, hk, rfl, hv, hown, hB⟩ := hrel
    subst hv
    have hwz := hB.size
    have hjl := joinP_len E k
    by_cases hlt : k < E.length
    · obtain ⟨ge, rfl, hge, c0, c1⟩ := hc.at hlt
      have d0 := (hB.cell (p := ⟨ge, k * 2, none⟩) hge).trans c0
      have d1 := (hB.cell (p := ⟨ge, k * 2 + 1, none⟩) hge).trans c1
      have hkI : (k : Int) < (E.length : Int) := by omega
      have hIk := HE.out _ (List.getElem_mem hlt)
      have HG : Hid (E.getD k (0, 0) = E[k]'hlt) := by show _ = _; simp [hlt]
      have HJ : Hid (joinP E (k + 1) = joinP E k ++ (if k = 0 then [E.getD 0 (0, 0)] else (legOf (E.getD (k - 1) (0, 0)) (E.getD k (0, 0))).drop 1)) := rfl
      generalize E[k]'hlt = ck at *
      obtain ⟨cx, cy⟩ := ck
      simp only at d0 d1
      have HIk : Hid (InLeg (cx, cy)) := hIk
      clear c0 c1 hIk
      obtain ⟨w1, hw1⟩ : ∃ w1, w1 = wr.alloc (.cells #[.int .i64 cx, .int .i64 cy] 67) := ⟨_, rfl⟩
      have hb1 : Below wr.heap.size wr w1 := by rw [hw1]; exact (Below.refl _ _).alloc (Nat.le_refl _) _
      have hz1' : w1.heap.size = wr.heap.size + 1 := by rw [hw1]; simp
      have hown1 := kept_any hown hb1
      have hlt1 := own_lt hown
      have hge1 := own_ge hown
      by_cases hk0 : k = 0
      · subst hk0
        have HJ1 : Hid (joinP E (0 + 1) = joinP E 0 ++ [(cx, cy)]) := by
          show _ = _
          rw [HJ.out, if_pos rfl, HG.out]
        clear HJ HG hb1 hown1 hw1 hz1' w1
        go_wp2_with (at_builtin; refine wpList_append_own_at _ rfl _ _ 31 rfl w.heap.size 67 i0 (.agg #[.int .i64 0, .int .i64 0]) 2 16 Tryz.underlying31 hi hz0 hz1 hz2 rfl (by decide) _ _ _ rfl ((hown.alloc _).alloc _) ⟨wr.heap.size + 1, 0, none⟩ 1 1 [.int .i64 cx, .int .i64 cy] rfl rfl ?c1 ?c2 ?c3 ?c4 ?c5 ?_)
        case c1 =>
          intro j u hj
          match j, hj with
          | 0, hj => simp at hj; subst hj; simp [Addr.add]
          | 1, hj => simp at hj; subst hj; simp [Addr.add]
        case c2 =>
          intro u hu
          simp at hu
          rcases hu with rfl | rfl <;> rfl
        case c3 => unfold maxLen; omega
        case c4 => omega
        case c5 => simp; omega
        intro v' w6 hown' hgrow _ hat
        have hO6 : w6.ownsRow w.heap.size 67 2 v' (joinP E (0 + 1)).length (cellVals (joinP E (0 + 1))) := by
          rw [HJ1.out, List.length_append, cellVals_snoc]
          exact hown'
        have hB6 : Below w.heap.size wr w6 := (((Below.refl _ wr).alloc (by omega) _).alloc (by simp; omega) _).grown hgrow (by simp; omega) (by intro k hk; exact hge1 k hk)
        have hB7 := hB.trans hB6
        have HO6 : Hid _ := hO6
        clear hown hown' hgrow hat hB6 hB hO6 HJ1 d0 d1
        go_wp2
        go_roundw
        case rel => exact ⟨0 + 1, v', by omega, by go_num, rfl, HO6.out, hB7⟩
        case measure => simp [intOf]; omega
      · obtain ⟨j, hj⟩ : ∃ j, j = k - 1 := ⟨_, rfl⟩
        have hjl' : j < E.length := by omega
        have ej : (k : Int) - 1 = (j : Int) := by omega
        obtain ⟨ge', eg, _, c0, c1⟩ := hc.at hjl'
        cases eg
        have hIj := HE.out _ (List.getElem_mem hjl')
        have HGj : Hid (E.getD (k - 1) (0, 0) = E[j]'hjl') := by show _ = _; rw [← hj]; simp [hjl']
        have hB1 := hB.trans (hb1.mono hwz)
        have f0 := (hB1.cell (p := ⟨ge, j * 2, none⟩) hge).trans c0
        have f1 := (hB1.cell (p := ⟨ge, j * 2 + 1, none⟩) hge).trans c1
        generalize E[j]'hjl' = cj at *
        have HJ1 : Hid (joinP E (k + 1) = joinP E k ++ (legOf cj (cx, cy)).drop 1) := by
          show _ = _
          rw [HJ.out, if_neg hk0, HG.out, HGj.out]
        have hL1 := leg_len1 hIj HIk.out
        have hL2 := leg_len16 cj (cx, cy)
        have HLEG := fun W => iLeg cj (cx, cy) W
        obtain ⟨ax, ay⟩ := cj
        simp only [vCe] at *
        generalize legOf (ax, ay) (cx, cy) = LG at *
        have p0 : w1.cell? ⟨wr.heap.size, 0, none⟩ = some (.int .i64 cx) := by rw [hw1]; go_simp
        have p1 : w1.cell? ⟨wr.heap.size, 1, none⟩ = some (.int .i64 cy) := by rw [hw1]; go_simp
        have HC0 : JnC ge (j * 2) wr.heap.size (ax, ay) (cx, cy) w1.drew := JnC.kept (w := w1) ⟨f0, f1, p0, p1⟩ rfl rfl
        have hownd : w1.drew.ownsRow w.heap.size 67 2 v (joinP E k).length (cellVals (joinP E k)) := hown1.drew
        have hBd := hB1.drew
        have hzd : w1.drew.heap.size = wr.heap.size + 1 := hz1'
        have hgew : ge < wr.heap.size := Nat.lt_of_lt_of_le hge hwz
        have hjI : (j : Int) < (E.length : Int) := by omega
        have hkb : ((k : Int) == 0) = false := by simp; omega
        have hwj : IntKind.i64.wrap (j : Int) = (j : Int) := by rw [IntKind.wrap_i64]; omega
        have hnj : (E.length ≤ j) = False := by simp; omega
        clear hj HJ HG HGj hb1 hown1 hB1 hz1' f0 f1 p0 p1 c0 c1 hIj HIk
        go_wp2_with fail
        rw [← hw1]
        clear hw1 d0 d1
        refine wp_region_RC (JnC ge (j * 2) wr.heap.size (ax, ay) (cx, cy)) mixedJ ?_
        generalize w1.drew = wd at *
        refine RC.take (i := 0) (v := v) rfl (by kernel_rfl) (by kernel_rfl) (by kernel_rfl) (fun _ _ _ h => h) HC0 (by kernel_rfl) ?y0 ?r0
        case y0 => (intro W hW; clear HC0 hownd hBd HLEG hc HE hB hown; clear hW; go_simp)
        refine RC.take (i := 1) (v := .slice (some ⟨ge, 0, none⟩) E.length cap) rfl (by kernel_rfl) (by kernel_rfl) (by kernel_rfl) (fun _ _ _ h => h) HC0 (by kernel_rfl) ?y1 ?r1
        case y1 => (intro W hW; clear HC0 hownd hBd HLEG hc HE hB hown; clear hW; go_simp)
        refine RC.take (i := 2) (v := .int .i64 (k : Int)) rfl (by kernel_rfl) (by kernel_rfl) (by kernel_rfl) (fun _ _ _ h => h) HC0 (by kernel_rfl) ?y2 ?r2
        case y2 => (intro W hW; clear HC0 hownd hBd HLEG hc HE hB hown; clear hW; go_simp)
        refine RC.take (i := 3) (v := .int .i64 (j : Int)) rfl (by kernel_rfl) (by kernel_rfl) (by kernel_rfl) (fun _ _ _ h => h) HC0 (by kernel_rfl) ?y3 ?r3
        case y3 => (intro W hW; clear HC0 hownd hBd HLEG hc HE hB hown; clear hW; go_simp)
        refine RC.take (i := 4) (v := .pointer (some ⟨ge, j * 2, none⟩)) rfl (by kernel_rfl) (by kernel_rfl) (by kernel_rfl) (fun _ _ _ h => h) HC0 (by kernel_rfl) ?y4 ?r4
        case y4 => (intro W hW; clear HC0 hownd hBd HLEG hc HE hB hown; clear hW; go_simp)
        refine RC.take (i := 5) (v := .agg #[.int .i64 ax, .int .i64 ay]) rfl (by kernel_rfl) (by kernel_rfl) (by kernel_rfl) (fun _ _ _ h => h) HC0 (by kernel_rfl) ?y5 ?r5
        case y5 => (intro W hW; clear HC0 hownd hBd HLEG hc HE hB hown; obtain ⟨q0, q1, q2, q3⟩ := hW; simp only at q0 q1 q2 q3; go_simp)
        refine RC.take (i := 6) (v := .agg #[.int .i64 cx, .int .i64 cy]) rfl (by kernel_rfl) (by kernel_rfl) (by kernel_rfl) (fun _ _ _ h => h) HC0 (by kernel_rfl) ?y6 ?r6
        case y6 => (intro W hW; clear HC0 hownd hBd HLEG hc HE hB hown; obtain ⟨q0, q1, q2, q3⟩ := hW; simp only at q0 q1 q2 q3; go_simp)
        refine RC.want (i := 7) (by kernel_rfl) rfl (by kernel_rfl) (fun K hK => ?_)
        go_simp
        refine (HLEG _).mono ?_
        rintro e w2 ⟨v2, rfl, hOL, hb2⟩
        simp only
        have hgd : ge < wd.heap.size := by omega
        have hpd : wr.heap.size < wd.heap.size := by omega
        have HC2 := HC0.kept (hb2.block ge hgd) (hb2.block wr.heap.size hpd)
        have hown2 := kept_any hownd hb2
        have hB2 := hBd.trans (hb2.mono (by omega))
        have hs2 := hb2.size
        refine hK _ _ HC2 ?_
        clear hK K HC0 hownd hb2 HLEG hBd
        have HC0 := HC2
        clear HC2
        obtain ⟨gl, cl, rfl⟩ : ∃ gl cl, v2 = .slice (some ⟨gl, 0, none⟩) LG.length cl := by
          rcases hOL.2 with ⟨_, h0⟩ | ⟨g, c, _, h1, _⟩
          · omega
          · exact ⟨g, c, h1⟩
        obtain ⟨hgl, hgl2, hcl, hcm⟩ := owned_block hOL
        unfold maxLen at hcm
        obtain ⟨ad, had, had2⟩ : ∃ ad : Addr, (if cl = 1 then some (⟨gl, 0, none⟩ : Addr) else some ⟨gl, 2, none⟩) = some ad ∧ (cl = 1 ∨ ad = ⟨gl, 2, none⟩) := by
          by_cases hcl1 : cl = 1
          · exact ⟨⟨gl, 0, none⟩, by rw [if_pos hcl1], .inl hcl1⟩
          · exact ⟨⟨gl, 2, none⟩, by rw [if_neg hcl1], .inr rfl⟩
        have HAD : Hid _ := had2
        have hLGI : (1 : Int) ≤ (LG.length : Int) := by omega
        clear had2
        refine RC.take (i := 8) (v := .slice (some ad) (LG.length - 1) (cl - 1)) rfl (by kernel_rfl) (by kernel_rfl) (by kernel_rfl) (fun _ _ _ h => h) HC0 (by kernel_rfl) ?y8 ?r8
        case y8 =>
          intro W hW
          clear hW HC0 hown2 hB2 hOL hc HE hB hown HAD
          have HAD : Hid _ := had
          clear had
          go_simp
          exact HAD.out
        have hnews : ∀ j u, (cellVals (LG.drop 1))[j]? = some u → w2.cell? (ad.add j) = some u := fun j u hj => by
          rcases HAD.out with h1 | h1
          · have e : LG.drop 1 = [] := by rw [List.drop_eq_nil_iff]; omega
            rw [e] at hj
            simp [cellVals] at hj
          · have hcs := hOL.cells (g := gl) rfl (2 + j) u (by rw [← hj, cellVals_drop1 LG, List.getElem?_drop])
            have e1 : (⟨gl, 0, none⟩ : Addr).add (2 + j) = ⟨gl, 2 + j, none⟩ := by simp [Addr.add]
            have e2 : (⟨gl, 2, none⟩ : Addr).add j = ⟨gl, 2 + j, none⟩ := by
              unfold Addr.add
              split
              · simp_all
              · rfl
            rw [h1, e2, ← e1]
            exact hcs
        have hnl : (cellVals (LG.drop 1)).length = (LG.length - 1) * 2 := by rw [cellVals_len, List.length_drop]
        have hge2 := own_ge hown2
        have hlt2 := hlt1
        refine RC.want (i := 9) (by kernel_rfl) rfl (by kernel_rfl) (fun K hK => ?_)
        refine wpOp_append _ _ _ 31 rfl w.heap.size 67 i0 (.agg #[.int .i64 0, .int .i64 0]) 2 16 Tryz.underlying31 hi hz0 hz1 hz2 rfl (by decide) v (joinP E k).length _ rfl hown2 ad (LG.length - 1) (cl - 1) (cellVals (LG.drop 1)) rfl hnl hnews (fun u hu => by
            simp only [cellVals, List.mem_flatMap] at hu
            obtain ⟨c, _, hu⟩ := hu
            simp at hu
            rcases hu with rfl | rfl <;> rfl) (by unfold maxLen; omega) (by omega) (by omega) ?_
        intro v' w6 hown' hgrow _
        have hne : ∀ b, v.ownBlock = some b → w.heap.size ≤ b ∧ b < wr.heap.size := fun b hb => ⟨hge1 b hb, hlt1 b hb⟩
        have hb6 : ∀ q, q < w2.heap.size → (q < w.heap.size ∨ wr.heap.size ≤ q) → w6.heap[q]? = w2.heap[q]? := fun q hq hor => hgrow.block q hq (fun e => by have := hne q e.symm; omega)
        have HC6 := HC0.kept (hb6 ge (by omega) (.inl hge)) (hb6 wr.heap.size (by omega) (.inr (Nat.le_refl _)))
        have hB6 : Below w.heap.size w w6 := hB2.grown hgrow (by omega) (by intro q hq; exact hge1 q hq)
        have hO6 : w6.ownsRow w.heap.size 67 2 v' (joinP E (k + 1)).length (cellVals (joinP E (k + 1))) := by
          rw [HJ1.out, List.length_append, List.length_drop, cellVals_app]
          exact hown'
        have HO6 : Hid _ := hO6
        refine hK _ _ HC6 ?_
        clear hK K HC0 hown2 hown' hgrow hO6 hOL hnews hnl HAD had hB2 hb6
        refine RC.take (i := 10) (v := v') rfl (by kernel_rfl) (by kernel_rfl) (by kernel_rfl) (fun _ _ _ h => h) HC6 (by kernel_rfl) ?y10 ?r10
        case y10 => (intro W hW; clear hW HC6 hc HE hB hown; go_simp)
        refine RC.done (by kernel_rfl) ?_
        clear HC6 hB hown HJ1
        go_wp2
        go_roundw
        case rel => exact ⟨k + 1, v', by omega, by go_num, rfl, HO6.out, hB6⟩
        case measure => simp [intOf]; omega
    · have hke : k = E.length := by omega
      subst hke
      have HO : Hid _ := hown
      clear hown
      go_wp2
      go_ret
      exact ⟨hB, v, rfl, HO.out⟩

end Trk
end Go.Proofs.YtnjkkohhgbgpgaaGreatDoor

/- DERIVED. impl.SkyTrack: its walk. -/
namespace Go.Proofs.YtnjkkohhgbgpgaaGreatDoor
namespace Trk
open Go.RowKit Leg
set_option linter.unusedSimpArgs false
set_option linter.unusedVariables false

noncomputable def validT (x : DSky) : Bool := @decide (ValidSky x) (Classical.propDecidable _)
theorem validT_iff {x : DSky} : validT x = true ↔ ValidSky x := by unfold validT; simp
theorem validT_of {x : DSky} {e : Ending} (h : (ValidSky x ∧ e = .returned (.bool true)) ∨ (¬ ValidSky x ∧ e = .returned (.bool false))) : e = .returned (.bool (validT x)) := by
  rcases h with ⟨h1, h2⟩ | ⟨h1, h2⟩
  · rw [h2, validT_iff.2 h1]
  · have : validT x = false := by
      cases hb : validT x
      · rfl
      · exact absurd (validT_iff.1 hb) h1
    rw [h2, this]

/-- A track and its code. -/
noncomputable def trackOf (x : DSky) (l : List ByteArray) : List DCell × Int :=
  if validT x then (if allP x.2.2.2.1 l then (if staysB l then ([], 3) else (joinP (cellsL x.2.2.2.1 l) (cellsL x.2.2.2.1 l).length, 0)) else ([], 2)) else ([], 1)

theorem cell_in {x : DSky} (h : ValidSky x) {n : ByteArray} {c : DCell} (hc : cellOfP x.2.2.2.1 n = some c) : InLeg c := by
  obtain ⟨⟨⟨a1, a2⟩, ⟨a3, a4⟩, _⟩, ⟨_, hp⟩, _⟩ := h
  unfold cellOfP at hc
  rw [Option.map_eq_some_iff] at hc
  obtain ⟨p, hp1, rfl⟩ := hc
  have hm := List.mem_of_find?_eq_some hp1
  obtain ⟨i, hi, rfl⟩ := List.getElem_of_mem hm
  obtain ⟨_, _, ⟨b1, b2⟩, ⟨b3, b4⟩, _⟩ := hp i hi
  exact ⟨⟨b1, by simp only; omega⟩, b3, by simp only; omega⟩
theorem cells_in {x : DSky} (h : ValidSky x) {l : List ByteArray} (ha : allP x.2.2.2.1 l = true) : ∀ c ∈ cellsL x.2.2.2.1 l, InLeg c := by
  intro c hc
  unfold cellsL at hc
  rw [List.mem_map] at hc
  obtain ⟨n, hn, rfl⟩ := hc
  have h1 := List.all_eq_true.1 ha n hn
  obtain ⟨d, hd⟩ := Option.isSome_iff_exists.1 h1
  rw [hd]
  exact cell_in h hd

set_option maxRecDepth 100000 in
set_option maxHeartbeats 2000000 in
theorem iTrack (x : DSky) (ao3 : Option Addr) (cap3 : Nat) (ao4 : Option Addr) (cap4 : Nat) (ao5 : Option Addr) (cap5 : Nat) (ao6 : Option Addr) (cap6 : Nat) (ao : Option Addr) (cap : Nat) (l : List ByteArray) (w : World) (h : SkyAt w x ao3 cap3 ao4 cap4 ao5 cap5 ao6 cap6) (hl : SliceAt vStr (old w) w ao cap l) (hl20 : l.length ≤ 1048576) (hT : TurnsLaid w) :
    Calls Tryz.prog 10 #[.agg #[.int .i64 x.1, .int .i64 x.2.1, .int .i64 x.2.2.1, .slice ao3 x.2.2.2.1.length cap3, .slice ao4 x.2.2.2.2.1.length cap4, .slice ao5 x.2.2.2.2.2.1.length cap5, .slice ao6 x.2.2.2.2.2.2.length cap6], .slice ao l.length cap] w fun e w' => Below w.heap.size w w' ∧ ∃ v, e = .returned (.tuple #[v, .int .i64 (trackOf x l).2]) ∧ w'.ownsRow w.heap.size 67 2 v (trackOf x l).1.length (cellVals (trackOf x l).1) := by
  have HIN : Hid (validT x = true → allP x.2.2.2.1 l = true → ∀ c ∈ cellsL x.2.2.2.1 l, InLeg c) := fun hv ha => cells_in (validT_iff.1 hv) ha
  have HDEF : Hid (trackOf x l = if validT x then (if allP x.2.2.2.1 l then (if staysB l then ([], 3) else (joinP (cellsL x.2.2.2.1 l) (cellsL x.2.2.2.1 l).length, 0)) else ([], 2)) else ([], 1)) := rfl
  generalize trackOf x l = R at *
  obtain ⟨W, H, L, ps, aw, ss, rs⟩ := x
  simp only at *
  obtain ⟨w0, hw0⟩ : ∃ w0, w0 = w.alloc (.cells #[.int .i64 W, .int .i64 H, .int .i64 L, .slice ao3 ps.length cap3, .slice ao4 aw.length cap4, .slice ao5 ss.length cap5, .slice ao6 rs.length cap6] 39) := ⟨_, rfl⟩
  have hb0 : Below w.heap.size w w0 := by rw [hw0]; exact (Below.refl _ _).alloc (Nat.le_refl _) _
  have hz : w0.heap.size = w.heap.size + 1 := by rw [hw0]; simp
  have hx0 : w0.heap[w.heap.size]? = some (.cells #[.int .i64 W, .int .i64 H, .int .i64 L, .slice ao3 ps.length cap3, .slice ao4 aw.length cap4, .slice ao5 ss.length cap5, .slice ao6 rs.length cap6] 39 (0, 0)) := by rw [hw0]; exact heap_alloc_new w _
  have HV := iSkyValid (W, H, L, ps, aw, ss, rs) ao3 cap3 ao4 cap4 ao5 cap5 ao6 cap6 w0 (h.later hb0) (hT.later hb0)
  have h3 := h.p3
  simp only [skyCells] at HV h3
  rw [hw0] at HV
  clear h hT
  go_enter Tryz.func10, Tryz.ntmps10
  go_wp2_with fail
  refine HV.mono ?_
  rw [← hw0]
  rintro e w1 ⟨he, hb1⟩
  have he := validT_of he
  subst he
  clear HV hw0
  have hB1 := hb0.trans (hb1.mono (by omega))
  have hx1 := (hb1.block w.heap.size (by omega)).trans hx0
  have hs1 : w.heap.size + 1 ≤ w1.heap.size := by have := hb1.size; omega
  clear hb0 hb1 hx0 hz
  generalize validT (W, H, L, ps, aw, ss, rs) = v at *
  cases v
  · have HR : Hid (R = ([], 1)) := HDEF.out
    clear HDEF HIN
    go_wp2
    exact bodyPost_ret (v := .tuple #[.slice none 0 0, .int .i64 1]) (by simp [results, Tryz.results10, go_sem]) rfl ⟨hB1, .slice none 0 0, by rw [HR.out], by rw [HR.out]; exact World.ownsRow_nil _ _ _ _⟩
  · have HDEF : Hid (R = (if allP ps l then (if staysB l then ([], 3) else (joinP (cellsL ps l) (cellsL ps l).length, 0)) else ([], 2))) := HDEF.out
    have HIN2 : Hid (allP ps l = true → ∀ c ∈ cellsL ps l, InLeg c) := HIN.out rfl
    clear HIN
    have x0 := cell_of_heapR hx1 0
    have x1 := cell_of_heapR hx1 1
    have x2 := cell_of_heapR hx1 2
    have x3 := cell_of_heapR hx1 3
    have x4 := cell_of_heapR hx1 4
    have x5 := cell_of_heapR hx1 5
    have x6 := cell_of_heapR hx1 6
    simp at x0 x1 x2 x3 x4 x5 x6
    have HC := iCellsOf W H L ps aw.length ss.length rs.length ao3 cap3 ao4 cap4 ao5 cap5 ao6 cap6 ao cap l w1 (h3.later hB1) (hl.later hB1) hl20
    have hl1 := hl.later hB1
    clear hx1
    go_wp2_with fail
    refine HC.mono ?_
    rintro e w2 ⟨hb2, hcase⟩
    have hB2 := hB1.trans (hb2.mono (by omega))
    have hs2 : w1.heap.size ≤ w2.heap.size := hb2.size
    have hl2 := hl1.later hb2
    clear HC x0 x1 x2 x3 x4 x5 x6 hb2 hl1 h3 hl
    rcases hcase with ⟨ha, rfl⟩ | ⟨ha, v2, rfl, hO2⟩
    · have HR : Hid (R = ([], 2)) := by have := HDEF.out; rw [ha] at this; exact this
      clear HDEF HIN2
      go_wp2
      exact bodyPost_ret (v := .tuple #[.slice none 0 0, .int .i64 2]) (by simp [results, Tryz.results10, go_sem]) rfl ⟨hB2, .slice none 0 0, by rw [HR.out], by rw [HR.out]; exact World.ownsRow_nil _ _ _ _⟩
    · have HDEF : Hid (R = if staysB l then ([], 3) else (joinP (cellsL ps l) (cellsL ps l).length, 0)) := by have := HDEF.out; rw [ha] at this; exact this
      have hIN := HIN2.out ha
      have hcl := cellsL_len ps l
      rw [← hcl] at hO2
      obtain ⟨ao2, cap2, rfl, hA2, _, _, _⟩ := cells_of_owned hO2
      rw [hcl]
      have HS := iStays ao cap l w2 hl2
      clear HIN2 ha hO2
      go_wp2_with fail
      refine HS.mono ?_
      rintro e w3 ⟨rfl, hb3⟩
      have hB3 := hB2.trans (hb3.mono (by omega))
      have hs3 := hb3.size
      have hA3 := hA2.later hb3
      clear HS hb3 hA2 hl2
      generalize staysB l = sv at *
      cases sv
      · have HR : Hid (R = (joinP (cellsL ps l) (cellsL ps l).length, 0)) := HDEF.out
        clear HDEF
        have HJ := iJoin ao2 cap2 (cellsL ps l) w3 hA3 hIN (by rw [hcl]; exact hl20)
        rw [hcl] at HJ
        rw [hcl] at HR
        clear hIN hA3
        go_wp2_with fail
        refine HJ.mono ?_
        rintro e w4 ⟨hb4, v4, rfl, hO4⟩
        have hB4 := hB3.trans (hb4.mono (by omega))
        have HO4 : Hid _ := ownsRow_base hO4 (show w.heap.size ≤ w3.heap.size by omega)
        clear HJ hb4 hO4
        go_wp2
        exact bodyPost_ret (v := .tuple #[v4, .int .i64 0]) (by simp [results, Tryz.results10, go_sem]) rfl ⟨hB4, v4, by rw [HR.out], by rw [HR.out]; exact HO4.out⟩
      · have HR : Hid (R = ([], 3)) := HDEF.out
        clear HDEF hIN hA3
        go_wp2
        exact bodyPost_ret (v := .tuple #[.slice none 0 0, .int .i64 3]) (by simp [results, Tryz.results10, go_sem]) rfl ⟨hB3, .slice none 0 0, by rw [HR.out], by rw [HR.out]; exact World.ownsRow_nil _ _ _ _⟩

end Trk
end Go.Proofs.YtnjkkohhgbgpgaaGreatDoor

/- DERIVED. spec.l6At: its walk (written by wip/tools/mk_ts0.py). -/
namespace Go.Proofs.YtnjkkohhgbgpgaaGreatDoor
namespace Trk
open Go.RowKit Leg
set_option linter.unusedSimpArgs false
set_option linter.unusedVariables false

theorem mixedA : Tryz.prog.follows .mixedOrders = true := by kernel_rfl

/-- A point that is there: its place among them, and its cell. -/
theorem pIdx_cell {ps : List DSkyPoint} {n : ByteArray} {c : DCell} (h : cellOfP ps n = some c) : ∃ i : Nat, pIdx ps n = (i : Int) ∧ ∃ hi : i < ps.length, (ps[i]'hi).2 = c := by
  unfold cellOfP at h
  rw [Option.map_eq_some_iff] at h
  obtain ⟨p, hp, rfl⟩ := h
  obtain ⟨he, i, hi, rfl, hno⟩ := List.find?_eq_some_iff_getElem.1 hp
  have h1 : ps.findIdx (fun p => p.1.toList == n.toList) = i := (List.findIdx_eq hi).2 ⟨he, fun j hj => by simpa using hno j hj⟩
  refine ⟨i, ?_, hi, rfl⟩
  unfold pIdx
  rw [h1, if_pos hi]
theorem pIdx_none {ps : List DSkyPoint} {n : ByteArray} (h : cellOfP ps n = none) : pIdx ps n = -1 := by
  unfold cellOfP at h
  rw [Option.map_eq_none_iff, List.find?_eq_none] at h
  unfold pIdx
  rw [if_neg]
  intro h1
  have h2 := List.findIdx_getElem (w := h1)
  exact h _ (List.getElem_mem h1) h2

/-- Three cells written. -/
def put3 (w : World) (p : Nat) (v0 v1 v2 : Value) : World := ((w.setCell ⟨p, 0, none⟩ v0).setCell ⟨p, 1, none⟩ v1).setCell ⟨p, 2, none⟩ v2
theorem put3_same {w : World} {p : Nat} {t : TypeId} {c0 c1 c2 : Value} (h : w.heap[p]? = some (.cells #[c0, c1, c2] t (0, 0))) (v0 v1 v2 : Value) : (put3 w p v0 v1 v2).heap[p]? = some (.cells #[v0, v1, v2] t (0, 0)) := by
  have h0 := heap_setCell_same w p 0 _ t v0 h
  have h1 := heap_setCell_same _ p 1 _ t v1 h0
  have h2 := heap_setCell_same _ p 2 _ t v2 h1
  refine Eq.trans h2 ?_
  simp
theorem put3_other (w : World) (p : Nat) (v0 v1 v2 : Value) (k : Nat) (hk : k ≠ p) : (put3 w p v0 v1 v2).heap[k]? = w.heap[k]? :=
  ((Below.heap_setCell _ ⟨p, 2, none⟩ v2 k hk).trans (Below.heap_setCell _ ⟨p, 1, none⟩ v1 k hk)).trans (Below.heap_setCell w ⟨p, 0, none⟩ v0 k hk)
theorem put3_below {n p : Nat} {w0 w : World} (h : Below n w0 w) (hp : n ≤ p) (v0 v1 v2 : Value) : Below n w0 (put3 w p v0 v1 v2) :=
  ((h.setCell (p := ⟨p, 0, none⟩) hp v0).setCell (p := ⟨p, 1, none⟩) hp v1).setCell (p := ⟨p, 2, none⟩) hp v2

def AtC (b bp o : Nat) (v3 : Value) (nm : ByteArray) (c : DCell) (W : World) : Prop :=
  W.cell? ⟨b, 3, none⟩ = some v3 ∧ W.cell? ⟨bp, o, none⟩ = some (.string nm) ∧ W.cell? ⟨bp, o + 1, none⟩ = some (.int .i64 c.1) ∧ W.cell? ⟨bp, o + 2, none⟩ = some (.int .i64 c.2)
theorem AtC.kept {b bp o : Nat} {v3 : Value} {nm : ByteArray} {c : DCell} {w w' : World} (h : AtC b bp o v3 nm c w) (h1 : w'.heap[b]? = w.heap[b]?) (h2 : w'.heap[bp]? = w.heap[bp]?) : AtC b bp o v3 nm c w' :=
  ⟨(World.cell?_of_block (w := w) h1).trans h.1, (World.cell?_of_block (w := w) h2).trans h.2.1, (World.cell?_of_block (w := w) h2).trans h.2.2.1, (World.cell?_of_block (w := w) h2).trans h.2.2.2⟩

set_option maxRecDepth 100000 in
set_option maxHeartbeats 1000000 in
theorem sAt (W H L : Int) (ps : List DSkyPoint) (n4 n5 n6 : Nat) (ao3 : Option Addr) (cap3 : Nat) (ao4 : Option Addr) (cap4 : Nat) (ao5 : Option Addr) (cap5 : Nat) (ao6 : Option Addr) (cap6 : Nat) (n : ByteArray) (c : DCell) (w : World) (h : SliceAt vSkyPoint (old w) w ao3 cap3 ps) (hn : ps.length ≤ 1000) (hc : cellOfP ps n = some c) :
    Calls Tryz.prog 33 #[.agg #[.int .i64 W, .int .i64 H, .int .i64 L, .slice ao3 ps.length cap3, .slice ao4 n4 cap4, .slice ao5 n5 cap5, .slice ao6 n6 cap6], .string n] w fun e w' => e = .returned (.agg #[.int .i64 c.1, .int .i64 c.2]) ∧ Below w.heap.size w w' := by
  obtain ⟨i, hpi, hil, hci⟩ := pIdx_cell hc
  obtain ⟨w0, hw0⟩ : ∃ w0, w0 = (w.alloc (.cells #[.int .i64 W, .int .i64 H, .int .i64 L, .slice ao3 ps.length cap3, .slice ao4 n4 cap4, .slice ao5 n5 cap5, .slice ao6 n6 cap6] 39)).alloc (.cells #[.int .i64 0, .int .i64 0] 67) := ⟨_, rfl⟩
  have hb0 : Below w.heap.size w w0 := by rw [hw0]; exact ((Below.refl _ _).alloc (Nat.le_refl _) _).alloc (by simp) _
  have hz0 : w0.heap.size = w.heap.size + 2 := by rw [hw0]; simp
  have hr0 : w0.heap[w.heap.size + 1]? = some (.cells #[.int .i64 0, .int .i64 0] 67 (0, 0)) := by
    rw [hw0]
    have h := heap_alloc_new (w.alloc (.cells #[.int .i64 W, .int .i64 H, .int .i64 L, .slice ao3 ps.length cap3, .slice ao4 n4 cap4, .slice ao5 n5 cap5, .slice ao6 n6 cap6] 39)) (.cells #[.int .i64 0, .int .i64 0] 67)
    rwa [World.size_alloc] at h
  have k3 : w0.cell? ⟨w.heap.size, 3, none⟩ = some (.slice ao3 ps.length cap3) := by rw [hw0]; go_simp
  obtain ⟨bp, off, rfl, hok, c0, c1, c2, _⟩ := elem_SkyPoint h hil
  have f0 := (hb0.cell (p := ⟨bp, off + i * 3, none⟩) hok).trans c0
  have f1 := (hb0.cell (p := ⟨bp, off + i * 3 + 1, none⟩) hok).trans c1
  have f2 := (hb0.cell (p := ⟨bp, off + i * 3 + 2, none⟩) hok).trans c2
  rw [hci] at f1 f2
  generalize (ps[i]'hil).1 = nm at *
  obtain ⟨cx, cy⟩ := c
  simp only at f1 f2 ⊢
  have HC0 : AtC w.heap.size bp (off + i * 3) (.slice (some ⟨bp, off, none⟩) ps.length cap3) nm (cx, cy) w0.drew := AtC.kept (w := w0) ⟨k3, f0, f1, f2⟩ rfl rfl
  have HP := fun W hW => specPoint_any (some ⟨bp, off, none⟩) cap3 ps n W hn hW
  rw [hpi] at HP
  have hwi : IntKind.i64.wrap (i : Int) = (i : Int) := by rw [IntKind.wrap_i64]; omega
  have hni : (ps.length ≤ i) = False := by simp; omega
  have hiI : (i : Int) < (ps.length : Int) := by omega
  have hBd := hb0.drew
  have hRd : w0.drew.heap[w.heap.size + 1]? = some (.cells #[.int .i64 0, .int .i64 0] 67 (0, 0)) := hr0
  have hzd : w0.drew.heap.size = w.heap.size + 2 := hz0
  have hbw : bp < w.heap.size := hok
  clear c0 c1 c2 k3 f0 f1 f2 hci hc hpi hb0 hr0 hz0
  go_enter Tryz.func33, Tryz.ntmps33
  go_wp2_with fail
  rw [← hw0]
  clear hw0
  refine wp_region_RC (AtC w.heap.size bp (off + i * 3) (.slice (some ⟨bp, off, none⟩) ps.length cap3) nm (cx, cy)) mixedA ?_
  generalize w0.drew = wd at *
  refine RC.take (i := 0) (v := .pointer (some ⟨w.heap.size, 3, none⟩)) rfl (by kernel_rfl) (by kernel_rfl) (by kernel_rfl) (fun _ _ _ h => h) HC0 (by kernel_rfl) ?ya0 ?ra0
  case ya0 => (intro W hW; clear hW HC0 hBd HP; go_simp)
  refine RC.take (i := 1) (v := .slice (some ⟨bp, off, none⟩) ps.length cap3) rfl (by kernel_rfl) (by kernel_rfl) (by kernel_rfl) (fun _ _ _ h => h) HC0 (by kernel_rfl) ?ya1 ?ra1
  case ya1 => (intro W hW; obtain ⟨q0, q1, q2, q3⟩ := hW; simp only at q0 q1 q2 q3; clear HC0 hBd HP; go_simp)
  refine RC.take (i := 2) (v := .pointer (some ⟨w.heap.size, 3, none⟩)) rfl (by kernel_rfl) (by kernel_rfl) (by kernel_rfl) (fun _ _ _ h => h) HC0 (by kernel_rfl) ?ya2 ?ra2
  case ya2 => (intro W hW; clear hW HC0 hBd HP; go_simp)
  refine RC.take (i := 3) (v := .slice (some ⟨bp, off, none⟩) ps.length cap3) rfl (by kernel_rfl) (by kernel_rfl) (by kernel_rfl) (fun _ _ _ h => h) HC0 (by kernel_rfl) ?ya3 ?ra3
  case ya3 => (intro W hW; obtain ⟨q0, q1, q2, q3⟩ := hW; simp only at q0 q1 q2 q3; clear HC0 hBd HP; go_simp)
  refine RC.take (i := 4) (v := .string n) rfl (by kernel_rfl) (by kernel_rfl) (by kernel_rfl) (fun _ _ _ h => h) HC0 (by kernel_rfl) ?ya4 ?ra4
  case ya4 => (intro W hW; clear hW HC0 hBd HP; go_simp)
  have hHP := HP wd (h.later hBd)
  obtain ⟨wa, hwa⟩ : ∃ wa, wa = wd.alloc (.cells #[.string ⟨#[]⟩, .int .i64 0, .int .i64 0] 113) := ⟨_, rfl⟩
  have hba : Below wd.heap.size wd wa := by rw [hwa]; exact (Below.refl _ _).alloc (Nat.le_refl _) _
  have hBa := hBd.trans (hba.mono (by omega))
  have hza : wa.heap.size = wd.heap.size + 1 := by rw [hwa]; simp
  have hPa : wa.heap[wd.heap.size]? = some (.cells #[.string ⟨#[]⟩, .int .i64 0, .int .i64 0] 113 (0, 0)) := by rw [hwa]; exact heap_alloc_new wd _
  rw [hzd] at hPa
  have hRa := (hba.block (w.heap.size + 1) (by omega)).trans hRd
  have HCa := HC0.kept (hba.block w.heap.size (by omega)) (hba.block bp (by omega))
  have hHPa := HP wa (h.later hBa)
  clear HP hRd
  refine RC.two (i := 5) (k := 8) (by kernel_rfl) rfl rfl (fun K hK => ?_) (fun K hK => ?_)
  · rw [if_pos (by kernel_rfl)]
    go_simp
    refine hHP.mono ?_
    rintro e w' ⟨rfl, rfl⟩
    simp only
    refine hK _ _ HC0 ?_
    clear hK K hHP hHPa
    refine RC.take (i := 6) (v := .pointer (some ⟨bp, off + i * 3, none⟩)) rfl (by kernel_rfl) (by kernel_rfl) (by kernel_rfl) (fun _ _ _ h => h) HC0 (by kernel_rfl) ?ya6 ?ra6
    case ya6 => (intro W hW; clear hW; clear HC0 HCa hBd hBa hRa hPa hba hwa; go_simp)
    refine RC.take (i := 7) (v := .agg #[.string nm, .int .i64 cx, .int .i64 cy]) rfl (by kernel_rfl) (by kernel_rfl) (by kernel_rfl) (fun _ _ _ h => h) HC0 (by kernel_rfl) ?ya7 ?ra7
    case ya7 => (intro W hW; obtain ⟨q0, q1, q2, q3⟩ := hW; simp only at q0 q1 q2 q3; clear HC0 HCa hBd hBa hRa hPa hba hwa; go_simp)
    refine RC.want (i := 8) (by kernel_rfl) rfl (by kernel_rfl) (fun K hK => ?_)
    go_simp
    rw [← hwa]
    refine hK _ _ HCa ?_
    clear hK K hwa
    have z0 := cell_of_heapR hPa 0
    have z1 := cell_of_heapR hPa 1
    have z2 := cell_of_heapR hPa 2
    have e0 := free_of_heapR hPa 0
    have e1 := free_of_heapR hPa 1
    have e2 := free_of_heapR hPa 2
    simp at z0 z1 z2
    refine RC.want (i := 9) (by kernel_rfl) rfl (by kernel_rfl) (fun K hK => ?_)
    go_simp
    obtain ⟨w2, hw2⟩ : ∃ w2, w2 = put3 wa (w.heap.size + 2) (.string nm) (.int .i64 cx) (.int .i64 cy) := ⟨_, rfl⟩
    have hP2 : w2.heap[w.heap.size + 2]? = some (.cells #[.string nm, .int .i64 cx, .int .i64 cy] 113 (0, 0)) := by rw [hw2]; exact put3_same hPa _ _ _
    have hO2 : ∀ k, k ≠ w.heap.size + 2 → w2.heap[k]? = wa.heap[k]? := fun k hk => by rw [hw2]; exact put3_other _ _ _ _ _ k hk
    have hB2 : Below w.heap.size w w2 := by rw [hw2]; exact put3_below hBa (by omega) _ _ _
    have HC2 := HCa.kept (hO2 w.heap.size (by omega)) (hO2 bp (by omega))
    have hR2 := (hO2 (w.heap.size + 1) (by omega)).trans hRa
    change K _ (put3 wa (w.heap.size + 2) _ _ _)
    rw [← hw2]
    refine hK _ _ HC2 ?_
    clear hK K z0 z1 z2 e0 e1 e2 hPa hRa hBa HCa hO2
    refine RC.done (by kernel_rfl) ?_
    have z0 := cell_of_heapR hP2 0
    have z1 := cell_of_heapR hP2 1
    have z2 := cell_of_heapR hP2 2
    have y0 := cell_of_heapR hR2 0
    have y1 := cell_of_heapR hR2 1
    have e0 := free_of_heapR hR2 0
    have e1 := free_of_heapR hR2 1
    simp at z0 z1 z2 y0 y1
    clear hP2 hR2 HC2 HC0 hBd hw2
    go_wp2
    refine bodyPost_ret (v := .agg #[.int .i64 cx, .int .i64 cy]) (by simp [results, Tryz.results33, go_sem, y0, y1]) rfl ⟨rfl, ?_⟩
    exact put2_below hB2 (Nat.le_succ w.heap.size) (.int .i64 cx) (.int .i64 cy)
  · rw [if_pos (by kernel_rfl)]
    go_simp
    rw [← hwa]
    refine hK _ _ HCa ?_
    clear hK K hHP hwa
    refine RC.want (i := 5) (by kernel_rfl) rfl (by kernel_rfl) (fun K hK => ?_)
    go_simp
    refine hHPa.mono ?_
    rintro e w' ⟨rfl, hw'⟩
    rw [hw']
    clear hw' w'
    simp only
    refine hK _ _ HCa ?_
    clear hK K hHPa
    refine RC.take (i := 6) (v := .pointer (some ⟨bp, off + i * 3, none⟩)) rfl (by kernel_rfl) (by kernel_rfl) (by kernel_rfl) (fun _ _ _ h => h) HCa (by kernel_rfl) ?yb6 ?rb6
    case yb6 => (intro W hW; clear hW; clear HC0 HCa hBd hBa hRa hPa hba; go_simp)
    refine RC.take (i := 7) (v := .agg #[.string nm, .int .i64 cx, .int .i64 cy]) rfl (by kernel_rfl) (by kernel_rfl) (by kernel_rfl) (fun _ _ _ h => h) HCa (by kernel_rfl) ?yb7 ?rb7
    case yb7 => (intro W hW; obtain ⟨q0, q1, q2, q3⟩ := hW; simp only at q0 q1 q2 q3; clear HC0 HCa hBd hBa hRa hPa hba; go_simp)
    have z0 := cell_of_heapR hPa 0
    have z1 := cell_of_heapR hPa 1
    have z2 := cell_of_heapR hPa 2
    have e0 := free_of_heapR hPa 0
    have e1 := free_of_heapR hPa 1
    have e2 := free_of_heapR hPa 2
    simp at z0 z1 z2
    refine RC.want (i := 9) (by kernel_rfl) rfl (by kernel_rfl) (fun K hK => ?_)
    go_simp
    obtain ⟨w2, hw2⟩ : ∃ w2, w2 = put3 wa (w.heap.size + 2) (.string nm) (.int .i64 cx) (.int .i64 cy) := ⟨_, rfl⟩
    have hP2 : w2.heap[w.heap.size + 2]? = some (.cells #[.string nm, .int .i64 cx, .int .i64 cy] 113 (0, 0)) := by rw [hw2]; exact put3_same hPa _ _ _
    have hO2 : ∀ k, k ≠ w.heap.size + 2 → w2.heap[k]? = wa.heap[k]? := fun k hk => by rw [hw2]; exact put3_other _ _ _ _ _ k hk
    have hB2 : Below w.heap.size w w2 := by rw [hw2]; exact put3_below hBa (by omega) _ _ _
    have HC2 := HCa.kept (hO2 w.heap.size (by omega)) (hO2 bp (by omega))
    have hR2 := (hO2 (w.heap.size + 1) (by omega)).trans hRa
    change K _ (put3 wa (w.heap.size + 2) _ _ _)
    rw [← hw2]
    refine hK _ _ HC2 ?_
    clear hK K z0 z1 z2 e0 e1 e2 hPa hRa hBa HCa hO2
    refine RC.done (by kernel_rfl) ?_
    have z0 := cell_of_heapR hP2 0
    have z1 := cell_of_heapR hP2 1
    have z2 := cell_of_heapR hP2 2
    have y0 := cell_of_heapR hR2 0
    have y1 := cell_of_heapR hR2 1
    have e0 := free_of_heapR hR2 0
    have e1 := free_of_heapR hR2 1
    simp at z0 z1 z2 y0 y1
    clear hP2 hR2 HC2 HC0 hBd hw2
    go_wp2
    refine bodyPost_ret (v := .agg #[.int .i64 cx, .int .i64 cy]) (by simp [results, Tryz.results33, go_sem, y0, y1]) rfl ⟨rfl, ?_⟩
    exact put2_below hB2 (Nat.le_succ w.heap.size) (.int .i64 cx) (.int .i64 cy)

end Trk
end Go.Proofs.YtnjkkohhgbgpgaaGreatDoor

/- DERIVED. spec.SkyTrack: its walk (written by wip/tools/mk_ts1.py). -/
namespace Go.Proofs.YtnjkkohhgbgpgaaGreatDoor
namespace Trk
open Go.RowKit Leg
set_option linter.unusedSimpArgs false
set_option linter.unusedVariables false

/-- The box of the sky, and two names. -/
def TkC (b : Nat) (cs : Array Value) (bs o1 o2 : Nat) (s1 s2 : ByteArray) (W : World) : Prop :=
  (∀ i, W.cell? ⟨b, i, none⟩ = cs[i]?) ∧ W.cell? ⟨bs, o1, none⟩ = some (.string s1) ∧ W.cell? ⟨bs, o2, none⟩ = some (.string s2)
theorem TkC.kept {b bs o1 o2 : Nat} {cs : Array Value} {s1 s2 : ByteArray} {w w' : World} (h : TkC b cs bs o1 o2 s1 s2 w) (h1 : w'.heap[b]? = w.heap[b]?) (h2 : w'.heap[bs]? = w.heap[bs]?) : TkC b cs bs o1 o2 s1 s2 w' :=
  ⟨fun i => (World.cell?_of_block (w := w) h1).trans (h.1 i), (World.cell?_of_block (w := w) h2).trans h.2.1, (World.cell?_of_block (w := w) h2).trans h.2.2⟩

theorem empty_own (w : World) (B : Nat) (hB : B ≤ w.heap.size) : (w.alloc (.cells #[] 67)).ownsRow B 67 2 (.slice (some ⟨w.heap.size, 0, none⟩) 0 0) 0 [] :=
  World.ownsRow_made w #[] 0 hB (Nat.zero_le _) rfl

/-- It owns no cell. -/
def NoCells (w : World) (B : Nat) (v : Value) : Prop := w.ownsRow B 67 2 v 0 []

set_option maxRecDepth 100000 in
set_option maxHeartbeats 4000000 in
theorem sTrack (W H L : Int) (ps : List DSkyPoint) (aw : List DSkyAirway) (ss : List DSkySector) (rs : List DSkyRunway) (ao3 : Option Addr) (cap3 : Nat) (ao4 : Option Addr) (cap4 : Nat) (ao5 : Option Addr) (cap5 : Nat) (ao6 : Option Addr) (cap6 : Nat) (ao : Option Addr) (cap : Nat) (l : List ByteArray) (w : World) (h : SkyAt w (W, H, L, ps, aw, ss, rs) ao3 cap3 ao4 cap4 ao5 cap5 ao6 cap6) (hl : SliceAt vStr (old w) w ao cap l) (hl20 : l.length ≤ 1048576) :
    Calls Tryz.prog 7 #[.agg #[.int .i64 W, .int .i64 H, .int .i64 L, .slice ao3 ps.length cap3, .slice ao4 aw.length cap4, .slice ao5 ss.length cap5, .slice ao6 rs.length cap6], .slice ao l.length cap] w fun e w' => Below w.heap.size w w' ∧ ∃ v, e = .returned (.tuple #[v, .int .i64 (trackOf (W, H, L, ps, aw, ss, rs) l).2]) ∧ w'.ownsRow w.heap.size 67 2 v (trackOf (W, H, L, ps, aw, ss, rs) l).1.length (cellVals (trackOf (W, H, L, ps, aw, ss, rs) l).1) := by
  have HIN : Hid (validT (W, H, L, ps, aw, ss, rs) = true → allP ps l = true → ∀ c ∈ cellsL ps l, InLeg c) := fun hv ha => cells_in (validT_iff.1 hv) ha
  have HPL : Hid (validT (W, H, L, ps, aw, ss, rs) = true → ps.length ≤ 1000) := fun hv => by have := (validT_iff.1 hv).2.1.1; simp only at this; omega
  have HDEF : Hid (trackOf (W, H, L, ps, aw, ss, rs) l = if validT (W, H, L, ps, aw, ss, rs) then (if allP ps l then (if staysB l then ([], 3) else (joinP (cellsL ps l) (cellsL ps l).length, 0)) else ([], 2)) else ([], 1)) := rfl
  generalize trackOf (W, H, L, ps, aw, ss, rs) l = R at *
  obtain ⟨w0, hw0⟩ : ∃ w0, w0 = (w.alloc (.cells #[.int .i64 W, .int .i64 H, .int .i64 L, .slice ao3 ps.length cap3, .slice ao4 aw.length cap4, .slice ao5 ss.length cap5, .slice ao6 rs.length cap6] 39)).alloc (.cells #[] 67) := ⟨_, rfl⟩
  have hb0 : Below w.heap.size w w0 := by rw [hw0]; exact ((Below.refl _ _).alloc (Nat.le_refl _) _).alloc (by simp) _
  have hz : w0.heap.size = w.heap.size + 2 := by rw [hw0]; simp
  have hx0 : w0.heap[w.heap.size]? = some (.cells #[.int .i64 W, .int .i64 H, .int .i64 L, .slice ao3 ps.length cap3, .slice ao4 aw.length cap4, .slice ao5 ss.length cap5, .slice ao6 rs.length cap6] 39 (0, 0)) := by rw [hw0]; exact (Below.heap_alloc _ _ _ (by simp)).trans (heap_alloc_new w _)
  have hO0 : w0.ownsRow (w.heap.size + 1) 67 2 (.slice (some ⟨w.heap.size + 1, 0, none⟩) 0 0) 0 [] := by
    rw [hw0]
    have h := empty_own (w.alloc (.cells #[.int .i64 W, .int .i64 H, .int .i64 L, .slice ao3 ps.length cap3, .slice ao4 aw.length cap4, .slice ao5 ss.length cap5, .slice ao6 rs.length cap6] 39)) (w.heap.size + 1) (by simp)
    rwa [World.size_alloc] at h
  have HV := sSkyValid (W, H, L, ps, aw, ss, rs) ao3 cap3 ao4 cap4 ao5 cap5 ao6 cap6 w0 (h.later hb0)
  have h3 := h.p3
  simp only [skyCells] at HV h3
  rw [hw0] at HV
  clear h
  go_enter Tryz.func7, Tryz.ntmps7
  go_wp2_with fail
  refine HV.mono ?_
  rw [← hw0]
  rintro e w1 ⟨he, hb1⟩
  have he := validT_of he
  subst he
  clear HV hw0
  have hB1 := hb0.trans (hb1.mono (by omega))
  have hx1 := (hb1.block w.heap.size (by omega)).trans hx0
  have hO1 := kept_any hO0 hb1
  have hs1 : w.heap.size + 2 ≤ w1.heap.size := by have := hb1.size; omega
  clear hb0 hb1 hx0 hz hO0
  generalize validT (W, H, L, ps, aw, ss, rs) = v at *
  cases v
  · have HR : Hid (R = ([], 1)) := HDEF.out
    have HO : NoCells w1 w.heap.size (.slice (some ⟨w.heap.size + 1, 0, none⟩) 0 0) := ownsRow_base hO1 (show w.heap.size ≤ w.heap.size + 1 by omega)
    clear HDEF HIN HPL hO1
    go_wp2
    exact bodyPost_ret (v := .tuple #[.slice (some ⟨w.heap.size + 1, 0, none⟩) 0 0, .int .i64 1]) (by simp [results, Tryz.results7, go_sem]) rfl ⟨hB1, _, by rw [HR.out], by rw [HR.out]; exact HO⟩
  · have HDEF2 : Hid (R = (if allP ps l then (if staysB l then ([], 3) else (joinP (cellsL ps l) (cellsL ps l).length, 0)) else ([], 2))) := HDEF.out
    have HIN2 : Hid (allP ps l = true → ∀ c ∈ cellsL ps l, InLeg c) := HIN.out rfl
    have hn1000 := HPL.out rfl
    have hlen : l.length ≤ 9223372036854775807 := by omega
    have x3 := cell_of_heapR hx1 3
    simp at x3
    have HX1 : Hid (w1.heap[w.heap.size]? = some (.cells #[.int .i64 W, .int .i64 H, .int .i64 L, .slice ao3 ps.length cap3, .slice ao4 aw.length cap4, .slice ao5 ss.length cap5, .slice ao6 rs.length cap6] 39 (0, 0))) := hx1
    have HO1 : NoCells w1 (w.heap.size + 1) (.slice (some ⟨w.heap.size + 1, 0, none⟩) 0 0) := hO1
    clear HDEF HIN HPL hx1 hO1
    go_wp2
    go_loopw [7] (fun i wr => ∃ k n : Nat, k ≤ l.length ∧ i = .int .i64 k ∧ Hid (∀ j (h : j < l.length), j < k → (cellOfP ps (l[j]'h)).isSome = true) ∧ wr = w1.drewN n) (fun i _ => l.length - (intOf i).toNat)
    case atStart => exact ⟨0, 0, Nat.zero_le _, rfl, fun j _ hj => by omega, rfl⟩
    case round =>
      obtain ⟨k, nd, hk, rfl, hall, rfl⟩ := hrel
      by_cases hlt : k < l.length
      · obtain ⟨bs, off, rfl, hok, c0, _⟩ := elem_String hl hlt
        have d0 := (hB1.cell (p := ⟨bs, off + k, none⟩) hok).trans c0
        have hkI : (k : Int) < (l.length : Int) := by omega
        have hps := h3.later hB1
        have HNO : Hid (cellOfP ps (l[k]'hlt) = none → allP ps l = false) := fun hf => by
          unfold allP
          rw [List.all_eq_false]
          exact ⟨_, List.getElem_mem hlt, by rw [hf]; simp⟩
        have HAL : Hid (∀ c, cellOfP ps (l[k]'hlt) = some c → ∀ j (h : j < l.length), j < k + 1 → (cellOfP ps (l[j]'h)).isSome = true) := fun c hf j hj h1 => by
          by_cases e : j = k
          · subst e; rw [hf]; rfl
          · exact hall.out j hj (by omega)
        generalize l[k]'hlt = nm at *
        clear c0 hall
        cases hoc : cellOfP ps nm with
        | none =>
          have HF : Hid (allP ps l = false) := HNO.out hoc
          have hp := pIdx_none hoc
          have hneg : pIdx ps nm < 0 := by rw [hp]; decide
          clear HNO HAL hoc hp HO1
          go_wp2
          go_quiet ((go_at_call 32; refine (specPoint_any _ _ _ _ _ hn1000 (hps.later (below_drewN (Below.refl _ _) _))).mono ?_; rintro e w9 ⟨rfl, rfl⟩; exact ⟨rfl, _, rfl⟩))
          have HR : Hid (R = ([], 2)) := by have := HDEF2.out; rw [HF.out] at this; exact this
          go_wp2
          refine bodyPost_ret (v := .tuple #[.slice (some ⟨w1.heap.size, 0, none⟩) 0 0, .int .i64 2]) (by simp [results, Tryz.results7, go_sem]) rfl ⟨?_, .slice (some ⟨w1.heap.size, 0, none⟩) 0 0, by rw [HR.out], ?_⟩
          · exact (below_drewN hB1 _).alloc (by show w.heap.size ≤ w1.heap.size; omega) _
          · rw [HR.out]
            exact empty_own (w1.drewN _) w.heap.size (by show w.heap.size ≤ w1.heap.size; omega)
        | some c =>
          obtain ⟨ix, hp, _, _⟩ := pIdx_cell hoc
          have HAL2 : Hid (∀ j (h : j < l.length), j < k + 1 → (cellOfP ps (l[j]'h)).isSome = true) := HAL.out c hoc
          have hix : decide ((ix : Int) < 0) = false := by simp
          clear HNO HAL hoc
          go_wp2
          go_quiet ((go_at_call 32; refine (specPoint_any _ _ _ _ _ hn1000 (hps.later (below_drewN (Below.refl _ _) _))).mono ?_; rintro e w9 ⟨rfl, rfl⟩; exact ⟨rfl, _, rfl⟩))
          go_wp2
          go_roundw
          case rel => exact ⟨k + 1, _, by omega, by go_num, HAL2, rfl⟩
          case measure => simp [intOf]; omega
      · have ha : allP ps l = true := by
          unfold allP
          rw [List.all_eq_true]
          intro n hn
          obtain ⟨i, hi', rfl⟩ := List.getElem_of_mem hn
          exact hall.out i hi' (by omega)
        have HDEF3 : Hid (R = if staysB l then ([], 3) else (joinP (cellsL ps l) (cellsL ps l).length, 0)) := by have := HDEF2.out; rw [ha] at this; exact this
        have HINL : Hid (∀ c ∈ cellsL ps l, InLeg c) := HIN2.out ha
        have HEL : Hid ((cellsL ps l).length = l.length) := cellsL_len ps l
        have HCE : Hid (∀ j (h : j < l.length), cellOfP ps (l[j]'h) = some ((cellsL ps l).getD j (0, 0))) := fun j h => by
          have h1 := hall.out j h (by omega)
          obtain ⟨d, hd⟩ := Option.isSome_iff_exists.1 h1
          rw [hd]
          simp [cellsL, h, hd]
        obtain ⟨w2, hw2⟩ : ∃ w2, w2 = w1.drewN nd := ⟨_, rfl⟩
        have hb2 : Below w1.heap.size w1 w2 := by rw [hw2]; exact below_drewN (Below.refl _ _) nd
        have hB2 := hB1.trans (hb2.mono (by omega))
        have HO2 : NoCells w2 (w.heap.size + 1) (.slice (some ⟨w.heap.size + 1, 0, none⟩) 0 0) := kept_any HO1 hb2
        have HX2 : Hid (w2.heap[w.heap.size]? = some (.cells #[.int .i64 W, .int .i64 H, .int .i64 L, .slice ao3 ps.length cap3, .slice ao4 aw.length cap4, .slice ao5 ss.length cap5, .slice ao6 rs.length cap6] 39 (0, 0))) := (hb2.block w.heap.size (by omega)).trans HX1.out
        have hs2 : w.heap.size + 2 ≤ w2.heap.size := by have := hb2.size; omega
        obtain ⟨i0, hi, hz0, hz1, hz2⟩ := info_parts infoCell
        rw [← hw2]
        clear hw2 hb2 HDEF2 HIN2 ha hall HO1 HX1 x3
        generalize cellsL ps l = E at *
        go_wp2
        go_loopw [6, 8] (fun u i wr => ∃ (k : Nat) (v : Value), k ≤ l.length ∧ i = .int .i64 k ∧ v = u ∧ Hid (∀ i, i + 1 < k → stayAt l i = false) ∧ wr.ownsRow (w.heap.size + 1) 67 2 v (joinP E k).length (cellVals (joinP E k)) ∧ Below w.heap.size w wr ∧ w.heap.size + 2 ≤ wr.heap.size ∧ Hid (wr.heap[w.heap.size]? = some (.cells #[.int .i64 W, .int .i64 H, .int .i64 L, .slice ao3 ps.length cap3, .slice ao4 aw.length cap4, .slice ao5 ss.length cap5, .slice ao6 rs.length cap6] 39 (0, 0)))) (fun _ i _ => l.length - (intOf i).toNat)
        case atStart => exact ⟨0, .slice (some ⟨w.heap.size + 1, 0, none⟩) 0 0, Nat.zero_le _, rfl, rfl, fun i hi => by omega, HO2, hB2, hs2, HX2⟩
        case round =>
          clear HO2 HX2 hB2 hs2
          obtain ⟨m, v, hm, rfl, hv, hno, hown, hB, hs, HX⟩ := hrel
          subst hv
          have hjl := joinP_len E m
          have hge1 := own_ge hown
          have hlt1 := own_lt hown
          by_cases hltm : m < l.length
          · by_cases hm0 : m = 0
            · subst hm0
              obtain ⟨bs, off, rfl, hok, c0, _⟩ := elem_String hl hltm
              have d0 := (hB.cell (p := ⟨bs, off + 0, none⟩) hok).trans c0
              have hoc := HCE.out 0 hltm
              have HJ : Hid (joinP E (0 + 1) = joinP E 0 ++ [E.getD 0 (0, 0)]) := by show _ = _; simp [joinP]
              generalize E.getD 0 (0, 0) = ck at hoc HJ
              generalize l[0]'hltm = nm at *
              obtain ⟨cx, cy⟩ := ck
              have HSA := fun Wd hW => sAt W H L ps aw.length ss.length rs.length ao3 cap3 ao4 cap4 ao5 cap5 ao6 cap6 nm (cx, cy) Wd hW hn1000 hoc
              have hbs : bs < w.heap.size := hok
              simp only [Nat.add_zero] at d0
              have HC0 : TkC w.heap.size #[.int .i64 W, .int .i64 H, .int .i64 L, .slice ao3 ps.length cap3, .slice ao4 aw.length cap4, .slice ao5 ss.length cap5, .slice ao6 rs.length cap6] bs off off nm nm wr.drew := TkC.kept (w := wr) ⟨fun i => cell_of_heapR HX.out i, d0, d0⟩ rfl rfl
              have hownd : wr.drew.ownsRow (w.heap.size + 1) 67 2 v (joinP E 0).length (cellVals (joinP E 0)) := hown.drew
              have hBd := hB.drew
              have hsd : w.heap.size + 2 ≤ wr.drew.heap.size := hs
              have HXd : Hid (wr.drew.heap[w.heap.size]? = some (.cells #[.int .i64 W, .int .i64 H, .int .i64 L, .slice ao3 ps.length cap3, .slice ao4 aw.length cap4, .slice ao5 ss.length cap5, .slice ao6 rs.length cap6] 39 (0, 0))) := HX
              clear c0 d0 hoc
              have hlI : (0 : Int) < (l.length : Int) := by omega
              go_wp2_with fail
              refine wp_region_RC (TkC w.heap.size #[.int .i64 W, .int .i64 H, .int .i64 L, .slice ao3 ps.length cap3, .slice ao4 aw.length cap4, .slice ao5 ss.length cap5, .slice ao6 rs.length cap6] bs off off nm nm) mixedA ?_
              generalize wr.drew = wd at *
              refine RC.take (i := 0) (v := v) rfl (by kernel_rfl) (by kernel_rfl) (by kernel_rfl) (fun _ _ _ h => h) HC0 (by kernel_rfl) ?yc0 ?rc0
              case yc0 => (intro W hW; clear HC0 hownd hBd HSA hl h3 hown hB HX HCE HINL HEL HDEF3 hno hge1 hlt1; clear hW; go_simp)
              refine RC.take (i := 1) (v := .agg #[.int .i64 W, .int .i64 H, .int .i64 L, .slice ao3 ps.length cap3, .slice ao4 aw.length cap4, .slice ao5 ss.length cap5, .slice ao6 rs.length cap6]) rfl (by kernel_rfl) (by kernel_rfl) (by kernel_rfl) (fun _ _ _ h => h) HC0 (by kernel_rfl) ?yc1 ?rc1
              case yc1 => (intro W hW; clear HC0 hownd hBd HSA hl h3 hown hB HX HCE HINL HEL HDEF3 hno hge1 hlt1; have a0 := hW.1 0; have a1 := hW.1 1; have a2 := hW.1 2; have a3 := hW.1 3; have a4 := hW.1 4; have a5 := hW.1 5; have a6 := hW.1 6; clear hW; simp at a0 a1 a2 a3 a4 a5 a6; go_simp)
              refine RC.take (i := 2) (v := .slice (some ⟨bs, off, none⟩) l.length cap) rfl (by kernel_rfl) (by kernel_rfl) (by kernel_rfl) (fun _ _ _ h => h) HC0 (by kernel_rfl) ?yc2 ?rc2
              case yc2 => (intro W hW; clear HC0 hownd hBd HSA hl h3 hown hB HX HCE HINL HEL HDEF3 hno hge1 hlt1; clear hW; go_simp)
              refine RC.take (i := 3) (v := .pointer (some ⟨bs, off, none⟩)) rfl (by kernel_rfl) (by kernel_rfl) (by kernel_rfl) (fun _ _ _ h => h) HC0 (by kernel_rfl) ?yc3 ?rc3
              case yc3 => (intro W hW; clear HC0 hownd hBd HSA hl h3 hown hB HX HCE HINL HEL HDEF3 hno hge1 hlt1; clear hW; go_simp)
              refine RC.take (i := 4) (v := .string nm) rfl (by kernel_rfl) (by kernel_rfl) (by kernel_rfl) (fun _ _ _ h => h) HC0 (by kernel_rfl) ?yc4 ?rc4
              case yc4 => (intro W hW; clear HC0 hownd hBd HSA hl h3 hown hB HX HCE HINL HEL HDEF3 hno hge1 hlt1; obtain ⟨_, b0, _⟩ := hW; go_simp)
              refine RC.want (i := 5) (by kernel_rfl) rfl (by kernel_rfl) (fun K hK => ?_)
              go_simp
              refine (HSA _ (h3.later hBd)).mono ?_
              rintro e w3 ⟨rfl, hb3⟩
              simp only
              have HC3 := HC0.kept (hb3.block w.heap.size (by omega)) (hb3.block bs (by omega))
              have hown3 := kept_any hownd hb3
              have hB3 := hBd.trans (hb3.mono (by omega))
              have hs3 : w.heap.size + 2 ≤ w3.heap.size := Nat.le_trans hsd hb3.size
              have HX3 : Hid (w3.heap[w.heap.size]? = some (.cells #[.int .i64 W, .int .i64 H, .int .i64 L, .slice ao3 ps.length cap3, .slice ao4 aw.length cap4, .slice ao5 ss.length cap5, .slice ao6 rs.length cap6] 39 (0, 0))) := (hb3.block w.heap.size (by omega)).trans HXd.out
              refine hK _ _ HC3 ?_
              clear hK K HC0 hownd hBd hsd HXd hb3 HSA
              refine RC.want (i := 6) (by kernel_rfl) rfl (by kernel_rfl) (fun K hK => ?_)
              go_simp
              refine hK _ _ (HC3.kept (Below.heap_alloc _ _ _ (by omega)) (Below.heap_alloc _ _ _ (by omega))) ?_
              clear hK K
              refine RC.want (i := 7) (by kernel_rfl) rfl (by kernel_rfl) (fun K hK => ?_)
              refine wpOp_append _ _ _ 31 rfl (w.heap.size + 1) 67 i0 (.agg #[.int .i64 0, .int .i64 0]) 2 16 Tryz.underlying31 hi hz0 hz1 hz2 rfl (by decide) v (joinP E 0).length _ rfl (hown3.alloc _) ⟨w3.heap.size, 0, none⟩ 1 1 [.int .i64 cx, .int .i64 cy] rfl rfl (fun j u hj => by
                  match j, hj with
                  | 0, hj => simp at hj; subst hj; simp [Addr.add]
                  | 1, hj => simp at hj; subst hj; simp [Addr.add]) (fun u hu => by
                  simp at hu
                  rcases hu with rfl | rfl <;> rfl) (by unfold maxLen; omega) (by omega) (by simp; omega) ?_
              intro v' w6 hown' hgrow _
              have hne : ∀ b, v.ownBlock = some b → w.heap.size + 1 ≤ b := hge1
              have hb6 : ∀ q, q < w3.heap.size → q < w.heap.size + 1 → w6.heap[q]? = w3.heap[q]? := fun q hq hor => (hgrow.block q (by simp; omega) (fun e => by have := hne q e.symm; omega)).trans (Below.heap_alloc _ _ _ hq)
              have HC6 := HC3.kept (hb6 w.heap.size (by omega) (by omega)) (hb6 bs (by omega) (by omega))
              have HX6 : Hid (w6.heap[w.heap.size]? = some (.cells #[.int .i64 W, .int .i64 H, .int .i64 L, .slice ao3 ps.length cap3, .slice ao4 aw.length cap4, .slice ao5 ss.length cap5, .slice ao6 rs.length cap6] 39 (0, 0))) := (hb6 w.heap.size (by omega) (by omega)).trans HX3.out
              have hB6 : Below w.heap.size w w6 := (hB3.alloc (by omega) _).grown hgrow (by simp; omega) (by intro q hq; have := hge1 q hq; omega)
              have hs6 : w.heap.size + 2 ≤ w6.heap.size := by have := hgrow.size; simp at this; omega
              have HO6 : Hid (w6.ownsRow (w.heap.size + 1) 67 2 v' (joinP E (0 + 1)).length (cellVals (joinP E (0 + 1)))) := by
                show World.ownsRow _ _ _ _ _ _ _
                rw [HJ.out, List.length_append, cellVals_snoc]
                exact hown'
              refine hK _ _ HC6 ?_
              clear hK K HC3 hown3 hown' hgrow hB3 hb6 hne HX3 hs3
              refine RC.take (i := 8) (v := v') rfl (by kernel_rfl) (by kernel_rfl) (by kernel_rfl) (fun _ _ _ h => h) HC6 (by kernel_rfl) ?yc8 ?rc8
              case yc8 => (intro W hW; clear hW HC6 hl h3 hB hown HX HCE HINL HEL HDEF3 hno hge1 hlt1 hB6 HX6 HO6; go_simp)
              refine RC.done (by kernel_rfl) ?_
              clear HC6 hB hown HJ hno HX
              have HN : Hid (∀ i, i + 1 < 0 + 1 → stayAt l i = false) := fun i hi => by omega
              go_wp2
              go_roundw
              case rel => exact ⟨0 + 1, v', by omega, by go_num, rfl, HN, HO6.out, hB6, hs6, HX6⟩
              case measure => simp [intOf]; omega
            · obtain ⟨j, hj⟩ : ∃ j, j = m - 1 := ⟨_, rfl⟩
              have hjl' : j < l.length := by omega
              have ej : (m : Int) - 1 = (j : Int) := by omega
              obtain ⟨bs, off, rfl, hok, c0, _⟩ := elem_String hl hltm
              obtain ⟨bs', off', eb, _, c1, _⟩ := elem_String hl hjl'
              cases eb
              have d0 := (hB.cell (p := ⟨bs, off + m, none⟩) hok).trans c0
              have d1 := (hB.cell (p := ⟨bs, off + j, none⟩) hok).trans c1
              have hocm := HCE.out m hltm
              have hocj := HCE.out j hjl'
              have HJ : Hid (joinP E (m + 1) = joinP E m ++ (legOf (E.getD j (0, 0)) (E.getD m (0, 0))).drop 1) := by
                show _ = _
                conv => lhs; unfold joinP
                rw [if_neg hm0, ← hj]
              have hIm : InLeg (E.getD m (0, 0)) := by
                have hmE : m < E.length := by rw [HEL.out]; exact hltm
                have h1 := HINL.out _ (List.getElem_mem hmE)
                rw [List.getD_eq_getElem?_getD, List.getElem?_eq_getElem hmE]
                exact h1
              have hIj : InLeg (E.getD j (0, 0)) := by
                have hmE : j < E.length := by rw [HEL.out]; exact hjl'
                have h1 := HINL.out _ (List.getElem_mem hmE)
                rw [List.getD_eq_getElem?_getD, List.getElem?_eq_getElem hmE]
                exact h1
              have hst : Hid (stayAt l j = ((l[m]'hltm).toList == (l[j]'hjl').toList)) := by
                show _ = _
                unfold stayAt
                rw [show j + 1 = m by omega]
                simp [hltm, hjl']
              have hL1 := leg_len1 hIj hIm
              have hL2 := leg_len16 (E.getD j (0, 0)) (E.getD m (0, 0))
              have HSL := fun Wd => sLeg (E.getD j (0, 0)) (E.getD m (0, 0)) Wd
              generalize legOf (E.getD j (0, 0)) (E.getD m (0, 0)) = LG at *
              generalize E.getD j (0, 0) = cj at hocj HSL
              generalize E.getD m (0, 0) = ck at hocm HSL
              generalize l[m]'hltm = nm at *
              generalize l[j]'hjl' = nj at *
              obtain ⟨ax, ay⟩ := cj
              obtain ⟨cx, cy⟩ := ck
              have HS1 := fun Wd hW => sAt W H L ps aw.length ss.length rs.length ao3 cap3 ao4 cap4 ao5 cap5 ao6 cap6 nj (ax, ay) Wd hW hn1000 hocj
              have HS2 := fun Wd hW => sAt W H L ps aw.length ss.length rs.length ao3 cap3 ao4 cap4 ao5 cap5 ao6 cap6 nm (cx, cy) Wd hW hn1000 hocm
              have hbs : bs < w.heap.size := hok
              have hmI : (m : Int) < (l.length : Int) := by omega
              have hjI : (j : Int) < (l.length : Int) := by omega
              have hmb : ((m : Int) == 0) = false := by simp; omega
              have hwj : IntKind.i64.wrap (j : Int) = (j : Int) := by rw [IntKind.wrap_i64]; omega
              have hnj : (l.length ≤ j) = False := by simp; omega
              have hnm : (l.length ≤ m) = False := by simp; omega
              simp only [vCe] at HSL
              clear c0 c1 hocm hocj hIm hIj
              by_cases he : (nm.toList == nj.toList) = true
              · have hsv : staysB l = true := List.any_eq_true.2 ⟨j, List.mem_range.2 (by omega), by rw [hst.out]; exact he⟩
                have HR : Hid (R = ([], 3)) := by have := HDEF3.out; rw [hsv] at this; exact this
                clear hno hst hj hsv HDEF3 HSL HS1 HS2 HJ hown
                go_wp2
                go_quiet (fail)
                go_wp2
                refine bodyPost_ret (v := .tuple #[.slice (some ⟨wr.heap.size, 0, none⟩) 0 0, .int .i64 3]) (by simp [results, Tryz.results7, go_sem]) rfl ⟨?_, .slice (some ⟨wr.heap.size, 0, none⟩) 0 0, by rw [HR.out], ?_⟩
                · exact (below_drewN hB _).alloc (by show w.heap.size ≤ wr.heap.size; omega) _
                · rw [HR.out]
                  exact empty_own (wr.drewN _) w.heap.size (by show w.heap.size ≤ wr.heap.size; omega)
              · have he : (nm.toList == nj.toList) = false := by simpa using he
                have HN : Hid (∀ i, i + 1 < m + 1 → stayAt l i = false) := fun i hi' => by
                  by_cases e : i = j
                  · subst e; rw [hst.out]; exact he
                  · exact hno.out i (by omega)
                have HD0 : Hid (wr.cell? ⟨bs, off + m, none⟩ = some (.string nm)) := d0
                have HD1 : Hid (wr.cell? ⟨bs, off + j, none⟩ = some (.string nj)) := d1
                clear hno hst hj
                go_wp2
                go_quiet (fail)
                go_wp2_with fail
                obtain ⟨wd, hwd⟩ : ∃ wd, wd = (wr.drewN nq).drew := ⟨_, rfl⟩
                have hbd : Below wr.heap.size wr wd := by rw [hwd]; exact (below_drewN (Below.refl _ _) nq).drew
                have HC0 : TkC w.heap.size #[.int .i64 W, .int .i64 H, .int .i64 L, .slice ao3 ps.length cap3, .slice ao4 aw.length cap4, .slice ao5 ss.length cap5, .slice ao6 rs.length cap6] bs (off + j) (off + m) nj nm wd := TkC.kept (w := wr) ⟨fun i => cell_of_heapR HX.out i, HD1.out, HD0.out⟩ (hbd.block _ (by omega)) (hbd.block _ (by omega))
                have hownd := kept_any hown hbd
                have hBd := hB.trans (hbd.mono (by omega))
                have hsd : w.heap.size + 2 ≤ wd.heap.size := Nat.le_trans hs hbd.size
                have HXd : Hid (wd.heap[w.heap.size]? = some (.cells #[.int .i64 W, .int .i64 H, .int .i64 L, .slice ao3 ps.length cap3, .slice ao4 aw.length cap4, .slice ao5 ss.length cap5, .slice ao6 rs.length cap6] 39 (0, 0))) := (hbd.block w.heap.size (by omega)).trans HX.out
                refine wp_region_RC (TkC w.heap.size #[.int .i64 W, .int .i64 H, .int .i64 L, .slice ao3 ps.length cap3, .slice ao4 aw.length cap4, .slice ao5 ss.length cap5, .slice ao6 rs.length cap6] bs (off + j) (off + m) nj nm) mixedA ?_
                rw [← hwd]
                clear hwd hbd d0 d1 HD0 HD1
                refine RC.take (i := 0) (v := v) rfl (by kernel_rfl) (by kernel_rfl) (by kernel_rfl) (fun _ _ _ h => h) HC0 (by kernel_rfl) ?yd0 ?rd0
                case yd0 => (intro W hW; clear HC0 hownd hBd HS1 HS2 HSL hl h3 hown hB HX HXd HCE HINL HEL HDEF3 hge1 hlt1 HJ HN; clear hW; go_simp)
                refine RC.take (i := 1) (v := .agg #[.int .i64 W, .int .i64 H, .int .i64 L, .slice ao3 ps.length cap3, .slice ao4 aw.length cap4, .slice ao5 ss.length cap5, .slice ao6 rs.length cap6]) rfl (by kernel_rfl) (by kernel_rfl) (by kernel_rfl) (fun _ _ _ h => h) HC0 (by kernel_rfl) ?yd1 ?rd1
                case yd1 => (intro W hW; clear HC0 hownd hBd HS1 HS2 HSL hl h3 hown hB HX HXd HCE HINL HEL HDEF3 hge1 hlt1 HJ HN; have a0 := hW.1 0; have a1 := hW.1 1; have a2 := hW.1 2; have a3 := hW.1 3; have a4 := hW.1 4; have a5 := hW.1 5; have a6 := hW.1 6; clear hW; simp at a0 a1 a2 a3 a4 a5 a6; go_simp)
                refine RC.take (i := 2) (v := .slice (some ⟨bs, off, none⟩) l.length cap) rfl (by kernel_rfl) (by kernel_rfl) (by kernel_rfl) (fun _ _ _ h => h) HC0 (by kernel_rfl) ?yd2 ?rd2
                case yd2 => (intro W hW; clear HC0 hownd hBd HS1 HS2 HSL hl h3 hown hB HX HXd HCE HINL HEL HDEF3 hge1 hlt1 HJ HN; clear hW; go_simp)
                refine RC.take (i := 3) (v := .int .i64 (m : Int)) rfl (by kernel_rfl) (by kernel_rfl) (by kernel_rfl) (fun _ _ _ h => h) HC0 (by kernel_rfl) ?yd3 ?rd3
                case yd3 => (intro W hW; clear HC0 hownd hBd HS1 HS2 HSL hl h3 hown hB HX HXd HCE HINL HEL HDEF3 hge1 hlt1 HJ HN; clear hW; go_simp)
                refine RC.take (i := 4) (v := .int .i64 (j : Int)) rfl (by kernel_rfl) (by kernel_rfl) (by kernel_rfl) (fun _ _ _ h => h) HC0 (by kernel_rfl) ?yd4 ?rd4
                case yd4 => (intro W hW; clear HC0 hownd hBd HS1 HS2 HSL hl h3 hown hB HX HXd HCE HINL HEL HDEF3 hge1 hlt1 HJ HN; clear hW; go_simp)
                refine RC.take (i := 5) (v := .pointer (some ⟨bs, off + j, none⟩)) rfl (by kernel_rfl) (by kernel_rfl) (by kernel_rfl) (fun _ _ _ h => h) HC0 (by kernel_rfl) ?yd5 ?rd5
                case yd5 => (intro W hW; clear HC0 hownd hBd HS1 HS2 HSL hl h3 hown hB HX HXd HCE HINL HEL HDEF3 hge1 hlt1 HJ HN; clear hW; go_simp)
                refine RC.take (i := 6) (v := .string nj) rfl (by kernel_rfl) (by kernel_rfl) (by kernel_rfl) (fun _ _ _ h => h) HC0 (by kernel_rfl) ?yd6 ?rd6
                case yd6 => (intro W hW; clear HC0 hownd hBd HS1 HS2 HSL hl h3 hown hB HX HXd HCE HINL HEL HDEF3 hge1 hlt1 HJ HN; obtain ⟨_, b0, _⟩ := hW; go_simp)
                refine RC.take (i := 8) (v := .agg #[.int .i64 W, .int .i64 H, .int .i64 L, .slice ao3 ps.length cap3, .slice ao4 aw.length cap4, .slice ao5 ss.length cap5, .slice ao6 rs.length cap6]) rfl (by kernel_rfl) (by kernel_rfl) (by kernel_rfl) (fun _ _ _ h => h) HC0 (by kernel_rfl) ?yd8 ?rd8
                case yd8 => (intro W hW; clear HC0 hownd hBd HS1 HS2 HSL hl h3 hown hB HX HXd HCE HINL HEL HDEF3 hge1 hlt1 HJ HN; have a0 := hW.1 0; have a1 := hW.1 1; have a2 := hW.1 2; have a3 := hW.1 3; have a4 := hW.1 4; have a5 := hW.1 5; have a6 := hW.1 6; clear hW; simp at a0 a1 a2 a3 a4 a5 a6; go_simp)
                refine RC.take (i := 9) (v := .slice (some ⟨bs, off, none⟩) l.length cap) rfl (by kernel_rfl) (by kernel_rfl) (by kernel_rfl) (fun _ _ _ h => h) HC0 (by kernel_rfl) ?yd9 ?rd9
                case yd9 => (intro W hW; clear HC0 hownd hBd HS1 HS2 HSL hl h3 hown hB HX HXd HCE HINL HEL HDEF3 hge1 hlt1 HJ HN; clear hW; go_simp)
                refine RC.take (i := 10) (v := .int .i64 (m : Int)) rfl (by kernel_rfl) (by kernel_rfl) (by kernel_rfl) (fun _ _ _ h => h) HC0 (by kernel_rfl) ?yd10 ?rd10
                case yd10 => (intro W hW; clear HC0 hownd hBd HS1 HS2 HSL hl h3 hown hB HX HXd HCE HINL HEL HDEF3 hge1 hlt1 HJ HN; clear hW; go_simp)
                refine RC.take (i := 11) (v := .pointer (some ⟨bs, off + m, none⟩)) rfl (by kernel_rfl) (by kernel_rfl) (by kernel_rfl) (fun _ _ _ h => h) HC0 (by kernel_rfl) ?yd11 ?rd11
                case yd11 => (intro W hW; clear HC0 hownd hBd HS1 HS2 HSL hl h3 hown hB HX HXd HCE HINL HEL HDEF3 hge1 hlt1 HJ HN; clear hW; go_simp)
                refine RC.take (i := 12) (v := .string nm) rfl (by kernel_rfl) (by kernel_rfl) (by kernel_rfl) (fun _ _ _ h => h) HC0 (by kernel_rfl) ?yd12 ?rd12
                case yd12 => (intro W hW; clear HC0 hownd hBd HS1 HS2 HSL hl h3 hown hB HX HXd HCE HINL HEL HDEF3 hge1 hlt1 HJ HN; obtain ⟨_, _, b0⟩ := hW; go_simp)
                refine RC.want (i := 7) (by kernel_rfl) rfl (by kernel_rfl) (fun K hK => ?_)
                go_simp
                refine (HS1 _ (h3.later hBd)).mono ?_
                rintro e w3 ⟨rfl, hb3⟩
                simp only
                have HC3 := HC0.kept (hb3.block w.heap.size (by omega)) (hb3.block bs (by omega))
                have hown3 := kept_any hownd hb3
                have hB3 := hBd.trans (hb3.mono (by omega))
                have hs3 : w.heap.size + 2 ≤ w3.heap.size := Nat.le_trans hsd hb3.size
                have HX3 : Hid (w3.heap[w.heap.size]? = some (.cells #[.int .i64 W, .int .i64 H, .int .i64 L, .slice ao3 ps.length cap3, .slice ao4 aw.length cap4, .slice ao5 ss.length cap5, .slice ao6 rs.length cap6] 39 (0, 0))) := (hb3.block w.heap.size (by omega)).trans HXd.out
                refine hK _ _ HC3 ?_
                clear hK K HC0 hownd hBd hsd HXd hb3
                have HC0 := HC3
                have hownd := hown3
                have hBd := hB3
                have hsd := hs3
                have HXd := HX3
                clear HC3 hown3 hB3 hs3 HX3
                refine RC.want (i := 13) (by kernel_rfl) rfl (by kernel_rfl) (fun K hK => ?_)
                go_simp
                refine (HS2 _ (h3.later hBd)).mono ?_
                rintro e w4 ⟨rfl, hb3⟩
                simp only
                have HC3 := HC0.kept (hb3.block w.heap.size (by omega)) (hb3.block bs (by omega))
                have hown3 := kept_any hownd hb3
                have hB3 := hBd.trans (hb3.mono (by omega))
                have hs3 : w.heap.size + 2 ≤ w4.heap.size := Nat.le_trans hsd hb3.size
                have HX3 : Hid (w4.heap[w.heap.size]? = some (.cells #[.int .i64 W, .int .i64 H, .int .i64 L, .slice ao3 ps.length cap3, .slice ao4 aw.length cap4, .slice ao5 ss.length cap5, .slice ao6 rs.length cap6] 39 (0, 0))) := (hb3.block w.heap.size (by omega)).trans HXd.out
                refine hK _ _ HC3 ?_
                clear hK K HC0 hownd hBd hsd HXd hb3
                have HC0 := HC3
                have hownd := hown3
                have hBd := hB3
                have hsd := hs3
                have HXd := HX3
                clear HC3 hown3 hB3 hs3 HX3
                refine RC.want (i := 14) (by kernel_rfl) rfl (by kernel_rfl) (fun K hK => ?_)
                go_simp
                refine (HSL _).mono ?_
                rintro e w5 ⟨v5, rfl, hOL, hb3⟩
                simp only
                have HC3 := HC0.kept (hb3.block w.heap.size (by omega)) (hb3.block bs (by omega))
                have hown3 := kept_any hownd hb3
                have hB3 := hBd.trans (hb3.mono (by omega))
                have hs3 : w.heap.size + 2 ≤ w5.heap.size := Nat.le_trans hsd hb3.size
                have HX3 : Hid (w5.heap[w.heap.size]? = some (.cells #[.int .i64 W, .int .i64 H, .int .i64 L, .slice ao3 ps.length cap3, .slice ao4 aw.length cap4, .slice ao5 ss.length cap5, .slice ao6 rs.length cap6] 39 (0, 0))) := (hb3.block w.heap.size (by omega)).trans HXd.out
                refine hK _ _ HC3 ?_
                clear hK K HC0 hownd hBd hsd HXd hb3
                have HC0 := HC3
                have hownd := hown3
                have hBd := hB3
                have hsd := hs3
                have HXd := HX3
                clear HC3 hown3 hB3 hs3 HX3
                obtain ⟨gl, cl, rfl⟩ : ∃ gl cl, v5 = .slice (some ⟨gl, 0, none⟩) LG.length cl := by
                  rcases hOL.2 with ⟨_, h0⟩ | ⟨g, c, _, h1, _⟩
                  · omega
                  · exact ⟨g, c, h1⟩
                obtain ⟨hgl, hgl2, hcl, hcm⟩ := owned_block hOL
                unfold maxLen at hcm
                obtain ⟨ad, had, had2⟩ : ∃ ad : Addr, (if cl = 1 then some (⟨gl, 0, none⟩ : Addr) else some ⟨gl, 2, none⟩) = some ad ∧ (cl = 1 ∨ ad = ⟨gl, 2, none⟩) := by
                  by_cases hcl1 : cl = 1
                  · exact ⟨⟨gl, 0, none⟩, by rw [if_pos hcl1], .inl hcl1⟩
                  · exact ⟨⟨gl, 2, none⟩, by rw [if_neg hcl1], .inr rfl⟩
                have HAD : Hid _ := had2
                have hLGI : (1 : Int) ≤ (LG.length : Int) := by omega
                clear had2 HS1 HS2 HSL
                refine RC.take (i := 15) (v := .slice (some ad) (LG.length - 1) (cl - 1)) rfl (by kernel_rfl) (by kernel_rfl) (by kernel_rfl) (fun _ _ _ h => h) HC0 (by kernel_rfl) ?yd15 ?rd15
                case yd15 =>
                  intro W hW
                  clear hW HC0 hownd hBd hOL hl h3 hown hB HX HXd HCE HINL HEL HDEF3 hge1 hlt1 HJ HN HAD
                  have HAD : Hid _ := had
                  clear had
                  go_simp
                  exact HAD.out
                have hnews : ∀ j u, (cellVals (LG.drop 1))[j]? = some u → w5.cell? (ad.add j) = some u := fun j u hj => by
                  rcases HAD.out with h1 | h1
                  · have e : LG.drop 1 = [] := by rw [List.drop_eq_nil_iff]; omega
                    rw [e] at hj
                    simp [cellVals] at hj
                  · have hcs := hOL.cells (g := gl) rfl (2 + j) u (by rw [← hj, cellVals_drop1 LG, List.getElem?_drop])
                    have e1 : (⟨gl, 0, none⟩ : Addr).add (2 + j) = ⟨gl, 2 + j, none⟩ := by simp [Addr.add]
                    have e2 : (⟨gl, 2, none⟩ : Addr).add j = ⟨gl, 2 + j, none⟩ := by
                      unfold Addr.add
                      split
                      · simp_all
                      · rfl
                    rw [h1, e2, ← e1]
                    exact hcs
                have hnl : (cellVals (LG.drop 1)).length = (LG.length - 1) * 2 := by rw [cellVals_len, List.length_drop]
                refine RC.want (i := 16) (by kernel_rfl) rfl (by kernel_rfl) (fun K hK => ?_)
                refine wpOp_append _ _ _ 31 rfl (w.heap.size + 1) 67 i0 (.agg #[.int .i64 0, .int .i64 0]) 2 16 Tryz.underlying31 hi hz0 hz1 hz2 rfl (by decide) v (joinP E m).length _ rfl hownd ad (LG.length - 1) (cl - 1) (cellVals (LG.drop 1)) rfl hnl hnews (fun u hu => by
                    simp only [cellVals, List.mem_flatMap] at hu
                    obtain ⟨c, _, hu⟩ := hu
                    simp at hu
                    rcases hu with rfl | rfl <;> rfl) (by unfold maxLen; omega) (by omega) (by omega) ?_
                intro v' w6 hown' hgrow _
                have hne : ∀ b, v.ownBlock = some b → w.heap.size + 1 ≤ b := hge1
                have hb6 : ∀ q, q < w5.heap.size → q < w.heap.size + 1 → w6.heap[q]? = w5.heap[q]? := fun q hq hor => hgrow.block q hq (fun e => by have := hne q e.symm; omega)
                have HC6 := HC0.kept (hb6 w.heap.size (by omega) (by omega)) (hb6 bs (by omega) (by omega))
                have HX6 : Hid (w6.heap[w.heap.size]? = some (.cells #[.int .i64 W, .int .i64 H, .int .i64 L, .slice ao3 ps.length cap3, .slice ao4 aw.length cap4, .slice ao5 ss.length cap5, .slice ao6 rs.length cap6] 39 (0, 0))) := (hb6 w.heap.size (by omega) (by omega)).trans HXd.out
                have hB6 : Below w.heap.size w w6 := hBd.grown hgrow (by omega) (by intro q hq; have := hge1 q hq; omega)
                have hs6 : w.heap.size + 2 ≤ w6.heap.size := Nat.le_trans hsd hgrow.size
                have HO6 : Hid (w6.ownsRow (w.heap.size + 1) 67 2 v' (joinP E (m + 1)).length (cellVals (joinP E (m + 1)))) := by
                  show World.ownsRow _ _ _ _ _ _ _
                  rw [HJ.out, List.length_append, List.length_drop, cellVals_app]
                  exact hown'
                refine hK _ _ HC6 ?_
                clear hK K HC0 hownd hown' hgrow hBd hb6 hne HXd hsd hOL hnews hnl HAD had
                refine RC.take (i := 17) (v := v') rfl (by kernel_rfl) (by kernel_rfl) (by kernel_rfl) (fun _ _ _ h => h) HC6 (by kernel_rfl) ?yd17 ?rd17
                case yd17 => (intro W hW; clear hW HC6 hl h3 hB hown HX HCE HINL HEL HDEF3 hge1 hlt1 hB6 HX6 HO6 HJ HN; go_simp)
                refine RC.done (by kernel_rfl) ?_
                clear HC6 hB hown HJ HX
                go_wp2
                go_roundw
                case rel => exact ⟨m + 1, v', by omega, by go_num, rfl, HN, HO6.out, hB6, hs6, HX6⟩
                case measure => simp [intOf]; omega
          · have hme : m = l.length := by omega
            subst hme
            have hst : staysB l = false := by
              unfold staysB
              rw [List.any_eq_false]
              intro i hi'
              have := List.mem_range.1 hi'
              rw [hno.out i (by omega)]
              simp
            have HR : Hid (R = (joinP E l.length, 0)) := by have := HDEF3.out; rw [hst, HEL.out] at this; exact this
            have HO : Hid (wr.ownsRow w.heap.size 67 2 v (joinP E l.length).length (cellVals (joinP E l.length))) := ownsRow_base hown (show w.heap.size ≤ w.heap.size + 1 by omega)
            clear hown hno hst HDEF3
            go_wp2
            exact bodyPost_ret (v := .tuple #[v, .int .i64 0]) (by simp [results, Tryz.results7, go_sem]) rfl ⟨hB, v, by rw [HR.out], by rw [HR.out]; exact HO.out⟩

end Trk
end Go.Proofs.YtnjkkohhgbgpgaaGreatDoor
