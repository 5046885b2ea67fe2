/- DERIVED. slices.Contains at strings, slices.ContainsFunc at points, impl.skyHasPoint: their walks. -/
import Derived.Test.YthkpjljhjdjbfaaDoorIS0
import Derived.Test.YthkpjljhjdjbfaaDoorSkyM
namespace Go.Proofs.YthkpjljhjdjbfaaDoor
open Go.RowKit
set_option linter.unusedSimpArgs false
set_option linter.unusedVariables false

theorem toListI {a b : ByteArray} (h : a.toList = b.toList) : a = b := by
  rw [ByteArray.toList_eq, ByteArray.toList_eq] at h
  exact ByteArray.ext (Array.toList_inj.1 h)
theorem strI_yes {a b : ByteArray} (h : a = b) : (a.toList == b.toList) = true := by rw [h]; simp
theorem strI_no {a b : ByteArray} (h : a ≠ b) : (a.toList == b.toList) = false := by
  simp only [beq_eq_false_iff_ne, ne_eq]
  exact fun e => h (toListI e)

/-- One of the first i is the name. -/
def AmongTo (l : List ByteArray) (i : Nat) (name : ByteArray) : Prop := ∃ j, ∃ h : j < l.length, j < i ∧ (l[j]'h) = name

set_option maxHeartbeats 1000000 in
theorem index_str (b off cap i : Nat) (l : List ByteArray) (name : ByteArray) (w : World) (hi : i ≤ l.length) (hi8 : i ≤ 1000) (hc : ∀ j (h : j < l.length), w.cell? ⟨b, off + j, none⟩ = some (.string (l[j]'h))) :
    Calls Tryd.prog 92 #[.slice (some ⟨b, off, none⟩) i cap, .string name] w fun e w' => ((AmongTo l i name ∧ ∃ n : Nat, n ≤ 1000 ∧ e = .returned (.int .i64 n)) ∨ (¬ AmongTo l i name ∧ e = .returned (.int .i64 (-1)))) ∧ w = w' := by
  have HC : Hid (∀ j (h : j < l.length), w.cell? ⟨b, off + j, none⟩ = some (.string (l[j]'h))) := hc
  clear hc
  go_enter Tryd.func92, Tryd.ntmps92
  go_wp2
  go_loop [8] (fun v => ∃ k : Nat, k ≤ i ∧ v = .int .i64 k ∧ Hid (¬ AmongTo l k name)) (fun v => i - (intOf v).toNat)
  case atStart => exact ⟨0, Nat.zero_le _, rfl, fun ⟨j, _, h, _⟩ => by omega⟩
  case round =>
    obtain ⟨k, hk, rfl, hno⟩ := hrel
    by_cases hlt : k < i
    · have hkl : k < l.length := by omega
      have c0 := HC.out k hkl
      have hkI : (k : Int) < (i : Int) := by omega
      by_cases he : (l[k]'hkl) = name
      · have hq := strI_yes he.symm
        have HA : Hid (AmongTo l i name) := ⟨k, hkl, hlt, he⟩
        clear he hno
        go_wp2
        go_ret
        exact ⟨.inl ⟨HA.out, k, by omega, rfl⟩, rfl⟩
      · have hq := strI_no (fun e => he e.symm)
        have HN : Hid (¬ AmongTo l (k + 1) name) := fun ⟨j, h1, h2, h3⟩ => by
          by_cases e : j = k
          · subst e; exact he h3
          · exact hno.out ⟨j, h1, by omega, h3⟩
        clear he hno
        go_wp2
        go_round
        case rel => exact ⟨k + 1, by omega, by go_num, HN⟩
        case measure => simp [intOf]; omega
    · have hke : k = i := by omega
      subst hke
      have HN : Hid (¬ AmongTo l k name) := hno
      clear hno
      go_wp2
      go_ret
      exact ⟨.inr ⟨HN.out, rfl⟩, rfl⟩

set_option maxHeartbeats 1000000 in
theorem contains_str (b off cap i : Nat) (l : List ByteArray) (name : ByteArray) (w : World) (hi : i ≤ l.length) (hi8 : i ≤ 1000) (hc : ∀ j (h : j < l.length), w.cell? ⟨b, off + j, none⟩ = some (.string (l[j]'h))) :
    Calls Tryd.prog 84 #[.slice (some ⟨b, off, none⟩) i cap, .string name] w fun e w' => ((AmongTo l i name ∧ e = .returned (.bool true)) ∨ (¬ AmongTo l i name ∧ e = .returned (.bool false))) ∧ w = w' := by
  have HC : Hid (∀ j (h : j < l.length), w.cell? ⟨b, off + j, none⟩ = some (.string (l[j]'h))) := hc
  clear hc
  go_enter Tryd.func84, Tryd.ntmps84
  go_wp2_with fail
  refine (index_str b off cap i l name w hi hi8 HC.out).mono ?_
  rintro e w1 ⟨⟨ha, n, hn, rfl⟩ | ⟨ha, rfl⟩, rfl⟩
  · have HA : Hid (AmongTo l i name) := ha
    clear ha
    have hnI : (0 : Int) ≤ (n : Int) := by omega
    go_wp2
    go_ret
    exact ⟨.inl ⟨HA.out, by first | rfl | simp⟩, rfl⟩
  · have HA : Hid (¬ AmongTo l i name) := ha
    clear ha
    go_wp2
    go_ret
    exact ⟨.inr ⟨HA.out, by first | rfl | simp⟩, rfl⟩

set_option maxHeartbeats 1000000 in
theorem isPoint_any (n : ByteArray) (v1 v2 : Value) (bn : Nat) (name : ByteArray) (w : World) (hc : w.cell? ⟨bn, 0, none⟩ = some (.string name)) (hb : bn < w.heap.size) :
    Calls Tryd.prog 91 #[.agg #[.string n, v1, v2], .pointer (some ⟨bn, 0, none⟩)] w fun e w' => e = .returned (.bool (n.toList == name.toList)) ∧ Below w.heap.size w w' := by
  go_enter Tryd.func91, Tryd.ntmps91
  go_wp2
  go_ret
  exact ⟨rfl, (Below.refl _ _).alloc (Nat.le_refl _) _⟩

set_option maxHeartbeats 1000000 in
theorem indexFn_any (ao : Option Addr) (cap : Nat) (ps : List DSkyPoint) (bn : Nat) (name : ByteArray) (w : World) (hn : ps.length ≤ 1000) (h : SliceAt vSkyPoint (old w) w ao cap ps) (hc : w.cell? ⟨bn, 0, none⟩ = some (.string name)) (hb : bn < w.heap.size) :
    Calls Tryd.prog 96 #[.slice ao ps.length cap, .func (.func 91) #[] #[.pointer (some ⟨bn, 0, none⟩)]] w fun e w' => ((HasPoint ps name ∧ ∃ k : Nat, k ≤ 1000 ∧ e = .returned (.int .i64 k)) ∨ (¬ HasPoint ps name ∧ e = .returned (.int .i64 (-1)))) ∧ Below w.heap.size w w' := by
  go_enter Tryd.func96, Tryd.ntmps96
  go_wp2
  go_loopw [8] (fun v wr => ∃ k : Nat, k ≤ ps.length ∧ v = .int .i64 k ∧ Hid (∀ j (h : j < ps.length), j < k → (ps[j]'h).1 ≠ name) ∧ Below w.heap.size w wr) (fun v _ => ps.length - (intOf v).toNat)
  case atStart => exact ⟨0, Nat.zero_le _, rfl, fun j _ hj => by omega, Below.refl _ _⟩
  case round =>
    obtain ⟨k, hk, rfl, hno, hB⟩ := hrel
    have hcr := (hB.cell (p := ⟨bn, 0, none⟩) hb).trans hc
    have hbr : bn < wr.heap.size := Nat.lt_of_lt_of_le hb hB.size
    by_cases hlt : k < ps.length
    · obtain ⟨b, off, rfl, hok, c0, c1, c2, q0, q1, q2⟩ := elem_SkyPoint h hlt
      have f0 := (hB.cell (p := ⟨b, off + k * 3, none⟩) hok).trans c0
      have f1 := (hB.cell (p := ⟨b, off + k * 3 + 1, none⟩) hok).trans c1
      have f2 := (hB.cell (p := ⟨b, off + k * 3 + 2, none⟩) hok).trans c2
      have hkI : (k : Int) < (ps.length : Int) := by omega
      clear c0 c1 c2
      by_cases he : (ps[k]'hlt).1 = name
      · have hq := strI_yes he
        have HA : Hid (HasPoint ps name) := ⟨k, hlt, he⟩
        clear he hno
        go_wp2_with fail
        refine (isPoint_any _ _ _ bn name _ hcr hbr).mono ?_
        rintro e w1 ⟨rfl, hb1⟩
        have hB1 := hB.trans (hb1.mono hB.size)
        clear hb1
        go_wp2
        go_ret
        exact ⟨.inl ⟨HA.out, k, by omega, rfl⟩, hB1⟩
      · have hq := strI_no he
        have HN : Hid (∀ j (h : j < ps.length), j < k + 1 → (ps[j]'h).1 ≠ name) := fun j hj h1 => by
          by_cases e : j = k
          · subst e; exact he
          · exact hno.out j hj (by omega)
        clear he hno
        go_wp2_with fail
        refine (isPoint_any _ _ _ bn name _ hcr hbr).mono ?_
        rintro e w1 ⟨rfl, hb1⟩
        have hB1 := hB.trans (hb1.mono hB.size)
        clear hb1
        go_wp2
        go_roundw
        case rel => exact ⟨k + 1, by omega, by go_num, HN, hB1⟩
        case measure => simp [intOf]; omega
    · have hke : k = ps.length := by omega
      subst hke
      have HN : Hid (¬ HasPoint ps name) := fun ⟨j, hj, e⟩ => hno.out j hj hj e
      clear hno
      go_wp2
      go_ret
      exact ⟨.inr ⟨HN.out, rfl⟩, hB⟩

set_option maxHeartbeats 1000000 in
theorem containsFn_any (ao : Option Addr) (cap : Nat) (ps : List DSkyPoint) (bn : Nat) (name : ByteArray) (w : World) (hn : ps.length ≤ 1000) (h : SliceAt vSkyPoint (old w) w ao cap ps) (hc : w.cell? ⟨bn, 0, none⟩ = some (.string name)) (hb : bn < w.heap.size) :
    Calls Tryd.prog 90 #[.slice ao ps.length cap, .func (.func 91) #[] #[.pointer (some ⟨bn, 0, none⟩)]] w fun e w' => ((HasPoint ps name ∧ e = .returned (.bool true)) ∨ (¬ HasPoint ps name ∧ e = .returned (.bool false))) ∧ Below w.heap.size w w' := by
  go_enter Tryd.func90, Tryd.ntmps90
  go_wp2_with fail
  refine (indexFn_any ao cap ps bn name w hn h hc hb).mono ?_
  rintro e w1 ⟨⟨ha, n, hn, rfl⟩ | ⟨ha, rfl⟩, hb1⟩
  · have HA : Hid (HasPoint ps name) := ha
    clear ha
    have hnI : (0 : Int) ≤ (n : Int) := by omega
    go_wp2
    go_ret
    exact ⟨.inl ⟨HA.out, by first | rfl | simp⟩, hb1⟩
  · have HA : Hid (¬ HasPoint ps name) := ha
    clear ha
    go_wp2
    go_ret
    exact ⟨.inr ⟨HA.out, by first | rfl | simp⟩, hb1⟩

set_option maxHeartbeats 1000000 in
theorem hasPoint_any (W H L : Int) (ao : Option Addr) (cap : Nat) (ps : List DSkyPoint) (b c d : Value) (name : ByteArray) (w : World) (hn : ps.length ≤ 1000) (h : SliceAt vSkyPoint (old w) w ao cap ps) :
    Calls Tryd.prog 83 #[.agg #[.int .i64 W, .int .i64 H, .int .i64 L, .slice ao ps.length cap, b, c, d], .string name] w fun e w' => ((HasPoint ps name ∧ e = .returned (.bool true)) ∨ (¬ HasPoint ps name ∧ e = .returned (.bool false))) ∧ Below w.heap.size w w' := by
  have hb2 : Below w.heap.size w ((w.alloc (.cells #[.int .i64 W, .int .i64 H, .int .i64 L, .slice ao ps.length cap, b, c, d] 38)).alloc (.cells #[.string name] 9)) := ((Below.refl _ _).alloc (Nat.le_refl _) _).alloc (by simp) _
  go_enter Tryd.func83, Tryd.ntmps83
  go_wp2_with fail
  refine (containsFn_any ao cap ps (w.heap.size + 1) name _ hn (h.later hb2) (by go_simp) (by simp)).mono ?_
  rintro e w1 ⟨⟨ha, rfl⟩ | ⟨ha, rfl⟩, hb1⟩
  · have HA : Hid (HasPoint ps name) := ha
    clear ha
    have hb3 := hb2.trans (hb1.mono hb2.size)
    clear hb1 hb2
    go_wp2
    go_ret
    exact ⟨.inl ⟨HA.out, rfl⟩, hb3⟩
  · have HA : Hid (¬ HasPoint ps name) := ha
    clear ha
    have hb3 := hb2.trans (hb1.mono hb2.size)
    clear hb1 hb2
    go_wp2
    go_ret
    exact ⟨.inr ⟨HA.out, rfl⟩, hb3⟩

end Go.Proofs.YthkpjljhjdjbfaaDoor
