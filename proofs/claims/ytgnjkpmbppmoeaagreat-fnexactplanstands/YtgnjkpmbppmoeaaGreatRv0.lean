/- DERIVED. What a value says: the five read methods: their walks (written by wip/tools/mk_rv.py). -/
import Derived.Test.YtgnjkpmbppmoeaaGreatGPw
import Derived.Test.YtgnjkpmbppmoeaaGreatPwI0
import Derived.Test.YtgnjkpmbppmoeaaGreatPwI1
import Derived.Test.YtgnjkpmbppmoeaaGreatFd0
import Derived.Test.YtgnjkpmbppmoeaaGreatRf0
namespace Go.Proofs.YtgnjkpmbppmoeaaGreat
open Go.RowKit
set_option linter.unusedSimpArgs false
set_option linter.unusedVariables false

set_option maxHeartbeats 1000000 in
theorem readKind (ao : Option Addr) (cap : Nat) (l : List DPlanKind) (v : ByteArray) (w : World) (h : SliceAt vPlanKind (old w) w ao cap l) :
    Calls Tryz.prog 151 #[.agg #[.slice ao l.length cap], .string v] w fun e w' => e = .returned (.tuple #[.iface 31 (.agg #[.string (findD nmK zK l v).1, .int .i64 (findD nmK zK l v).2.1, .int .i64 (findD nmK zK l v).2.2]), .bool (pb (HasNm nmK l v))]) ∧ Below w.heap.size w w' := by
  have hb0 : Below w.heap.size w (w.alloc (.cells #[.slice ao l.length cap] 184)) := (Below.refl _ _).alloc (Nat.le_refl _) _
  have HF := find_PlanKind ao cap l v _ (h.later hb0)
  generalize findD nmK zK l v = r at *
  generalize pb (HasNm nmK l v) = bv at *
  obtain ⟨n, q, s⟩ := r
  simp only at *
  go_enter Tryz.func151, Tryz.ntmps151
  go_wp2_with fail
  refine HF.mono ?_
  rintro e w1 ⟨rfl, hb1⟩
  have hB1 := hb0.trans (hb1.mono hb0.size)
  have hz1 := hB1.size
  clear HF hb1 hb0
  go_wp2
  refine bodyPost_ret (v := .tuple #[.iface 31 (.agg #[.string n, .int .i64 q, .int .i64 s]), .bool bv]) (by simp [results, Tryz.results151, go_sem]) rfl ⟨rfl, ?_⟩
  repeat (first | exact hB1 | refine Below.setCell ?_ (by first | (simp; done) | omega | (simp; omega)) _ | refine Below.alloc ?_ (by first | omega | (simp; omega)) _)

set_option maxHeartbeats 1000000 in
theorem readLevel (v : ByteArray) (w : World) (hv : v.size ≤ maxLen) :
    Calls Tryz.prog 156 #[.agg #[], .string v] w fun e w' => e = .returned (.tuple #[.iface 196 (.int .i64 (decZ v)), .bool (pb (LevelOk v))]) ∧ Below w.heap.size w w' := by
  have hb0 : Below w.heap.size w (w.alloc (.cells #[] 187)) := (Below.refl _ _).alloc (Nat.le_refl _) _
  have e1 : Hid (DecOk v → decZ v = decN v) := fun hd => (decZ_yes hd).out.2
  go_enter Tryz.func156, Tryz.ntmps156
  go_wp2_with fail
  refine (iDec v _ hv).mono ?_
  rintro e w1 ⟨rfl, hb1⟩
  have hB1 := hb0.trans (hb1.mono hb0.size)
  clear hb1
  by_cases hd : DecOk v
  · rw [pb_yes hd]
    by_cases hr : InR (decZ v) 1 6
    · have HR : Hid (pb (LevelOk v) = true) := pb_yes ⟨hd, by rw [← e1.out hd]; exact hr⟩
      clear hd
      go_wp2_with (go_at_call 109; refine (from_yes _ _ _ _ hr).mono ?_; rintro e w' ⟨rfl, rfl⟩)
      refine bodyPost_ret (v := .tuple #[.iface 196 (.int .i64 (decZ v)), .bool true]) (by simp [results, Tryz.results156, go_sem]) rfl ?_
      exact ⟨by rw [HR.out], hB1⟩
    · have HR : Hid (pb (LevelOk v) = false) := pb_no (fun h => hr (by rw [e1.out hd]; exact h.2))
      clear hd
      go_wp2_with (go_at_call 109; refine (from_no _ _ _ _ hr).mono ?_; rintro e w' ⟨rfl, rfl⟩)
      refine bodyPost_ret (v := .tuple #[.iface 196 (.int .i64 (decZ v)), .bool false]) (by simp [results, Tryz.results156, go_sem]) rfl ?_
      exact ⟨by rw [HR.out], hB1⟩
  · rw [pb_no hd]
    have HR : Hid (pb (LevelOk v) = false) := pb_no (fun h => hd h.1)
    clear hd
    go_wp2
    refine bodyPost_ret (v := .tuple #[.iface 196 (.int .i64 (decZ v)), .bool false]) (by simp [results, Tryz.results156, go_sem]) rfl ?_
    exact ⟨by rw [HR.out], hB1⟩

set_option maxHeartbeats 1000000 in
theorem readState (v : ByteArray) (w : World) :
    Calls Tryz.prog 158 #[.agg #[], .string v] w fun e w' => e = .returned (.tuple #[.iface 167 (.string v), .bool (pb (StateOk v))]) ∧ Below w.heap.size w w' := by
  have hb0 : Below w.heap.size w (w.alloc (.cells #[] 190)) := (Below.refl _ _).alloc (Nat.le_refl _) _
  have eo : openB.toList = [111, 112, 101, 110] := by rw [ByteArray.toList_eq]; rfl
  have ec : closedB.toList = [99, 108, 111, 115, 101, 100] := by rw [ByteArray.toList_eq]; rfl
  by_cases h1 : v = openB
  · have HR : Hid (pb (StateOk v) = true) := pb_yes (.inl h1)
    have hb : (v.toList == [111, 112, 101, 110]) = true := by rw [← eo]; exact beqL.2 h1
    clear h1 eo ec
    go_enter Tryz.func158, Tryz.ntmps158
    go_wp2
    refine bodyPost_ret (v := .tuple #[.iface 167 (.string v), .bool true]) (by simp [results, Tryz.results158, go_sem]) rfl ?_
    exact ⟨by rw [HR.out], hb0⟩
  · have hb : (v.toList == [111, 112, 101, 110]) = false := by rw [← eo]; exact beqL_no h1
    by_cases h2 : v = closedB
    · have HR : Hid (pb (StateOk v) = true) := pb_yes (.inr h2)
      have hb2 : (v.toList == [99, 108, 111, 115, 101, 100]) = true := by rw [← ec]; exact beqL.2 h2
      clear h1 h2 eo ec
      go_enter Tryz.func158, Tryz.ntmps158
      go_wp2
      refine bodyPost_ret (v := .tuple #[.iface 167 (.string v), .bool true]) (by simp [results, Tryz.results158, go_sem, hb2]) rfl ?_
      exact ⟨by rw [HR.out], hb0⟩
    · have HR : Hid (pb (StateOk v) = false) := pb_no (fun h => h.elim h1 h2)
      have hb2 : (v.toList == [99, 108, 111, 115, 101, 100]) = false := by rw [← ec]; exact beqL_no h2
      clear h1 h2 eo ec
      go_enter Tryz.func158, Tryz.ntmps158
      go_wp2
      refine bodyPost_ret (v := .tuple #[.iface 167 (.string v), .bool false]) (by simp [results, Tryz.results158, go_sem, hb2]) rfl ?_
      exact ⟨by rw [HR.out], hb0⟩

theorem TxtAt.two {w : World} {ao : Option Addr} {a b : ByteArray} (h : TxtAt w ao [a, b]) : ∃ g, ao = some ⟨g, 0, none⟩ ∧ g < w.heap.size ∧ w.cell? ⟨g, 0, none⟩ = some (.string a) ∧ w.cell? ⟨g, 1, none⟩ = some (.string b) := by
  rcases h with h | ⟨g, h1, h2, h3⟩
  · cases h
  · exact ⟨g, h1, h2, h3 0 (by simp), h3 1 (by simp)⟩

theorem timeOk_two (a b : ByteArray) : TimeOk [a, b] ↔ DecOk a ∧ DecOk b ∧ decN a ≤ decN b ∧ decN b ≤ 10000 := by
  constructor
  · rintro ⟨x, y, h, h1⟩
    simp only [List.cons.injEq, and_true] at h
    obtain ⟨rfl, rfl⟩ := h
    exact h1
  · intro h
    exact ⟨a, b, rfl, h⟩

theorem two_of {ws : List ByteArray} (h : ws.length = 2) : ∃ a b, ws = [a, b] := by
  match ws, h with
  | [a, b], _ => exact ⟨a, b, rfl⟩

set_option maxRecDepth 100000 in
set_option maxHeartbeats 2000000 in
theorem readTime (v : ByteArray) (w : World) (hv : v.size ≤ 1048576) :
    Calls Tryz.prog 153 #[.agg #[], .string v] w fun e w' => ∃ va, e = .returned (.tuple #[va, .bool (pb (TimeOk (wordsP v)))]) ∧ (∀ a b, wordsP v = [a, b] → va = .iface 194 (.agg #[.int .i64 (decZ a), .int .i64 (decZ b)])) ∧ Below w.heap.size w w' := by
  have hb0 : Below w.heap.size w (w.alloc (.cells #[] 186)) := (Below.refl _ _).alloc (Nat.le_refl _) _
  have hsz : ∀ x ∈ wordsP v, x.size ≤ maxLen := fun x hx => Nat.le_trans (wordsP_sizes v x hx) (by unfold maxLen; omega)
  have HWL : Hid ((wordsP v).length ≤ 1048577) := Nat.le_trans (wordsP_len v) (by omega)
  have HI := fun W => iWords v W hv
  generalize wordsP v = ws at *
  go_enter Tryz.func153, Tryz.ntmps153
  go_wp2_with fail
  refine (HI _).mono ?_
  rintro e w1 ⟨ao, cap, rfl, hT, hb1⟩
  have hB1 := hb0.trans (hb1.mono hb0.size)
  clear hb1 hb0 HI
  have hwl := HWL.out
  by_cases hl : ws.length = 2
  · obtain ⟨a, b, rfl⟩ := two_of hl
    have ha := hsz a (by simp)
    have hb := hsz b (by simp)
    obtain ⟨g, rfl, hg, c0, c1⟩ := hT.two
    clear hl hsz HWL hwl hT
    simp only [List.length_cons, List.length_nil, Nat.zero_add, Nat.reduceAdd]
    go_wp2_with fail
    refine (iDec a _ ha).mono ?_
    rintro e w2 ⟨rfl, hb2⟩
    have d1 := (hb2.cell (p := ⟨g, 1, none⟩) hg).trans c1
    have hg2 : g < w2.heap.size := Nat.lt_of_lt_of_le hg hb2.size
    have hB2 := hB1.trans (hb2.mono hB1.size)
    clear c0 c1 hg hb2 hB1
    go_wp2_with fail
    refine (iDec b _ hb).mono ?_
    rintro e w3 ⟨rfl, hb3⟩
    have hB3 := hB2.trans (hb3.mono hB2.size)
    clear hb3 hB2 d1
    have HE := timeOk_two a b
    have hv2 : Hid (∀ a' b', [a, b] = [a', b'] → (.iface 194 (.agg #[.int .i64 (decZ a), .int .i64 (decZ b)]) : Value) = .iface 194 (.agg #[.int .i64 (decZ a'), .int .i64 (decZ b')])) := fun a' b' e => by
      simp only [List.cons.injEq, and_true] at e
      rw [e.1, e.2]
    have hz1 : DecOk a → decZ a = decN a := fun h1 => (decZ_yes h1).out.2
    have hz2 : DecOk b → decZ b = decN b := fun h1 => (decZ_yes h1).out.2
    have HZ : Hid (TimeOk [a, b] ↔ DecOk a ∧ DecOk b ∧ decZ a ≤ decZ b ∧ decZ b ≤ 10000) := ⟨fun h => by
      obtain ⟨h1, h2, h3, h4⟩ := HE.1 h
      exact ⟨h1, h2, by rw [hz1 h1, hz2 h2]; exact h3, by rw [hz2 h2]; exact h4⟩, fun ⟨h1, h2, h3, h4⟩ => HE.2 ⟨h1, h2, by rw [← hz1 h1, ← hz2 h2]; exact h3, by rw [← hz2 h2]; exact h4⟩⟩
    clear HE hz1 hz2
    by_cases h1 : DecOk a
    · rw [pb_yes h1]
      by_cases h2 : DecOk b
      · rw [pb_yes h2]
        by_cases h3 : decZ a ≤ decZ b
        · by_cases h4 : decZ b ≤ 10000
          · have HR : Hid (pb (TimeOk [a, b]) = true) := pb_yes (HZ.out.2 ⟨h1, h2, h3, h4⟩)
            clear h1 h2 HZ
            go_wp2
            refine bodyPost_ret (v := .tuple #[.iface 194 (.agg #[.int .i64 (decZ a), .int .i64 (decZ b)]), .bool true]) (by simp [results, Tryz.results153, go_sem]) rfl ?_
            exact ⟨_, by rw [HR.out], hv2.out, hB3⟩
          · have HR : Hid (pb (TimeOk [a, b]) = false) := pb_no (fun h => h4 (HZ.out.1 h).2.2.2)
            have h4d : decide (decZ b ≤ 10000) = false := by simp; omega
            clear h1 h2 HZ
            go_wp2
            refine bodyPost_ret (v := .tuple #[.iface 194 (.agg #[.int .i64 (decZ a), .int .i64 (decZ b)]), .bool false]) (by simp [results, Tryz.results153, go_sem, h4d, h3]) rfl ?_
            exact ⟨_, by rw [HR.out], hv2.out, hB3⟩
        · have HR : Hid (pb (TimeOk [a, b]) = false) := pb_no (fun h => h3 (HZ.out.1 h).2.2.1)
          have h3d : decide (decZ a ≤ decZ b) = false := by simp; omega
          clear h1 h2 HZ
          go_wp2
          refine bodyPost_ret (v := .tuple #[.iface 194 (.agg #[.int .i64 (decZ a), .int .i64 (decZ b)]), .bool false]) (by simp [results, Tryz.results153, go_sem, h3d]) rfl ?_
          exact ⟨_, by rw [HR.out], hv2.out, hB3⟩
      · rw [pb_no h2]
        have HR : Hid (pb (TimeOk [a, b]) = false) := pb_no (fun h => h2 (HZ.out.1 h).2.1)
        clear h1 h2 HZ
        go_wp2
        refine bodyPost_ret (v := .tuple #[.iface 194 (.agg #[.int .i64 (decZ a), .int .i64 (decZ b)]), .bool false]) (by simp [results, Tryz.results153, go_sem]) rfl ?_
        exact ⟨_, by rw [HR.out], hv2.out, hB3⟩
    · rw [pb_no h1]
      have HR : Hid (pb (TimeOk [a, b]) = false) := pb_no (fun h => h1 (HZ.out.1 h).1)
      clear h1 HZ
      go_wp2
      refine bodyPost_ret (v := .tuple #[.iface 194 (.agg #[.int .i64 (decZ a), .int .i64 (decZ b)]), .bool false]) (by simp [results, Tryz.results153, go_sem]) rfl ?_
      exact ⟨_, by rw [HR.out], hv2.out, hB3⟩
  · have HR : Hid (pb (TimeOk ws) = false) := pb_no (fun ⟨a, b, h, _⟩ => hl (by rw [h]; rfl))
    have hlb : ((ws.length : Int) != 2) = true := by simp; omega
    clear hT hsz
    go_wp2
    refine bodyPost_ret (v := .tuple #[.nilIface, .bool false]) (by simp [results, Tryz.results153, go_sem]) rfl ?_
    exact ⟨_, by rw [HR.out], fun a b e => absurd (by rw [e]; rfl) hl, hB1⟩


set_option maxRecDepth 100000 in
set_option maxHeartbeats 2000000 in
theorem readRoute (ao : Option Addr) (cap : Nat) (ps : List DPlanPoint) (v : ByteArray) (w : World) (h : SliceAt vPlanPoint (old w) w ao cap ps) (hv : v.size ≤ 1048576) :
    Calls Tryz.prog 157 #[.agg #[.slice ao ps.length cap], .string v] w fun e w' => ∃ va, e = .returned (.tuple #[va, .bool (pb (RouteOk ps (wordsP v)))]) ∧ (RouteOk ps (wordsP v) → ∃ aw capw, va = .iface 198 (.slice aw (wordsP v).length capw) ∧ w'.ownsRow w.heap.size 9 1 (.slice aw (wordsP v).length capw) (wordsP v).length (strB (wordsP v))) ∧ Below w.heap.size w w' := by
  have hb0 : Below w.heap.size w (w.alloc (.cells #[.slice ao ps.length cap] 189)) := (Below.refl _ _).alloc (Nat.le_refl _) _
  have HWL : Hid ((wordsP v).length ≤ 1048577) := Nat.le_trans (wordsP_len v) (by omega)
  have HI := fun W => iWordsO v W hv
  generalize wordsP v = ws at *
  have hwl := HWL.out
  go_enter Tryz.func157, Tryz.ntmps157
  go_wp2_with fail
  refine (HI _).mono ?_
  rintro e w1 ⟨aw, capw, rfl, hO, hb1⟩
  have hB1 := hb0.trans (hb1.mono hb0.size)
  have x0 := box_in hb1 0
  simp at x0
  have hz1 : w.heap.size < w1.heap.size := by have := hb1.size; simp at this; omega
  have hT := TxO.of_txt (txt_of_owns rfl hO)
  have HO1 : Hid (w1.ownsRow w.heap.size 9 1 (.slice aw ws.length capw) ws.length (strB ws)) := by
    have h := hO
    rw [World.size_alloc] at h
    exact own_lo1 h
  clear hb1 hb0 HI HWL hO
  go_wp2_with fail
  refine (iRouteO ao cap ps aw capw ws _ (h.later hB1) hT hwl).mono ?_
  rintro e w2 ⟨rfl, hb2⟩
  have hB2 := hB1.trans (hb2.mono hB1.size)
  have HO2 : Hid (w2.ownsRow w.heap.size 9 1 (.slice aw ws.length capw) ws.length (strB ws)) := owns_below HO1.out hb2
  clear hb2 hB1 HO1 hT x0
  by_cases g : RouteOk ps ws
  · rw [pb_yes g]
    have G : Hid (RouteOk ps ws) := g
    clear g
    go_wp2
    refine bodyPost_ret (v := .tuple #[.iface 198 (.slice aw ws.length capw), .bool true]) (by simp [results, Tryz.results157, go_sem]) rfl ?_
    exact ⟨_, by rw [pb_yes G.out], fun _ => ⟨aw, capw, rfl, HO2.out⟩, hB2⟩
  · rw [pb_no g]
    have G : Hid (¬ RouteOk ps ws) := g
    clear g
    go_wp2
    refine bodyPost_ret (v := .tuple #[.nilIface, .bool false]) (by simp [results, Tryz.results157, go_sem]) rfl ?_
    exact ⟨_, by rw [pb_no G.out], fun h => absurd h G.out, hB2⟩

end Go.Proofs.YtgnjkpmbppmoeaaGreat
