/- DERIVED. impl.skyScan: its walk. -/
import Derived.Test.YtlkalmpmfblnfaaSw0
import Derived.Test.YtlkalmpmfblnfaaSw1
namespace Go.Proofs.Ytlkalmpmfblnfaa
open Go.RowKit
set_option linter.unusedSimpArgs false
set_option linter.unusedVariables false

def strs (ws : List (List UInt8)) : List Value := ws.map fun l => Value.string ⟨l.toArray⟩

/-- The scanner's value in a state. -/
def scanV (ao : Option Addr) (n cap : Nat) (wd : List UInt8) : Value :=
  if wd = [] then .iface 44 (.agg #[.slice ao n cap]) else .iface 73 (.agg #[.slice ao n cap, .string ⟨wd.toArray⟩])

theorem methGapRead (v : Value) (w : World) : (method (174 + 1) 44 (.agg #[v]) "loop.example/lapwing/impl.read").run Try.prog w = .ok (44, .agg #[v]) w := by kernel_rfl
theorem methGapWords (v : Value) (w : World) : (method (174 + 1) 44 (.agg #[v]) "loop.example/lapwing/impl.words").run Try.prog w = .ok (45, .agg #[v]) w := by kernel_rfl
theorem methWordRead (v u : Value) (w : World) : (method (174 + 1) 73 (.agg #[v, u]) "loop.example/lapwing/impl.read").run Try.prog w = .ok (48, .agg #[v, u]) w := by kernel_rfl
theorem methWordWords (v u : Value) (w : World) : (method (174 + 1) 73 (.agg #[v, u]) "loop.example/lapwing/impl.words").run Try.prog w = .ok (49, .agg #[v, u]) w := by kernel_rfl
theorem assertGap (v : Value) (w : World) : (Instr.typeAssert (.iface 44 v) 20 46 true).run Try.prog w = .ok (.tuple #[.iface 44 v, .bool true]) w := by kernel_rfl
theorem assertWord (v : Value) (w : World) : (Instr.typeAssert (.iface 73 v) 20 46 true).run Try.prog w = .ok (.tuple #[.iface 73 v, .bool true]) w := by kernel_rfl
theorem assertNil (w : World) : (Instr.typeAssert .nilIface 20 46 true).run Try.prog w = .ok (.tuple #[.nilIface, .bool false]) w := by kernel_rfl

theorem take_next (s : ByteArray) (k : Nat) (h : k < s.size) : s.data.toList.take (k + 1) = s.data.toList.take k ++ [s[k]] := by
  rw [List.take_succ_eq_append_getElem (by simpa using h)]; rfl

theorem run_next {s : ByteArray} {k : Nat} (h : k < s.size) {st st' : List (List UInt8) × List UInt8} (hr : Sw.runC ([], []) (s.data.toList.take k) = some st) (hs : Sw.stepC st s[k] = some st') : Sw.runC ([], []) (s.data.toList.take (k + 1)) = some st' := by
  rw [take_next s k h, Sw.runC_snoc, hr]; exact hs

theorem run_fails {s : ByteArray} {k : Nat} (h : k < s.size) {st : List (List UInt8) × List UInt8} (hr : Sw.runC ([], []) (s.data.toList.take k) = some st) (hs : Sw.stepC st s[k] = none) : Sw.wordsC s.data.toList = none := by
  have h1 : Sw.runC ([], []) (s.data.toList.take (k + 1)) = none := by rw [take_next s k h, Sw.runC_snoc, hr]; exact hs
  unfold Sw.wordsC
  rw [← List.take_append_drop (k + 1) s.data.toList, Sw.runC_app_none _ _ _ h1]; rfl

theorem run_ends {s : ByteArray} {k : Nat} (hk : k ≤ s.size) (h : ¬ k < s.size) {st : List (List UInt8) × List UInt8} (hr : Sw.runC ([], []) (s.data.toList.take k) = some st) : Sw.wordsC s.data.toList = some (Sw.endC st) := by
  rw [List.take_of_length_le (by simp; omega)] at hr
  simp [Sw.wordsC, hr]

theorem strs_len (ws : List (List UInt8)) : (strs ws).length = ws.length := by simp [strs]

theorem strs_snoc (ws : List (List UInt8)) (l : List UInt8) : strs (ws ++ [l]) = strs ws ++ [.string ⟨l.toArray⟩] := by simp [strs]

theorem owns_le {w : World} {b b' : Nat} {e : TypeId} {size : Nat} {v : Value} {n : Nat} {xs : List Value} (h : w.ownsRow b e size v n xs) (hb : b' ≤ b) : w.ownsRow b' e size v n xs := by
  refine ⟨h.1, ?_⟩
  rcases h.2 with hn | ⟨g, cap, cur, hv, hg, r⟩
  · exact .inl hn
  · exact .inr ⟨g, cap, cur, hv, by omega, r⟩

/-- What a round leaves: the iterator moved on, all below it as it was. -/
theorem it_after {w wr w2 : World} {s : ByteArray} {pos p : Nat} (hit : wr.heap[w.heap.size]? = some (.stringIter s pos)) (hbel : Below w.heap.size w wr) (h2 : Below (w.heap.size + 1) (wr.iterAt w.heap.size s p) w2) :
    w2.heap[w.heap.size]? = some (.stringIter s p) ∧ Below w.heap.size w w2 :=
  ⟨(h2.block _ (by omega)).trans (Lib.iterAt_heap _ _ _ _ _ hit), (Lib.below_iterAt hbel (Nat.le_refl _) s p).trans (h2.mono (by omega))⟩

theorem it_size {w wr : World} {s : ByteArray} {pos : Nat} (hit : wr.heap[w.heap.size]? = some (.stringIter s pos)) : w.heap.size + 1 ≤ wr.heap.size := by
  have := (Array.getElem?_eq_some_iff.1 hit).1; omega

theorem meas {wr w2 : World} {b : Nat} {s : ByteArray} {pos p : Nat} (h1 : wr.heap[b]? = some (.stringIter s pos)) (h2 : w2.heap[b]? = some (.stringIter s p)) (hp : pos < s.size) (hq : pos < p) : s.size - w2.iterPos b < s.size - wr.iterPos b := by
  rw [iterPos_of h1, iterPos_of h2]; omega

theorem ne32 {c : UInt8} (h : ¬ c = 32) : ((c.toNat : Int) == 32) = false := by
  simp only [beq_eq_false_iff_ne, ne_eq]
  intro e
  exact h (UInt8.toNat_inj.1 (by have : c.toNat = 32 := by omega
                                 rw [this]; rfl))

theorem gap_no {c : UInt8} {n : Nat} (h : ¬ (Sw.okB c = true ∧ n < 12)) (hn : n ≤ 12) : ((c.toNat : Int) < 33 ∨ 126 < (c.toNat : Int)) ∨ (33 ≤ (c.toNat : Int) ∧ (c.toNat : Int) ≤ 126 ∧ n = 12) := by
  simp only [Sw.okB, Bool.and_eq_true, decide_eq_true_eq] at h
  omega

theorem word_no {c : UInt8} {l : List UInt8} (h : ¬ (Sw.okB c = true ∧ l.length < 24)) (hn : l.length ≤ 24) : ((c.toNat : Int) < 33 ∨ 126 < (c.toNat : Int)) ∨ (33 ≤ (c.toNat : Int) ∧ (c.toNat : Int) ≤ 126 ∧ (((⟨l.toArray⟩ : ByteArray).size : Int) == 24) = true) := by
  have hsz : (⟨l.toArray⟩ : ByteArray).size = l.length := by simp [ByteArray.size]
  rw [hsz]
  simp only [Sw.okB, Bool.and_eq_true, decide_eq_true_eq] at h
  simp only [beq_iff_eq]
  omega

set_option maxHeartbeats 1000000 in
theorem scan_any (s : ByteArray) (w : World) (hs : s.size ≤ 1073741824) :
    Calls Try.prog 17 #[.string s] w fun e w' =>
      Below w.heap.size w w' ∧
      ((Sw.wordsC s.data.toList = none ∧ e = .returned (.tuple #[.slice none 0 0, .bool false])) ∨
       ∃ ws ao cap, Sw.wordsC s.data.toList = some ws ∧ e = .returned (.tuple #[.slice ao ws.length cap, .bool true]) ∧ w'.ownsRow w.heap.size 9 1 (.slice ao ws.length cap) ws.length (strs ws)) := by
  have hm1 := methGapRead
  have hm2 := methWordRead
  have hm3 := methGapWords
  have hm4 := methWordWords
  have ht1 := assertGap
  have ht2 := assertWord
  have ht3 := assertNil
  go_enter Try.func17, Try.ntmps17
  go_wp2
  go_loopw [4] (fun v wr => ∃ (pos : Nat) (cut : List (List UInt8)) (wd : List UInt8) (ao : Option Addr) (cap : Nat), pos ≤ s.size ∧ v = scanV ao cut.length cap wd ∧ Hid (Sw.runC ([], []) (s.data.toList.take pos) = some (cut, wd)) ∧
      wr.heap[w.heap.size]? = some (.stringIter s pos) ∧ wr.ownsRow (w.heap.size + 1) 9 1 (.slice ao cut.length cap) cut.length (strs cut) ∧ Below w.heap.size w wr) (fun _ wr => s.size - wr.iterPos w.heap.size)
  case atStart => exact ⟨0, [], [], none, 0, Nat.zero_le _, rfl, by show _ = _; simp [Sw.runC], World.iter_heap w s 0, World.ownsRow_nil _ _ _ _, (Below.refl _ _).alloc (Nat.le_refl _) _⟩
  case round =>
    obtain ⟨pos, cut, wd, ao, cap, hpos, rfl, hrun, hit, hown, hbel⟩ := hrel
    have hfine := Sw.fine_run Sw.fine_nil hrun.out
    have hsz := it_size hit
    by_cases hp : pos < s.size
    · by_cases ha : s[pos].toNat < 128
      · have hnx := fun ty => Lib.run_next_ascii_at (P := Try.prog) wr w.heap.size s pos ty hit hp ha
        have hown1 := ownsRow_iterAt hown (k := w.heap.size) (by omega) s (pos + 1)
        have hsz1 : w.heap.size + 1 ≤ (wr.iterAt w.heap.size s (pos + 1)).heap.size := by rw [Lib.iterAt_size]; exact hsz
        by_cases hw : wd = []
        · subst hw
          simp only [scanV, if_true]
          by_cases hc : s[pos] = 32
          · have hst : Sw.stepC (cut, []) s[pos] = some (cut, []) := by simp [Sw.stepC, hc]
            have hR := run_next hp hrun.out hst
            clear hrun hst
            go_wp2_with fail
            refine (gapRead_space ao cut.length cap _).mono ?_
            rintro e w2 ⟨rfl, hb⟩
            have hA := it_after hit hbel (hb.mono hsz1)
            have hO := owns_below hown1 hb
            have HR : Hid _ := hR
            clear hb hown hown1 hbel hR hc
            go_wp2
            go_roundw
            case rel => exact ⟨pos + 1, cut, [], ao, cap, by omega, rfl, HR, hA.1, hO, hA.2⟩
            case measure => exact meas hit hA.1 hp (by omega)
          · by_cases hk : Sw.okB s[pos] = true ∧ cut.length < 12
            · have hst : Sw.stepC (cut, []) s[pos] = some (cut, [s[pos]]) := by simp [Sw.stepC, hc, hk]
              have HR : Hid _ := run_next hp hrun.out hst
              have hk1 : 33 ≤ s[pos].toNat ∧ s[pos].toNat ≤ 126 := by simpa [Sw.okB] using hk.1
              have hk2 := hk.2
              clear hrun hst hk hc
              go_wp2_with fail
              refine (gapRead_new ao cut.length cap s[pos] _ hk1.1 hk1.2 hk2).mono ?_
              rintro e w2 ⟨rfl, hb⟩
              have hA := it_after hit hbel (hb.mono hsz1)
              have hO := owns_below hown1 hb
              clear hb hown hown1 hbel
              go_wp2
              go_roundw
              case rel => exact ⟨pos + 1, cut, [s[pos]], ao, cap, by omega, rfl, HR, hA.1, hO, hA.2⟩
              case measure => exact meas hit hA.1 hp (by omega)
            · have hst : Sw.stepC (cut, []) s[pos] = none := by simp only [Sw.stepC, hc, hk, if_true, if_false]
              have HR : Hid _ := run_fails hp hrun.out hst
              have h0 : (((s[pos]).toNat : Int) == 32) = false := ne32 hc
              have hcases : ((s[pos].toNat : Int) < 33 ∨ 126 < (s[pos].toNat : Int)) ∨ (33 ≤ (s[pos].toNat : Int) ∧ (s[pos].toNat : Int) ≤ 126 ∧ cut.length = 12) := gap_no hk hfine.1
              clear hrun hst hk hc
              go_wp2_with fail
              have hcall : Calls Try.prog 44 #[.agg #[.slice ao cut.length cap], .int .i32 s[pos].toNat] (wr.iterAt w.heap.size s (pos + 1)) fun e w' => e = .returned .nilIface ∧ Below (wr.iterAt w.heap.size s (pos + 1)).heap.size (wr.iterAt w.heap.size s (pos + 1)) w' := by
                rcases hcases with h | ⟨h1, h2, h3⟩
                · exact gapRead_bad _ _ _ _ _ h0 h
                · rw [h3]; exact gapRead_full _ _ _ _ h0 h1 h2
              refine hcall.mono ?_
              rintro e w2 ⟨rfl, hb⟩
              have hA := it_after hit hbel (hb.mono hsz1)
              clear hb hown hown1 hbel hcall
              go_wp2
              go_ret2
              exact ⟨hA.2, .inl ⟨HR.out, rfl⟩⟩
        · have hwl : wd.length ≤ 24 := hfine.2.2
          have hcl : cut.length < 12 := hfine.2.1 hw
          simp only [scanV, hw, if_false]
          by_cases hc : s[pos] = 32
          · have hst : Sw.stepC (cut, wd) s[pos] = some (cut ++ [wd], []) := by simp [Sw.stepC, hw, hc]
            have HR : Hid _ := run_next hp hrun.out hst
            clear hrun hst
            go_wp2_with fail
            refine (wordRead_space ao cut.length cap ⟨wd.toArray⟩ (w.heap.size + 1) (strs cut) _ (by omega) hsz1 hown1).mono ?_
            rintro e w2 ⟨g, cap', rfl, hO, hb⟩
            have hA := it_after hit hbel hb
            have hO2 : w2.ownsRow (w.heap.size + 1) 9 1 (.slice (some ⟨g, 0, none⟩) (cut ++ [wd]).length cap') (cut ++ [wd]).length (strs (cut ++ [wd])) := by rw [strs_snoc]; simpa using hO
            clear hb hO hown hown1 hbel hc hw
            go_wp2
            go_roundw
            case rel => exact ⟨pos + 1, cut ++ [wd], [], some ⟨g, 0, none⟩, cap', by omega, by simp [scanV], HR, hA.1, hO2, hA.2⟩
            case measure => exact meas hit hA.1 hp (by omega)
          · by_cases hk : Sw.okB s[pos] = true ∧ wd.length < 24
            · have hst : Sw.stepC (cut, wd) s[pos] = some (cut, wd ++ [s[pos]]) := by simp [Sw.stepC, hw, hc, hk]
              have HR : Hid _ := run_next hp hrun.out hst
              have hk1 : 33 ≤ s[pos].toNat ∧ s[pos].toNat ≤ 126 := by simpa [Sw.okB] using hk.1
              have hk2 : (⟨wd.toArray⟩ : ByteArray).size < 24 := by simpa [ByteArray.size] using hk.2
              clear hrun hst hk hc
              go_wp2_with fail
              refine (wordRead_more ao cut.length cap ⟨wd.toArray⟩ s[pos] _ hk1.1 hk1.2 hk2).mono ?_
              rintro e w2 ⟨rfl, hb⟩
              have hA := it_after hit hbel (hb.mono hsz1)
              have hO := owns_below hown1 hb
              rw [add_byte]
              clear hb hown hown1 hbel
              go_wp2
              go_roundw
              case rel => exact ⟨pos + 1, cut, wd ++ [s[pos]], ao, cap, by omega, by simp [scanV], HR, hA.1, hO, hA.2⟩
              case measure => exact meas hit hA.1 hp (by omega)
            · have hst : Sw.stepC (cut, wd) s[pos] = none := by simp only [Sw.stepC, hw, hc, hk, if_true, if_false]
              have HR : Hid _ := run_fails hp hrun.out hst
              have h0 : (((s[pos]).toNat : Int) == 32) = false := ne32 hc
              have hcases : ((s[pos].toNat : Int) < 33 ∨ 126 < (s[pos].toNat : Int)) ∨ (33 ≤ (s[pos].toNat : Int) ∧ (s[pos].toNat : Int) ≤ 126 ∧ (((⟨wd.toArray⟩ : ByteArray).size : Int) == 24) = true) := word_no hk hwl
              clear hrun hst hk hc
              go_wp2_with fail
              have hcall : Calls Try.prog 48 #[.agg #[.slice ao cut.length cap, .string ⟨wd.toArray⟩], .int .i32 s[pos].toNat] (wr.iterAt w.heap.size s (pos + 1)) fun e w' => e = .returned .nilIface ∧ Below (wr.iterAt w.heap.size s (pos + 1)).heap.size (wr.iterAt w.heap.size s (pos + 1)) w' := by
                rcases hcases with h | ⟨h1, h2, h3⟩
                · exact wordRead_bad _ _ _ _ _ _ h0 h
                · exact wordRead_full _ _ _ _ _ _ h0 h1 h2 h3
              refine hcall.mono ?_
              rintro e w2 ⟨rfl, hb⟩
              have hA := it_after hit hbel (hb.mono hsz1)
              clear hb hown hown1 hbel hcall
              go_wp2
              go_ret2
              exact ⟨hA.2, .inl ⟨HR.out, rfl⟩⟩
      · have hnx := fun ty => Lib.run_next_any_at (P := Try.prog) wr w.heap.size s pos ty hit hp
        have hhi := (decode_high s pos hp (by omega)).1
        obtain ⟨r, hr⟩ : ∃ r, r = (Utf8.decode s pos).1 := ⟨_, rfl⟩
        obtain ⟨p2, hp2⟩ : ∃ p, p = pos + (Utf8.decode s pos).2 := ⟨_, rfl⟩
        rw [← hr, ← hp2] at hnx
        rw [← hr] at hhi
        have hno : ¬ (Sw.okB s[pos] = true) := by simp [Sw.okB]; omega
        have h32 : ¬ s[pos] = 32 := by intro e; rw [e] at ha; exact ha (by decide)
        have hst : Sw.stepC (cut, wd) s[pos] = none := by simp [Sw.stepC, h32, hno]
        have HR : Hid _ := run_fails hp hrun.out hst
        have h0 : ((r : Int) == 32) = false := by simp; omega
        have hb1 : (r : Int) < 33 ∨ 126 < (r : Int) := by omega
        have hsz1 : w.heap.size + 1 ≤ (wr.iterAt w.heap.size s p2).heap.size := by rw [Lib.iterAt_size]; exact hsz
        clear hrun hst hno h32 hr hp2 hhi ha
        by_cases hw : wd = []
        · subst hw
          simp only [scanV, if_true]
          go_wp2_with fail
          refine (gapRead_bad _ _ _ _ _ h0 hb1).mono ?_
          rintro e w2 ⟨rfl, hb⟩
          have hA := it_after hit hbel (hb.mono hsz1)
          clear hb hown hbel
          go_wp2
          go_ret2
          exact ⟨hA.2, .inl ⟨HR.out, rfl⟩⟩
        · simp only [scanV, hw, if_false]
          go_wp2_with fail
          refine (wordRead_bad _ _ _ _ _ _ h0 hb1).mono ?_
          rintro e w2 ⟨rfl, hb⟩
          have hA := it_after hit hbel (hb.mono hsz1)
          clear hb hown hbel
          go_wp2
          go_ret2
          exact ⟨hA.2, .inl ⟨HR.out, rfl⟩⟩
    · have hnx := fun ty => Lib.run_next_end_at (P := Try.prog) wr w.heap.size s pos ty hit hp
      have HR : Hid _ := run_ends hpos hp hrun.out
      have hcl : cut.length ≤ 12 := hfine.1
      clear hrun
      by_cases hw : wd = []
      · subst hw
        simp only [scanV, if_true]
        go_wp2_with fail
        refine (gapWords_any ao cut.length cap _).mono ?_
        rintro e w2 ⟨rfl, hb⟩
        have hO := owns_le (owns_below hown hb) (b' := w.heap.size) (by omega)
        have hB := hbel.trans (hb.mono (by omega))
        clear hb hown hbel
        go_wp2
        go_ret2
        exact ⟨hB, .inr ⟨cut, ao, cap, HR.out, rfl, hO⟩⟩
      · simp only [scanV, hw, if_false]
        have HR2 : Hid (Sw.wordsC s.data.toList = some (cut ++ [wd])) := by have := HR.out; simp only [Sw.endC, hw, if_false] at this; exact this
        go_wp2_with fail
        refine (wordWords_any ao cut.length cap ⟨wd.toArray⟩ (w.heap.size + 1) (strs cut) _ (by omega) hsz hown).mono ?_
        rintro e w2 ⟨g, cap', rfl, hO, hb⟩
        have hO2 : w2.ownsRow w.heap.size 9 1 (.slice (some ⟨g, 0, none⟩) (cut ++ [wd]).length cap') (cut ++ [wd]).length (strs (cut ++ [wd])) := by rw [strs_snoc]; exact owns_le (by simpa using hO) (by omega)
        have hB := hbel.trans (hb.mono (by omega))
        clear hb hown hbel hO HR hw
        go_wp2
        go_ret2
        exact ⟨hB, .inr ⟨cut ++ [wd], some ⟨g, 0, none⟩, cap', HR2.out, by simp, hO2⟩⟩

end Go.Proofs.Ytlkalmpmfblnfaa
