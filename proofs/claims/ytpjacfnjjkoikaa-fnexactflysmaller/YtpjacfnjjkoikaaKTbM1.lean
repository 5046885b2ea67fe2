/- DERIVED. Rooms by their cells: a map of rows of rooms (written by wip/tools/mk_tb.py). -/
import Derived.Test.YtpjacfnjjkoikaaKTbR0
import Derived.Test.YtpjacfnjjkoikaaKTbM0
import Derived.DeepKeys4
import Derived.Carry
namespace Go.Proofs.Ytpjacfnjjkoikaa
namespace Fly
open Go.RowKit Go.Maps
open Go.WideMaps (KeyLaw)
set_option linter.unusedSimpArgs false
set_option linter.unusedVariables false


def InC (c : Int × Int) : Prop := In64 c.1 ∧ In64 c.2
abbrev cellVal (c : Int × Int) : Value := .agg #[.int .i64 c.1, .int .i64 c.2]
def cellLit (c : Int × Int) : Lit := .string (keyBytes [.int .i64 c.1, .int .i64 c.2])
theorem cellLaid : laidOutB Try.prog = true := by kernel_rfl
theorem cellRow : (87 : TypeId) < Try.prog.types.size := of_decide_eq_true (by kernel_rfl)
theorem cellWide : (match Try.prog.underlying 87 with | some (.array _ _) | some (.struct _) => true | _ => false) = true := by rw [Try.underlying87]
set_option maxRecDepth 100000 in
theorem cellLaw : KeyLaw Try.prog 87 := deep_law_laid cellLaid (m := 2) (by omega) cellRow (by kernel_rfl) cellWide
theorem roomsT : Try.prog.underlying 84 = some (.map 87 92) := by kernel_rfl
theorem cIntT : Try.prog.underlying 3 = some (.int .i64) := by kernel_rfl
theorem roomsZ (u : World) : (zeroValue 92).run Try.prog u = .ok (.slice none 0 0) u := by kernel_rfl
theorem cWf64 {x : Int} (h : In64 x) : (Lit.int .i64 x).wf = true := by
  simpa [In64, Lit.wf, IntKind.min, IntKind.max, IntKind.signed, IntKind.bits] using h
theorem cLitInt (d : Nat) {x : Int} (h : In64 x) : Try.prog.keyLits (d + 1) 3 [.int .i64 x] = some [.int .i64 x] := by
  have := cWf64 h
  simp [Program.keyLits, cIntT, this]
theorem cellCells : Try.prog.cellsOf 87 = 2 := by kernel_rfl
theorem cIntCells : Try.prog.cellsOf 3 = 1 := by kernel_rfl
theorem cSucc {k n : Nat} (h : k < n) : ∃ d, n = d + 1 := ⟨n - 1, by omega⟩
theorem cellKT : Try.prog.keyType 87 = true := by kernel_rfl
theorem cellKey (c : Int × Int) (h : InC c) : keyOf Try.prog 87 (cellVal c) = some (cellLit c) := by
  obtain ⟨x, y⟩ := c
  obtain ⟨h1, h2⟩ := h
  obtain ⟨d, hd⟩ := cSucc cellRow
  have hf : (Value.agg #[.int .i64 x, .int .i64 y]).formed Try.prog 87 = true := by simp [Value.formed, Try.underlying87, cellCells]
  have hl : Try.prog.keyLits (Try.prog.types.size + 1) 87 [.int .i64 x, .int .i64 y] = some [.int .i64 x, .int .i64 y] := by
    rw [hd]
    unfold Program.keyLits
    rw [Try.underlying87]
    simp only [cellCells]
    simp [cIntCells, cLitInt d h1, cLitInt d h2]
  unfold keyOf
  rw [Try.underlying87]
  simp only [cellKT, hf, Bool.and_self, if_true]
  show Option.map _ (Try.prog.keyLits (Try.prog.types.size + 1) 87 [.int .i64 x, .int .i64 y]) = _
  rw [hl]
  rfl
theorem cellInj {s t : Int × Int} (hs : InC s) (ht : InC t) (h : cellLit s = cellLit t) : s = t := by
  have := cellLaw.inj (cellKey s hs) (h ▸ cellKey t ht)
  obtain ⟨x, y⟩ := s
  obtain ⟨x', y'⟩ := t
  simpa using this
theorem cellIsKey (s : Int × Int) (h : InC s) : WideAt.IsKeyLit (cellLit s) := (Keyed.of_law cellLaw).key (cellKey s h)
theorem infoRoom : (Try.prog.info? 89).map (fun i => (i.zero, i.size, i.bytes)) = some (some (.agg #[.int .i64 0, .int .i64 0, .int .i64 0, .int .i64 0, .int .i64 0, .int .i64 0]), 6, 48) := by kernel_rfl

/-- Block B is a map that has, under each cell c, the row of the rooms f c, each row in a block of its own from base on. -/
def Rooms (w : World) (B base : Nat) (f : Int × Int → List DFlyBox) (n : Nat) : Prop :=
  ∃ (D : DataW Value) (hv : Int × Int → Value), w.ownsMap Try.prog 87 asIs B n D ∧ (∀ c, InC c → D.atKey (cellLit c) (.held (.slice none 0 0)) = .held (hv c)) ∧
    (∀ c, InC c → w.ownsRow base 89 6 (hv c) (f c).length (valsFlyBox (f c))) ∧ (∀ c d, InC c → InC d → c ≠ d → (hv c).ownBlock = none ∨ (hv c).ownBlock ≠ (hv d).ownBlock) ∧ B < base
theorem Rooms.made (w : World) : Rooms (w.alloc (.map #[] 0)) w.heap.size (w.heap.size + 1) (fun _ => []) 0 :=
  ⟨.map [], fun _ => .slice none 0 0, World.ownsMap_made w _ _ _, fun _ _ => rfl, fun _ _ => World.ownsRow_nil _ _ _ _, fun _ _ _ _ _ => .inl rfl, Nat.lt_succ_self _⟩
theorem Rooms.next {w w' : World} {B base n : Nat} {f : Int × Int → List DFlyBox} (h : Rooms w B base f n) (hb : Below w.heap.size w w') : Rooms w' B base f n := by
  obtain ⟨D, hv, ⟨es, clock, h1, h2⟩, h3, h4, h5, h6⟩ := h
  exact ⟨D, hv, ⟨es, clock, (hb.block B (Array.getElem?_eq_some_iff.1 h1).1).trans h1, h2⟩, h3, fun c hc => owns_below (h4 c hc) hb, h5, h6⟩
theorem Rooms.lt {w : World} {B base n : Nat} {f : Int × Int → List DFlyBox} (h : Rooms w B base f n) : B < w.heap.size := by
  obtain ⟨D, hv, h1, _⟩ := h
  exact h1.lt
theorem Rooms.look {w : World} {B base n : Nat} {f : Int × Int → List DFlyBox} (h : Rooms w B base f n) (c : Int × Int) (hc : InC c) :
    ∃ v, (Instr.lookup 84 (.map (some B)) (cellVal c) false).run Try.prog w = .ok v w ∧ w.ownsRow base 89 6 v (f c).length (valsFlyBox (f c)) := by
  obtain ⟨D, hv, h1, h2, h3, _⟩ := h
  obtain ⟨v, hl, hat⟩ := own_look cellLaw roomsT (roomsZ w) h1 (cellKey c hc)
  rw [h2 c hc] at hat
  cases hat
  exact ⟨_, hl, h3 c hc⟩
theorem Rooms.entry {w : World} {B base n : Nat} {f : Int × Int → List DFlyBox} (h : Rooms w B base f n) (hn : n < maxLen) (c : Int × Int) (hc : InC c) :
    ∃ (v : Value) (st : Nat) (w2 : World), (Instr.mapEntry 84 (.map (some B)) (cellVal c)).run Try.prog w = .ok (.tuple #[v, .int .i64 st]) w2 ∧ w.grownBy w2 (some B) ∧ w2.heap.size = w.heap.size ∧
      w2.ownsRow base 89 6 v (f c).length (valsFlyBox (f c)) ∧ base ≤ base ∧
      ∀ (w3 : World) (v' : Value) (r : DFlyBox), w3.ownsRow base 89 6 v' ((f c).length + 1) (valsFlyBox (f c) ++ [.int .i64 r.1, .int .i64 r.2.1, .int .i64 r.2.2.1, .int .i64 r.2.2.2.1, .int .i64 r.2.2.2.2.1, .int .i64 r.2.2.2.2.2]) → w2.grownBy w3 v.ownBlock → (v'.ownBlock = v.ownBlock ∨ v'.ownBlock = some w2.heap.size) →
        ∃ w4, (Instr.entryStore 84 (.map (some B)) (.int .i64 st) v').run Try.prog w3 = .ok () w4 ∧ Rooms w4 B base (fun d => if d = c then f c ++ [r] else f d) (n + 1) ∧ ∀ A a, A ≤ B → Below A a w → A ≤ w.heap.size → Below A a w4 := by
  obtain ⟨D, hv, h1, h2, h3, h4, h5⟩ := h
  have hBlt := h1.lt
  have hmap : IsMap D := by obtain ⟨es, clock, _, _, _, e⟩ := h1; exact ⟨_, e⟩
  obtain ⟨v, st, w2, hat, hrun, hg, hz, hst⟩ := own_entry cellLaw roomsT roomsZ h1 hn (cellKey c hc)
  rw [h2 c hc] at hat
  cases hat
  have hrow2 : ∀ d, InC d → w2.ownsRow base 89 6 (hv d) (f d).length (valsFlyBox (f d)) := fun d hd => (h3 d hd).kept hg (by
    cases e : (hv d).ownBlock with
    | none => exact .inl rfl
    | some q => right; intro e1; have := ((h3 d hd).lt q e).1; cases e1; omega)
  refine ⟨hv c, st, w2, hrun, hg, hz, hrow2 c hc, Nat.le_refl _, fun w3 v' r hown hg3 hpos => ?_⟩
  have hcb : ∀ q, (hv c).ownBlock = some q → base ≤ q ∧ q < w2.heap.size := fun q hq => (hrow2 c hc).lt q hq
  have hb3 : w3.heap[B]? = w2.heap[B]? := hg3.block B (by omega) (fun e => by have := (hcb B e.symm).1; omega)
  obtain ⟨w4, hrun4, hown4, hg4, hz4⟩ := hst w3 v' hb3
  refine ⟨w4, hrun4, ⟨D.put (cellLit c) (.held v'), fun d => if d = c then v' else hv d, hown4, fun d hd => ?_, fun d hd => ?_, fun d d' hd hd' hne => ?_, h5⟩, fun A a hA hb hA2 => ?_⟩
  · show (D.put (cellLit c) (.held v')).atKey (cellLit d) (.held (.slice none 0 0)) = .held (if d = c then v' else hv d)
    by_cases e : d = c
    · subst e
      rw [if_pos rfl, atKey_put_same hmap (cellIsKey d hd)]
    · rw [if_neg e, atKey_put_other (fun e1 => e (cellInj hd hc e1)), h2 d hd]
  · by_cases e : d = c
    · subst e
      simp only [if_pos]
      have h6 := hown.kept hg4 (by
        cases e : v'.ownBlock with
        | none => exact .inl rfl
        | some q => right; intro e1; have := (hown.lt q e).1; cases e1; omega)
      rw [List.length_append, valsFlyBox_app]
      exact h6
    · simp only [if_neg e]
      have h6 : w3.ownsRow base 89 6 (hv d) (f d).length (valsFlyBox (f d)) := (hrow2 d hd).kept hg3 (h4 d c hd hc e)
      exact h6.kept hg4 (by
        cases e : (hv d).ownBlock with
        | none => exact .inl rfl
        | some q => right; intro e1; have := (h6.lt q e).1; cases e1; omega)
  · have hnew : ∀ d, InC d → d ≠ c → (hv d).ownBlock = none ∨ (hv d).ownBlock ≠ v'.ownBlock := fun d hd e => by
      rcases hpos with h7 | h7
      · rw [h7]; exact h4 d c hd hc e
      · cases e1 : (hv d).ownBlock with
        | none => exact .inl rfl
        | some q => right; rw [h7]; intro e2; have := ((hrow2 d hd).lt q e1).2; cases e2; omega
    show (if d = c then v' else hv d).ownBlock = none ∨ (if d = c then v' else hv d).ownBlock ≠ (if d' = c then v' else hv d').ownBlock
    by_cases e : d = c
    · subst e
      rw [if_pos rfl, if_neg (fun e => hne e.symm)]
      rcases hnew d' hd' (fun e => hne e.symm) with h7 | h7
      · rw [h7]
        cases e1 : v'.ownBlock with
        | none => exact .inl rfl
        | some q => right; intro e2; cases e2
      · right; exact fun e => h7 e.symm
    · rw [if_neg e]
      by_cases e' : d' = c
      · rw [if_pos e']; exact hnew d hd e
      · rw [if_neg e']; exact h4 d d' hd hd' hne
  · have q1 := hb.grown hg hA2 (fun j hj => by cases hj; exact hA)
    have q2 := q1.grown hg3 (by omega) (fun j hj => by have := (hcb j hj).1; omega)
    exact q2.grown hg4 (by have := hg3.size; omega) (fun j hj => by cases hj; exact hA)

def roomsOf (m : List DFlyBox) (k : Nat) (c : Int × Int) : List DFlyBox := (m.take k).filter fun r => decide (r.1 = c.1 ∧ r.2.1 = c.2)
theorem roomsOf_zero (m : List DFlyBox) : roomsOf m 0 = fun _ => [] := rfl
theorem roomsOf_succ (m : List DFlyBox) (k : Nat) (h : k < m.length) : roomsOf m (k + 1) = fun d => if d = ((m[k]'h).1, (m[k]'h).2.1) then roomsOf m k ((m[k]'h).1, (m[k]'h).2.1) ++ [m[k]'h] else roomsOf m k d := by
  funext d
  unfold roomsOf
  rw [List.take_succ_eq_append_getElem h, List.filter_append]
  by_cases e : d = ((m[k]'h).1, (m[k]'h).2.1)
  · subst e
    rw [if_pos rfl]
    simp
  · rw [if_neg e]
    have : decide ((m[k]'h).1 = d.1 ∧ (m[k]'h).2.1 = d.2) = false := by
      simp only [decide_eq_false_iff_not]
      rintro ⟨e1, e2⟩
      exact e (Prod.ext e1.symm e2.symm)
    have h0 : ([m[k]'h].filter fun r => decide (r.1 = d.1 ∧ r.2.1 = d.2)) = [] := by
      rw [List.filter_cons]
      simp only [this]
      rfl
    rw [h0, List.append_nil]
theorem roomsOf_len (m : List DFlyBox) (k : Nat) (c : Int × Int) (h : k ≤ m.length) : (roomsOf m k c).length ≤ k := by
  unfold roomsOf
  have := List.length_filter_le (fun r : DFlyBox => decide (r.1 = c.1 ∧ r.2.1 = c.2)) (m.take k)
  rw [List.length_take] at this
  omega

set_option maxRecDepth 100000 in
set_option maxHeartbeats 8000000 in
theorem iRoomsOf (m : List DFlyBox) (ao : Option Addr) (cap : Nat) (w : World) (h : SliceAt vFlyBox (old w) w ao cap m) (hl : m.length ≤ 1099511627776) :
    Calls Try.prog 62 #[.slice ao m.length cap] w fun e w' => ∃ B, e = .returned (.map (some B)) ∧ Rooms w' B (B + 1) (roomsOf m m.length) m.length ∧ Below w.heap.size w w' := by
  obtain ⟨i0, hi, hz0, hz1, hz2⟩ := info_parts infoRoom
  have hcl := h.1
  have hcm : cap ≤ 9223372036854775807 := h.2.1
  have hR0 : Rooms (w.alloc (.map #[] 0)) w.heap.size (w.heap.size + 1) (roomsOf m 0) 0 := Rooms.made w
  have hB0 : Below w.heap.size w (w.alloc (.map #[] 0)) := (Below.refl _ _).alloc (Nat.le_refl _) _
  have hmm := @run_makeMap Try.prog
  go_enter Try.func62, Try.ntmps62
  go_wp2
  go_loopw [10] (fun i wr => ∃ k : Nat, k ≤ m.length ∧ i = .int .i64 k ∧ Rooms wr w.heap.size (w.heap.size + 1) (roomsOf m k) k ∧ Below w.heap.size w wr ∧ w.heap.size < wr.heap.size) (fun i _ => m.length - (intOf i).toNat)
  case atStart => exact ⟨0, Nat.zero_le _, rfl, hR0, hB0, by simp⟩
  case round =>
    clear hR0 hB0
    obtain ⟨k, hk, rfl, hR, hB, hzw⟩ := hrel
    by_cases hlt : k < m.length
    · obtain ⟨b, off, rfl, hok, c0, c1, c2, c3, c4, c5, p0, p1, p2, p3, p4, p5⟩ := elem_FlyBox h hlt
      have hkI : (k : Int) < (m.length : Int) := by omega
      have d0 := (hB.cell (p := ⟨b, off + k * 6, none⟩) hok).trans c0
      have d1 := (hB.cell (p := ⟨b, off + k * 6 + 1, none⟩) hok).trans c1
      have d2 := (hB.cell (p := ⟨b, off + k * 6 + 2, none⟩) hok).trans c2
      have d3 := (hB.cell (p := ⟨b, off + k * 6 + 3, none⟩) hok).trans c3
      have d4 := (hB.cell (p := ⟨b, off + k * 6 + 4, none⟩) hok).trans c4
      have d5 := (hB.cell (p := ⟨b, off + k * 6 + 5, none⟩) hok).trans c5
      have HSU := hid (roomsOf_succ m k hlt)
      have hfl := roomsOf_len m k ((m[k]'hlt).1, (m[k]'hlt).2.1) hk
      have hC : InC ((m[k]'hlt).1, (m[k]'hlt).2.1) := ⟨p0, p1⟩
      obtain ⟨f1, hf1⟩ : ∃ f1, roomsOf m (k + 1) = f1 := ⟨_, rfl⟩
      rw [hf1] at HSU
      have HF1 := hid hf1
      clear hf1
      generalize roomsOf m k = f0 at *
      generalize m[k]'hlt = r at *
      clear c0 c1 c2 c3 c4 c5 p2 p3 p4 p5 p0 p1
      have HR := hid hR
      have HB := hid hB
      have HC := hid hC
      have HIR := fun W => iRoom r W
      obtain ⟨rx, ry, rl, rh, ri, ro⟩ := r
      simp only at d0 d1 d2 d3 d4 d5 hfl HIR
      clear hR hB hC h
      have hba : Below wr.heap.size wr (wr.alloc (.cells #[.int .i64 rx, .int .i64 ry, .int .i64 rl, .int .i64 rh, .int .i64 ri, .int .i64 ro] 78)) := (Below.refl _ _).alloc (Nat.le_refl _) _
      go_wp2_with fail
      refine (HIR _).mono ?_
      rintro e w9 ⟨rfl, hb9⟩
      have hB9 := hba.trans (hb9.mono hba.size)
      have HW9 := hid (hB9)
      have hz9 := hB9.size
      -- the room's own box, and the row that is added
      obtain ⟨wa, hwa⟩ : ∃ wa : World, wa = (w9.alloc (.cells #[.int .i64 rx, .int .i64 ry, .int .i64 rl, .int .i64 rh, .int .i64 ri, .int .i64 ro] 89)).alloc (.cells #[.int .i64 rx, .int .i64 ry, .int .i64 rl, .int .i64 rh, .int .i64 ri, .int .i64 ro] 89) := ⟨_, rfl⟩
      have hba2 : Below w9.heap.size w9 wa := by rw [hwa]; exact ((Below.refl _ _).alloc (Nat.le_refl _) _).alloc (by simp) _
      have hza : wa.heap.size = w9.heap.size + 1 + 1 := by rw [hwa]; simp
      have hnew := newRow (w9.alloc (.cells #[.int .i64 rx, .int .i64 ry, .int .i64 rl, .int .i64 rh, .int .i64 ri, .int .i64 ro] 89)) #[.int .i64 rx, .int .i64 ry, .int .i64 rl, .int .i64 rh, .int .i64 ri, .int .i64 ro] 89
      rw [← hwa] at hnew
      have hBa := HB.out.trans ((HW9.out.trans (hba2.mono hz9)).mono HB.out.size)
      have hRa := (HR.out.next HW9.out).next (hba2.mono (Nat.le_refl _))
      obtain ⟨v, st, w2, hrun, hg2, hz2', hown2, _, hst⟩ := hRa.entry (by unfold maxLen; omega) (rx, ry) HC.out
      rw [hwa] at hrun
      have hnew2 : ∀ j u, (#[.int .i64 rx, .int .i64 ry, .int .i64 rl, .int .i64 rh, .int .i64 ri, .int .i64 ro] : Array Value).toList[j]? = some u → w2.cell? ((⟨w9.heap.size + 1, 0, none⟩ : Addr).add j) = some u := fun j u hj => hg2.cell (by have := hnew j u hj; simpa using this) (by
        intro e1
        have e2 : ((⟨w9.heap.size + 1, 0, none⟩ : Addr).add j).block = w.heap.size := Option.some.inj e1
        have e3 : ((⟨w9.heap.size + 1, 0, none⟩ : Addr).add j).block = w9.heap.size + 1 := by unfold Addr.add; split <;> rfl
        omega)
      have HST := hid hst
      have HBa := hid hBa
      have hwz : w.heap.size + 1 ≤ w2.heap.size := by omega
      clear hb9 hB9 hba hba2 hnew hRa hst hBa hz9 hwa hza hz2'
      go_wp2_with (at_builtin; refine wpList_append_own_at _ rfl _ _ 92 rfl (w.heap.size + 1) 89 i0 (.agg #[.int .i64 0, .int .i64 0, .int .i64 0, .int .i64 0, .int .i64 0, .int .i64 0]) 6 48 Try.underlying92 hi hz0 hz1 hz2 rfl (by decide) _ _ _ rfl hown2 ⟨w9.heap.size + 1, 0, none⟩ 1 1 [.int .i64 rx, .int .i64 ry, .int .i64 rl, .int .i64 rh, .int .i64 ri, .int .i64 ro] rfl rfl hnew2 (ones rfl) (by unfold maxLen; omega) (by omega) hwz ?_)
      intro v' w5 hown hgrow _ hpos
      obtain ⟨w4, hrun4, hR4, hb4⟩ := HST.out w5 v' (rx, ry, rl, rh, ri, ro) hown hgrow hpos
      have HR4 : Hid (Rooms w4 w.heap.size (w.heap.size + 1) f1 (k + 1)) := by
        show Rooms _ _ _ _ _
        rw [HSU.out]
        exact hR4
      have HB4 := hid (hb4 w.heap.size w (Nat.le_refl _) HBa.out HBa.out.size)
      have hz4 := HR4.out.lt
      clear hown hgrow hpos hR4 hb4 hrun hg2 hown2 hnew2
      go_wp2
      go_roundw
      case rel => exact ⟨k + 1, by omega, by go_num, by rw [HF1.out]; exact HR4.out, HB4.out, hz4⟩
      case measure => simp [intOf]; omega
    · have hke : k = m.length := by omega
      subst hke
      have HR := hid hR
      have HB := hid hB
      clear hR hB h
      go_wp2
      go_ret
      exact ⟨w.heap.size, rfl, HR.out, HB.out⟩

end Fly
end Go.Proofs.Ytpjacfnjjkoikaa
