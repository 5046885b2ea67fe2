import Derived.Test.YtnjbplcdfiddeaaDoorVw1
import Derived.Lib.QuietBelow
import Derived.BigQuiet
import Derived.Test.YtnjbplcdfiddeaaDoorHTa

/- DERIVED. A region that draws its order, whose operations only read and whose callees may lay blocks: walked once, behind a structure. -/
namespace Go.Proofs.YtnjbplcdfiddeaaDoor
namespace Leg
open Go.RowKit Go.Sort
set_option linter.unusedSimpArgs false
set_option linter.unusedVariables false

structure QW (P : Program) (ops : Array Oper) (C : World → Prop) (Q : Act → Prop) (l : List Oper) (a : Act) : Prop where
  out : wpQuiet P ops C Q l a

theorem QW.want {P : Program} {ops : Array Oper} {C : World → Prop} {Q : Act → Prop} {a : Act} {o : Oper} {rest : List Oper} (hw : Region.wanted o (yielded ops a.tmps) = true) (h : ∀ K : Act → Prop, (∀ a, QW P ops C Q rest a → K a) → o.quiet P a C K) : QW P ops C Q (o :: rest) a := by
  refine ⟨?_⟩
  unfold wpQuiet
  rw [if_pos hw]
  exact Oper.quiet_mono (fun a h => h.out) (h (fun a => QW P ops C Q rest a) (fun _ h => h))

theorem QW.skip {P : Program} {ops : Array Oper} {C : World → Prop} {Q : Act → Prop} {a : Act} {o : Oper} {rest : List Oper} (hw : Region.wanted o (yielded ops a.tmps) = false) (h : QW P ops C Q rest (a.put o.dst undef)) : QW P ops C Q (o :: rest) a := by
  refine ⟨?_⟩
  unfold wpQuiet
  rw [if_neg (by rw [hw]; decide)]
  exact h.out

theorem QW.nil {P : Program} {ops : Array Oper} {C : World → Prop} {Q : Act → Prop} {a : Act} (h : Q a) : QW P ops C Q [] a := ⟨wpQuiet_nil h⟩

theorem wp_region_qw {P : Program} {id : Nat} {Q : Exit → Act → World → Prop} {a : Act} {w : World} {l : List Oper} (hm : P.follows .mixedOrders = true) (hB : Region.lexB .any l.toArray = true)
    (h : QW P l.toArray (fun w' => ∃ p : Regrown, w' = grow (redrawn w p.d) p.os) (fun a' => ∀ w', (∃ p : Regrown, w' = grow (redrawn w p.d) p.os) → Q .normal a' w') l a) : (Code.region id l.toArray true).wp P Q a w :=
  wp_region_quiet_below hm hB h.out

end Leg
end Go.Proofs.YtnjbplcdfiddeaaDoor

/- DERIVED. impl.skyFirstBlock over blocks, with a closure that is told by its contract: its walk (written by wip/tools/mk_to2.py). -/
namespace Go.Proofs.YtnjbplcdfiddeaaDoor
open Go.RowKit
set_option linter.unusedSimpArgs false
set_option linter.unusedVariables false

/-- Some block of some sector. -/
def anyB (pv : ByteArray → DSkyBlock → Bool) (ss : List DSkySector) : Bool := ss.any fun s => s.2.any fun b => pv s.1 b
def NoS (pv : ByteArray → DSkyBlock → Bool) (ss : List DSkySector) (k : Nat) : Prop := ∀ j (h : j < ss.length), j < k → ((ss[j]'h).2.any fun b => pv (ss[j]'h).1 b) = false
def NoB (pv : ByteArray → DSkyBlock → Bool) (nm : ByteArray) (bs : List DSkyBlock) (k : Nat) : Prop := ∀ j (h : j < bs.length), j < k → pv nm (bs[j]'h) = false
theorem noB_all {pv : ByteArray → DSkyBlock → Bool} {nm : ByteArray} {bs : List DSkyBlock} (h : NoB pv nm bs bs.length) : (bs.any fun b => pv nm b) = false := by
  rw [List.any_eq_false]
  intro b hb
  obtain ⟨i, hi, rfl⟩ := List.getElem_of_mem hb
  rw [h i hi hi]
  simp
theorem anyB_none {pv : ByteArray → DSkyBlock → Bool} {ss : List DSkySector} (h : NoS pv ss ss.length) : anyB pv ss = false := by
  unfold anyB
  rw [List.any_eq_false]
  intro s hs
  obtain ⟨i, hi, rfl⟩ := List.getElem_of_mem hs
  rw [h i hi hi]
  simp
theorem anyB_some {pv : ByteArray → DSkyBlock → Bool} {ss : List DSkySector} {k m : Nat} (hk : k < ss.length) (hm : m < (ss[k]'hk).2.length) (hb : pv (ss[k]'hk).1 ((ss[k]'hk).2[m]'hm) = true) : anyB pv ss = true :=
  List.any_eq_true.2 ⟨_, List.getElem_mem hk, List.any_eq_true.2 ⟨_, List.getElem_mem hm, hb⟩⟩

set_option maxRecDepth 100000 in
set_option maxHeartbeats 1500000 in
theorem firstIn (ao : Option Addr) (cap : Nat) (ss : List DSkySector) (pv : ByteArray → DSkyBlock → Bool) (bb ob : Nat) (w : World) (h : SliceAt vSkySector (old w) w ao cap ss) (hS : ∀ s ∈ ss, ∀ b ∈ s.2, SmallB b)
    (hF : ∀ nm b W, Below w.heap.size w W → SmallB b → Calls Tryd.prog 35 #[.string nm, vBlk b, .pointer (some ⟨bb, 0, none⟩), .pointer (some ⟨ob, 0, none⟩)] W fun e w' => (∃ r, e = .returned (.tuple #[vBlk r, .bool (pv nm b)])) ∧ Below W.heap.size W w') :
    Calls Tryd.prog 33 #[.slice ao ss.length cap, .func (.func 35) #[] #[.pointer (some ⟨bb, 0, none⟩), .pointer (some ⟨ob, 0, none⟩)]] w fun e w' => (∃ r, e = .returned (.tuple #[vBlk r, .bool (anyB pv ss)])) ∧ Below w.heap.size w w' := by
  have hlen : ss.length ≤ maxLen := Nat.le_trans h.1 h.2.1
  unfold maxLen at hlen
  obtain ⟨w0, hw0⟩ : ∃ w0, w0 = w.alloc (.cells #[.int .i64 0, .int .i64 0, .int .i64 0, .int .i64 0, .int .i64 0, .int .i64 0] 57) := ⟨_, rfl⟩
  have hb0 : Below w.heap.size w w0 := by rw [hw0]; exact (Below.refl _ _).alloc (Nat.le_refl _) _
  have hr0 : w0.heap[w.heap.size]? = some (.cells #[.int .i64 0, .int .i64 0, .int .i64 0, .int .i64 0, .int .i64 0, .int .i64 0] 57 (0, 0)) := by rw [hw0]; exact heap_alloc_new w _
  have HS : Hid (∀ s ∈ ss, ∀ b ∈ s.2, SmallB b) := hS
  clear hS
  go_enter Tryd.func33, Tryd.ntmps33
  go_wp2
  rw [← hw0]
  clear hw0
  go_loopw [15] (fun i wr => ∃ k : Nat, k ≤ ss.length ∧ i = .int .i64 k ∧ Hid (NoS pv ss k) ∧ Below w.heap.size w wr ∧ wr.heap[w.heap.size]? = some (.cells #[.int .i64 0, .int .i64 0, .int .i64 0, .int .i64 0, .int .i64 0, .int .i64 0] 57 (0, 0))) (fun i _ => ss.length - (intOf i).toNat)
  case atStart => exact ⟨0, Nat.zero_le _, rfl, fun j _ hj => by omega, hb0, hr0⟩
  case round =>
    clear hb0 hr0
    obtain ⟨k, hk, rfl, hno, hB, hR⟩ := hrel
    have hwz := hB.size
    by_cases hlt : k < ss.length
    · obtain ⟨b1, off, ao1, cap1, rfl, hok, c0, c1, q0, p1⟩ := elem_SkySector h hlt
      have f0 := (hB.cell (p := ⟨b1, off + k * 2, none⟩) hok).trans c0
      have f1 := (hB.cell (p := ⟨b1, off + k * 2 + 1, none⟩) hok).trans c1
      have hkI : (k : Int) < (ss.length : Int) := by omega
      have HSOME : Hid (∀ m (hm : m < (ss[k]'hlt).2.length), pv (ss[k]'hlt).1 ((ss[k]'hlt).2[m]'hm) = true → anyB pv ss = true) := fun m hm hb => anyB_some hlt hm hb
      have HNEXT : Hid (NoB pv (ss[k]'hlt).1 (ss[k]'hlt).2 (ss[k]'hlt).2.length → NoS pv ss (k + 1)) := fun h1 j hj h2 => by
        by_cases e : j = k
        · subst e; exact noB_all h1
        · exact hno.out j hj (by omega)
      have HSM : Hid (∀ b ∈ (ss[k]'hlt).2, SmallB b) := fun b hb => HS.out _ (List.getElem_mem hlt) b hb
      have hlen1 : (ss[k]'hlt).2.length ≤ 9223372036854775807 := Nat.le_trans p1.1 p1.2.1
      generalize ss[k]'hlt = sk at *
      obtain ⟨nm, bs⟩ := sk
      simp only at f0 f1 p1 HSOME HNEXT HSM q0 hlen1
      clear c0 c1 hno
      have hRlt := (Array.getElem?_eq_some_iff.1 hR).1
      obtain ⟨wo, hwo⟩ : ∃ x, x = wr := ⟨_, rfl⟩
      subst hwo
      go_wp2
      go_loopw [22] (fun i wr => ∃ m : Nat, m ≤ bs.length ∧ i = .int .i64 m ∧ Hid (NoB pv nm bs m) ∧ Below w.heap.size w wr ∧ wr.cell? ⟨wo.heap.size, 0, none⟩ = some (.string nm) ∧ wo.heap.size < wr.heap.size ∧ wr.heap[w.heap.size]? = some (.cells #[.int .i64 0, .int .i64 0, .int .i64 0, .int .i64 0, .int .i64 0, .int .i64 0] 57 (0, 0))) (fun i _ => bs.length - (intOf i).toNat)
      case atStart => exact ⟨0, Nat.zero_le _, rfl, fun j _ hj => by omega, hB.alloc (by omega) _, by go_simp, by simp, (Below.heap_alloc _ _ _ hRlt).trans hR⟩
      case round =>
        clear hR
        obtain ⟨m, hm, rfl, hnb, hB2, hnm, hxs, hR⟩ := hrel
        have hwz2 := hB2.size
        by_cases hltm : m < bs.length
        · obtain ⟨b2, off2, rfl, hok2, d0, d1, d2, d3, d4, d5, _, _, _, _, _, _⟩ := elem_SkyBlock p1 hltm
          have g0 := (hB2.cell (p := ⟨b2, off2 + m * 6, none⟩) hok2).trans d0
          have g1 := (hB2.cell (p := ⟨b2, off2 + m * 6 + 1, none⟩) hok2).trans d1
          have g2 := (hB2.cell (p := ⟨b2, off2 + m * 6 + 2, none⟩) hok2).trans d2
          have g3 := (hB2.cell (p := ⟨b2, off2 + m * 6 + 3, none⟩) hok2).trans d3
          have g4 := (hB2.cell (p := ⟨b2, off2 + m * 6 + 4, none⟩) hok2).trans d4
          have g5 := (hB2.cell (p := ⟨b2, off2 + m * 6 + 5, none⟩) hok2).trans d5
          have hmI : (m : Int) < (bs.length : Int) := by omega
          have HH : Hid (pv nm (bs[m]'hltm) = true → anyB pv ss = true) := HSOME.out m hltm
          have HN : Hid (pv nm (bs[m]'hltm) = false → NoB pv nm bs (m + 1)) := fun hf j hj h2 => by
            by_cases e : j = m
            · subst e; exact hf
            · exact hnb.out j hj (by omega)
          have HSB := HSM.out _ (List.getElem_mem hltm)
          generalize bs[m]'hltm = bk at *
          obtain ⟨x0, y0, x1, y1, lo, hi⟩ := bk
          simp only at g0 g1 g2 g3 g4 g5
          have hbx : Below w.heap.size w (wr.alloc (.cells #[.int .i64 x0, .int .i64 y0, .int .i64 x1, .int .i64 y1, .int .i64 lo, .int .i64 hi] 57)) := hB2.alloc (by omega) _
          have hRx : (wr.alloc (.cells #[.int .i64 x0, .int .i64 y0, .int .i64 x1, .int .i64 y1, .int .i64 lo, .int .i64 hi] 57)).heap[w.heap.size]? = some (.cells #[.int .i64 0, .int .i64 0, .int .i64 0, .int .i64 0, .int .i64 0, .int .i64 0] 57 (0, 0)) := (Below.heap_alloc _ _ _ (by omega)).trans hR
          have HF := hF nm (x0, y0, x1, y1, lo, hi) _ hbx HSB
          generalize pv nm (x0, y0, x1, y1, lo, hi) = v at *
          simp only [vBlk] at HF
          clear d0 d1 d2 d3 d4 d5 hnb HSB hR
          have HFH : Hid _ := hF
          clear hF
          go_wp2_with fail
          refine HF.mono ?_
          rintro e w3 ⟨⟨r, rfl⟩, hb3⟩
          have hF := HFH.out
          have hB3 := hbx.trans (hb3.mono (by simp; omega))
          have hnm3 : w3.cell? ⟨wo.heap.size, 0, none⟩ = some (.string nm) := (hb3.cell (p := ⟨wo.heap.size, 0, none⟩) (by simp; omega)).trans (by go_simp)
          have hs3 : wo.heap.size < w3.heap.size := by have := hb3.size; simp at this; omega
          have hR3 := (hb3.block w.heap.size (by simp; omega)).trans hRx
          clear HF hb3 hbx g0 g1 g2 g3 g4 g5 hRx HFH
          obtain ⟨r0, r1, r2, r3, r4, r5⟩ := r
          simp only
          obtain ⟨w4, hw4⟩ : ∃ w4, w4 = w3.alloc (.cells #[.int .i64 r0, .int .i64 r1, .int .i64 r2, .int .i64 r3, .int .i64 r4, .int .i64 r5] 57) := ⟨_, rfl⟩
          have hw43 : w.heap.size < w3.heap.size := by omega
          have hB4 : Below w.heap.size w w4 := by rw [hw4]; exact hB3.alloc (by omega) _
          have hnm4 : w4.cell? ⟨wo.heap.size, 0, none⟩ = some (.string nm) := by rw [hw4]; exact (((Below.refl w3.heap.size w3).alloc (Nat.le_refl _) _).cell (p := ⟨wo.heap.size, 0, none⟩) hs3).trans hnm3
          have hs4 : wo.heap.size < w4.heap.size := by rw [hw4]; simp; omega
          have hR4 : w4.heap[w.heap.size]? = some (.cells #[.int .i64 0, .int .i64 0, .int .i64 0, .int .i64 0, .int .i64 0, .int .i64 0] 57 (0, 0)) := by rw [hw4]; exact (Below.heap_alloc _ _ _ hw43).trans hR3
          have hK4 : w4.heap[w3.heap.size]? = some (.cells #[.int .i64 r0, .int .i64 r1, .int .i64 r2, .int .i64 r3, .int .i64 r4, .int .i64 r5] 57 (0, 0)) := by rw [hw4]; exact heap_alloc_new w3 _
          cases v
          · have HN2 : Hid (NoB pv nm bs (m + 1)) := HN.out rfl
            have HFH : Hid _ := hF
            clear HN HH hF hK4 hB3 hnm3 hs3 hR3
            go_wp2
            rw [← hw4]
            clear hw4
            have hF := HFH.out
            go_roundw
            case rel => exact ⟨m + 1, by omega, by go_num, HN2, hB4, hnm4, hs4, hR4⟩
            case measure => simp [intOf]; omega
          · have HH2 : Hid (anyB pv ss = true) := HH.out rfl
            clear HN HH hF hnm4 hs4 hK4 hR4 hB4 hw4 w4
            have z0 := cell_of_heapT hR3 0
            have z1 := cell_of_heapT hR3 1
            have z2 := cell_of_heapT hR3 2
            have z3 := cell_of_heapT hR3 3
            have z4 := cell_of_heapT hR3 4
            have z5 := cell_of_heapT hR3 5
            have e0 := free_of_heapT hR3 0
            have e1 := free_of_heapT hR3 1
            have e2 := free_of_heapT hR3 2
            have e3 := free_of_heapT hR3 3
            have e4 := free_of_heapT hR3 4
            have e5 := free_of_heapT hR3 5
            simp at z0 z1 z2 z3 z4 z5
            clear hR3
            go_wp2
            refine bodyPost_ret (v := .tuple #[.agg #[.int .i64 r0, .int .i64 r1, .int .i64 r2, .int .i64 r3, .int .i64 r4, .int .i64 r5], .bool true]) (by simp [results, Tryd.results33, go_sem, z0, z1, z2, z3, z4, z5, hw43, Nat.ne_of_lt hw43]) rfl ⟨⟨(r0, r1, r2, r3, r4, r5), by rw [HH2.out]; rfl⟩, ?_⟩
            have hP := put6_below hB3 (Nat.le_refl w.heap.size) (.int .i64 r0) (.int .i64 r1) (.int .i64 r2) (.int .i64 r3) (.int .i64 r4) (.int .i64 r5)
            exact hP.alloc hP.size _
        · have hme : m = bs.length := by omega
          subst hme
          have HN2 : Hid (NoS pv ss (k + 1)) := HNEXT.out hnb.out
          have HFH : Hid _ := hF
          clear hnb HNEXT HSOME hF
          go_wp2
          have hF := HFH.out
          go_roundw
          case rel => exact ⟨k + 1, by omega, by go_num, HN2, hB2, hR⟩
          case measure => simp [intOf]; omega
    · have hke : k = ss.length := by omega
      subst hke
      have HE : Hid (anyB pv ss = false) := anyB_none hno.out
      clear hno hF
      have hRlt := (Array.getElem?_eq_some_iff.1 hR).1
      have z0 := cell_of_heapT hR 0
      have z1 := cell_of_heapT hR 1
      have z2 := cell_of_heapT hR 2
      have z3 := cell_of_heapT hR 3
      have z4 := cell_of_heapT hR 4
      have z5 := cell_of_heapT hR 5
      have e0 := free_of_heapT hR 0
      have e1 := free_of_heapT hR 1
      have e2 := free_of_heapT hR 2
      have e3 := free_of_heapT hR 3
      have e4 := free_of_heapT hR 4
      have e5 := free_of_heapT hR 5
      simp at z0 z1 z2 z3 z4 z5
      clear hR
      go_wp2
      refine bodyPost_ret (v := .tuple #[.agg #[.int .i64 0, .int .i64 0, .int .i64 0, .int .i64 0, .int .i64 0, .int .i64 0], .bool false]) (by simp [results, Tryd.results33, go_sem, z0, z1, z2, z3, z4, z5, hRlt, Nat.ne_of_lt hRlt]) rfl ⟨⟨(0, 0, 0, 0, 0, 0), by rw [HE.out]; rfl⟩, ?_⟩
      have hP := put6_below hB (Nat.le_refl w.heap.size) (.int .i64 0) (.int .i64 0) (.int .i64 0) (.int .i64 0) (.int .i64 0) (.int .i64 0)
      exact hP.alloc hP.size _

set_option maxRecDepth 100000 in
set_option maxHeartbeats 1500000 in
theorem firstOut (ao : Option Addr) (cap : Nat) (ss : List DSkySector) (pv : ByteArray → DSkyBlock → Bool) (ab sb bb : Nat) (w : World) (h : SliceAt vSkySector (old w) w ao cap ss) (hS : ∀ s ∈ ss, ∀ b ∈ s.2, SmallB b)
    (hF : ∀ nm b W, Below w.heap.size w W → SmallB b → Calls Tryd.prog 34 #[.string nm, vBlk b, .pointer (some ⟨ab, 0, none⟩), .pointer (some ⟨sb, 0, none⟩), .pointer (some ⟨bb, 0, none⟩)] W fun e w' => (∃ r, e = .returned (.tuple #[vBlk r, .bool (pv nm b)])) ∧ Below W.heap.size W w') :
    Calls Tryd.prog 33 #[.slice ao ss.length cap, .func (.func 34) #[] #[.pointer (some ⟨ab, 0, none⟩), .pointer (some ⟨sb, 0, none⟩), .pointer (some ⟨bb, 0, none⟩)]] w fun e w' => (∃ r, e = .returned (.tuple #[vBlk r, .bool (anyB pv ss)])) ∧ Below w.heap.size w w' := by
  have hlen : ss.length ≤ maxLen := Nat.le_trans h.1 h.2.1
  unfold maxLen at hlen
  obtain ⟨w0, hw0⟩ : ∃ w0, w0 = w.alloc (.cells #[.int .i64 0, .int .i64 0, .int .i64 0, .int .i64 0, .int .i64 0, .int .i64 0] 57) := ⟨_, rfl⟩
  have hb0 : Below w.heap.size w w0 := by rw [hw0]; exact (Below.refl _ _).alloc (Nat.le_refl _) _
  have hr0 : w0.heap[w.heap.size]? = some (.cells #[.int .i64 0, .int .i64 0, .int .i64 0, .int .i64 0, .int .i64 0, .int .i64 0] 57 (0, 0)) := by rw [hw0]; exact heap_alloc_new w _
  have HS : Hid (∀ s ∈ ss, ∀ b ∈ s.2, SmallB b) := hS
  clear hS
  go_enter Tryd.func33, Tryd.ntmps33
  go_wp2
  rw [← hw0]
  clear hw0
  go_loopw [15] (fun i wr => ∃ k : Nat, k ≤ ss.length ∧ i = .int .i64 k ∧ Hid (NoS pv ss k) ∧ Below w.heap.size w wr ∧ wr.heap[w.heap.size]? = some (.cells #[.int .i64 0, .int .i64 0, .int .i64 0, .int .i64 0, .int .i64 0, .int .i64 0] 57 (0, 0))) (fun i _ => ss.length - (intOf i).toNat)
  case atStart => exact ⟨0, Nat.zero_le _, rfl, fun j _ hj => by omega, hb0, hr0⟩
  case round =>
    clear hb0 hr0
    obtain ⟨k, hk, rfl, hno, hB, hR⟩ := hrel
    have hwz := hB.size
    by_cases hlt : k < ss.length
    · obtain ⟨b1, off, ao1, cap1, rfl, hok, c0, c1, q0, p1⟩ := elem_SkySector h hlt
      have f0 := (hB.cell (p := ⟨b1, off + k * 2, none⟩) hok).trans c0
      have f1 := (hB.cell (p := ⟨b1, off + k * 2 + 1, none⟩) hok).trans c1
      have hkI : (k : Int) < (ss.length : Int) := by omega
      have HSOME : Hid (∀ m (hm : m < (ss[k]'hlt).2.length), pv (ss[k]'hlt).1 ((ss[k]'hlt).2[m]'hm) = true → anyB pv ss = true) := fun m hm hb => anyB_some hlt hm hb
      have HNEXT : Hid (NoB pv (ss[k]'hlt).1 (ss[k]'hlt).2 (ss[k]'hlt).2.length → NoS pv ss (k + 1)) := fun h1 j hj h2 => by
        by_cases e : j = k
        · subst e; exact noB_all h1
        · exact hno.out j hj (by omega)
      have HSM : Hid (∀ b ∈ (ss[k]'hlt).2, SmallB b) := fun b hb => HS.out _ (List.getElem_mem hlt) b hb
      have hlen1 : (ss[k]'hlt).2.length ≤ 9223372036854775807 := Nat.le_trans p1.1 p1.2.1
      generalize ss[k]'hlt = sk at *
      obtain ⟨nm, bs⟩ := sk
      simp only at f0 f1 p1 HSOME HNEXT HSM q0 hlen1
      clear c0 c1 hno
      have hRlt := (Array.getElem?_eq_some_iff.1 hR).1
      obtain ⟨wo, hwo⟩ : ∃ x, x = wr := ⟨_, rfl⟩
      subst hwo
      go_wp2
      go_loopw [22] (fun i wr => ∃ m : Nat, m ≤ bs.length ∧ i = .int .i64 m ∧ Hid (NoB pv nm bs m) ∧ Below w.heap.size w wr ∧ wr.cell? ⟨wo.heap.size, 0, none⟩ = some (.string nm) ∧ wo.heap.size < wr.heap.size ∧ wr.heap[w.heap.size]? = some (.cells #[.int .i64 0, .int .i64 0, .int .i64 0, .int .i64 0, .int .i64 0, .int .i64 0] 57 (0, 0))) (fun i _ => bs.length - (intOf i).toNat)
      case atStart => exact ⟨0, Nat.zero_le _, rfl, fun j _ hj => by omega, hB.alloc (by omega) _, by go_simp, by simp, (Below.heap_alloc _ _ _ hRlt).trans hR⟩
      case round =>
        clear hR
        obtain ⟨m, hm, rfl, hnb, hB2, hnm, hxs, hR⟩ := hrel
        have hwz2 := hB2.size
        by_cases hltm : m < bs.length
        · obtain ⟨b2, off2, rfl, hok2, d0, d1, d2, d3, d4, d5, _, _, _, _, _, _⟩ := elem_SkyBlock p1 hltm
          have g0 := (hB2.cell (p := ⟨b2, off2 + m * 6, none⟩) hok2).trans d0
          have g1 := (hB2.cell (p := ⟨b2, off2 + m * 6 + 1, none⟩) hok2).trans d1
          have g2 := (hB2.cell (p := ⟨b2, off2 + m * 6 + 2, none⟩) hok2).trans d2
          have g3 := (hB2.cell (p := ⟨b2, off2 + m * 6 + 3, none⟩) hok2).trans d3
          have g4 := (hB2.cell (p := ⟨b2, off2 + m * 6 + 4, none⟩) hok2).trans d4
          have g5 := (hB2.cell (p := ⟨b2, off2 + m * 6 + 5, none⟩) hok2).trans d5
          have hmI : (m : Int) < (bs.length : Int) := by omega
          have HH : Hid (pv nm (bs[m]'hltm) = true → anyB pv ss = true) := HSOME.out m hltm
          have HN : Hid (pv nm (bs[m]'hltm) = false → NoB pv nm bs (m + 1)) := fun hf j hj h2 => by
            by_cases e : j = m
            · subst e; exact hf
            · exact hnb.out j hj (by omega)
          have HSB := HSM.out _ (List.getElem_mem hltm)
          generalize bs[m]'hltm = bk at *
          obtain ⟨x0, y0, x1, y1, lo, hi⟩ := bk
          simp only at g0 g1 g2 g3 g4 g5
          have hbx : Below w.heap.size w (wr.alloc (.cells #[.int .i64 x0, .int .i64 y0, .int .i64 x1, .int .i64 y1, .int .i64 lo, .int .i64 hi] 57)) := hB2.alloc (by omega) _
          have hRx : (wr.alloc (.cells #[.int .i64 x0, .int .i64 y0, .int .i64 x1, .int .i64 y1, .int .i64 lo, .int .i64 hi] 57)).heap[w.heap.size]? = some (.cells #[.int .i64 0, .int .i64 0, .int .i64 0, .int .i64 0, .int .i64 0, .int .i64 0] 57 (0, 0)) := (Below.heap_alloc _ _ _ (by omega)).trans hR
          have HF := hF nm (x0, y0, x1, y1, lo, hi) _ hbx HSB
          generalize pv nm (x0, y0, x1, y1, lo, hi) = v at *
          simp only [vBlk] at HF
          clear d0 d1 d2 d3 d4 d5 hnb HSB hR
          have HFH : Hid _ := hF
          clear hF
          go_wp2_with fail
          refine HF.mono ?_
          rintro e w3 ⟨⟨r, rfl⟩, hb3⟩
          have hF := HFH.out
          have hB3 := hbx.trans (hb3.mono (by simp; omega))
          have hnm3 : w3.cell? ⟨wo.heap.size, 0, none⟩ = some (.string nm) := (hb3.cell (p := ⟨wo.heap.size, 0, none⟩) (by simp; omega)).trans (by go_simp)
          have hs3 : wo.heap.size < w3.heap.size := by have := hb3.size; simp at this; omega
          have hR3 := (hb3.block w.heap.size (by simp; omega)).trans hRx
          clear HF hb3 hbx g0 g1 g2 g3 g4 g5 hRx HFH
          obtain ⟨r0, r1, r2, r3, r4, r5⟩ := r
          simp only
          obtain ⟨w4, hw4⟩ : ∃ w4, w4 = w3.alloc (.cells #[.int .i64 r0, .int .i64 r1, .int .i64 r2, .int .i64 r3, .int .i64 r4, .int .i64 r5] 57) := ⟨_, rfl⟩
          have hw43 : w.heap.size < w3.heap.size := by omega
          have hB4 : Below w.heap.size w w4 := by rw [hw4]; exact hB3.alloc (by omega) _
          have hnm4 : w4.cell? ⟨wo.heap.size, 0, none⟩ = some (.string nm) := by rw [hw4]; exact (((Below.refl w3.heap.size w3).alloc (Nat.le_refl _) _).cell (p := ⟨wo.heap.size, 0, none⟩) hs3).trans hnm3
          have hs4 : wo.heap.size < w4.heap.size := by rw [hw4]; simp; omega
          have hR4 : w4.heap[w.heap.size]? = some (.cells #[.int .i64 0, .int .i64 0, .int .i64 0, .int .i64 0, .int .i64 0, .int .i64 0] 57 (0, 0)) := by rw [hw4]; exact (Below.heap_alloc _ _ _ hw43).trans hR3
          have hK4 : w4.heap[w3.heap.size]? = some (.cells #[.int .i64 r0, .int .i64 r1, .int .i64 r2, .int .i64 r3, .int .i64 r4, .int .i64 r5] 57 (0, 0)) := by rw [hw4]; exact heap_alloc_new w3 _
          cases v
          · have HN2 : Hid (NoB pv nm bs (m + 1)) := HN.out rfl
            have HFH : Hid _ := hF
            clear HN HH hF hK4 hB3 hnm3 hs3 hR3
            go_wp2
            rw [← hw4]
            clear hw4
            have hF := HFH.out
            go_roundw
            case rel => exact ⟨m + 1, by omega, by go_num, HN2, hB4, hnm4, hs4, hR4⟩
            case measure => simp [intOf]; omega
          · have HH2 : Hid (anyB pv ss = true) := HH.out rfl
            clear HN HH hF hnm4 hs4 hK4 hR4 hB4 hw4 w4
            have z0 := cell_of_heapT hR3 0
            have z1 := cell_of_heapT hR3 1
            have z2 := cell_of_heapT hR3 2
            have z3 := cell_of_heapT hR3 3
            have z4 := cell_of_heapT hR3 4
            have z5 := cell_of_heapT hR3 5
            have e0 := free_of_heapT hR3 0
            have e1 := free_of_heapT hR3 1
            have e2 := free_of_heapT hR3 2
            have e3 := free_of_heapT hR3 3
            have e4 := free_of_heapT hR3 4
            have e5 := free_of_heapT hR3 5
            simp at z0 z1 z2 z3 z4 z5
            clear hR3
            go_wp2
            refine bodyPost_ret (v := .tuple #[.agg #[.int .i64 r0, .int .i64 r1, .int .i64 r2, .int .i64 r3, .int .i64 r4, .int .i64 r5], .bool true]) (by simp [results, Tryd.results33, go_sem, z0, z1, z2, z3, z4, z5, hw43, Nat.ne_of_lt hw43]) rfl ⟨⟨(r0, r1, r2, r3, r4, r5), by rw [HH2.out]; rfl⟩, ?_⟩
            have hP := put6_below hB3 (Nat.le_refl w.heap.size) (.int .i64 r0) (.int .i64 r1) (.int .i64 r2) (.int .i64 r3) (.int .i64 r4) (.int .i64 r5)
            exact hP.alloc hP.size _
        · have hme : m = bs.length := by omega
          subst hme
          have HN2 : Hid (NoS pv ss (k + 1)) := HNEXT.out hnb.out
          have HFH : Hid _ := hF
          clear hnb HNEXT HSOME hF
          go_wp2
          have hF := HFH.out
          go_roundw
          case rel => exact ⟨k + 1, by omega, by go_num, HN2, hB2, hR⟩
          case measure => simp [intOf]; omega
    · have hke : k = ss.length := by omega
      subst hke
      have HE : Hid (anyB pv ss = false) := anyB_none hno.out
      clear hno hF
      have hRlt := (Array.getElem?_eq_some_iff.1 hR).1
      have z0 := cell_of_heapT hR 0
      have z1 := cell_of_heapT hR 1
      have z2 := cell_of_heapT hR 2
      have z3 := cell_of_heapT hR 3
      have z4 := cell_of_heapT hR 4
      have z5 := cell_of_heapT hR 5
      have e0 := free_of_heapT hR 0
      have e1 := free_of_heapT hR 1
      have e2 := free_of_heapT hR 2
      have e3 := free_of_heapT hR 3
      have e4 := free_of_heapT hR 4
      have e5 := free_of_heapT hR 5
      simp at z0 z1 z2 z3 z4 z5
      clear hR
      go_wp2
      refine bodyPost_ret (v := .tuple #[.agg #[.int .i64 0, .int .i64 0, .int .i64 0, .int .i64 0, .int .i64 0, .int .i64 0], .bool false]) (by simp [results, Tryd.results33, go_sem, z0, z1, z2, z3, z4, z5, hRlt, Nat.ne_of_lt hRlt]) rfl ⟨⟨(0, 0, 0, 0, 0, 0), by rw [HE.out]; rfl⟩, ?_⟩
      have hP := put6_below hB (Nat.le_refl w.heap.size) (.int .i64 0) (.int .i64 0) (.int .i64 0) (.int .i64 0) (.int .i64 0) (.int .i64 0)
      exact hP.alloc hP.size _

end Go.Proofs.YtnjbplcdfiddeaaDoor

/- DERIVED. impl.SkyTouch: its walk (written by wip/tools/mk_to3.py). -/
namespace Go.Proofs.YtnjbplcdfiddeaaDoor
open Go.RowKit
set_option linter.unusedSimpArgs false
set_option linter.unusedVariables false

/-- A block of some sector of this name touches. -/
def inT (ss : List DSkySector) (b : ByteArray) (one : DSkyBlock) : Bool := anyB (fun nm o => nmEq nm b && touchBB one o) ss
def exT (ss : List DSkySector) (a b : ByteArray) : Bool := anyB (fun nm one => nmEq nm a && inT ss b one) ss

set_option maxRecDepth 100000 in
set_option maxHeartbeats 1500000 in
theorem touchOut (nm a b : ByteArray) (one : DSkyBlock) (ss : List DSkySector) (ao5 : Option Addr) (cap5 ab sb bb : Nat) (w : World) (ha : w.cell? ⟨ab, 0, none⟩ = some (.string a)) (hab : ab < w.heap.size) (hb : w.cell? ⟨bb, 0, none⟩ = some (.string b)) (hbb : bb < w.heap.size)
    (hs : w.cell? ⟨sb, 5, none⟩ = some (.slice ao5 ss.length cap5)) (hsb : sb < w.heap.size) (h5 : SliceAt vSkySector (old w) w ao5 cap5 ss) (hS : ∀ s ∈ ss, ∀ b ∈ s.2, SmallB b) (s1 : SmallB one) :
    Calls Tryd.prog 34 #[.string nm, vBlk one, .pointer (some ⟨ab, 0, none⟩), .pointer (some ⟨sb, 0, none⟩), .pointer (some ⟨bb, 0, none⟩)] w fun e w' => (∃ r, e = .returned (.tuple #[vBlk r, .bool (nmEq nm a && inT ss b one)])) ∧ Below w.heap.size w w' := by
  obtain ⟨w0, hw0⟩ : ∃ w0, w0 = (w.alloc (.cells #[.int .i64 one.1, .int .i64 one.2.1, .int .i64 one.2.2.1, .int .i64 one.2.2.2.1, .int .i64 one.2.2.2.2.1, .int .i64 one.2.2.2.2.2] 57)).alloc (.cells #[.int .i64 0, .int .i64 0, .int .i64 0, .int .i64 0, .int .i64 0, .int .i64 0] 57) := ⟨_, rfl⟩
  have hb0 : Below w.heap.size w w0 := by rw [hw0]; exact ((Below.refl _ _).alloc (Nat.le_refl _) _).alloc (by simp) _
  have hsz : Hid (w0.heap.size = w.heap.size + 2) := by rw [hw0]; show _ = _; simp
  have hO : BlC w.heap.size one w0 := by rw [hw0]; exact ⟨by go_simp, by go_simp, by go_simp, by go_simp, by go_simp, by go_simp⟩
  have hR0 : w0.heap[w.heap.size + 1]? = some (.cells #[.int .i64 0, .int .i64 0, .int .i64 0, .int .i64 0, .int .i64 0, .int .i64 0] 57 (0, 0)) := by
    rw [hw0]
    have h := heap_alloc_new (w.alloc (.cells #[.int .i64 one.1, .int .i64 one.2.1, .int .i64 one.2.2.1, .int .i64 one.2.2.2.1, .int .i64 one.2.2.2.2.1, .int .i64 one.2.2.2.2.2] 57)) (.cells #[.int .i64 0, .int .i64 0, .int .i64 0, .int .i64 0, .int .i64 0, .int .i64 0] 57)
    rwa [World.size_alloc] at h
  have ha0 := (hb0.cell (p := ⟨ab, 0, none⟩) hab).trans ha
  have hb0' := (hb0.cell (p := ⟨bb, 0, none⟩) hbb).trans hb
  have hs0 := (hb0.cell (p := ⟨sb, 5, none⟩) hsb).trans hs
  have h50 := h5.later hb0
  have hle : w.heap.size + 2 ≤ w0.heap.size := Nat.le_of_eq hsz.out.symm
  have HF := firstIn ao5 cap5 ss (fun nm o => nmEq nm b && touchBB one o) bb w.heap.size w0 h50 hS (fun nm' o W hW so => (touchIn nm' b one o bb w.heap.size W ((hW.cell (p := ⟨bb, 0, none⟩) (by show bb < _; omega)).trans hb0') (by have := hW.size; omega) (hO.below hW (by omega)) (by have := hW.size; omega) s1 so).mono fun e w' h => ⟨⟨o, h.1⟩, h.2⟩)
  have HI : Hid (anyB (fun nm o => nmEq nm b && touchBB one o) ss = inT ss b one) := rfl
  rw [HI.out] at HF
  generalize inT ss b one = tv at *
  obtain ⟨x0, y0, x1, y1, lo, hi⟩ := one
  simp only [vBlk, nmEq] at *
  clear s1 hO hsz hb h5 h50 HI hS
  by_cases he : (nm.toList == a.toList) = true
  · rw [he]
    have hnb : (nm.toList != a.toList) = false := by simp [bne, he]
    rw [hw0] at HF
    clear ha0 hb0' hs0
    go_enter Tryd.func34, Tryd.ntmps34
    go_wp2_with fail
    refine HF.mono ?_
    rw [← hw0]
    clear hw0
    rintro e w1 ⟨⟨r, rfl⟩, hb1⟩
    have hB1 := hb0.trans (hb1.mono (by omega))
    have hR1 := (hb1.block (w.heap.size + 1) (by omega)).trans hR0
    clear HF hb1 hR0 hb0 ha hs
    obtain ⟨r0, r1, r2, r3, r4, r5⟩ := r
    simp only
    have z0 := cell_of_heapT hR1 0
    have z1 := cell_of_heapT hR1 1
    have z2 := cell_of_heapT hR1 2
    have z3 := cell_of_heapT hR1 3
    have z4 := cell_of_heapT hR1 4
    have z5 := cell_of_heapT hR1 5
    have e0 := free_of_heapT hR1 0
    have e1 := free_of_heapT hR1 1
    have e2 := free_of_heapT hR1 2
    have e3 := free_of_heapT hR1 3
    have e4 := free_of_heapT hR1 4
    have e5 := free_of_heapT hR1 5
    simp at z0 z1 z2 z3 z4 z5
    clear hR1
    go_wp2
    refine bodyPost_ret (v := .tuple #[.agg #[.int .i64 r0, .int .i64 r1, .int .i64 r2, .int .i64 r3, .int .i64 r4, .int .i64 r5], .bool tv]) (by simp [results, Tryd.results34, go_sem, z0, z1, z2, z3, z4, z5]) rfl ⟨⟨(r0, r1, r2, r3, r4, r5), by simp⟩, ?_⟩
    exact put6_below hB1 (by omega) _ _ _ _ _ _
  · have he : (nm.toList == a.toList) = false := by simpa using he
    have hnb : (nm.toList != a.toList) = true := by simp [bne, he]
    rw [he]
    clear hR0 HF ha0 hb0' hs0 hb0 hw0 hle w0
    go_enter Tryd.func34, Tryd.ntmps34
    go_wp2
    refine bodyPost_ret (v := .tuple #[.agg #[.int .i64 0, .int .i64 0, .int .i64 0, .int .i64 0, .int .i64 0, .int .i64 0], .bool false]) (by simp [results, Tryd.results34, go_sem]) rfl ⟨⟨(0, 0, 0, 0, 0, 0), by simp⟩, ?_⟩
    repeat (first | with_reducible refine Below.setCell ?_ (by simp; try omega) _ | with_reducible refine Below.alloc ?_ (by simp; try omega) _ | with_reducible exact Below.refl _ _)

theorem small_of_valid {x : DSky} (h : ValidSky x) : ∀ s ∈ x.2.2.2.2.2.1, ∀ b ∈ s.2, SmallB b := by
  obtain ⟨⟨⟨a1, a2⟩, ⟨a3, a4⟩, a5, a6⟩, _, _, ⟨_, hs⟩, _, _⟩ := h
  intro s hs' b hb
  obtain ⟨i, hi, rfl⟩ := List.getElem_of_mem hs'
  obtain ⟨k, hk, rfl⟩ := List.getElem_of_mem hb
  obtain ⟨⟨q1, q2, q3⟩, ⟨q4, q5, q6⟩, q7, q8, q9⟩ := ((hs i hi).2.2.2.2 k hk).1
  exact ⟨⟨by omega, by omega⟩, ⟨by omega, by omega⟩, ⟨by omega, by omega⟩, ⟨by omega, by omega⟩, ⟨by omega, by omega⟩, ⟨by omega, by omega⟩⟩

noncomputable def touchSky (x : DSky) (a b : ByteArray) : Bool := if nmEq a b then false else if validB x then exT x.2.2.2.2.2.1 a b else false

set_option maxRecDepth 100000 in
set_option maxHeartbeats 1500000 in
theorem iTouch (x : DSky) (ao3 : Option Addr) (cap3 : Nat) (ao4 : Option Addr) (cap4 : Nat) (ao5 : Option Addr) (cap5 : Nat) (ao6 : Option Addr) (cap6 : Nat) (a b : ByteArray) (w : World) (h : SkyAt w x ao3 cap3 ao4 cap4 ao5 cap5 ao6 cap6) (hT : TurnsLaid w) :
    Calls Tryd.prog 12 #[.agg #[.int .i64 x.1, .int .i64 x.2.1, .int .i64 x.2.2.1, .slice ao3 x.2.2.2.1.length cap3, .slice ao4 x.2.2.2.2.1.length cap4, .slice ao5 x.2.2.2.2.2.1.length cap5, .slice ao6 x.2.2.2.2.2.2.length cap6], .string a, .string b] w fun e w' => e = .returned (.bool (touchSky x a b)) ∧ Below w.heap.size w w' := by
  have HSM : Hid (validB x = true → ∀ s ∈ x.2.2.2.2.2.1, ∀ b ∈ s.2, SmallB b) := fun hv => small_of_valid (validB_iff.1 hv)
  obtain ⟨W, H, L, ps, aw, ss, rs⟩ := x
  simp only at *
  obtain ⟨w0, hw0⟩ : ∃ w0, w0 = ((w.alloc (.cells #[.int .i64 W, .int .i64 H, .int .i64 L, .slice ao3 ps.length cap3, .slice ao4 aw.length cap4, .slice ao5 ss.length cap5, .slice ao6 rs.length cap6] 38)).alloc (.cells #[.string a] 9)).alloc (.cells #[.string b] 9) := ⟨_, rfl⟩
  have hb0 : Below w.heap.size w w0 := by rw [hw0]; exact (((Below.refl _ _).alloc (Nat.le_refl _) _).alloc (by simp) _).alloc (by simp; omega) _
  have HV := iSkyValid (W, H, L, ps, aw, ss, rs) ao3 cap3 ao4 cap4 ao5 cap5 ao6 cap6 w0 (h.later hb0) (hT.later hb0)
  have c5 : w0.cell? ⟨w.heap.size, 5, none⟩ = some (.slice ao5 ss.length cap5) := by rw [hw0]; go_simp
  have ca : w0.cell? ⟨w.heap.size + 1, 0, none⟩ = some (.string a) := by rw [hw0]; go_simp
  have cb : w0.cell? ⟨w.heap.size + 2, 0, none⟩ = some (.string b) := by rw [hw0]; go_simp
  have hsz : w0.heap.size = w.heap.size + 3 := by rw [hw0]; simp
  have h5 := (h.later hb0).p5
  have HWS : Hid (touchSky (W, H, L, ps, aw, ss, rs) a b = if nmEq a b then false else if validB (W, H, L, ps, aw, ss, rs) then exT ss a b else false) := rfl
  generalize touchSky (W, H, L, ps, aw, ss, rs) a b = r at *
  simp only at HV h5 ⊢
  clear h hT
  by_cases hab : (a.toList == b.toList) = true
  · have hr : Hid (r = false) := by have := HWS.out; unfold nmEq at this; rw [if_pos hab] at this; exact this
    clear HWS HV HSM
    rw [hr.out]
    rw [hw0] at hb0
    go_enter Tryd.func12, Tryd.ntmps12
    go_wp2_with fail
    go_ret
    exact ⟨rfl, hb0⟩
  · have hab' : (a.toList == b.toList) = false := by simpa using hab
    have HWS2 : Hid (r = if validB (W, H, L, ps, aw, ss, rs) then exT ss a b else false) := by have := HWS.out; unfold nmEq at this; rw [if_neg hab] at this; exact this
    clear HWS hab
    rw [hw0] at HV
    go_enter Tryd.func12, Tryd.ntmps12
    go_wp2_with fail
    refine HV.mono ?_
    rw [← hw0]
    rintro e w1 ⟨he, hb1⟩
    have he := validB_of he
    subst he
    clear HV hw0
    have hB1 := hb0.trans (hb1.mono (by omega))
    have c51 := (hb1.cell (p := ⟨w.heap.size, 5, none⟩) (by show w.heap.size < _; omega)).trans c5
    have ca1 := (hb1.cell (p := ⟨w.heap.size + 1, 0, none⟩) (by show w.heap.size + 1 < _; omega)).trans ca
    have cb1 := (hb1.cell (p := ⟨w.heap.size + 2, 0, none⟩) (by show w.heap.size + 2 < _; omega)).trans cb
    have h51 := h5.later hb1
    have hs1 := hb1.size
    clear c5 ca cb h5 hb1
    generalize validB (W, H, L, ps, aw, ss, rs) = v at *
    cases v
    · have hr : Hid (r = false) := HWS2.out
      clear HWS2
      go_wp2
      go_ret
      exact ⟨by rw [hr.out]; rfl, hB1⟩
    · have hr : Hid (r = exT ss a b) := HWS2.out
      have hS := HSM.out rfl
      clear HWS2 HSM
      have HF := firstOut ao5 cap5 ss (fun nm one => nmEq nm a && inT ss b one) (w.heap.size + 1) w.heap.size (w.heap.size + 2) w1 h51 hS (fun nm one W hW so => touchOut nm a b one ss ao5 cap5 (w.heap.size + 1) w.heap.size (w.heap.size + 2) W ((hW.cell (p := ⟨w.heap.size + 1, 0, none⟩) (by show w.heap.size + 1 < _; omega)).trans ca1) (by have := hW.size; omega) ((hW.cell (p := ⟨w.heap.size + 2, 0, none⟩) (by show w.heap.size + 2 < _; omega)).trans cb1) (by have := hW.size; omega) ((hW.cell (p := ⟨w.heap.size, 5, none⟩) (by show w.heap.size < _; omega)).trans c51) (by have := hW.size; omega) (h51.later hW) hS so)
      have HX : Hid (anyB (fun nm one => nmEq nm a && inT ss b one) ss = exT ss a b) := rfl
      rw [HX.out, ← hr.out] at HF
      clear hS HX
      go_wp2_with fail
      refine HF.mono ?_
      rintro e w2 ⟨⟨q, rfl⟩, hb2⟩
      have hB2 := hB1.trans (hb2.mono (by omega))
      clear HF hb2
      obtain ⟨r0, r1, r2, r3, r4, r5⟩ := q
      simp only [vBlk]
      go_wp2
      go_ret
      exact ⟨rfl, by repeat (first | exact hB2 | refine Below.setCell ?_ (by have := hB2.size; simp; try omega) _ | refine Below.alloc ?_ (by have := hB2.size; simp; try omega) _)⟩

end Go.Proofs.YtnjbplcdfiddeaaDoor

/- DERIVED. spec.l5Sector, spec.SkyTouch: their walks; both sides are the same (written by wip/tools/mk_to4.py). -/
namespace Go.Proofs.YtnjbplcdfiddeaaDoor
open Go.RowKit Go.Sort
set_option linter.unusedSimpArgs false
set_option linter.unusedVariables false

/-- The place of a sector among others, -1 if it is not there. -/
def sIdx (ss : List DSkySector) (n : ByteArray) : Int := if ss.findIdx (fun p => p.1.toList == n.toList) < ss.length then (ss.findIdx (fun p => p.1.toList == n.toList) : Int) else -1

set_option maxHeartbeats 1000000 in
theorem sSector (W H L : Int) (ps : List DSkyPoint) (aw : List DSkyAirway) (ss : List DSkySector) (rs : List DSkyRunway) (ao3 : Option Addr) (cap3 : Nat) (ao4 : Option Addr) (cap4 : Nat) (ao5 : Option Addr) (cap5 : Nat) (ao6 : Option Addr) (cap6 : Nat) (n : ByteArray) (w : World) (h : SliceAt vSkySector (old w) w ao5 cap5 ss) :
    Calls Tryd.prog 31 #[.agg #[.int .i64 W, .int .i64 H, .int .i64 L, .slice ao3 ps.length cap3, .slice ao4 aw.length cap4, .slice ao5 ss.length cap5, .slice ao6 rs.length cap6], .string n] w fun e w' => e = .returned (.int .i64 (sIdx ss n)) ∧ Below w.heap.size w w' := by
  have hlen : ss.length ≤ maxLen := Nat.le_trans h.1 h.2.1
  unfold maxLen at hlen
  obtain ⟨w0, hw0⟩ : ∃ w0, w0 = w.alloc (.cells #[.int .i64 W, .int .i64 H, .int .i64 L, .slice ao3 ps.length cap3, .slice ao4 aw.length cap4, .slice ao5 ss.length cap5, .slice ao6 rs.length cap6] 38) := ⟨_, rfl⟩
  have hb0 : Below w.heap.size w w0 := by rw [hw0]; exact (Below.refl _ _).alloc (Nat.le_refl _) _
  have q5 : w0.cell? ⟨w.heap.size, 5, none⟩ = some (.slice ao5 ss.length cap5) := by rw [hw0]; go_simp
  go_enter Tryd.func31, Tryd.ntmps31
  go_wp2
  rw [← hw0]
  clear hw0
  go_loop [5] (fun i => ∃ k : Nat, k ≤ ss.length ∧ i = .int .i64 k ∧ Hid (∀ j (hj : j < ss.length), j < k → ((ss[j]'hj).1.toList == n.toList) = false)) (fun i => ss.length - (intOf i).toNat)
  case atStart => exact ⟨0, Nat.zero_le _, rfl, fun j _ hj => by omega⟩
  case round =>
    obtain ⟨k, hk, rfl, hno⟩ := hrel
    by_cases hlt : k < ss.length
    · obtain ⟨b, off, ao1, cap1, rfl, hok, c0, c1, _, _⟩ := elem_SkySector h hlt
      have f0 := (hb0.cell (p := ⟨b, off + k * 2, none⟩) hok).trans c0
      clear c0 c1
      by_cases he : ((ss[k]'hlt).1.toList == n.toList) = true
      · have HP : Hid (sIdx ss n = k) := by
          have h1 : ss.findIdx (fun p => p.1.toList == n.toList) = k := (List.findIdx_eq hlt).2 ⟨he, fun j hj => by simpa using hno.out j (by omega) hj⟩
          show _ = _
          unfold sIdx
          rw [h1, if_pos hlt]
        clear hno
        go_wp2
        go_ret
        exact ⟨by rw [HP.out]; rfl, hb0⟩
      · have he : ((ss[k]'hlt).1.toList == n.toList) = false := by simpa using he
        have HN : Hid (∀ j (hj : j < ss.length), j < k + 1 → ((ss[j]'hj).1.toList == n.toList) = false) := fun j hj h1 => by
          by_cases e : j = k
          · subst e; exact he
          · exact hno.out j hj (by omega)
        clear hno
        go_wp2
        go_round
        case rel => exact ⟨k + 1, by omega, by go_num, HN⟩
        case measure => simp [intOf]; omega
    · have HP : Hid (sIdx ss n = -1) := by
        show _ = _
        unfold sIdx
        rw [if_neg]
        intro h1
        have h2 := List.findIdx_getElem (w := h1)
        have h3 := hno.out _ h1 (by omega)
        simp at h2 h3
        exact h3 h2
      clear hno
      go_wp2
      go_ret
      exact ⟨by rw [HP.out]; rfl, hb0⟩

theorem sIdx_cases (ss : List DSkySector) (n : ByteArray) : (sIdx ss n = -1 ∧ ∀ j (h : j < ss.length), nmEq (ss[j]'h).1 n = false) ∨ ∃ i : Nat, sIdx ss n = (i : Int) ∧ ∃ h : i < ss.length, nmEq (ss[i]'h).1 n = true := by
  unfold sIdx
  split
  · rename_i h
    refine .inr ⟨_, rfl, h, ?_⟩
    have := List.findIdx_getElem (w := h)
    exact this
  · rename_i h
    refine .inl ⟨rfl, fun j hj => ?_⟩
    unfold nmEq
    cases hb : ((ss[j]'hj).1.toList == n.toList)
    · rfl
    · exact absurd (List.findIdx_lt_length.2 ⟨ss[j], List.getElem_mem hj, hb⟩) h

/-- Some block of the one touches some block of the other. -/
def bbT (av bs : List DSkyBlock) : Bool := av.any fun m => bs.any fun n => touchBB m n
def NoM (av bs : List DSkyBlock) (k : Nat) : Prop := ∀ j (h : j < av.length), j < k → (bs.any fun n => touchBB (av[j]'h) n) = false
def NoN (a : DSkyBlock) (bs : List DSkyBlock) (k : Nat) : Prop := ∀ j (h : j < bs.length), j < k → touchBB a (bs[j]'h) = false
theorem noN_all {a : DSkyBlock} {bs : List DSkyBlock} (h : NoN a bs bs.length) : (bs.any fun n => touchBB a n) = false := by
  rw [List.any_eq_false]
  intro b hb
  obtain ⟨i, hi, rfl⟩ := List.getElem_of_mem hb
  rw [h i hi hi]
  simp
theorem noM_all {av bs : List DSkyBlock} (h : NoM av bs av.length) : bbT av bs = false := by
  unfold bbT
  rw [List.any_eq_false]
  intro b hb
  obtain ⟨i, hi, rfl⟩ := List.getElem_of_mem hb
  rw [h i hi hi]
  simp
theorem bbT_some {av bs : List DSkyBlock} {m n : Nat} (hm : m < av.length) (hn : n < bs.length) (h : touchBB (av[m]'hm) (bs[n]'hn) = true) : bbT av bs = true :=
  List.any_eq_true.2 ⟨_, List.getElem_mem hm, List.any_eq_true.2 ⟨_, List.getElem_mem hn, h⟩⟩

/-- The box of a sky. -/
def SkB (p : Nat) (cs : Array Value) (W : World) : Prop := W.cell? ⟨p, 0, none⟩ = cs[0]? ∧ W.cell? ⟨p, 1, none⟩ = cs[1]? ∧ W.cell? ⟨p, 2, none⟩ = cs[2]? ∧ W.cell? ⟨p, 3, none⟩ = cs[3]? ∧ W.cell? ⟨p, 4, none⟩ = cs[4]? ∧ W.cell? ⟨p, 5, none⟩ = cs[5]? ∧ W.cell? ⟨p, 6, none⟩ = cs[6]?
theorem SkB.below {p n : Nat} {cs : Array Value} {w w' : World} (h : SkB p cs w) (hb : Below n w w') (hn : p < n) : SkB p cs w' := by
  obtain ⟨h0, h1, h2, h3, h4, h5, h6⟩ := h
  exact ⟨(hb.cell (p := ⟨p, 0, none⟩) hn).trans h0, (hb.cell (p := ⟨p, 1, none⟩) hn).trans h1, (hb.cell (p := ⟨p, 2, none⟩) hn).trans h2, (hb.cell (p := ⟨p, 3, none⟩) hn).trans h3, (hb.cell (p := ⟨p, 4, none⟩) hn).trans h4, (hb.cell (p := ⟨p, 5, none⟩) hn).trans h5, (hb.cell (p := ⟨p, 6, none⟩) hn).trans h6⟩

/-- What the specification asks. -/
noncomputable def touchS (x : DSky) (a b : ByteArray) : Bool :=
  if validB x then (if sIdx x.2.2.2.2.2.1 a < 0 then false else if sIdx x.2.2.2.2.2.1 b < 0 then false else if sIdx x.2.2.2.2.2.1 a = sIdx x.2.2.2.2.2.1 b then false else bbT (x.2.2.2.2.2.1.getD (sIdx x.2.2.2.2.2.1 a).toNat (⟨#[]⟩, [])).2 (x.2.2.2.2.2.1.getD (sIdx x.2.2.2.2.2.1 b).toNat (⟨#[]⟩, [])).2) else false

set_option maxRecDepth 100000 in
set_option maxHeartbeats 8000000 in
theorem sTouch (W H L : Int) (ps : List DSkyPoint) (aw : List DSkyAirway) (ss : List DSkySector) (rs : List DSkyRunway) (ao3 : Option Addr) (cap3 : Nat) (ao4 : Option Addr) (cap4 : Nat) (ao5 : Option Addr) (cap5 : Nat) (ao6 : Option Addr) (cap6 : Nat) (a b : ByteArray) (w : World) (h : SkyAt w (W, H, L, ps, aw, ss, rs) ao3 cap3 ao4 cap4 ao5 cap5 ao6 cap6) :
    Calls Tryd.prog 11 #[.agg #[.int .i64 W, .int .i64 H, .int .i64 L, .slice ao3 ps.length cap3, .slice ao4 aw.length cap4, .slice ao5 ss.length cap5, .slice ao6 rs.length cap6], .string a, .string b] w fun e w' => e = .returned (.bool (touchS (W, H, L, ps, aw, ss, rs) a b)) ∧ Below w.heap.size w w' := by
  have HSM : Hid (validB (W, H, L, ps, aw, ss, rs) = true → ∀ s ∈ ss, ∀ b ∈ s.2, SmallB b) := fun hv => small_of_valid (validB_iff.1 hv)
  obtain ⟨w0, hw0⟩ : ∃ w0, w0 = w.alloc (.cells #[.int .i64 W, .int .i64 H, .int .i64 L, .slice ao3 ps.length cap3, .slice ao4 aw.length cap4, .slice ao5 ss.length cap5, .slice ao6 rs.length cap6] 38) := ⟨_, rfl⟩
  have hb0 : Below w.heap.size w w0 := by rw [hw0]; exact (Below.refl _ _).alloc (Nat.le_refl _) _
  have hsz : w0.heap.size = w.heap.size + 1 := by rw [hw0]; simp
  have h0 := h.later hb0
  have hbx : SkB w.heap.size #[.int .i64 W, .int .i64 H, .int .i64 L, .slice ao3 ps.length cap3, .slice ao4 aw.length cap4, .slice ao5 ss.length cap5, .slice ao6 rs.length cap6] w0 := by rw [hw0]; exact ⟨by go_simp, by go_simp, by go_simp, by go_simp, by go_simp, by go_simp, by go_simp⟩
  have HA := sSector W H L ps aw ss rs ao3 cap3 ao4 cap4 ao5 cap5 ao6 cap6 a w0 h0.p5
  have HWS : Hid (touchS (W, H, L, ps, aw, ss, rs) a b = if validB (W, H, L, ps, aw, ss, rs) then (if sIdx ss a < 0 then false else if sIdx ss b < 0 then false else if sIdx ss a = sIdx ss b then false else bbT (ss.getD (sIdx ss a).toNat (⟨#[]⟩, [])).2 (ss.getD (sIdx ss b).toNat (⟨#[]⟩, [])).2) else false) := rfl
  generalize touchS (W, H, L, ps, aw, ss, rs) a b = r at *
  rw [hw0] at HA
  clear h
  go_enter Tryd.func11, Tryd.ntmps11
  go_wp2_with fail
  refine HA.mono ?_
  rw [← hw0]
  rintro e w1 ⟨rfl, hb1⟩
  clear HA hw0
  have hB1 := hb0.trans (hb1.mono (by omega))
  have h1 := h0.later hb1
  have hx1 := hbx.below hb1 (by omega)
  have hs1 : w.heap.size + 1 ≤ w1.heap.size := by have := hb1.size; omega
  have HB := sSector W H L ps aw ss rs ao3 cap3 ao4 cap4 ao5 cap5 ao6 cap6 b w1 h1.p5
  clear hb1 h0 hbx hb0
  obtain ⟨c0, c1, c2, c3, c4, c5, c6⟩ := hx1
  simp at c0 c1 c2 c3 c4 c5 c6
  have hx1 : SkB w.heap.size #[.int .i64 W, .int .i64 H, .int .i64 L, .slice ao3 ps.length cap3, .slice ao4 aw.length cap4, .slice ao5 ss.length cap5, .slice ao6 rs.length cap6] w1 := ⟨by simpa using c0, by simpa using c1, by simpa using c2, by simpa using c3, by simpa using c4, by simpa using c5, by simpa using c6⟩
  go_wp2_with fail
  refine HB.mono ?_
  rintro e w2 ⟨rfl, hb2⟩
  clear HB c0 c1 c2 c3 c4 c5 c6
  have hB2 := hB1.trans (hb2.mono (by omega))
  have h2 := h1.later hb2
  have hx2 := hx1.below hb2 (by omega)
  have hs2 : w.heap.size + 1 ≤ w2.heap.size := by have := hb2.size; omega
  have HV := sSkyValid (W, H, L, ps, aw, ss, rs) ao3 cap3 ao4 cap4 ao5 cap5 ao6 cap6 w2 h2
  clear hb2 h1 hx1 hB1 hs1
  obtain ⟨c0, c1, c2, c3, c4, c5, c6⟩ := hx2
  simp at c0 c1 c2 c3 c4 c5 c6
  try simp only at HV
  go_wp2_with fail
  refine HV.mono ?_
  rintro e w3 ⟨he, hb3⟩
  have he := validB_of he
  subst he
  have hB3 := hB2.trans (hb3.mono (by omega))
  have h3 := (h2.later hb3).p5
  have d5 := (hb3.cell (p := ⟨w.heap.size, 5, none⟩) (by show w.heap.size < _; omega)).trans c5
  have hs3 : w.heap.size + 1 ≤ w3.heap.size := by have := hb3.size; omega
  clear HV hb3 h2 hB2 c0 c1 c2 c3 c4 c5 c6 hs2
  generalize validB (W, H, L, ps, aw, ss, rs) = v at *
  cases v
  · have hr : Hid (r = false) := HWS.out
    clear HWS
    go_wp2
    go_ret
    exact ⟨by rw [hr.out]; rfl, hB3⟩
  · have hr : Hid (r = (if sIdx ss a < 0 then false else if sIdx ss b < 0 then false else if sIdx ss a = sIdx ss b then false else bbT (ss.getD (sIdx ss a).toNat (⟨#[]⟩, [])).2 (ss.getD (sIdx ss b).toNat (⟨#[]⟩, [])).2)) := HWS.out
    have hS := HSM.out rfl
    clear HWS HSM
    rcases sIdx_cases ss a with ⟨ea, _⟩ | ⟨I, ea, hI, _⟩
    · rw [ea] at hr ⊢
      have hr : Hid (r = false) := hr.out
      clear hS
      go_wp2
      go_ret
      exact ⟨by rw [hr.out]; rfl, hB3⟩
    · rcases sIdx_cases ss b with ⟨eb, _⟩ | ⟨K, eb, hK, _⟩
      · rw [ea, eb] at hr ⊢
        have hr : Hid (r = false) := by have := hr.out; rw [if_neg (by omega)] at this; exact this
        clear hS ea eb
        have hIn : ¬ ((I : Int) < 0) := by omega
        go_wp2
        go_ret
        exact ⟨by rw [hr.out]; rfl, hB3⟩
      · rw [ea, eb] at hr ⊢
        by_cases hIK : I = K
        · subst hIK
          have hr : Hid (r = false) := by have := hr.out; rw [if_neg (by omega), if_neg (by omega), if_pos rfl] at this; exact this
          clear hS ea eb
          go_wp2
          go_ret
          exact ⟨by rw [hr.out]; rfl, hB3⟩
        · have hr : Hid (r = bbT (ss[I]'hI).2 (ss[K]'hK).2) := by
            have := hr.out
            rw [if_neg (by omega), if_neg (by omega), if_neg (by omega)] at this
            show _ = _
            simpa [hI, hK] using this
          have HSI : Hid (∀ b ∈ (ss[I]'hI).2, SmallB b) := fun b hb => hS _ (List.getElem_mem hI) b hb
          have HSK : Hid (∀ b ∈ (ss[K]'hK).2, SmallB b) := fun b hb => hS _ (List.getElem_mem hK) b hb
          obtain ⟨b1, off, ao1, cap1, rfl, hok, _, c1, _, p1⟩ := elem_SkySector h3 hI
          obtain ⟨b1', off', ao2, cap2, e5, hok', _, c1', _, p2⟩ := elem_SkySector h3 hK
          cases e5
          have hIL : (I : Int) < (ss.length : Int) := by omega
          have hKL : (K : Int) < (ss.length : Int) := by omega
          have hIKn : ((I : Int) == (K : Int)) = false := by simp; omega
          generalize (ss[I]'hI).2 = av at *
          generalize (ss[K]'hK).2 = bs at *
          have hla : av.length ≤ 9223372036854775807 := Nat.le_trans p1.1 p1.2.1
          have hlb : bs.length ≤ 9223372036854775807 := Nat.le_trans p2.1 p2.2.1
          clear hS ea eb
          go_wp2
          go_loopw [9] (fun i wr => ∃ m : Nat, m ≤ av.length ∧ i = .int .i64 m ∧ Hid (NoM av bs m) ∧ Below w.heap.size w wr ∧ Below w3.heap.size w3 wr) (fun i _ => av.length - (intOf i).toNat)
          case atStart => exact ⟨0, Nat.zero_le _, rfl, fun j _ hj => by omega, hB3, Below.refl _ _⟩
          case round =>
            obtain ⟨m, hm, rfl, hno, hB, hB0⟩ := hrel
            have z5 := (hB0.cell (p := ⟨w.heap.size, 5, none⟩) (by show w.heap.size < _; omega)).trans d5
            have f1 := (hB0.cell (p := ⟨b1, off + I * 2 + 1, none⟩) hok).trans c1
            by_cases hlt : m < av.length
            · obtain ⟨b2, off2, rfl, hok2, x0, x1, x2, x3, x4, x5, _, _, _, _, _, _⟩ := elem_SkyBlock p1 hlt
              have hmI : (m : Int) < (av.length : Int) := by omega
              have HSOME : Hid (∀ n (hn : n < bs.length), touchBB (av[m]'hlt) (bs[n]'hn) = true → bbT av bs = true) := fun n hn hb => bbT_some hlt hn hb
              have HNEXT : Hid (NoN (av[m]'hlt) bs bs.length → NoM av bs (m + 1)) := fun h1 j hj h2 => by
                by_cases e : j = m
                · subst e; exact noN_all h1
                · exact hno.out j hj (by omega)
              have HSA := HSI.out _ (List.getElem_mem hlt)
              generalize av[m]'hlt = one at *
              have HSAH : Hid (SmallB one) := HSA
              clear hno HSA
              go_wp2
              go_loopw [10] (fun i wr => ∃ n : Nat, n ≤ bs.length ∧ i = .int .i64 n ∧ Hid (NoN one bs n) ∧ Below w.heap.size w wr ∧ Below w3.heap.size w3 wr) (fun i _ => bs.length - (intOf i).toNat)
              case atStart => exact ⟨0, Nat.zero_le _, rfl, fun j _ hj => by omega, hB, hB0⟩
              case round =>
                clear z5 f1
                obtain ⟨n, hn, rfl, hnb, hB', hB2⟩ := hrel
                have z5 := (hB2.cell (p := ⟨w.heap.size, 5, none⟩) (by show w.heap.size < _; omega)).trans d5
                have f1 := (hB2.cell (p := ⟨b1, off + I * 2 + 1, none⟩) hok).trans c1
                have f2 := (hB2.cell (p := ⟨b1, off + K * 2 + 1, none⟩) hok').trans c1'
                by_cases hltn : n < bs.length
                · obtain ⟨b3, off3, rfl, hok3, y0, y1, y2, y3, y4, y5, _, _, _, _, _, _⟩ := elem_SkyBlock p2 hltn
                  have hnI : (n : Int) < (bs.length : Int) := by omega
                  have g0 := (hB2.cell (p := ⟨b2, off2 + m * 6, none⟩) hok2).trans x0
                  have g1 := (hB2.cell (p := ⟨b2, off2 + m * 6 + 1, none⟩) hok2).trans x1
                  have g2 := (hB2.cell (p := ⟨b2, off2 + m * 6 + 2, none⟩) hok2).trans x2
                  have g3 := (hB2.cell (p := ⟨b2, off2 + m * 6 + 3, none⟩) hok2).trans x3
                  have g4 := (hB2.cell (p := ⟨b2, off2 + m * 6 + 4, none⟩) hok2).trans x4
                  have g5 := (hB2.cell (p := ⟨b2, off2 + m * 6 + 5, none⟩) hok2).trans x5
                  have l0 := (hB2.cell (p := ⟨b3, off3 + n * 6, none⟩) hok3).trans y0
                  have l1 := (hB2.cell (p := ⟨b3, off3 + n * 6 + 1, none⟩) hok3).trans y1
                  have l2 := (hB2.cell (p := ⟨b3, off3 + n * 6 + 2, none⟩) hok3).trans y2
                  have l3 := (hB2.cell (p := ⟨b3, off3 + n * 6 + 3, none⟩) hok3).trans y3
                  have l4 := (hB2.cell (p := ⟨b3, off3 + n * 6 + 4, none⟩) hok3).trans y4
                  have l5 := (hB2.cell (p := ⟨b3, off3 + n * 6 + 5, none⟩) hok3).trans y5
                  have HH : Hid (touchBB one (bs[n]'hltn) = true → bbT av bs = true) := HSOME.out n hltn
                  have HN : Hid (touchBB one (bs[n]'hltn) = false → NoN one bs (n + 1)) := fun hf j hj h2 => by
                    by_cases e : j = n
                    · subst e; exact hf
                    · exact hnb.out j hj (by omega)
                  have HSB := HSK.out _ (List.getElem_mem hltn)
                  generalize bs[n]'hltn = two at *
                  have HT := fun W => sTouchB one two W _ rfl HSAH.out HSB
                  generalize touchBB one two = v at *
                  obtain ⟨q0, q1, q2, q3, q4, q5⟩ := one
                  obtain ⟨t0, t1, t2, t3, t4, t5⟩ := two
                  simp only [vBlk] at *
                  have cT : ∀ d os, Calls Tryd.prog 32 #[.agg #[.int .i64 q0, .int .i64 q1, .int .i64 q2, .int .i64 q3, .int .i64 q4, .int .i64 q5], .agg #[.int .i64 t0, .int .i64 t1, .int .i64 t2, .int .i64 t3, .int .i64 t4, .int .i64 t5]] (grow (redrawn wr d) os) fun e w'' => e = .returned (.bool v) ∧ ∃ p : Regrown, w'' = grow (redrawn wr p.d) p.os := fun d os => Calls.regrown_of (HT _)
                  have r5 := cell_regrown z5
                  have r1 := cell_regrown f1
                  have r2 := cell_regrown f2
                  have u0 := cell_regrown g0
                  have u1 := cell_regrown g1
                  have u2 := cell_regrown g2
                  have u3 := cell_regrown g3
                  have u4 := cell_regrown g4
                  have u5 := cell_regrown g5
                  have s0 := cell_regrown l0
                  have s1 := cell_regrown l1
                  have s2 := cell_regrown l2
                  have s3 := cell_regrown l3
                  have s4 := cell_regrown l4
                  have s5 := cell_regrown l5
                  clear g0 g1 g2 g3 g4 g5 l0 l1 l2 l3 l4 l5
                  clear HT hnb HSB
                  have hws : w3.heap.size ≤ wr.heap.size := hB2.size
                  go_wp2_with fail
                  refine Leg.wp_region_qw (by kernel_rfl) (by kernel_rfl) ?_
                  refine Leg.QW.want (by kernel_rfl) (fun K hK => ?_)
                  go_big_quiet_op
                  refine hK _ ?_
                  clear hK K
                  refine Leg.QW.want (by kernel_rfl) (fun K hK => ?_)
                  go_big_quiet_op
                  refine hK _ ?_
                  clear hK K
                  refine Leg.QW.want (by kernel_rfl) (fun K hK => ?_)
                  go_big_quiet_op
                  refine hK _ ?_
                  clear hK K
                  refine Leg.QW.want (by kernel_rfl) (fun K hK => ?_)
                  go_big_quiet_op
                  refine hK _ ?_
                  clear hK K
                  refine Leg.QW.want (by kernel_rfl) (fun K hK => ?_)
                  go_big_quiet_op
                  refine hK _ ?_
                  clear hK K
                  refine Leg.QW.want (by kernel_rfl) (fun K hK => ?_)
                  go_big_quiet_op
                  refine hK _ ?_
                  clear hK K
                  refine Leg.QW.want (by kernel_rfl) (fun K hK => ?_)
                  go_big_quiet_op
                  refine hK _ ?_
                  clear hK K
                  refine Leg.QW.want (by kernel_rfl) (fun K hK => ?_)
                  go_big_quiet_op
                  refine hK _ ?_
                  clear hK K
                  refine Leg.QW.want (by kernel_rfl) (fun K hK => ?_)
                  go_big_quiet_op
                  refine hK _ ?_
                  clear hK K
                  refine Leg.QW.want (by kernel_rfl) (fun K hK => ?_)
                  go_big_quiet_op
                  refine hK _ ?_
                  clear hK K
                  refine Leg.QW.want (by kernel_rfl) (fun K hK => ?_)
                  go_big_quiet_op
                  refine hK _ ?_
                  clear hK K
                  refine Leg.QW.want (by kernel_rfl) (fun K hK => ?_)
                  go_big_quiet_op
                  refine hK _ ?_
                  clear hK K
                  refine Leg.QW.want (by kernel_rfl) (fun K hK => ?_)
                  go_big_quiet_op
                  refine hK _ ?_
                  clear hK K
                  refine Leg.QW.want (by kernel_rfl) (fun K hK => ?_)
                  go_big_quiet_op
                  refine hK _ ?_
                  clear hK K
                  refine Leg.QW.want (by kernel_rfl) (fun K hK => ?_)
                  go_big_quiet_op
                  refine hK _ ?_
                  clear hK K
                  refine Leg.QW.want (by kernel_rfl) (fun K hK => ?_)
                  go_big_quiet_op
                  refine hK _ ?_
                  clear hK K
                  refine Leg.QW.want (by kernel_rfl) (fun K hK => ?_)
                  go_big_quiet_op
                  refine hK _ ?_
                  clear hK K
                  refine Leg.QW.want (by kernel_rfl) (fun K hK => ?_)
                  go_big_quiet_op
                  refine hK _ ?_
                  clear hK K
                  refine Leg.QW.want (by kernel_rfl) (fun K hK => ?_)
                  go_big_quiet_op
                  refine ⟨_, fun _ => cT _ _, hK _ ?_⟩
                  clear hK K
                  refine Leg.QW.nil ?_
                  intro _ hw'
                  obtain ⟨⟨dq, osq⟩, hw''⟩ := hw'
                  subst hw''
                  have hbq := below_regrown wr dq osq
                  have hBq := hB'.trans (hbq.mono hB'.size)
                  have hB2q := hB2.trans (hbq.mono hws)
                  clear r5 r1 r2 cT z5 f1 f2 hbq u0 u1 u2 u3 u4 u5 s0 s1 s2 s3 s4 s5
                  generalize grow (redrawn wr dq) osq = w9 at hBq hB2q ⊢
                  have z5 := (hB2q.cell (p := ⟨w.heap.size, 5, none⟩) (by show w.heap.size < _; omega)).trans d5
                  cases v
                  · have HN2 : Hid (NoN (q0, q1, q2, q3, q4, q5) bs (n + 1)) := HN.out rfl
                    clear HN HH
                    go_wp2
                    go_roundw
                    case rel => exact ⟨n + 1, by omega, by go_num, HN2, hBq, hB2q⟩
                    case measure => simp [intOf]; omega
                  · have HH2 : Hid (bbT av bs = true) := HH.out rfl
                    clear HN HH
                    go_wp2
                    go_ret
                    exact ⟨by rw [hr.out, HH2.out]; rfl, hBq⟩
                · have hme : n = bs.length := by omega
                  subst hme
                  have HN2 : Hid (NoM av bs (m + 1)) := HNEXT.out hnb.out
                  clear hnb HNEXT HSOME
                  go_wp2
                  go_roundw
                  case rel => exact ⟨m + 1, by omega, by go_num, HN2, hB', hB2⟩
                  case measure => simp [intOf]; omega
            · have hke : m = av.length := by omega
              subst hke
              have HE : Hid (bbT av bs = false) := noM_all hno.out
              clear hno
              go_wp2
              go_ret
              exact ⟨by rw [hr.out, HE.out]; rfl, hB⟩

end Go.Proofs.YtnjbplcdfiddeaaDoor
