/- DERIVED. (impl.skyTaken).take: its walk. -/
import Derived.Test.YthkpjljhjdjbfaaDoorIM1
namespace Go.Proofs.YthkpjljhjdjbfaaDoor
open Go.RowKit Go.Maps
set_option linter.unusedSimpArgs false
set_option linter.unusedVariables false

theorem grown_alloc_trans {w w' : World} {o : Obj} {b : Nat} (h : (w.alloc o).drew.grownBy w' (some b)) (hb : b < w.heap.size) : w.grownBy w' (some b) := by
  refine ⟨h.os, h.tape, h.output, ?_, fun i hi hne => ?_⟩
  · have := h.size
    simp at this
    omega
  · rw [h.block i (by simp; omega) hne]
    exact heap_alloc_old w o hi

set_option maxHeartbeats 1000000 in
theorem take_raw (s : Spot) (hs : InS s) (B n : Nat) (D : DataW Unit) (c : Int) (w : World) (hown : w.ownsMap Tryd.prog 112 (plainElem Tryd.prog 3) B n D) (hn : n < 1000000)
    (hc : D.atKey (spotLit s) (.lit (.int .i64 0)) = .lit (.int .i64 c)) (h0 : 0 ≤ c) (h1 : c ≤ 10) :
    Calls Tryd.prog 69 #[.map (some B), spotVal s] w fun e w' => e = .returned (.bool (c + 1 == 1)) ∧ w'.ownsMap Tryd.prog 112 (plainElem Tryd.prog 3) B (n + 1) (D.put (spotLit s) (.lit (.int .i64 (c + 1)))) ∧ w.grownBy w' (some B) := by
  have hkey := spotKey s hs
  have hBlt := hown.lt
  obtain ⟨x, y, l⟩ := s
  simp only [spotVal] at *
  obtain ⟨c', st, w2, hat, hl, hE, hl2, hg2, hS⟩ := own_incr (w := (w.alloc (.cells #[.int .i64 x, .int .i64 y, .int .i64 l] 112)).drew) spotLaw takenT intT intZ ((hown.alloc _).drew) (by unfold maxLen; omega) hkey
  rw [hc] at hat
  cases hat
  obtain ⟨w3, hst, hown3, hg3⟩ := hS (c + 1) (wf64 ⟨by omega, by omega⟩)
  obtain ⟨c3, hl3, hat3, _⟩ := hown3.lookup_int (Keyed.of_law spotLaw) takenT intT (intZ w3) hkey
  rw [atKey_put_same hown.isMap (spotIsKey _ hs)] at hat3
  cases hat3
  have hcell : ∀ (w' : World), (w.alloc (.cells #[.int .i64 x, .int .i64 y, .int .i64 l] 112)).drew.grownBy w' (some B) → ∀ i, w'.cell? ⟨w.heap.size, i, none⟩ = (#[Value.int .i64 x, .int .i64 y, .int .i64 l] : Array Value)[i]? := by
    intro w' hg i
    have hb : w'.heap[w.heap.size]? = some (.cells #[.int .i64 x, .int .i64 y, .int .i64 l] 112 (0, 0)) := (hg.block w.heap.size (by simp) (by simp; omega)).trans (heap_alloc_new w _)
    unfold World.cell?
    simp only [hb]
    rfl
  have q30 := hcell w3 hg3 0
  have q31 := hcell w3 hg3 1
  have q32 := hcell w3 hg3 2
  have q20 := hcell w2 hg2 0
  have q21 := hcell w2 hg2 1
  have q22 := hcell w2 hg2 2
  simp at q30 q31 q32 q20 q21 q22
  have hg := grown_alloc_trans hg3 hBlt
  clear hS hcell hg3 hg2 hc hkey
  go_enter Tryd.func69, Tryd.ntmps69
  go_wp2
  go_region
  all_goals
    go_wp2
    go_ret
    exact ⟨rfl, hown3, hg⟩
end Go.Proofs.YthkpjljhjdjbfaaDoor
