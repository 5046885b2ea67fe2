/- DERIVED. (impl.skyGoes).towards, impl.skyTurns: their walks, over the words that are laid. -/
import Derived.Test.YthkpjljhjdjbfaaDoorIS1
import Derived.Test.YthkpjljhjdjbfaaDoorIB0
import Derived.OwnWalk
namespace Go.Proofs.YthkpjljhjdjbfaaDoor
open Go.RowKit
set_option linter.unusedSimpArgs false
set_option linter.unusedVariables false

def dxr (r : Int) : Int := if r = 101 then 1 else if r = 119 then -1 else 0
def dyr (r : Int) : Int := if r = 110 then 1 else if r = 115 then -1 else 0

set_option maxHeartbeats 1000000 in
theorem towards_any (x y r : Int) (w : World) (hx : -100 ≤ x ∧ x ≤ 100) (hy : -100 ≤ y ∧ y ≤ 100) :
    Calls Tryd.prog 95 #[.agg #[.int .i64 x, .int .i64 y], .int .i32 r] w fun e w' => e = .returned (.agg #[.int .i64 (x + dxr r), .int .i64 (y + dyr r)]) ∧ Below w.heap.size w w' := by
  obtain ⟨hx1, hx2⟩ := hx
  obtain ⟨hy1, hy2⟩ := hy
  by_cases h1 : r = 110
  · subst h1
    have e1 : x + dxr 110 = x := by simp [dxr]
    have e2 : y + dyr 110 = y + 1 := by simp [dyr]
    rw [e1, e2]
    clear e1 e2
    go_enter Tryd.func95, Tryd.ntmps95
    go_wp2
    exact bodyPost_ret (v := .agg #[.int .i64 x, .int .i64 (y + 1)]) (by simp [results, Tryd.results95, go_sem]) rfl ⟨rfl, by repeat (first | exact Below.refl _ _ | refine Below.alloc ?_ (by simp; try omega) _)⟩
  by_cases h2 : r = 115
  · subst h2
    have e1 : x + dxr 115 = x := by simp [dxr]
    have e2 : y + dyr 115 = y - 1 := by simp [dyr]; omega
    rw [e1, e2]
    clear e1 e2
    go_enter Tryd.func95, Tryd.ntmps95
    go_wp2
    exact bodyPost_ret (v := .agg #[.int .i64 x, .int .i64 (y - 1)]) (by simp [results, Tryd.results95, go_sem]) rfl ⟨rfl, by repeat (first | exact Below.refl _ _ | refine Below.alloc ?_ (by simp; try omega) _)⟩
  by_cases h3 : r = 101
  · subst h3
    have e1 : x + dxr 101 = x + 1 := by simp [dxr]
    have e2 : y + dyr 101 = y := by simp [dyr]
    rw [e1, e2]
    clear e1 e2
    go_enter Tryd.func95, Tryd.ntmps95
    go_wp2
    exact bodyPost_ret (v := .agg #[.int .i64 (x + 1), .int .i64 y]) (by simp [results, Tryd.results95, go_sem]) rfl ⟨rfl, by repeat (first | exact Below.refl _ _ | refine Below.alloc ?_ (by simp; try omega) _)⟩
  by_cases h4 : r = 119
  · subst h4
    have e1 : x + dxr 119 = x - 1 := by simp [dxr]; omega
    have e2 : y + dyr 119 = y := by simp [dyr]
    rw [e1, e2]
    clear e1 e2
    go_enter Tryd.func95, Tryd.ntmps95
    go_wp2
    exact bodyPost_ret (v := .agg #[.int .i64 (x - 1), .int .i64 y]) (by simp [results, Tryd.results95, go_sem]) rfl ⟨rfl, by repeat (first | exact Below.refl _ _ | refine Below.alloc ?_ (by simp; try omega) _)⟩
  have e1 : x + dxr r = x := by simp [dxr, h3, h4]
  have e2 : y + dyr r = y := by simp [dyr, h1, h2]
  rw [e1, e2]
  have g1 : (r == 110) = false := by simp [h1]
  have g2 : (r == 115) = false := by simp [h2]
  have g3 : (r == 101) = false := by simp [h3]
  have g4 : (r == 119) = false := by simp [h4]
  clear e1 e2 h1 h2 h3 h4
  go_enter Tryd.func95, Tryd.ntmps95
  go_wp2
  exact bodyPost_ret (v := .agg #[.int .i64 x, .int .i64 y]) (by simp [results, Tryd.results95, go_sem]) rfl ⟨rfl, by repeat (first | exact Below.refl _ _ | refine Below.alloc ?_ (by simp; try omega) _)⟩

/-- The words of the turns. -/
def wordsT : List ByteArray := [⟨#[110]⟩, ⟨#[110, 101]⟩, ⟨#[101]⟩, ⟨#[115, 101]⟩, ⟨#[115]⟩, ⟨#[115, 119]⟩, ⟨#[119]⟩, ⟨#[110, 119]⟩]
def wordT (k : Nat) : ByteArray := wordsT.getD k ByteArray.empty
abbrev turnCells : Array Value := #[.string ⟨#[110]⟩, .string ⟨#[110, 101]⟩, .string ⟨#[101]⟩, .string ⟨#[115, 101]⟩, .string ⟨#[115]⟩, .string ⟨#[115, 119]⟩, .string ⟨#[119]⟩, .string ⟨#[110, 119]⟩]
/-- The package's array holds them. -/
def TurnsLaid (w : World) : Prop := ∀ j, j < 8 → w.cell? ⟨0, j, none⟩ = turnCells[j]?

theorem TurnsLaid.pos {w : World} (h : TurnsLaid w) : 0 < w.heap.size := World.block_lt_of_cell? w ⟨0, 0, none⟩ (h 0 (by decide))
theorem TurnsLaid.later {w w' : World} (h : TurnsLaid w) (hb : Below w.heap.size w w') : TurnsLaid w' := fun j hj => (hb.cell (p := ⟨0, j, none⟩) h.pos).trans (h j hj)

def goXs : List UInt8 → Int
  | [] => 0
  | c :: l => dxr c.toNat + goXs l
def goYs : List UInt8 → Int
  | [] => 0
  | c :: l => dyr c.toNat + goYs l
theorem goXs_snoc (l : List UInt8) (c : UInt8) : goXs (l ++ [c]) = goXs l + dxr c.toNat := by
  induction l with
  | nil => simp [goXs]
  | cons a l ih => simp only [List.cons_append, goXs, ih]; omega
theorem goYs_snoc (l : List UInt8) (c : UInt8) : goYs (l ++ [c]) = goYs l + dyr c.toNat := by
  induction l with
  | nil => simp [goYs]
  | cons a l ih => simp only [List.cons_append, goYs, ih]; omega
theorem dxr_bd (r : Int) : -1 ≤ dxr r ∧ dxr r ≤ 1 := by unfold dxr; repeat' split <;> omega
theorem dyr_bd (r : Int) : -1 ≤ dyr r ∧ dyr r ≤ 1 := by unfold dyr; repeat' split <;> omega
theorem goXs_bd (l : List UInt8) : -(l.length : Int) ≤ goXs l ∧ goXs l ≤ l.length := by
  induction l with
  | nil => simp [goXs]
  | cons a l ih => have := dxr_bd a.toNat; simp only [goXs, List.length_cons]; omega
theorem goYs_bd (l : List UInt8) : -(l.length : Int) ≤ goYs l ∧ goYs l ≤ l.length := by
  induction l with
  | nil => simp [goYs]
  | cons a l ih => have := dyr_bd a.toNat; simp only [goYs, List.length_cons]; omega

/-- What the first k turns go by, as cells. -/
def goesL : Nat → List Value
  | 0 => []
  | k + 1 => goesL k ++ [.int .i64 (goXs (wordT k).data.toList), .int .i64 (goYs (wordT k).data.toList)]

theorem wordT_fine : ∀ k, k < 8 → (wordT k).size ≤ 2 ∧ ∀ c ∈ (wordT k).data.toList, c.toNat < 128 := by
  intro k hk
  match k, hk with
  | 0, _ => decide
  | 1, _ => decide
  | 2, _ => decide
  | 3, _ => decide
  | 4, _ => decide
  | 5, _ => decide
  | 6, _ => decide
  | 7, _ => decide

theorem index_turn0 (w : World) : (Instr.index 139 (.agg turnCells) (.int .i64 0)).run Tryd.prog w = .ok (.string ⟨#[110]⟩) w := by kernel_rfl
theorem index_turn1 (w : World) : (Instr.index 139 (.agg turnCells) (.int .i64 1)).run Tryd.prog w = .ok (.string ⟨#[110, 101]⟩) w := by kernel_rfl
theorem index_turn2 (w : World) : (Instr.index 139 (.agg turnCells) (.int .i64 2)).run Tryd.prog w = .ok (.string ⟨#[101]⟩) w := by kernel_rfl
theorem index_turn3 (w : World) : (Instr.index 139 (.agg turnCells) (.int .i64 3)).run Tryd.prog w = .ok (.string ⟨#[115, 101]⟩) w := by kernel_rfl
theorem index_turn4 (w : World) : (Instr.index 139 (.agg turnCells) (.int .i64 4)).run Tryd.prog w = .ok (.string ⟨#[115]⟩) w := by kernel_rfl
theorem index_turn5 (w : World) : (Instr.index 139 (.agg turnCells) (.int .i64 5)).run Tryd.prog w = .ok (.string ⟨#[115, 119]⟩) w := by kernel_rfl
theorem index_turn6 (w : World) : (Instr.index 139 (.agg turnCells) (.int .i64 6)).run Tryd.prog w = .ok (.string ⟨#[119]⟩) w := by kernel_rfl
theorem index_turn7 (w : World) : (Instr.index 139 (.agg turnCells) (.int .i64 7)).run Tryd.prog w = .ok (.string ⟨#[110, 119]⟩) w := by kernel_rfl
theorem index_turn (k : Nat) (hk : k < 8) (w : World) : (Instr.index 139 (.agg turnCells) (.int .i64 k)).run Tryd.prog w = .ok (.string (wordT k)) w := by
  have h : k = 0 ∨ k = 1 ∨ k = 2 ∨ k = 3 ∨ k = 4 ∨ k = 5 ∨ k = 6 ∨ k = 7 := by omega
  rcases h with rfl | rfl | rfl | rfl | rfl | rfl | rfl | rfl
  · exact index_turn0 w
  · exact index_turn1 w
  · exact index_turn2 w
  · exact index_turn3 w
  · exact index_turn4 w
  · exact index_turn5 w
  · exact index_turn6 w
  · exact index_turn7 w

theorem make_turns (w : World) : (Instr.makeSlice 130 (.int .i64 0) (.int .i64 8)).run Tryd.prog w = .ok (.slice (some ⟨w.heap.size, 0, none⟩) 0 8) (w.alloc (.cells #[.int .i64 0, .int .i64 0, .int .i64 0, .int .i64 0, .int .i64 0, .int .i64 0, .int .i64 0, .int .i64 0, .int .i64 0, .int .i64 0, .int .i64 0, .int .i64 0, .int .i64 0, .int .i64 0, .int .i64 0, .int .i64 0] 133)) := by kernel_rfl

theorem Tryd.infoGoes : (Tryd.prog.info? 133).map (fun i => (i.zero, i.size, i.bytes)) = some (some (.agg #[.int .i64 0, .int .i64 0]), 2, 16) := by kernel_rfl
end Go.Proofs.YthkpjljhjdjbfaaDoor
