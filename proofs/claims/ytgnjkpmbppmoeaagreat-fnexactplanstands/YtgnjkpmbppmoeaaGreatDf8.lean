/- DERIVED. spec.l16Value: what is said of a thing; its walk. -/
import Derived.Test.YtgnjkpmbppmoeaaGreatDf5
namespace Go.Proofs.YtgnjkpmbppmoeaaGreat
namespace Std
open Go.RowKit
set_option linter.unusedSimpArgs false
set_option linter.unusedVariables false

def valP : List DPlanField → Int → ByteArray
  | [], _ => ByteArray.empty
  | f :: l, wh => if f.1 = wh then f.2.2 else valP l wh
theorem valP_hit {wh : Int} : ∀ {l : List DPlanField} {k : Nat}, NoF l wh k → ∀ hk : k < l.length, (l[k]'hk).1 = wh → valP l wh = (l[k]'hk).2.2
  | f :: l, 0, _, _, h => by
    show (if f.1 = wh then f.2.2 else valP l wh) = _
    rw [if_pos (show f.1 = wh from h)]; rfl
  | f :: l, k + 1, hn, hk, h => by
    show (if f.1 = wh then f.2.2 else valP l wh) = _
    rw [if_neg (show ¬ f.1 = wh from hn 0 (by simp) (by omega))]
    exact valP_hit (fun j hj hjk => hn (j + 1) (by simpa using hj) (by omega)) (by simpa using hk) h
theorem valP_none {wh : Int} : ∀ {l : List DPlanField}, NoF l wh l.length → valP l wh = ByteArray.empty
  | [], _ => rfl
  | f :: l, hn => by
    show (if f.1 = wh then f.2.2 else valP l wh) = _
    rw [if_neg (show ¬ f.1 = wh from hn 0 (by simp) (by simp))]
    exact valP_none (fun j hj hjk => hn (j + 1) (by simpa using hj) (by simpa using hj))

set_option maxRecDepth 100000 in
set_option maxHeartbeats 2000000 in
theorem sValue (n : ByteArray) (fs : List DPlanField) (fo : Option Addr) (fc : Nat) (wh : Int) (w : World) (hf : SliceAt vPlanField (old w) w fo fc fs) :
    Calls Tryz.prog 58 #[.agg #[.string n, .slice fo fs.length fc], .int .i64 wh] w fun e w' => e = .returned (.string (valP fs wh)) ∧ Below w.heap.size w w' := by
  have hm : fs.length ≤ 9223372036854775807 := Nat.le_trans hf.1 hf.2.1
  have hb0 : Below w.heap.size w (w.alloc (.cells #[.string n, .slice fo fs.length fc] 67)) := (Below.refl _ _).alloc (Nat.le_refl _) _
  have HB0 := BxC.new w #[.string n, .slice fo fs.length fc] 67
  have x1 := HB0 1
  simp at x1
  clear HB0
  go_enter Tryz.func58, Tryz.ntmps58
  go_wp2
  go_loop [5] (fun i => ∃ k : Nat, k ≤ fs.length ∧ i = .int .i64 k ∧ Hid (NoF fs wh k)) (fun i => fs.length - (intOf i).toNat)
  case atStart => exact ⟨0, Nat.zero_le _, rfl, fun j _ hj => by omega⟩
  case round =>
    obtain ⟨k, hk, rfl, hpre⟩ := hrel
    by_cases hlt : k < fs.length
    · obtain ⟨b, off, rfl, hok, c0, c1, c2, q0, _, _⟩ := elem_PlanField hf hlt
      have f0 := (hb0.cell (p := ⟨b, off + k * 3, none⟩) hok).trans c0
      have f2 := (hb0.cell (p := ⟨b, off + k * 3 + 2, none⟩) hok).trans c2
      clear c0 c1 c2
      have hbw : b < w.heap.size := hok
      have hkI : (k : Int) < (fs.length : Int) := by omega
      have HN : Hid (¬ (fs[k]'hlt).1 = wh → NoF fs wh (k + 1)) := fun e => (noF_next hlt).2 ⟨hpre.out, e⟩
      have HY : Hid ((fs[k]'hlt).1 = wh → valP fs wh = (fs[k]'hlt).2.2) := fun e => valP_hit hpre.out hlt e
      obtain ⟨a, nu, v, hcur⟩ : ∃ a b c, fs[k]'hlt = (a, b, c) := ⟨_, _, _, rfl⟩
      rw [hcur] at f0 f2 q0 HN HY
      simp only at f0 f2 q0 HN HY
      clear hcur hpre
      by_cases hq : a = wh
      · have HR : Hid (valP fs wh = v) := HY.out hq
        subst hq
        clear HN HY
        go_wp2
        go_ret
        exact ⟨by rw [HR.out]; rfl, hb0⟩
      · have HR : Hid (NoF fs wh (k + 1)) := HN.out hq
        clear HN HY
        go_wp2
        go_round
        case rel => exact ⟨k + 1, by omega, by go_num, HR⟩
        case measure => simp [intOf]; omega
    · have hkl : k = fs.length := by omega
      have HR : Hid (valP fs wh = ByteArray.empty) := valP_none (hkl ▸ hpre.out)
      clear hpre hkl
      go_wp2
      go_ret
      exact ⟨by rw [HR.out]; rfl, hb0⟩

end Std
end Go.Proofs.YtgnjkpmbppmoeaaGreat
