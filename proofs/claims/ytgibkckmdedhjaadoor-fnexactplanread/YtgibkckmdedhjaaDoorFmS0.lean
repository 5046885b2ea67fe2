/- DERIVED. spec.l12Dec, spec.l12Odd, spec.l12Words: their walks. -/
import Derived.Test.YtgibkckmdedhjaaDoorFmD
import Derived.Test.YtgibkckmdedhjaaDoorPQ0
import Derived.Test.YtgibkckmdedhjaaDoorNs0
import Derived.Laws.IdiomStrings
import Derived.Laws.Concat
namespace Go.Proofs.YtgibkckmdedhjaaDoor
open Go.RowKit
set_option linter.unusedSimpArgs false
set_option linter.unusedVariables false

theorem mixedF : Tryd.prog.follows .mixedOrders = true := by kernel_rfl
/-- A digit's byte. -/
def dgB (d : Nat) : UInt8 := UInt8.ofNat (48 + d)
theorem dgB_nat {d : Nat} (h : d < 10) : (dgB d).toNat = 48 + d := by
  unfold dgB
  rw [UInt8.toNat_ofNat']
  omega
theorem dec_one {d : Nat} (h : d < 10) : Lib.decDigits d = [dgB d] := by rw [Lib.decDigits, dif_pos h]; rfl
theorem dec_more {d : Nat} (h1 : ¬ d < 10) : Lib.decDigits d = Lib.decDigits (d / 10) ++ [dgB (d % 10)] := by
  rw [Lib.decDigits, dif_neg h1]; rfl

theorem conv_byte (w : World) (g d : Nat) (hd : d < 10) (c : w.cell? ⟨g, 0, none⟩ = some (.int .u8 (48 + (d : Int)))) : (convert 44 9 (.slice (some ⟨g, 0, none⟩) 1 1)).run Tryd.prog w = .ok (.string ⟨#[dgB d]⟩) w := by
  refine run_convert_bytes_back w 44 9 5 ⟨g, 0, none⟩ 1 [dgB d] Tryd.underlying44 Tryd.underlying5 Tryd.underlying9 ?_
  intro j hj
  obtain rfl : j = 0 := by simp at hj; omega
  rw [add_none]
  refine c.trans ?_
  simp [dgB_nat hd]

set_option maxRecDepth 100000 in
theorem specDec_small (d : Nat) (hd : d < 10) (w : World) : Calls Tryd.prog 18 #[.int .i64 d] w fun e w' => e = .returned (.string ⟨#[dgB d]⟩) ∧ Below w.heap.size w w' := by
  have hdI : (d : Int) < 10 := by omega
  have hwr : IntKind.i64.wrap (48 + (d : Int)) = 48 + (d : Int) := by rw [IntKind.wrap_i64]; all_goals omega
  have hwu : IntKind.u8.wrap (48 + (d : Int)) = 48 + (d : Int) := by rw [IntKind.wrap]; simp [IntKind.signed, IntKind.bits]; omega
  go_enter Tryd.func18, Tryd.ntmps18
  go_wp2
  rw [conv_byte _ _ d hd (by go_simp)]
  simp only [Result.andThen]
  rw [Oper.upon_value]
  go_wp2
  go_ret
  exact ⟨rfl, (Below.refl _ _).alloc (Nat.le_refl _) _⟩

set_option maxRecDepth 100000 in
set_option maxHeartbeats 1000000 in
theorem specDec_big (d q r : Nat) (sq : ByteArray) (hsq : sq.size ≤ 1000000) (hqb : q ≤ 1000000) (hr9 : r < 10) (hd0 : 10 ≤ d) (hdb : d ≤ 10000000) (hq : (d : Int) / 10 = (q : Int)) (hr : (d : Int) % 10 = (r : Int)) (HQ : ∀ W : World, Calls Tryd.prog 18 #[.int .i64 q] W fun e w' => e = .returned (.string sq) ∧ Below W.heap.size W w') (w : World) : Calls Tryd.prog 18 #[.int .i64 d] w fun e w' => e = .returned (.string (sq ++ ⟨#[dgB r]⟩)) ∧ Below w.heap.size w w' := by
  have hdI : ¬ ((d : Int) < 10) := by omega
  have hqt : (d : Int).tdiv 10 = (q : Int) := by rw [Int.tdiv_eq_ediv_of_nonneg (by omega)]; exact hq
  have hrt : (d : Int).tmod 10 = (r : Int) := by rw [Int.tmod_eq_emod_of_nonneg (by omega)]; exact hr
  have hwr : IntKind.i64.wrap (48 + (r : Int)) = 48 + (r : Int) := by rw [IntKind.wrap_i64]; all_goals omega
  have hwu : IntKind.u8.wrap (48 + (r : Int)) = 48 + (r : Int) := by rw [IntKind.wrap]; simp [IntKind.signed, IntKind.bits]; omega
  have hwq : IntKind.i64.wrap (q : Int) = (q : Int) := by rw [IntKind.wrap_i64]; all_goals omega
  have hwx : IntKind.i64.wrap (r : Int) = (r : Int) := by rw [IntKind.wrap_i64]; all_goals omega
  have hadd := fun W => run_string_add_sum (P := Tryd.prog) W sq ⟨#[dgB r]⟩ (show sq.size + 1 ≤ 9223372036854775807 by omega)
  have hC : Below w.heap.size w w.drew := (Below.refl _ _).drew
  go_enter Tryd.func18, Tryd.ntmps18
  go_wp2
  refine wp_region_RC (fun W => Below w.heap.size w W) mixedF ?_
  refine RC.take (i := 0) (v := ?v0) rfl (by kernel_rfl) (by kernel_rfl) (by kernel_rfl) (fun _ _ _ h => h) hC (by rfl) ?y0 ?r0
  case y0 => (intro W hW; go_simp; try with_reducible rfl)
  refine RC.take (i := 1) (v := ?v1) rfl (by kernel_rfl) (by kernel_rfl) (by kernel_rfl) (fun _ _ _ h => h) hC (by rfl) ?y1 ?r1
  case y1 => (intro W hW; go_simp; try with_reducible rfl)
  refine RC.take (i := 3) (v := ?v3) rfl (by kernel_rfl) (by kernel_rfl) (by kernel_rfl) (fun _ _ _ h => h) hC (by rfl) ?y3 ?r3
  case y3 => (intro W hW; go_simp; try with_reducible rfl)
  refine RC.take (i := 4) (v := ?v4) rfl (by kernel_rfl) (by kernel_rfl) (by kernel_rfl) (fun _ _ _ h => h) hC (by rfl) ?y4 ?r4
  case y4 => (intro W hW; go_simp; try with_reducible rfl)
  refine RC.take (i := 5) (v := ?v5) rfl (by kernel_rfl) (by kernel_rfl) (by kernel_rfl) (fun _ _ _ h => h) hC (by rfl) ?y5 ?r5
  case y5 => (intro W hW; go_simp; try with_reducible rfl)
  refine RC.take (i := 6) (v := ?v6) rfl (by kernel_rfl) (by kernel_rfl) (by kernel_rfl) (fun _ _ _ h => h) hC (by rfl) ?y6 ?r6
  case y6 => (intro W hW; go_simp; try with_reducible rfl)
  refine RC.two (i := 2) (k := 7) (by kernel_rfl) rfl rfl (fun K hK => ?_) (fun K hK => ?_)
  · rw [if_pos (by rfl)]
    go_simp
    refine (HQ _).mono ?_
    rintro e w6 ⟨rfl, hb6⟩
    simp only
    have hC6 : Below w.heap.size w w6 := hC.trans (hb6.mono (Nat.le_refl _))
    refine hK _ _ hC6 ?_
    clear hK K
    refine RC.want (i := 7) (by kernel_rfl) rfl (by rfl) (fun K hK => ?_)
    have hC7 : Below w.heap.size w (w6.alloc (.cells #[.int .u8 (48 + (r : Int))] 5)) := hC6.alloc hC6.size _
    go_simp
    refine hK _ _ hC7 ?_
    clear hK K
    have hcv := conv_byte (w6.alloc (.cells #[.int .u8 (48 + (r : Int))] 5)) w6.heap.size r hr9 (by go_simp)
    refine RC.want (i := 8) (by kernel_rfl) rfl (by rfl) (fun K hK => ?_)
    go_simp
    refine hK _ _ hC7 ?_
    clear hK K
    refine RC.want (i := 9) (by kernel_rfl) rfl (by rfl) (fun K hK => ?_)
    go_simp
    refine hK _ _ hC7 ?_
    clear hK K
    refine RC.want (i := 10) (by kernel_rfl) rfl (by rfl) (fun K hK => ?_)
    go_simp
    refine hK _ _ hC7 ?_
    clear hK K
    refine RC.done (by kernel_rfl) ?_
    go_wp2
    go_ret
    exact ⟨rfl, hC7⟩
  · rw [if_pos (by rfl)]
    have hC7 : Below w.heap.size w (w.alloc (.cells #[.int .u8 (48 + (r : Int))] 5)).drew := ((Below.refl _ _).alloc (Nat.le_refl _) _).drew
    go_simp
    refine hK _ _ hC7 ?_
    clear hK K
    have hcv := conv_byte (w.alloc (.cells #[.int .u8 (48 + (r : Int))] 5)).drew w.heap.size r hr9 (by go_simp)
    refine RC.two (i := 2) (k := 8) (by kernel_rfl) rfl rfl (fun K hK => ?_) (fun K hK => ?_)
    · rw [if_pos (by rfl)]
      go_simp
      refine (HQ _).mono ?_
      rintro e w6 ⟨rfl, hb6⟩
      simp only
      have hC6 : Below w.heap.size w w6 := hC7.trans (hb6.mono (by simp))
      refine hK _ _ hC6 ?_
      clear hK K
      have hcv := conv_byte w6 w.heap.size r hr9 ((hb6.cell (p := ⟨w.heap.size, 0, none⟩) (by simp)).trans (by go_simp))
      refine RC.want (i := 8) (by kernel_rfl) rfl (by rfl) (fun K hK => ?_)
      go_simp
      refine hK _ _ hC6 ?_
      clear hK K
      refine RC.want (i := 9) (by kernel_rfl) rfl (by rfl) (fun K hK => ?_)
      go_simp
      refine hK _ _ hC6 ?_
      clear hK K
      refine RC.want (i := 10) (by kernel_rfl) rfl (by rfl) (fun K hK => ?_)
      go_simp
      refine hK _ _ hC6 ?_
      clear hK K
      refine RC.done (by kernel_rfl) ?_
      go_wp2
      go_ret
      exact ⟨rfl, hC6⟩
    · rw [if_pos (by rfl)]
      go_simp
      refine hK _ _ hC7 ?_
      clear hK K
      refine RC.want (i := 2) (by kernel_rfl) rfl (by rfl) (fun K hK => ?_)
      go_simp
      refine (HQ _).mono ?_
      rintro e w6 ⟨rfl, hb6⟩
      simp only
      have hC6 : Below w.heap.size w w6 := hC7.trans (hb6.mono (by simp))
      refine hK _ _ hC6 ?_
      clear hK K
      refine RC.want (i := 9) (by kernel_rfl) rfl (by rfl) (fun K hK => ?_)
      go_simp
      refine hK _ _ hC6 ?_
      clear hK K
      refine RC.want (i := 10) (by kernel_rfl) rfl (by rfl) (fun K hK => ?_)
      go_simp
      refine hK _ _ hC6 ?_
      clear hK K
      refine RC.done (by kernel_rfl) ?_
      go_wp2
      go_ret
      exact ⟨rfl, hC6⟩

theorem specDec (d : Nat) (hd : d ≤ 1000000) (w : World) : Calls Tryd.prog 18 #[.int .i64 d] w fun e w' => e = .returned (.string ⟨(Lib.decDigits d).toArray⟩) ∧ Below w.heap.size w w' := by
  induction d using Nat.strongRecOn generalizing w with
  | _ d ih =>
    by_cases h1 : d < 10
    · rw [dec_one h1]
      exact specDec_small d h1 w
    · have hl := decDigits_len (d / 10)
      have hb := specDec_big d (d / 10) (d % 10) ⟨(Lib.decDigits (d / 10)).toArray⟩ (by simp [ByteArray.size]; omega) (by omega) (by omega) (by omega) (by omega) (by omega) (by omega) (fun W => ih (d / 10) (by omega) (by omega) W) w
      have e0 : (⟨(Lib.decDigits (d / 10)).toArray⟩ ++ ⟨#[dgB (d % 10)]⟩ : ByteArray) = ⟨(Lib.decDigits (d / 10) ++ [dgB (d % 10)]).toArray⟩ := by
        apply ByteArray.ext
        apply Array.ext'
        simp [ByteArray.data_append]
      refine hb.mono fun e w' h => ⟨?_, h.2⟩
      rw [h.1, dec_more h1, e0]

set_option maxRecDepth 100000 in
theorem specOdd (v : ByteArray) (w : World) (hs : v.size ≤ maxLen) : Calls Tryd.prog 17 #[.string v] w fun e w' => e = .returned (.bool (!pb (NoNl v))) ∧ Below w.heap.size w w' := by
  unfold maxLen at hs
  go_enter Tryd.func17, Tryd.ntmps17
  go_wp2
  go_loop [3] (fun i => ∃ k : Nat, k ≤ v.size ∧ i = .int .i64 k ∧ Hid (∀ j, j < k → ¬ bAt v j = 10)) (fun i => v.size - (intOf i).toNat)
  case atStart => exact ⟨0, Nat.zero_le _, rfl, fun j hj => by omega⟩
  case round =>
    obtain ⟨k, hk, rfl, hno⟩ := hrel
    by_cases hp : k < v.size
    · have hb : v[k].toNat < 256 := UInt8.toNat_lt _
      by_cases hc : bAt v k = 10
      · have HR : Hid (pb (NoNl v) = false) := pb_no (fun h => h k hp hc)
        have hc1 : ((v[k].toNat : Int) == 10) = true := by rw [← bAt_eq hp, hc]; rfl
        clear hno hc
        go_wp2
        go_ret
        exact ⟨by rw [HR.out]; rfl, Below.refl _ _⟩
      · have HN : Hid (∀ j, j < k + 1 → ¬ bAt v j = 10) := fun j hj => by
          by_cases e : j = k
          · subst e; exact hc
          · exact hno.out j (by omega)
        have hc1 : ((v[k].toNat : Int) == 10) = false := by
          rw [bAt_eq hp] at hc
          simp only [beq_eq_false_iff_ne, ne_eq]; omega
        clear hno hc
        go_wp2
        go_round
        case rel => exact ⟨k + 1, by omega, by go_num, HN⟩
        case measure => simp [intOf]; omega
    · have HR : Hid (pb (NoNl v) = true) := pb_yes (fun j hj => hno.out j (by omega))
      clear hno
      go_wp2
      go_ret
      exact ⟨by rw [HR.out]; rfl, Below.refl _ _⟩

def whatV : Array Value := #[.string ⟨#[107, 105, 110, 100]⟩, .string ⟨#[116, 105, 109, 101]⟩, .string ⟨#[108, 101, 118, 101, 108]⟩, .string ⟨#[114, 111, 117, 116, 101]⟩, .string ⟨#[115, 116, 97, 116, 101]⟩]
theorem specWords (w : World) : Calls Tryd.prog 9 #[] w fun e w' => e = .returned (.slice (some ⟨w.heap.size, 0, none⟩) 5 5) ∧ w' = w.alloc (.cells whatV 9) := by
  go_enter Tryd.func9, Tryd.ntmps9
  go_wp2
  go_ret
  exact ⟨rfl, rfl⟩

theorem whatV_at {wh : Int} (h : InR wh 1 5) : whatV[(wh - 1).toNat]? = some (.string ⟨(whatW wh).toArray⟩) := by
  obtain ⟨h1, h2⟩ := h
  obtain rfl | rfl | rfl | rfl | rfl : wh = 1 ∨ wh = 2 ∨ wh = 3 ∨ wh = 4 ∨ wh = 5 := by omega
  all_goals rfl

end Go.Proofs.YtgibkckmdedhjaaDoor
