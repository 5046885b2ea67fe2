import Derived.Test.YtmfhbnelmbjkeabGreatDoorGT
import Derived.Test.YtmfhbnelmbjkeabGreatDoorIS3
import Derived.Laws.IdiomStrings
import Derived.Laws.Concat
import Derived.Test.YtmfhbnelmbjkeabGreatDoorSkySA

/- DERIVED. spec.l4Dec below 100: its walk. -/
namespace Go.Proofs.YtmfhbnelmbjkeabGreatDoor
open Go.RowKit
set_option linter.unusedSimpArgs false
set_option linter.unusedVariables false

/-- A digit's byte. -/
def dgB (d : Nat) : UInt8 := UInt8.ofNat (48 + d)
theorem dgB_nat {d : Nat} (h : d < 10) : (dgB d).toNat = 48 + d := by
  unfold dgB
  rw [UInt8.toNat_ofNat']
  omega
theorem dec_one {d : Nat} (h : d < 10) : Lib.decDigits d = [dgB d] := by rw [Lib.decDigits, dif_pos h]; rfl
theorem dec_two {d : Nat} (h1 : ¬ d < 10) (h2 : d < 100) : Lib.decDigits d = [dgB (d / 10)] ++ [dgB (d % 10)] := by
  rw [Lib.decDigits, dif_neg h1, dec_one (by omega)]; rfl

theorem conv_byte (w : World) (g d : Nat) (hd : d < 10) (c : w.cell? ⟨g, 0, none⟩ = some (.int .u8 (48 + (d : Int)))) : (convert 65 9 (.slice (some ⟨g, 0, none⟩) 1 1)).run Tryz.prog w = .ok (.string ⟨#[dgB d]⟩) w := by
  refine run_convert_bytes_back w 65 9 5 ⟨g, 0, none⟩ 1 [dgB d] Tryz.underlying65 Tryz.underlying5 Tryz.underlying9 ?_
  intro j hj
  obtain rfl : j = 0 := by simp at hj; omega
  rw [add_none]
  refine c.trans ?_
  simp [dgB_nat hd]

set_option maxRecDepth 100000 in
theorem specDec_small (d : Nat) (hd : d < 10) (w : World) : Calls Tryz.prog 38 #[.int .i64 d] w fun e w' => e = .returned (.string ⟨#[dgB d]⟩) ∧ Below w.heap.size w w' := by
  have hdI : (d : Int) < 10 := by omega
  have hwr : IntKind.i64.wrap (48 + (d : Int)) = 48 + (d : Int) := by rw [IntKind.wrap_i64]; all_goals omega
  have hwu : IntKind.u8.wrap (48 + (d : Int)) = 48 + (d : Int) := by rw [IntKind.wrap]; simp [IntKind.signed, IntKind.bits]; omega
  go_enter Tryz.func38, Tryz.ntmps38
  go_wp2
  rw [conv_byte _ _ d hd (by go_simp)]
  simp only [Result.andThen]
  rw [Oper.upon_value]
  go_wp2
  go_ret
  exact ⟨rfl, (Below.refl _ _).alloc (Nat.le_refl _) _⟩

set_option maxRecDepth 100000 in
set_option maxHeartbeats 1000000 in
theorem specDec_big (d q r : Nat) (hq9 : q < 10) (hr9 : r < 10) (hd0 : 10 ≤ d) (hq : (d : Int) / 10 = (q : Int)) (hr : (d : Int) % 10 = (r : Int)) (w : World) : Calls Tryz.prog 38 #[.int .i64 d] w fun e w' => e = .returned (.string (⟨#[dgB q]⟩ ++ ⟨#[dgB r]⟩)) ∧ Below w.heap.size w w' := by
  have hdI : ¬ ((d : Int) < 10) := by omega
  have hqt : (d : Int).tdiv 10 = (q : Int) := by rw [Int.tdiv_eq_ediv_of_nonneg (by omega)]; exact hq
  have hrt : (d : Int).tmod 10 = (r : Int) := by rw [Int.tmod_eq_emod_of_nonneg (by omega)]; exact hr
  have hwr : IntKind.i64.wrap (48 + (r : Int)) = 48 + (r : Int) := by rw [IntKind.wrap_i64]; all_goals omega
  have hwu : IntKind.u8.wrap (48 + (r : Int)) = 48 + (r : Int) := by rw [IntKind.wrap]; simp [IntKind.signed, IntKind.bits]; omega
  have hwq : IntKind.i64.wrap (q : Int) = (q : Int) := by rw [IntKind.wrap_i64]; all_goals omega
  have hwx : IntKind.i64.wrap (r : Int) = (r : Int) := by rw [IntKind.wrap_i64]; all_goals omega
  have hadd := fun W => run_string_add_sum (P := Tryz.prog) W ⟨#[dgB q]⟩ ⟨#[dgB r]⟩ (by show 1 + 1 ≤ _; omega)
  have hC : Below w.heap.size w w.drew := (Below.refl _ _).drew
  go_enter Tryz.func38, Tryz.ntmps38
  go_wp2
  refine wp_region_RC (fun W => Below w.heap.size w W) mixedF ?_
  refine RC.take (i := 0) (v := ?v0) rfl (by kernel_rfl) (by kernel_rfl) (by kernel_rfl) (fun _ _ _ h => h) hC (by rfl) ?y0 ?r0
  case y0 => (intro W hW; go_simp; try with_reducible rfl)
  refine RC.take (i := 1) (v := ?v1) rfl (by kernel_rfl) (by kernel_rfl) (by kernel_rfl) (fun _ _ _ h => h) hC (by rfl) ?y1 ?r1
  case y1 => (intro W hW; go_simp; try with_reducible rfl)
  refine RC.take (i := 3) (v := ?v3) rfl (by kernel_rfl) (by kernel_rfl) (by kernel_rfl) (fun _ _ _ h => h) hC (by rfl) ?y3 ?r3
  case y3 => (intro W hW; go_simp; try with_reducible rfl)
  refine RC.take (i := 4) (v := ?v4) rfl (by kernel_rfl) (by kernel_rfl) (by kernel_rfl) (fun _ _ _ h => h) hC (by rfl) ?y4 ?r4
  case y4 => (intro W hW; go_simp; try with_reducible rfl)
  refine RC.take (i := 5) (v := ?v5) rfl (by kernel_rfl) (by kernel_rfl) (by kernel_rfl) (fun _ _ _ h => h) hC (by rfl) ?y5 ?r5
  case y5 => (intro W hW; go_simp; try with_reducible rfl)
  refine RC.take (i := 6) (v := ?v6) rfl (by kernel_rfl) (by kernel_rfl) (by kernel_rfl) (fun _ _ _ h => h) hC (by rfl) ?y6 ?r6
  case y6 => (intro W hW; go_simp; try with_reducible rfl)
  refine RC.two (i := 2) (k := 7) (by kernel_rfl) rfl rfl (fun K hK => ?_) (fun K hK => ?_)
  · rw [if_pos (by rfl)]
    go_simp
    refine (specDec_small q hq9 _).mono ?_
    rintro e w6 ⟨rfl, hb6⟩
    simp only
    have hC6 : Below w.heap.size w w6 := hC.trans (hb6.mono (Nat.le_refl _))
    refine hK _ _ hC6 ?_
    clear hK K
    refine RC.want (i := 7) (by kernel_rfl) rfl (by rfl) (fun K hK => ?_)
    have hC7 : Below w.heap.size w (w6.alloc (.cells #[.int .u8 (48 + (r : Int))] 5)) := hC6.alloc hC6.size _
    go_simp
    refine hK _ _ hC7 ?_
    clear hK K
    have hcv := conv_byte (w6.alloc (.cells #[.int .u8 (48 + (r : Int))] 5)) w6.heap.size r hr9 (by go_simp)
    refine RC.want (i := 8) (by kernel_rfl) rfl (by rfl) (fun K hK => ?_)
    go_simp
    refine hK _ _ hC7 ?_
    clear hK K
    refine RC.want (i := 9) (by kernel_rfl) rfl (by rfl) (fun K hK => ?_)
    go_simp
    refine hK _ _ hC7 ?_
    clear hK K
    refine RC.want (i := 10) (by kernel_rfl) rfl (by rfl) (fun K hK => ?_)
    go_simp
    refine hK _ _ hC7 ?_
    clear hK K
    refine RC.done (by kernel_rfl) ?_
    go_wp2
    go_ret
    exact ⟨rfl, hC7⟩
  · rw [if_pos (by rfl)]
    have hC7 : Below w.heap.size w (w.alloc (.cells #[.int .u8 (48 + (r : Int))] 5)).drew := ((Below.refl _ _).alloc (Nat.le_refl _) _).drew
    go_simp
    refine hK _ _ hC7 ?_
    clear hK K
    have hcv := conv_byte (w.alloc (.cells #[.int .u8 (48 + (r : Int))] 5)).drew w.heap.size r hr9 (by go_simp)
    refine RC.two (i := 2) (k := 8) (by kernel_rfl) rfl rfl (fun K hK => ?_) (fun K hK => ?_)
    · rw [if_pos (by rfl)]
      go_simp
      refine (specDec_small q hq9 _).mono ?_
      rintro e w6 ⟨rfl, hb6⟩
      simp only
      have hC6 : Below w.heap.size w w6 := hC7.trans (hb6.mono (by simp))
      refine hK _ _ hC6 ?_
      clear hK K
      have hcv := conv_byte w6 w.heap.size r hr9 ((hb6.cell (p := ⟨w.heap.size, 0, none⟩) (by simp)).trans (by go_simp))
      refine RC.want (i := 8) (by kernel_rfl) rfl (by rfl) (fun K hK => ?_)
      go_simp
      refine hK _ _ hC6 ?_
      clear hK K
      refine RC.want (i := 9) (by kernel_rfl) rfl (by rfl) (fun K hK => ?_)
      go_simp
      refine hK _ _ hC6 ?_
      clear hK K
      refine RC.want (i := 10) (by kernel_rfl) rfl (by rfl) (fun K hK => ?_)
      go_simp
      refine hK _ _ hC6 ?_
      clear hK K
      refine RC.done (by kernel_rfl) ?_
      go_wp2
      go_ret
      exact ⟨rfl, hC6⟩
    · rw [if_pos (by rfl)]
      go_simp
      refine hK _ _ hC7 ?_
      clear hK K
      refine RC.want (i := 2) (by kernel_rfl) rfl (by rfl) (fun K hK => ?_)
      go_simp
      refine (specDec_small q hq9 _).mono ?_
      rintro e w6 ⟨rfl, hb6⟩
      simp only
      have hC6 : Below w.heap.size w w6 := hC7.trans (hb6.mono (by simp))
      refine hK _ _ hC6 ?_
      clear hK K
      refine RC.want (i := 9) (by kernel_rfl) rfl (by rfl) (fun K hK => ?_)
      go_simp
      refine hK _ _ hC6 ?_
      clear hK K
      refine RC.want (i := 10) (by kernel_rfl) rfl (by rfl) (fun K hK => ?_)
      go_simp
      refine hK _ _ hC6 ?_
      clear hK K
      refine RC.done (by kernel_rfl) ?_
      go_wp2
      go_ret
      exact ⟨rfl, hC6⟩

theorem specDec (n : Int) (h : Sm n) (w : World) : Calls Tryz.prog 38 #[.int .i64 n] w fun e w' => e = .returned (.string ⟨(Lib.decDigits n.toNat).toArray⟩) ∧ Below w.heap.size w w' := by
  obtain ⟨d, rfl⟩ := Int.eq_ofNat_of_zero_le h.1
  have hd := h.2
  rw [Int.toNat_natCast]
  by_cases h1 : d < 10
  · rw [dec_one h1]
    exact specDec_small d h1 w
  · rw [dec_two h1 (by omega)]
    exact specDec_big d (d / 10) (d % 10) (by omega) (by omega) (by omega) (by omega) (by omega) w

end Go.Proofs.YtmfhbnelmbjkeabGreatDoor

/- DERIVED. spec.l4Numbers, spec.l3Turns: their walks. -/
namespace Go.Proofs.YtmfhbnelmbjkeabGreatDoor
open Go.RowKit
set_option linter.unusedSimpArgs false
set_option linter.unusedVariables false

theorem add_fact (s t : ByteArray) (h : s.size + t.size ≤ 1000000) : ∃ a : ByteArray, (∀ W, (Op.stringOp .add s t).run Tryz.prog W = .ok (.string a) W) ∧ a.data.toList = s.data.toList ++ t.data.toList ∧ a.size = s.size + t.size :=
  ⟨s ++ t, fun W => run_string_add_sum (P := Tryz.prog) W s t (by omega), by rw [ByteArray.data_append]; simp, ByteArray.size_append⟩

theorem str_of' (s : ByteArray) : (⟨s.data.toList.toArray⟩ : ByteArray) = s := by cases s; rfl

theorem spW_take (l : List (List UInt8)) (k : Nat) (h : k < l.length) : spW (l.take (k + 1)) = spW (l.take k) ++ ([32] ++ l[k]'h) := by
  rw [List.take_succ_eq_append_getElem h, spW_app, spW_cons, spW_nil, List.append_nil]
  rfl

theorem ba_size (l : List UInt8) : (⟨l.toArray⟩ : ByteArray).size = l.length := by show l.toArray.size = _; simp

set_option maxRecDepth 100000 in
set_option maxHeartbeats 1000000 in
theorem specNums (g cap : Nat) (ns : List Int) (w : World) (hl : ns.length ≤ 6) (hg : g < w.heap.size) (hc : ∀ j (h : j < ns.length), w.cell? ⟨g, j, none⟩ = some (.int .i64 (ns[j]'h))) (hsm : ∀ n ∈ ns, Sm n) :
    Calls Tryz.prog 14 #[.slice (some ⟨g, 0, none⟩) ns.length cap] w fun e w' => e = .returned (.string ⟨(spW (decsL ns)).toArray⟩) ∧ Below w.heap.size w w' := by
  have HC : Hid (∀ j (h : j < ns.length), w.cell? ⟨g, j, none⟩ = some (.int .i64 (ns[j]'h))) := hc
  have HS : Hid (∀ n ∈ ns, Sm n) := hsm
  clear hc hsm
  have HZ : Hid (ByteArray.empty.data.toList = spW ((decsL ns).take 0)) := rfl
  go_enter Tryz.func14, Tryz.ntmps14
  go_wp2
  go_loopw [3, 4] (fun v i wr => ∃ (k : Nat) (s : ByteArray), k ≤ ns.length ∧ v = .string s ∧ i = .int .i64 k ∧ Hid (s.data.toList = spW ((decsL ns).take k)) ∧ Hid (s.size ≤ 3 * k) ∧ Below w.heap.size w wr) (fun _ i _ => ns.length - (intOf i).toNat)
  case atStart => exact ⟨0, ⟨#[]⟩, Nat.zero_le _, rfl, rfl, rfl, Nat.le_refl _, Below.refl _ _⟩
  case round =>
    obtain ⟨k, s, hk, rfl, rfl, hs, hz, hb⟩ := hrel
    by_cases hlt : k < ns.length
    · have c0 : wr.cell? ⟨g, k, none⟩ = some (.int .i64 (ns[k]'hlt)) := (hb.cell (p := ⟨g, k, none⟩) hg).trans (HC.out k hlt)
      have hn := HS.out _ (List.getElem_mem hlt)
      have hdl := decI_len hn
      have hkI : (k : Int) < (ns.length : Int) := by omega
      have hk6 : k < 6 := by omega
      have z0 : s.size ≤ 3 * k := hz.out
      have zd : (⟨(Lib.decDigits (ns[k]'hlt).toNat).toArray⟩ : ByteArray).size ≤ 2 := by rw [ba_size]; exact hdl
      obtain ⟨a1, hadd1, hl1, hz1⟩ := add_fact s ⟨#[32]⟩ (by show s.size + 1 ≤ _; omega)
      have z1 : a1.size = s.size + 1 := hz1
      have z2 : a1.size + (⟨(Lib.decDigits (ns[k]'hlt).toNat).toArray⟩ : ByteArray).size ≤ 3 * (k + 1) := by omega
      obtain ⟨a2, hadd2, hl2, hz2⟩ := add_fact a1 ⟨(Lib.decDigits (ns[k]'hlt).toNat).toArray⟩ (Nat.le_trans z2 (by omega))
      have HS2 : Hid (a2.data.toList = spW ((decsL ns).take (k + 1))) := by
        show _ = _
        rw [hl2, hl1, hs.out, spW_take _ _ (by simpa [decsL] using hlt), List.append_assoc]
        congr 1
        simp [decsL]
      have HZ2 : Hid (a2.size ≤ 3 * (k + 1)) := by show _ ≤ _; rw [hz2]; exact z2
      have HN : Hid (Sm (ns[k]'hlt)) := hn
      clear hl1 hl2 hz1 hz2 hs hz hdl hn z0 z1 z2 zd
      have HD := specDec (ns[k]'hlt) HN.out wr
      generalize Lib.decDigits (ns[k]'hlt).toNat = dg at *
      go_wp2_with fail
      refine HD.mono ?_
      rintro e w1 ⟨rfl, hb1⟩
      have hb2 : Below w.heap.size w w1 := hb.trans (hb1.mono hb.size)
      clear HD hb1 c0
      go_wp2
      go_roundw
      case rel => exact ⟨k + 1, a2, by omega, rfl, by go_num, HS2, HZ2, hb2⟩
      case measure => simp [intOf]; omega
    · have hke : k = ns.length := by omega
      subst hke
      have hfin : s = ⟨(spW (decsL ns)).toArray⟩ := by
        have := hs.out
        rw [List.take_of_length_le (by simp [decsL])] at this
        rw [← this]
      subst hfin
      clear hs hz HZ
      go_wp2
      go_ret
      exact ⟨rfl, hb⟩

theorem specTurns (w : World) : Calls Tryz.prog 15 #[] w fun e w' => e = .returned (.slice (some ⟨w.heap.size, 0, none⟩) 8 8) ∧ w' = w.alloc (.cells turnCells 9) := by
  go_enter Tryz.func15, Tryz.ntmps15
  go_wp2
  go_ret
  exact ⟨rfl, rfl⟩

end Go.Proofs.YtmfhbnelmbjkeabGreatDoor

/- DERIVED. spec.SkyPrint: its walk. -/
namespace Go.Proofs.YtmfhbnelmbjkeabGreatDoor
open Go.RowKit
set_option linter.unusedSimpArgs false
set_option linter.unusedVariables false

theorem hd_eq (W H L : Int) : hdLine W H L = [115, 107, 121] ++ (spW (decsL [W, H, L]) ++ [10]) := by
  simp only [hdLine, List.cons_append, List.nil_append, lineW_cons]
theorem pt_eq (p : DSkyPoint) : ptLine p = [112, 111, 105, 110, 116, 32] ++ (p.1.data.toList ++ (spW (decsL [p.2.1, p.2.2]) ++ [10])) := by
  simp only [ptLine, List.cons_append, List.nil_append, lineW_cons, spW_cons, List.append_assoc]
theorem aw_eq (a : DSkyAirway) : awLine a = [97, 105, 114, 119, 97, 121, 32] ++ (a.1.data.toList ++ (spW (a.2.map (·.data.toList)) ++ [10])) := by
  simp only [awLine, List.cons_append, List.nil_append, lineW_cons, spW_cons, List.append_assoc]
theorem bl_eq (n : ByteArray) (b : DSkyBlock) : blLine n b = [115, 101, 99, 116, 111, 114, 32] ++ (n.data.toList ++ (spW (decsL [b.1, b.2.1, b.2.2.1, b.2.2.2.1, b.2.2.2.2.1, b.2.2.2.2.2]) ++ [10])) := by
  simp only [blLine, List.cons_append, List.nil_append, lineW_cons, spW_cons, List.append_assoc]
theorem rw_eq (r : DSkyRunway) : rwLine r = [114, 117, 110, 119, 97, 121, 32] ++ (r.1.data.toList ++ (spW (decsL [r.2.1, r.2.2.1]) ++ ([32] ++ ((wordT (r.2.2.2 - 1).toNat).data.toList ++ [10])))) := by
  simp only [rwLine, decsL, List.map, List.cons_append, List.nil_append, lineW_cons, spW_cons, spW_nil, List.append_nil, List.append_assoc]

theorem nums_fact (ns : List Int) (h6 : ns.length ≤ 6) (hsm : ∀ n ∈ ns, Sm n) : ∃ t : ByteArray, t = ⟨(spW (decsL ns)).toArray⟩ ∧ t.data.toList = spW (decsL ns) ∧ t.size ≤ 54 := by
  refine ⟨_, rfl, by simp, ?_⟩
  rw [ba_size]
  have := spW_len (decsL ns) (by
    intro w hw
    obtain ⟨n, h1, rfl⟩ := List.mem_map.1 hw
    have := decI_len (hsm n h1)
    omega)
  have : (decsL ns).length = ns.length := by simp [decsL]
  omega

/-- An airway's line, as far as its first j points. -/
def awPre (a : DSkyAirway) (j : Nat) : List UInt8 := [97, 105, 114, 119, 97, 121, 32] ++ (a.1.data.toList ++ spW ((a.2.map (·.data.toList)).take j))
theorem awPre0 (a : DSkyAirway) : awPre a 0 = [97, 105, 114, 119, 97, 121, 32] ++ a.1.data.toList := by simp [awPre, spW]
theorem awPre_succ (a : DSkyAirway) (j : Nat) (h : j < a.2.length) : awPre a (j + 1) = awPre a j ++ ([32] ++ (a.2[j]'h).data.toList) := by
  simp only [awPre]
  rw [spW_take _ _ (by simpa using h)]
  simp only [List.append_assoc, List.getElem_map]
theorem awPre_all (a : DSkyAirway) : awPre a a.2.length = [97, 105, 114, 119, 97, 121, 32] ++ (a.1.data.toList ++ spW (a.2.map (·.data.toList))) := by
  rw [awPre, List.take_of_length_le (by simp)]
theorem cell_of_heapS {w : World} {b : Nat} {cs : Array Value} {t : TypeId} (h : w.heap[b]? = some (.cells cs t (0, 0))) (i : Nat) : w.cell? ⟨b, i, none⟩ = cs[i]? := by
  unfold World.cell?
  simp only [h]
  rfl

theorem T2_line (W H L : Int) (ps : List DSkyPoint) (aw : List DSkyAirway) (k : Nat) (h : k < aw.length) (l : List UInt8) (hl : l = T2 W H L ps aw k) : l ++ awLine (aw[k]'h) = T2 W H L ps aw (k + 1) := by rw [hl, T2_succ]

set_option maxRecDepth 100000 in
set_option maxHeartbeats 8000000 in
theorem sSkyPrint_any (W H L : Int) (ps : List DSkyPoint) (aw : List DSkyAirway) (ss : List DSkySector) (rs : List DSkyRunway) (ao3 : Option Addr) (cap3 : Nat) (ao4 : Option Addr) (cap4 : Nat) (ao5 : Option Addr) (cap5 : Nat) (ao6 : Option Addr) (cap6 : Nat) (w : World)
    (h : SkyAt w (W, H, L, ps, aw, ss, rs) ao3 cap3 ao4 cap4 ao5 cap5 ao6 cap6) :
    Calls Tryz.prog 5 #[.agg #[.int .i64 W, .int .i64 H, .int .i64 L, .slice ao3 ps.length cap3, .slice ao4 aw.length cap4, .slice ao5 ss.length cap5, .slice ao6 rs.length cap6]] w fun e w' => ((ValidSky (W, H, L, ps, aw, ss, rs) ∧ e = .returned (.string ⟨(T4 W H L ps aw ss rs rs.length).toArray⟩)) ∨ (¬ ValidSky (W, H, L, ps, aw, ss, rs) ∧ e = .returned (.string ByteArray.empty))) ∧ Below w.heap.size w w' := by
  have hb0 : Below w.heap.size w (w.alloc (.cells #[.int .i64 W, .int .i64 H, .int .i64 L, .slice ao3 ps.length cap3, .slice ao4 aw.length cap4, .slice ao5 ss.length cap5, .slice ao6 rs.length cap6] 35)) := (Below.refl _ _).alloc (Nat.le_refl _) _
  have HV := sSkyValid (W, H, L, ps, aw, ss, rs) ao3 cap3 ao4 cap4 ao5 cap5 ao6 cap6 (w.alloc (.cells #[.int .i64 W, .int .i64 H, .int .i64 L, .slice ao3 ps.length cap3, .slice ao4 aw.length cap4, .slice ao5 ss.length cap5, .slice ao6 rs.length cap6] 35)) (h.later hb0)
  simp only [skyCells] at HV
  go_enter Tryz.func5, Tryz.ntmps5
  go_wp2_with fail
  refine HV.mono ?_
  rintro e w1 ⟨⟨hv, rfl⟩ | ⟨hv, rfl⟩, hb1⟩
  case inr =>
    have HF : Hid (¬ ValidSky (W, H, L, ps, aw, ss, rs)) := hv
    have hbw : Below w.heap.size w w1 := hb0.trans (hb1.mono (by simp))
    clear hv HV hb0 hb1
    go_wp2
    go_ret
    exact ⟨.inr ⟨HF.out, rfl⟩, hbw⟩
  case inl =>
    have HY : Hid (ValidSky (W, H, L, ps, aw, ss, rs)) := hv
    have fine := fine_of_valid hv
    have FN : Hid (FineSky W H L ps aw ss rs) := fine
    have hbx1 : Below (w.heap.size + 1) (w.alloc (.cells #[.int .i64 W, .int .i64 H, .int .i64 L, .slice ao3 ps.length cap3, .slice ao4 aw.length cap4, .slice ao5 ss.length cap5, .slice ao6 rs.length cap6] 35)) w1 := hb1.mono (by simp)
    have hs1 : w.heap.size + 1 ≤ w1.heap.size := by have := hbx1.size; simpa using this
    have y0 := box_cell hbx1 0
    have y1 := box_cell hbx1 1
    have y2 := box_cell hbx1 2
    have y3 := box_cell hbx1 3
    simp at y0 y1 y2 y3
    have hzw : w.heap.size < w1.heap.size := by omega
    clear hv HV hb1
    have hsm : ∀ n ∈ [W, H, L], Sm n := by intro n hn; simp at hn; rcases hn with rfl | rfl | rfl; exact fine.w; exact fine.h; exact fine.l
    obtain ⟨tn, htn, hnl, hnz⟩ := nums_fact [W, H, L] (by simp) hsm
    have HN := specNums w1.heap.size 3 [W, H, L] (w1.alloc (.cells #[.int .i64 W, .int .i64 H, .int .i64 L] 3)) (by simp) (by simp) (by intro j hj; match j, hj with | 0, _ => go_simp | 1, _ => go_simp | 2, _ => go_simp) hsm
    rw [← htn] at HN
    simp only [List.length_cons, List.length_nil, Nat.zero_add, Nat.reduceAdd] at HN
    have el0 : (⟨#[115, 107, 121]⟩ : ByteArray).size = 3 := rfl
    obtain ⟨a1, hadd1, hl1, hz1⟩ := add_fact (⟨#[115, 107, 121]⟩ : ByteArray) tn (by rw [el0]; omega)
    rw [el0] at hz1
    have el2 : (⟨#[10]⟩ : ByteArray).size = 1 := rfl
    obtain ⟨a2, hadd2, hl2, hz2⟩ := add_fact a1 (⟨#[10]⟩ : ByteArray) (by rw [el2]; omega)
    rw [el2] at hz2
    clear el0 el2
    have HS0 : Hid (a2.data.toList = T1 W H L ps 0) := by show _ = _; rw [hl2, hl1, hnl, T1_zero, hd_eq]; rfl
    have HZ0 : Hid (a2.size ≤ 100 + 100 * 0) := by show _ ≤ _; omega
    clear hl1 hl2 hz1 hz2 hnl hnz htn hsm fine
    go_wp2_with fail
    refine HN.mono ?_
    rintro e w3 ⟨rfl, hb3⟩
    have hbx3 : Below (w.heap.size + 1) (w.alloc (.cells #[.int .i64 W, .int .i64 H, .int .i64 L, .slice ao3 ps.length cap3, .slice ao4 aw.length cap4, .slice ao5 ss.length cap5, .slice ao6 rs.length cap6] 35)) w3 := (hbx1.alloc (by omega) _).trans (hb3.mono (by simp; omega))
    have z3 := box_cell hbx3 3
    simp at z3
    have hz3 : w.heap.size < w3.heap.size := by have := hbx3.size; simp at this; omega
    clear HN hb3 y0 y1 y2 y3
    go_wp2
    go_loopw [3, 4] (fun v i wr => ∃ (k : Nat) (s : ByteArray), k ≤ ps.length ∧ v = .string s ∧ i = .int .i64 k ∧ Hid (s.data.toList = T1 W H L ps k) ∧ Hid (s.size ≤ 100 + 100 * k) ∧ Below (w.heap.size + 1) (w.alloc (.cells #[.int .i64 W, .int .i64 H, .int .i64 L, .slice ao3 ps.length cap3, .slice ao4 aw.length cap4, .slice ao5 ss.length cap5, .slice ao6 rs.length cap6] 35)) wr) (fun _ i _ => ps.length - (intOf i).toNat)
    case atStart => exact ⟨0, a2, Nat.zero_le _, rfl, rfl, HS0, HZ0, hbx3⟩
    case round =>
      clear z3 hz3 HS0 HZ0 hadd1 hadd2 hbx3
      obtain ⟨k, s, hk, rfl, rfl, hs, hz, hb⟩ := hrel
      have hB := box_below hb
      have z0 := box_cell hb 0
      have z1 := box_cell hb 1
      have z2 := box_cell hb 2
      have z3 := box_cell hb 3
      have z4 := box_cell hb 4
      have z5 := box_cell hb 5
      have z6 := box_cell hb 6
      simp at z0 z1 z2 z3 z4 z5 z6
      have hzr : w.heap.size < wr.heap.size := by have := hb.size; simp at this; omega
      by_cases hlt : k < ps.length
      · obtain ⟨b1, off, rfl, hok, c0, c1, c2, q0, q1, q2⟩ := elem_SkyPoint h.p3 hlt
        have f0 := (hB.cell (p := ⟨b1, off + k * 3, none⟩) hok).trans c0
        have f1 := (hB.cell (p := ⟨b1, off + k * 3 + 1, none⟩) hok).trans c1
        have f2 := (hB.cell (p := ⟨b1, off + k * 3 + 2, none⟩) hok).trans c2
        have hkI : (k : Int) < (ps.length : Int) := by omega
        have hfn := FN.out.p k hlt
        have hnm := hfn.1
        have hk16 : k < 16 := Nat.lt_of_lt_of_le hlt FN.out.pl
        have zs : s.size ≤ 100 + 100 * k := hz.out
        obtain ⟨wb, hwb⟩ : ∃ x, x = wr.alloc (.cells #[.string (ps[k]'hlt).1, .int .i64 (ps[k]'hlt).2.1, .int .i64 (ps[k]'hlt).2.2] 47) := ⟨_, rfl⟩
        have hwz : wb.heap.size = wr.heap.size + 1 := by rw [hwb]; simp
        have HF : ∀ W', Below wb.heap.size wb W' → W'.cell? ⟨wr.heap.size, 0, none⟩ = some (.string (ps[k]'hlt).1) ∧ W'.cell? ⟨wr.heap.size, 1, none⟩ = some (.int .i64 (ps[k]'hlt).2.1) ∧ W'.cell? ⟨wr.heap.size, 2, none⟩ = some (.int .i64 (ps[k]'hlt).2.2) := fun W' h' =>
          ⟨(h'.cell (p := ⟨wr.heap.size, 0, none⟩) (by show wr.heap.size < _; omega)).trans (by rw [hwb]; go_simp), (h'.cell (p := ⟨wr.heap.size, 1, none⟩) (by show wr.heap.size < _; omega)).trans (by rw [hwb]; go_simp), (h'.cell (p := ⟨wr.heap.size, 2, none⟩) (by show wr.heap.size < _; omega)).trans (by rw [hwb]; go_simp)⟩
        have hC : Below wb.heap.size wb wb.drew := (Below.refl _ _).drew
        have hC9 : Below wb.heap.size wb (wb.alloc (.cells #[.int .i64 (ps[k]'hlt).2.1, .int .i64 (ps[k]'hlt).2.2] 3)).drew := ((Below.refl _ _).alloc (Nat.le_refl _) _).drew
        have hbb : Below (w.heap.size + 1) (w.alloc (.cells #[.int .i64 W, .int .i64 H, .int .i64 L, .slice (some ⟨b1, off, none⟩) ps.length cap3, .slice ao4 aw.length cap4, .slice ao5 ss.length cap5, .slice ao6 rs.length cap6] 35)) wb := by rw [hwb]; exact hb.alloc (by omega) _
        have HWZ : Hid (wb.heap.size = wr.heap.size + 1) := hwz
        clear hwz
        have hsm : ∀ n ∈ [(ps[k]'hlt).2.1, (ps[k]'hlt).2.2], Sm n := by intro n hn; simp at hn; rcases hn with rfl | rfl; exact hfn.2.1; exact hfn.2.2
        obtain ⟨tn, htn, hnl, hnz⟩ := nums_fact [(ps[k]'hlt).2.1, (ps[k]'hlt).2.2] (by simp) hsm
        have HN := specNums wb.heap.size 2 [(ps[k]'hlt).2.1, (ps[k]'hlt).2.2] (wb.alloc (.cells #[.int .i64 (ps[k]'hlt).2.1, .int .i64 (ps[k]'hlt).2.2] 3)).drew (by simp) (by simp) (by intro j hj; match j, hj with | 0, _ => go_simp | 1, _ => go_simp) hsm
        rw [← htn] at HN
        simp only [List.length_cons, List.length_nil, Nat.zero_add, Nat.reduceAdd] at HN
        have el1 : (⟨#[112, 111, 105, 110, 116, 32]⟩ : ByteArray).size = 6 := rfl
        obtain ⟨a1, hadd1, hl1, hz1⟩ := add_fact s (⟨#[112, 111, 105, 110, 116, 32]⟩ : ByteArray) (by rw [el1]; omega)
        rw [el1] at hz1
        clear el1
        obtain ⟨a2, hadd2, hl2, hz2⟩ := add_fact a1 (ps[k]'hlt).1 (by omega)
        obtain ⟨a3, hadd3, hl3, hz3⟩ := add_fact a2 tn (by omega)
        have el4 : (⟨#[10]⟩ : ByteArray).size = 1 := rfl
        obtain ⟨a4, hadd4, hl4, hz4⟩ := add_fact a3 (⟨#[10]⟩ : ByteArray) (by rw [el4]; omega)
        rw [el4] at hz4
        clear el4
        have HS : Hid (a4.data.toList = T1 W H L ps (k + 1)) := by show _ = _; rw [hl4, hl3, hl2, hl1, hnl, hs.out, T1_succ _ _ _ _ _ hlt, pt_eq]; simp only [List.append_assoc]
        have HZ : Hid (a4.size ≤ 100 + 100 * (k + 1)) := by show _ ≤ _; omega
        clear hl1 hz1 hl2 hz2 hl3 hz3 hl4 hz4 hnl hnz htn hsm hfn hnm zs hs hz c0 c1 c2 q0 q1 q2
        go_wp2
        rw [← hwb]
        clear hwb
        refine wp_region_RC (fun W' => Below wb.heap.size wb W') mixedF ?_
        refine RC.take (i := 0) (v := ?v1) rfl (by kernel_rfl) (by kernel_rfl) (by kernel_rfl) (fun _ _ _ h => h) hC (by rfl) ?y1 ?r1
        case y1 => (intro W' hW'; obtain ⟨p0, p1, p2⟩ := HF W' hW'; go_simp; try with_reducible rfl)
        refine RC.take (i := 1) (v := ?v2) rfl (by kernel_rfl) (by kernel_rfl) (by kernel_rfl) (fun _ _ _ h => h) hC (by rfl) ?y2 ?r2
        case y2 => (intro W' hW'; obtain ⟨p0, p1, p2⟩ := HF W' hW'; go_simp; try with_reducible rfl)
        refine RC.take (i := 2) (v := ?v3) rfl (by kernel_rfl) (by kernel_rfl) (by kernel_rfl) (fun _ _ _ h => h) hC (by rfl) ?y3 ?r3
        case y3 => (intro W' hW'; obtain ⟨p0, p1, p2⟩ := HF W' hW'; go_simp; try with_reducible rfl)
        refine RC.take (i := 3) (v := ?v4) rfl (by kernel_rfl) (by kernel_rfl) (by kernel_rfl) (fun _ _ _ h => h) hC (by rfl) ?y4 ?r4
        case y4 => (intro W' hW'; obtain ⟨p0, p1, p2⟩ := HF W' hW'; go_simp; try with_reducible rfl)
        refine RC.take (i := 4) (v := ?v5) rfl (by kernel_rfl) (by kernel_rfl) (by kernel_rfl) (fun _ _ _ h => h) hC (by rfl) ?y5 ?r5
        case y5 => (intro W' hW'; obtain ⟨p0, p1, p2⟩ := HF W' hW'; go_simp; try with_reducible rfl)
        refine RC.take (i := 5) (v := ?v6) rfl (by kernel_rfl) (by kernel_rfl) (by kernel_rfl) (fun _ _ _ h => h) hC (by rfl) ?y6 ?r6
        case y6 => (intro W' hW'; obtain ⟨p0, p1, p2⟩ := HF W' hW'; go_simp; try with_reducible rfl)
        refine RC.take (i := 6) (v := ?v7) rfl (by kernel_rfl) (by kernel_rfl) (by kernel_rfl) (fun _ _ _ h => h) hC (by rfl) ?y7 ?r7
        case y7 => (intro W' hW'; obtain ⟨p0, p1, p2⟩ := HF W' hW'; go_simp; try with_reducible rfl)
        refine RC.take (i := 7) (v := ?v8) rfl (by kernel_rfl) (by kernel_rfl) (by kernel_rfl) (fun _ _ _ h => h) hC (by rfl) ?y8 ?r8
        case y8 => (intro W' hW'; obtain ⟨p0, p1, p2⟩ := HF W' hW'; go_simp; try with_reducible rfl)
        refine RC.take (i := 8) (v := ?v9) rfl (by kernel_rfl) (by kernel_rfl) (by kernel_rfl) (fun _ _ _ h => h) hC (by rfl) ?y9 ?r9
        case y9 => (intro W' hW'; obtain ⟨p0, p1, p2⟩ := HF W' hW'; go_simp; try with_reducible rfl)
        refine RC.want (i := 9) (by kernel_rfl) rfl (by rfl) (fun K hK => ?_)
        go_simp
        refine hK _ _ hC9 ?_
        clear hK K
        refine RC.want (i := 10) (by kernel_rfl) rfl (by rfl) (fun K hK => ?_)
        go_simp
        refine HN.mono ?_
        rintro e w4 ⟨rfl, hb4⟩
        simp only
        have hC10 : Below wb.heap.size wb w4 := hC9.trans (hb4.mono (by simp))
        refine hK _ _ hC10 ?_
        clear hK K
        refine RC.want (i := 11) (by kernel_rfl) rfl (by rfl) (fun K hK => ?_)
        go_simp
        refine hK _ _ hC10 ?_
        clear hK K
        refine RC.want (i := 12) (by kernel_rfl) rfl (by rfl) (fun K hK => ?_)
        go_simp
        refine hK _ _ hC10 ?_
        clear hK K
        refine RC.want (i := 13) (by kernel_rfl) rfl (by rfl) (fun K hK => ?_)
        go_simp
        refine hK _ _ hC10 ?_
        clear hK K
        refine RC.done (by kernel_rfl) ?_
        have hbn : Below (w.heap.size + 1) (w.alloc (.cells #[.int .i64 W, .int .i64 H, .int .i64 L, .slice (some ⟨b1, off, none⟩) ps.length cap3, .slice ao4 aw.length cap4, .slice ao5 ss.length cap5, .slice ao6 rs.length cap6] 35)) w4 := hbb.trans (hC10.mono (by have := HWZ.out; omega))
        clear HF HN hC hC9 hC10 hb4 hadd1 hadd2 hadd3 hadd4
        go_wp2
        go_roundw
        case rel => exact ⟨k + 1, a4, by omega, rfl, by go_num, HS, HZ, hbn⟩
        case measure => simp [intOf]; omega
      · have hke : k = ps.length := by omega
        subst hke
        have HS2 : Hid (s.data.toList = T2 W H L ps aw 0) := by show _ = _; rw [T2_zero, ← hs.out]
        have HZ2 : Hid (s.size ≤ 2000 + 200 * 0) := by have := hz.out; have := FN.out.pl; show _ ≤ _; omega
        have hbn := hb
        clear hs hz hB
        go_wp2
        go_loopw [3, 6] (fun v i wr => ∃ (k : Nat) (s : ByteArray), k ≤ aw.length ∧ v = .string s ∧ i = .int .i64 k ∧ Hid (s.data.toList = T2 W H L ps aw k) ∧ Hid (s.size ≤ 2000 + 200 * k) ∧ Below (w.heap.size + 1) (w.alloc (.cells #[.int .i64 W, .int .i64 H, .int .i64 L, .slice ao3 ps.length cap3, .slice ao4 aw.length cap4, .slice ao5 ss.length cap5, .slice ao6 rs.length cap6] 35)) wr) (fun _ i _ => aw.length - (intOf i).toNat)
        case atStart => exact ⟨0, s, Nat.zero_le _, rfl, rfl, HS2, HZ2, hbn⟩
        case round =>
          clear z0 z1 z2 z3 z4 z5 z6 hzr hb hbn HS2 HZ2 hlt hk
          obtain ⟨k, s, hk, rfl, rfl, hs, hz, hb⟩ := hrel
          have hB := box_below hb
          have z0 := box_cell hb 0
          have z1 := box_cell hb 1
          have z2 := box_cell hb 2
          have z3 := box_cell hb 3
          have z4 := box_cell hb 4
          have z5 := box_cell hb 5
          have z6 := box_cell hb 6
          simp at z0 z1 z2 z3 z4 z5 z6
          have hzr : w.heap.size < wr.heap.size := by have := hb.size; simp at this; omega
          by_cases hlt : k < aw.length
          · obtain ⟨b1, off, ao1, cap1, rfl, hok, c0, c1, q0, q1⟩ := elem_SkyAirway h.p4 hlt
            have hkI : (k : Int) < (aw.length : Int) := by omega
            have hfn := FN.out.a k hlt
            have hk8 : k < 8 := Nat.lt_of_lt_of_le hlt FN.out.al
            obtain ⟨ak, hak⟩ : ∃ a : DSkyAirway, a = aw[k]'hlt := ⟨_, rfl⟩
            have HNX : Hid (T2 W H L ps aw k ++ awLine ak = T2 W H L ps aw (k + 1)) := by show _ = _; rw [hak]; exact (T2_succ _ _ _ _ _ _ hlt).symm
            rw [← hak] at c0 c1 q1 hfn
            clear hak
            have HFN : Hid (ak.1.size ≤ 8 ∧ 2 ≤ ak.2.length ∧ ak.2.length ≤ 8 ∧ ∀ j (hj : j < ak.2.length), (ak.2[j]'hj).size ≤ 8) := hfn
            have f0 := (hB.cell (p := ⟨b1, off + k * 2, none⟩) hok).trans c0
            have f1 := (hB.cell (p := ⟨b1, off + k * 2 + 1, none⟩) hok).trans c1
            have hnm := hfn.1
            have zs : s.size ≤ 2000 + 200 * k := hz.out
            have el1 : (⟨#[97, 105, 114, 119, 97, 121, 32]⟩ : ByteArray).size = 7 := rfl
            obtain ⟨a1, hadd1, hl1, hz1⟩ := add_fact s (⟨#[97, 105, 114, 119, 97, 121, 32]⟩ : ByteArray) (by rw [el1]; omega)
            rw [el1] at hz1
            clear el1
            obtain ⟨a2, hadd2, hl2, hz2⟩ := add_fact a1 ak.1 (by omega)
            have HS0 : Hid (a2.data.toList = T2 W H L ps aw k ++ awPre ak 0) := by show _ = _; rw [hl2, hl1, hs.out, awPre0]; simp only [List.append_assoc]
            have HZ0 : Hid (a2.size ≤ 2020 + 200 * k + 9 * 0) := by show _ ≤ _; omega
            clear hl1 hz1 hl2 hz2 hfn hnm zs hs hz q0
            have hbn := hb
            clear hB
            go_wp2
            go_loopw [3, 7] (fun v i wr => ∃ (j : Nat) (s : ByteArray), j ≤ ak.2.length ∧ v = .string s ∧ i = .int .i64 j ∧ Hid (s.data.toList = T2 W H L ps aw k ++ awPre ak j) ∧ Hid (s.size ≤ 2020 + 200 * k + 9 * j) ∧ Below (w.heap.size + 1) (w.alloc (.cells #[.int .i64 W, .int .i64 H, .int .i64 L, .slice ao3 ps.length cap3, .slice (some ⟨b1, off, none⟩) aw.length cap4, .slice ao5 ss.length cap5, .slice ao6 rs.length cap6] 35)) wr) (fun _ i _ => ak.2.length - (intOf i).toNat)
            case atStart => exact ⟨0, a2, Nat.zero_le _, rfl, rfl, HS0, HZ0, hbn⟩
            case round =>
              clear z0 z1 z2 z3 z4 z5 z6 hzr hb hbn HS0 HZ0 f0 f1 hadd1 hadd2
              obtain ⟨j, s, hj, rfl, rfl, hs, hz, hb⟩ := hrel
              have hB := box_below hb
              have z0 := box_cell hb 0
              have z1 := box_cell hb 1
              have z2 := box_cell hb 2
              have z3 := box_cell hb 3
              have z4 := box_cell hb 4
              have z5 := box_cell hb 5
              have z6 := box_cell hb 6
              simp at z0 z1 z2 z3 z4 z5 z6
              have hzr : w.heap.size < wr.heap.size := by have := hb.size; simp at this; omega
              have f0 := (hB.cell (p := ⟨b1, off + k * 2, none⟩) hok).trans c0
              have f1 := (hB.cell (p := ⟨b1, off + k * 2 + 1, none⟩) hok).trans c1
              have zs : s.size ≤ 2020 + 200 * k + 9 * j := hz.out
              by_cases hlt2 : j < ak.2.length
              · obtain ⟨b2, off2, rfl, hok2, d0, q5⟩ := elem_String q1 hlt2
                have e0 := (hB.cell (p := ⟨b2, off2 + j, none⟩) hok2).trans d0
                have hjI : (j : Int) < (ak.2.length : Int) := by omega
                have hj8 : j < 8 := Nat.lt_of_lt_of_le hlt2 HFN.out.2.2.1
                have hnm := HFN.out.2.2.2 j hlt2
                have el1 : (⟨#[32]⟩ : ByteArray).size = 1 := rfl
                obtain ⟨a1, hadd1, hl1, hz1⟩ := add_fact s (⟨#[32]⟩ : ByteArray) (by rw [el1]; omega)
                rw [el1] at hz1
                clear el1
                obtain ⟨a2, hadd2, hl2, hz2⟩ := add_fact a1 (ak.2[j]'hlt2) (by omega)
                have HS1 : Hid (a2.data.toList = T2 W H L ps aw k ++ awPre ak (j + 1)) := by show _ = _; rw [hl2, hl1, hs.out, awPre_succ _ _ hlt2]; simp only [List.append_assoc]
                have HZ1 : Hid (a2.size ≤ 2020 + 200 * k + 9 * (j + 1)) := by show _ ≤ _; omega
                have hbn := hb
                clear hl1 hz1 hl2 hz2 hnm zs hs hz q5 d0 c0 c1 hB
                go_wp2
                go_roundw
                case rel => exact ⟨j + 1, a2, by omega, rfl, by go_num, HS1, HZ1, hbn⟩
                case measure => simp [intOf]; omega
              · have hje : j = ak.2.length := by omega
                subst hje
                have hm8 := HFN.out.2.2.1
                have el1 : (⟨#[10]⟩ : ByteArray).size = 1 := rfl
                obtain ⟨a1, hadd1, hl1, hz1⟩ := add_fact s (⟨#[10]⟩ : ByteArray) (by rw [el1]; omega)
                rw [el1] at hz1
                clear el1
                have HS1 : Hid (a1.data.toList = T2 W H L ps aw (k + 1)) := by show _ = _; rw [hl1, hs.out, ← HNX.out, aw_eq, awPre_all]; simp only [List.append_assoc]
                have HZ1 : Hid (a1.size ≤ 2000 + 200 * (k + 1)) := by show _ ≤ _; omega
                have hbn := hb
                clear hl1 hz1 zs hs hz c0 c1 hB hm8
                go_wp2
                go_roundw
                case rel => exact ⟨k + 1, a1, by omega, rfl, by go_num, HS1, HZ1, hbn⟩
                case measure => simp [intOf]; omega
          · have hke : k = aw.length := by omega
            subst hke
            have HS2 : Hid (s.data.toList = T3 W H L ps aw ss 0) := by show _ = _; rw [T3_zero, ← hs.out]
            have HZ2 : Hid (s.size ≤ 4000 + 400 * 0) := by have := hz.out; have := FN.out.al; show _ ≤ _; omega
            have hbn := hb
            clear hs hz hB
            go_wp2
            go_loopw [3, 8] (fun v i wr => ∃ (k : Nat) (s : ByteArray), k ≤ ss.length ∧ v = .string s ∧ i = .int .i64 k ∧ Hid (s.data.toList = T3 W H L ps aw ss k) ∧ Hid (s.size ≤ 4000 + 400 * k) ∧ Below (w.heap.size + 1) (w.alloc (.cells #[.int .i64 W, .int .i64 H, .int .i64 L, .slice ao3 ps.length cap3, .slice ao4 aw.length cap4, .slice ao5 ss.length cap5, .slice ao6 rs.length cap6] 35)) wr) (fun _ i _ => ss.length - (intOf i).toNat)
            case atStart => exact ⟨0, s, Nat.zero_le _, rfl, rfl, HS2, HZ2, hbn⟩
            case round =>
              clear z0 z1 z2 z3 z4 z5 z6 hzr hb hbn HS2 HZ2 hlt hk
              obtain ⟨k, s, hk, rfl, rfl, hs, hz, hb⟩ := hrel
              have hB := box_below hb
              have z0 := box_cell hb 0
              have z1 := box_cell hb 1
              have z2 := box_cell hb 2
              have z3 := box_cell hb 3
              have z4 := box_cell hb 4
              have z5 := box_cell hb 5
              have z6 := box_cell hb 6
              simp at z0 z1 z2 z3 z4 z5 z6
              have hzr : w.heap.size < wr.heap.size := by have := hb.size; simp at this; omega
              by_cases hlt : k < ss.length
              · obtain ⟨b1, off, ao1, cap1, rfl, hok, c0, c1, q0, q1⟩ := elem_SkySector h.p5 hlt
                have hkI : (k : Int) < (ss.length : Int) := by omega
                have hk6 : k < 6 := Nat.lt_of_lt_of_le hlt FN.out.sl
                have hfk := FN.out.s k hlt
                obtain ⟨sk, hsk⟩ : ∃ a : DSkySector, a = ss[k]'hlt := ⟨_, rfl⟩
                have HNX : Hid (T3b W H L ps aw ss k sk sk.2.length = T3 W H L ps aw ss (k + 1)) := by show _ = _; rw [hsk]; exact (T3_succ _ _ _ _ _ _ _ hlt).symm
                rw [← hsk] at c0 c1 q1 hfk
                clear hsk
                have HFN : Hid (sk.1.size ≤ 8 ∧ sk.2.length ≤ 4 ∧ ∀ j (hj : j < sk.2.length), Sm (sk.2[j]'hj).1 ∧ Sm (sk.2[j]'hj).2.1 ∧ Sm (sk.2[j]'hj).2.2.1 ∧ Sm (sk.2[j]'hj).2.2.2.1 ∧ Sm (sk.2[j]'hj).2.2.2.2.1 ∧ Sm (sk.2[j]'hj).2.2.2.2.2) := hfk
                have HS0 : Hid (s.data.toList = T3b W H L ps aw ss k sk 0) := by show _ = _; rw [T3b_zero, ← hs.out]
                have HZ0 : Hid (s.size ≤ 4000 + 400 * k + 100 * 0) := hz.out
                have hbn := hb
                clear hB hs hz hfk q0
                go_wp2
                go_loopw [3, 9] (fun v i wr => ∃ (j : Nat) (s : ByteArray), j ≤ sk.2.length ∧ v = .string s ∧ i = .int .i64 j ∧ Hid (s.data.toList = T3b W H L ps aw ss k sk j) ∧ Hid (s.size ≤ 4000 + 400 * k + 100 * j) ∧ Below (w.heap.size + 1) (w.alloc (.cells #[.int .i64 W, .int .i64 H, .int .i64 L, .slice ao3 ps.length cap3, .slice ao4 aw.length cap4, .slice (some ⟨b1, off, none⟩) ss.length cap5, .slice ao6 rs.length cap6] 35)) wr) (fun _ i _ => sk.2.length - (intOf i).toNat)
                case atStart => exact ⟨0, s, Nat.zero_le _, rfl, rfl, HS0, HZ0, hbn⟩
                case round =>
                  clear z0 z1 z2 z3 z4 z5 z6 hzr hb hbn HS0 HZ0
                  obtain ⟨j, s, hj, rfl, rfl, hs, hz, hb⟩ := hrel
                  have hB := box_below hb
                  have z0 := box_cell hb 0
                  have z1 := box_cell hb 1
                  have z2 := box_cell hb 2
                  have z3 := box_cell hb 3
                  have z4 := box_cell hb 4
                  have z5 := box_cell hb 5
                  have z6 := box_cell hb 6
                  simp at z0 z1 z2 z3 z4 z5 z6
                  have hzr : w.heap.size < wr.heap.size := by have := hb.size; simp at this; omega
                  have f0 := (hB.cell (p := ⟨b1, off + k * 2, none⟩) hok).trans c0
                  have f1 := (hB.cell (p := ⟨b1, off + k * 2 + 1, none⟩) hok).trans c1
                  have zs : s.size ≤ 4000 + 400 * k + 100 * j := hz.out
                  by_cases hlt2 : j < sk.2.length
                  · obtain ⟨b2, off2, rfl, hok2, d0, d1, d2, d3, d4, d5, q5⟩ := elem_SkyBlock q1 hlt2
                    have e0 := (hB.cell (p := ⟨b2, off2 + j * 6, none⟩) hok2).trans d0
                    have e1 := (hB.cell (p := ⟨b2, off2 + j * 6 + 1, none⟩) hok2).trans d1
                    have e2 := (hB.cell (p := ⟨b2, off2 + j * 6 + 2, none⟩) hok2).trans d2
                    have e3 := (hB.cell (p := ⟨b2, off2 + j * 6 + 3, none⟩) hok2).trans d3
                    have e4 := (hB.cell (p := ⟨b2, off2 + j * 6 + 4, none⟩) hok2).trans d4
                    have e5 := (hB.cell (p := ⟨b2, off2 + j * 6 + 5, none⟩) hok2).trans d5
                    have hjI : (j : Int) < (sk.2.length : Int) := by omega
                    have hj4 : j < 4 := Nat.lt_of_lt_of_le hlt2 HFN.out.2.1
                    have hnm := HFN.out.1
                    have hfn := HFN.out.2.2 j hlt2
                    obtain ⟨wb, hwb⟩ : ∃ x, x = wr.alloc (.cells #[.int .i64 (sk.2[j]'hlt2).1, .int .i64 (sk.2[j]'hlt2).2.1, .int .i64 (sk.2[j]'hlt2).2.2.1, .int .i64 (sk.2[j]'hlt2).2.2.2.1, .int .i64 (sk.2[j]'hlt2).2.2.2.2.1, .int .i64 (sk.2[j]'hlt2).2.2.2.2.2] 55) := ⟨_, rfl⟩
                    have hwz : wb.heap.size = wr.heap.size + 1 := by rw [hwb]; simp
                    have hwB : Below wr.heap.size wr wb := by rw [hwb]; exact (Below.refl _ _).alloc (Nat.le_refl _) _
                    have hb1r : b1 < wr.heap.size := Nat.lt_trans hok hzr
                    have HF : ∀ W', Below wb.heap.size wb W' → W'.cell? ⟨w.heap.size, 5, none⟩ = some (.slice (some ⟨b1, off, none⟩) ss.length cap5) ∧ W'.cell? ⟨b1, off + k * 2, none⟩ = some (.string sk.1) ∧ W'.cell? ⟨wr.heap.size, 0, none⟩ = some (.int .i64 (sk.2[j]'hlt2).1) ∧ W'.cell? ⟨wr.heap.size, 1, none⟩ = some (.int .i64 (sk.2[j]'hlt2).2.1) ∧ W'.cell? ⟨wr.heap.size, 2, none⟩ = some (.int .i64 (sk.2[j]'hlt2).2.2.1) ∧ W'.cell? ⟨wr.heap.size, 3, none⟩ = some (.int .i64 (sk.2[j]'hlt2).2.2.2.1) ∧ W'.cell? ⟨wr.heap.size, 4, none⟩ = some (.int .i64 (sk.2[j]'hlt2).2.2.2.2.1) ∧ W'.cell? ⟨wr.heap.size, 5, none⟩ = some (.int .i64 (sk.2[j]'hlt2).2.2.2.2.2) := fun W' h' =>
                      ⟨((h'.cell (p := ⟨w.heap.size, 5, none⟩) (by show w.heap.size < _; omega)).trans (hwB.cell (p := ⟨w.heap.size, 5, none⟩) hzr)).trans z5, ((h'.cell (p := ⟨b1, off + k * 2, none⟩) (by show b1 < _; omega)).trans (hwB.cell (p := ⟨b1, off + k * 2, none⟩) hb1r)).trans f0, (h'.cell (p := ⟨wr.heap.size, 0, none⟩) (by show wr.heap.size < _; omega)).trans (by rw [hwb]; go_simp), (h'.cell (p := ⟨wr.heap.size, 1, none⟩) (by show wr.heap.size < _; omega)).trans (by rw [hwb]; go_simp), (h'.cell (p := ⟨wr.heap.size, 2, none⟩) (by show wr.heap.size < _; omega)).trans (by rw [hwb]; go_simp), (h'.cell (p := ⟨wr.heap.size, 3, none⟩) (by show wr.heap.size < _; omega)).trans (by rw [hwb]; go_simp), (h'.cell (p := ⟨wr.heap.size, 4, none⟩) (by show wr.heap.size < _; omega)).trans (by rw [hwb]; go_simp), (h'.cell (p := ⟨wr.heap.size, 5, none⟩) (by show wr.heap.size < _; omega)).trans (by rw [hwb]; go_simp)⟩
                    have hC : Below wb.heap.size wb wb.drew := (Below.refl _ _).drew
                    have hC9 : Below wb.heap.size wb (wb.alloc (.cells #[.int .i64 (sk.2[j]'hlt2).1, .int .i64 (sk.2[j]'hlt2).2.1, .int .i64 (sk.2[j]'hlt2).2.2.1, .int .i64 (sk.2[j]'hlt2).2.2.2.1, .int .i64 (sk.2[j]'hlt2).2.2.2.2.1, .int .i64 (sk.2[j]'hlt2).2.2.2.2.2] 3)).drew := ((Below.refl _ _).alloc (Nat.le_refl _) _).drew
                    have hbb : Below (w.heap.size + 1) (w.alloc (.cells #[.int .i64 W, .int .i64 H, .int .i64 L, .slice ao3 ps.length cap3, .slice ao4 aw.length cap4, .slice (some ⟨b1, off, none⟩) ss.length cap5, .slice ao6 rs.length cap6] 35)) wb := by rw [hwb]; exact hb.alloc (by omega) _
                    have HWZ : Hid (wb.heap.size = wr.heap.size + 1) := hwz
                    clear hwz
                    have hsm : ∀ n ∈ [(sk.2[j]'hlt2).1, (sk.2[j]'hlt2).2.1, (sk.2[j]'hlt2).2.2.1, (sk.2[j]'hlt2).2.2.2.1, (sk.2[j]'hlt2).2.2.2.2.1, (sk.2[j]'hlt2).2.2.2.2.2], Sm n := by intro n hn; simp at hn; rcases hn with rfl | rfl | rfl | rfl | rfl | rfl; exact hfn.1; exact hfn.2.1; exact hfn.2.2.1; exact hfn.2.2.2.1; exact hfn.2.2.2.2.1; exact hfn.2.2.2.2.2
                    obtain ⟨tn, htn, hnl, hnz⟩ := nums_fact [(sk.2[j]'hlt2).1, (sk.2[j]'hlt2).2.1, (sk.2[j]'hlt2).2.2.1, (sk.2[j]'hlt2).2.2.2.1, (sk.2[j]'hlt2).2.2.2.2.1, (sk.2[j]'hlt2).2.2.2.2.2] (by simp) hsm
                    have HN := specNums wb.heap.size 6 [(sk.2[j]'hlt2).1, (sk.2[j]'hlt2).2.1, (sk.2[j]'hlt2).2.2.1, (sk.2[j]'hlt2).2.2.2.1, (sk.2[j]'hlt2).2.2.2.2.1, (sk.2[j]'hlt2).2.2.2.2.2] (wb.alloc (.cells #[.int .i64 (sk.2[j]'hlt2).1, .int .i64 (sk.2[j]'hlt2).2.1, .int .i64 (sk.2[j]'hlt2).2.2.1, .int .i64 (sk.2[j]'hlt2).2.2.2.1, .int .i64 (sk.2[j]'hlt2).2.2.2.2.1, .int .i64 (sk.2[j]'hlt2).2.2.2.2.2] 3)).drew (by simp) (by simp) (by intro j hj; match j, hj with | 0, _ => go_simp | 1, _ => go_simp | 2, _ => go_simp | 3, _ => go_simp | 4, _ => go_simp | 5, _ => go_simp) hsm
                    rw [← htn] at HN
                    simp only [List.length_cons, List.length_nil, Nat.zero_add, Nat.reduceAdd] at HN
                    have el1 : (⟨#[115, 101, 99, 116, 111, 114, 32]⟩ : ByteArray).size = 7 := rfl
                    obtain ⟨a1, hadd1, hl1, hz1⟩ := add_fact s (⟨#[115, 101, 99, 116, 111, 114, 32]⟩ : ByteArray) (by rw [el1]; omega)
                    rw [el1] at hz1
                    clear el1
                    obtain ⟨a2, hadd2, hl2, hz2⟩ := add_fact a1 sk.1 (by omega)
                    obtain ⟨a3, hadd3, hl3, hz3⟩ := add_fact a2 tn (by omega)
                    have el4 : (⟨#[10]⟩ : ByteArray).size = 1 := rfl
                    obtain ⟨a4, hadd4, hl4, hz4⟩ := add_fact a3 (⟨#[10]⟩ : ByteArray) (by rw [el4]; omega)
                    rw [el4] at hz4
                    clear el4
                    have HS1 : Hid (a4.data.toList = T3b W H L ps aw ss k sk (j + 1)) := by show _ = _; rw [hl4, hl3, hl2, hl1, hnl, hs.out, T3b_succ _ _ _ _ _ _ _ _ _ hlt2, bl_eq]; simp only [List.append_assoc]
                    have HZ1 : Hid (a4.size ≤ 4000 + 400 * k + 100 * (j + 1)) := by show _ ≤ _; omega
                    clear hl1 hz1 hl2 hz2 hl3 hz3 hl4 hz4 hnl hnz htn hsm hfn hnm zs hs hz d0 d1 d2 d3 d4 d5 q5 c0 c1 hB hwB hb1r
                    go_wp2
                    rw [← hwb]
                    clear hwb
                    refine wp_region_RC (fun W' => Below wb.heap.size wb W') mixedF ?_
                    refine RC.take (i := 0) (v := ?v10) rfl (by kernel_rfl) (by kernel_rfl) (by kernel_rfl) (fun _ _ _ h => h) hC (by rfl) ?y10 ?r10
                    case y10 => (intro W' hW'; obtain ⟨p0, p1, p2, p3, p4, p5, p6, p7⟩ := HF W' hW'; go_simp; try with_reducible rfl)
                    refine RC.take (i := 1) (v := ?v11) rfl (by kernel_rfl) (by kernel_rfl) (by kernel_rfl) (fun _ _ _ h => h) hC (by rfl) ?y11 ?r11
                    case y11 => (intro W' hW'; obtain ⟨p0, p1, p2, p3, p4, p5, p6, p7⟩ := HF W' hW'; go_simp; try with_reducible rfl)
                    refine RC.take (i := 2) (v := ?v12) rfl (by kernel_rfl) (by kernel_rfl) (by kernel_rfl) (fun _ _ _ h => h) hC (by rfl) ?y12 ?r12
                    case y12 => (intro W' hW'; obtain ⟨p0, p1, p2, p3, p4, p5, p6, p7⟩ := HF W' hW'; go_simp; try with_reducible rfl)
                    refine RC.take (i := 3) (v := ?v13) rfl (by kernel_rfl) (by kernel_rfl) (by kernel_rfl) (fun _ _ _ h => h) hC (by rfl) ?y13 ?r13
                    case y13 => (intro W' hW'; obtain ⟨p0, p1, p2, p3, p4, p5, p6, p7⟩ := HF W' hW'; go_simp; try with_reducible rfl)
                    refine RC.take (i := 4) (v := ?v14) rfl (by kernel_rfl) (by kernel_rfl) (by kernel_rfl) (fun _ _ _ h => h) hC (by rfl) ?y14 ?r14
                    case y14 => (intro W' hW'; obtain ⟨p0, p1, p2, p3, p4, p5, p6, p7⟩ := HF W' hW'; go_simp; try with_reducible rfl)
                    refine RC.take (i := 5) (v := ?v15) rfl (by kernel_rfl) (by kernel_rfl) (by kernel_rfl) (fun _ _ _ h => h) hC (by rfl) ?y15 ?r15
                    case y15 => (intro W' hW'; obtain ⟨p0, p1, p2, p3, p4, p5, p6, p7⟩ := HF W' hW'; go_simp; try with_reducible rfl)
                    refine RC.take (i := 6) (v := ?v16) rfl (by kernel_rfl) (by kernel_rfl) (by kernel_rfl) (fun _ _ _ h => h) hC (by rfl) ?y16 ?r16
                    case y16 => (intro W' hW'; obtain ⟨p0, p1, p2, p3, p4, p5, p6, p7⟩ := HF W' hW'; go_simp; try with_reducible rfl)
                    refine RC.take (i := 7) (v := ?v17) rfl (by kernel_rfl) (by kernel_rfl) (by kernel_rfl) (fun _ _ _ h => h) hC (by rfl) ?y17 ?r17
                    case y17 => (intro W' hW'; obtain ⟨p0, p1, p2, p3, p4, p5, p6, p7⟩ := HF W' hW'; go_simp; try with_reducible rfl)
                    refine RC.take (i := 8) (v := ?v18) rfl (by kernel_rfl) (by kernel_rfl) (by kernel_rfl) (fun _ _ _ h => h) hC (by rfl) ?y18 ?r18
                    case y18 => (intro W' hW'; obtain ⟨p0, p1, p2, p3, p4, p5, p6, p7⟩ := HF W' hW'; go_simp; try with_reducible rfl)
                    refine RC.take (i := 9) (v := ?v19) rfl (by kernel_rfl) (by kernel_rfl) (by kernel_rfl) (fun _ _ _ h => h) hC (by rfl) ?y19 ?r19
                    case y19 => (intro W' hW'; obtain ⟨p0, p1, p2, p3, p4, p5, p6, p7⟩ := HF W' hW'; go_simp; try with_reducible rfl)
                    refine RC.take (i := 10) (v := ?v20) rfl (by kernel_rfl) (by kernel_rfl) (by kernel_rfl) (fun _ _ _ h => h) hC (by rfl) ?y20 ?r20
                    case y20 => (intro W' hW'; obtain ⟨p0, p1, p2, p3, p4, p5, p6, p7⟩ := HF W' hW'; go_simp; try with_reducible rfl)
                    refine RC.take (i := 11) (v := ?v21) rfl (by kernel_rfl) (by kernel_rfl) (by kernel_rfl) (fun _ _ _ h => h) hC (by rfl) ?y21 ?r21
                    case y21 => (intro W' hW'; obtain ⟨p0, p1, p2, p3, p4, p5, p6, p7⟩ := HF W' hW'; go_simp; try with_reducible rfl)
                    refine RC.take (i := 12) (v := ?v22) rfl (by kernel_rfl) (by kernel_rfl) (by kernel_rfl) (fun _ _ _ h => h) hC (by rfl) ?y22 ?r22
                    case y22 => (intro W' hW'; obtain ⟨p0, p1, p2, p3, p4, p5, p6, p7⟩ := HF W' hW'; go_simp; try with_reducible rfl)
                    refine RC.take (i := 13) (v := ?v23) rfl (by kernel_rfl) (by kernel_rfl) (by kernel_rfl) (fun _ _ _ h => h) hC (by rfl) ?y23 ?r23
                    case y23 => (intro W' hW'; obtain ⟨p0, p1, p2, p3, p4, p5, p6, p7⟩ := HF W' hW'; go_simp; try with_reducible rfl)
                    refine RC.take (i := 14) (v := ?v24) rfl (by kernel_rfl) (by kernel_rfl) (by kernel_rfl) (fun _ _ _ h => h) hC (by rfl) ?y24 ?r24
                    case y24 => (intro W' hW'; obtain ⟨p0, p1, p2, p3, p4, p5, p6, p7⟩ := HF W' hW'; go_simp; try with_reducible rfl)
                    refine RC.take (i := 15) (v := ?v25) rfl (by kernel_rfl) (by kernel_rfl) (by kernel_rfl) (fun _ _ _ h => h) hC (by rfl) ?y25 ?r25
                    case y25 => (intro W' hW'; obtain ⟨p0, p1, p2, p3, p4, p5, p6, p7⟩ := HF W' hW'; go_simp; try with_reducible rfl)
                    refine RC.take (i := 16) (v := ?v26) rfl (by kernel_rfl) (by kernel_rfl) (by kernel_rfl) (fun _ _ _ h => h) hC (by rfl) ?y26 ?r26
                    case y26 => (intro W' hW'; obtain ⟨p0, p1, p2, p3, p4, p5, p6, p7⟩ := HF W' hW'; go_simp; try with_reducible rfl)
                    refine RC.take (i := 17) (v := ?v27) rfl (by kernel_rfl) (by kernel_rfl) (by kernel_rfl) (fun _ _ _ h => h) hC (by rfl) ?y27 ?r27
                    case y27 => (intro W' hW'; obtain ⟨p0, p1, p2, p3, p4, p5, p6, p7⟩ := HF W' hW'; go_simp; try with_reducible rfl)
                    refine RC.take (i := 18) (v := ?v28) rfl (by kernel_rfl) (by kernel_rfl) (by kernel_rfl) (fun _ _ _ h => h) hC (by rfl) ?y28 ?r28
                    case y28 => (intro W' hW'; obtain ⟨p0, p1, p2, p3, p4, p5, p6, p7⟩ := HF W' hW'; go_simp; try with_reducible rfl)
                    refine RC.take (i := 19) (v := ?v29) rfl (by kernel_rfl) (by kernel_rfl) (by kernel_rfl) (fun _ _ _ h => h) hC (by rfl) ?y29 ?r29
                    case y29 => (intro W' hW'; obtain ⟨p0, p1, p2, p3, p4, p5, p6, p7⟩ := HF W' hW'; go_simp; try with_reducible rfl)
                    refine RC.take (i := 20) (v := ?v30) rfl (by kernel_rfl) (by kernel_rfl) (by kernel_rfl) (fun _ _ _ h => h) hC (by rfl) ?y30 ?r30
                    case y30 => (intro W' hW'; obtain ⟨p0, p1, p2, p3, p4, p5, p6, p7⟩ := HF W' hW'; go_simp; try with_reducible rfl)
                    refine RC.want (i := 21) (by kernel_rfl) rfl (by rfl) (fun K hK => ?_)
                    go_simp
                    refine hK _ _ hC9 ?_
                    clear hK K
                    refine RC.want (i := 22) (by kernel_rfl) rfl (by rfl) (fun K hK => ?_)
                    go_simp
                    refine HN.mono ?_
                    rintro e w4 ⟨rfl, hb4⟩
                    simp only
                    have hC10 : Below wb.heap.size wb w4 := hC9.trans (hb4.mono (by simp))
                    refine hK _ _ hC10 ?_
                    clear hK K
                    refine RC.want (i := 23) (by kernel_rfl) rfl (by rfl) (fun K hK => ?_)
                    go_simp
                    refine hK _ _ hC10 ?_
                    clear hK K
                    refine RC.want (i := 24) (by kernel_rfl) rfl (by rfl) (fun K hK => ?_)
                    go_simp
                    refine hK _ _ hC10 ?_
                    clear hK K
                    refine RC.want (i := 25) (by kernel_rfl) rfl (by rfl) (fun K hK => ?_)
                    go_simp
                    refine hK _ _ hC10 ?_
                    clear hK K
                    refine RC.done (by kernel_rfl) ?_
                    have hbn : Below (w.heap.size + 1) (w.alloc (.cells #[.int .i64 W, .int .i64 H, .int .i64 L, .slice ao3 ps.length cap3, .slice ao4 aw.length cap4, .slice (some ⟨b1, off, none⟩) ss.length cap5, .slice ao6 rs.length cap6] 35)) w4 := hbb.trans (hC10.mono (by have := HWZ.out; omega))
                    clear HF HN hC hC9 hC10 hb4 hadd1 hadd2 hadd3 hadd4
                    go_wp2
                    go_roundw
                    case rel => exact ⟨j + 1, a4, by omega, rfl, by go_num, HS1, HZ1, hbn⟩
                    case measure => simp [intOf]; omega
                  · have hje : j = sk.2.length := by omega
                    subst hje
                    have hm4 := HFN.out.2.1
                    have HS1 : Hid (s.data.toList = T3 W H L ps aw ss (k + 1)) := by show _ = _; rw [← HNX.out, ← hs.out]
                    have HZ1 : Hid (s.size ≤ 4000 + 400 * (k + 1)) := by show _ ≤ _; omega
                    have hbn := hb
                    clear zs hs hz c0 c1 hB hm4
                    go_wp2
                    go_roundw
                    case rel => exact ⟨k + 1, s, by omega, rfl, by go_num, HS1, HZ1, hbn⟩
                    case measure => simp [intOf]; omega
              · have hke : k = ss.length := by omega
                subst hke
                have HS2 : Hid (s.data.toList = T4 W H L ps aw ss rs 0) := by show _ = _; rw [T4_zero, ← hs.out]
                have HZ2 : Hid (s.size ≤ 8000 + 100 * 0) := by have := hz.out; have := FN.out.sl; show _ ≤ _; omega
                have hbn := hb
                clear hs hz hB
                go_wp2
                go_loopw [3, 11] (fun v i wr => ∃ (k : Nat) (s : ByteArray), k ≤ rs.length ∧ v = .string s ∧ i = .int .i64 k ∧ Hid (s.data.toList = T4 W H L ps aw ss rs k) ∧ Hid (s.size ≤ 8000 + 100 * k) ∧ Below (w.heap.size + 1) (w.alloc (.cells #[.int .i64 W, .int .i64 H, .int .i64 L, .slice ao3 ps.length cap3, .slice ao4 aw.length cap4, .slice ao5 ss.length cap5, .slice ao6 rs.length cap6] 35)) wr) (fun _ i _ => rs.length - (intOf i).toNat)
                case atStart => exact ⟨0, s, Nat.zero_le _, rfl, rfl, HS2, HZ2, hbn⟩
                case round =>
                  clear z0 z1 z2 z3 z4 z5 z6 hzr hb hbn HS2 HZ2 hlt hk
                  obtain ⟨k, s, hk, rfl, rfl, hs, hz, hb⟩ := hrel
                  have hB := box_below hb
                  have z0 := box_cell hb 0
                  have z1 := box_cell hb 1
                  have z2 := box_cell hb 2
                  have z3 := box_cell hb 3
                  have z4 := box_cell hb 4
                  have z5 := box_cell hb 5
                  have z6 := box_cell hb 6
                  simp at z0 z1 z2 z3 z4 z5 z6
                  have hzr : w.heap.size < wr.heap.size := by have := hb.size; simp at this; omega
                  by_cases hlt : k < rs.length
                  · obtain ⟨b1, off, rfl, hok, c0, c1, c2, c3, q0, q1, q2, q3⟩ := elem_SkyRunway h.p6 hlt
                    have f0 := (hB.cell (p := ⟨b1, off + k * 4, none⟩) hok).trans c0
                    have f1 := (hB.cell (p := ⟨b1, off + k * 4 + 1, none⟩) hok).trans c1
                    have f2 := (hB.cell (p := ⟨b1, off + k * 4 + 2, none⟩) hok).trans c2
                    have f3 := (hB.cell (p := ⟨b1, off + k * 4 + 3, none⟩) hok).trans c3
                    have hkI : (k : Int) < (rs.length : Int) := by omega
                    have hfn := FN.out.r k hlt
                    have hnm := hfn.1
                    have hk4 : k < 4 := Nat.lt_of_lt_of_le hlt FN.out.rl
                    have zs : s.size ≤ 8000 + 100 * k := hz.out
                    obtain ⟨j, hj⟩ : ∃ j : Nat, j = ((rs[k]'hlt).2.2.2 - 1).toNat := ⟨_, rfl⟩
                    have htj : (rs[k]'hlt).2.2.2 - 1 = (j : Int) := by have := hfn.2.2.2.1; omega
                    have hj8 : j < 8 := by have := hfn.2.2.2.2; omega
                    have hwl : (wordT j).size ≤ 2 := (wordT_fine j hj8).1
                    obtain ⟨wb, hwb⟩ : ∃ x, x = wr.alloc (.cells #[.string (rs[k]'hlt).1, .int .i64 (rs[k]'hlt).2.1, .int .i64 (rs[k]'hlt).2.2.1, .int .i64 (rs[k]'hlt).2.2.2] 57) := ⟨_, rfl⟩
                    have hwz : wb.heap.size = wr.heap.size + 1 := by rw [hwb]; simp
                    have HF : ∀ W', Below wb.heap.size wb W' → W'.cell? ⟨wr.heap.size, 0, none⟩ = some (.string (rs[k]'hlt).1) ∧ W'.cell? ⟨wr.heap.size, 1, none⟩ = some (.int .i64 (rs[k]'hlt).2.1) ∧ W'.cell? ⟨wr.heap.size, 2, none⟩ = some (.int .i64 (rs[k]'hlt).2.2.1) ∧ W'.cell? ⟨wr.heap.size, 3, none⟩ = some (.int .i64 (rs[k]'hlt).2.2.2) := fun W' h' =>
                      ⟨(h'.cell (p := ⟨wr.heap.size, 0, none⟩) (by show wr.heap.size < _; omega)).trans (by rw [hwb]; go_simp), (h'.cell (p := ⟨wr.heap.size, 1, none⟩) (by show wr.heap.size < _; omega)).trans (by rw [hwb]; go_simp), (h'.cell (p := ⟨wr.heap.size, 2, none⟩) (by show wr.heap.size < _; omega)).trans (by rw [hwb]; go_simp), (h'.cell (p := ⟨wr.heap.size, 3, none⟩) (by show wr.heap.size < _; omega)).trans (by rw [hwb]; go_simp)⟩
                    have hC : Below wb.heap.size wb wb.drew := (Below.refl _ _).drew
                    have hC9 : Below wb.heap.size wb (wb.alloc (.cells #[.int .i64 (rs[k]'hlt).2.1, .int .i64 (rs[k]'hlt).2.2.1] 3)).drew := ((Below.refl _ _).alloc (Nat.le_refl _) _).drew
                    have hbb : Below (w.heap.size + 1) (w.alloc (.cells #[.int .i64 W, .int .i64 H, .int .i64 L, .slice ao3 ps.length cap3, .slice ao4 aw.length cap4, .slice ao5 ss.length cap5, .slice (some ⟨b1, off, none⟩) rs.length cap6] 35)) wb := by rw [hwb]; exact hb.alloc (by omega) _
                    have HWZ : Hid (wb.heap.size = wr.heap.size + 1) := hwz
                    clear hwz
                    have hsm : ∀ n ∈ [(rs[k]'hlt).2.1, (rs[k]'hlt).2.2.1], Sm n := by intro n hn; simp at hn; rcases hn with rfl | rfl; exact hfn.2.1; exact hfn.2.2.1
                    obtain ⟨tn, htn, hnl, hnz⟩ := nums_fact [(rs[k]'hlt).2.1, (rs[k]'hlt).2.2.1] (by simp) hsm
                    have HN := specNums wb.heap.size 2 [(rs[k]'hlt).2.1, (rs[k]'hlt).2.2.1] (wb.alloc (.cells #[.int .i64 (rs[k]'hlt).2.1, .int .i64 (rs[k]'hlt).2.2.1] 3)).drew (by simp) (by simp) (by intro j hj; match j, hj with | 0, _ => go_simp | 1, _ => go_simp) hsm
                    rw [← htn] at HN
                    simp only [List.length_cons, List.length_nil, Nat.zero_add, Nat.reduceAdd] at HN
                    have el1 : (⟨#[114, 117, 110, 119, 97, 121, 32]⟩ : ByteArray).size = 7 := rfl
                    obtain ⟨a1, hadd1, hl1, hz1⟩ := add_fact s (⟨#[114, 117, 110, 119, 97, 121, 32]⟩ : ByteArray) (by rw [el1]; omega)
                    rw [el1] at hz1
                    clear el1
                    obtain ⟨a2, hadd2, hl2, hz2⟩ := add_fact a1 (rs[k]'hlt).1 (by omega)
                    obtain ⟨a3, hadd3, hl3, hz3⟩ := add_fact a2 tn (by omega)
                    have el4 : (⟨#[32]⟩ : ByteArray).size = 1 := rfl
                    obtain ⟨a4, hadd4, hl4, hz4⟩ := add_fact a3 (⟨#[32]⟩ : ByteArray) (by rw [el4]; omega)
                    rw [el4] at hz4
                    clear el4
                    obtain ⟨a5, hadd5, hl5, hz5⟩ := add_fact a4 (wordT j) (by omega)
                    have el6 : (⟨#[10]⟩ : ByteArray).size = 1 := rfl
                    obtain ⟨a6, hadd6, hl6, hz6⟩ := add_fact a5 (⟨#[10]⟩ : ByteArray) (by rw [el6]; omega)
                    rw [el6] at hz6
                    clear el6
                    have HS : Hid (a6.data.toList = T4 W H L ps aw ss rs (k + 1)) := by show _ = _; rw [hl6, hl5, hl4, hl3, hl2, hl1, hnl, hs.out, T4_succ _ _ _ _ _ _ _ _ hlt, rw_eq, ← hj]; simp only [List.append_assoc]
                    have HZ : Hid (a6.size ≤ 8000 + 100 * (k + 1)) := by show _ ≤ _; omega
                    have hjI : (j : Int) < 8 := by omega
                    have hwr : IntKind.i64.wrap (j : Int) = (j : Int) := by rw [IntKind.wrap_i64]; all_goals omega
                    have hjN : (j : Int).toNat = j := Int.toNat_natCast j
                    have hj0 : (0 : Int) ≤ (j : Int) := by omega
                    clear hl1 hz1 hl2 hz2 hl3 hz3 hl4 hz4 hl5 hz5 hl6 hz6 hnl hnz htn hsm hfn hnm zs hs hz c0 c1 c2 c3 q0 q1 q2 q3 hj hwl
                    go_wp2
                    rw [← hwb]
                    clear hwb
                    refine wp_region_RC (fun W' => Below wb.heap.size wb W') mixedF ?_
                    refine RC.take (i := 0) (v := ?v31) rfl (by kernel_rfl) (by kernel_rfl) (by kernel_rfl) (fun _ _ _ h => h) hC (by rfl) ?y31 ?r31
                    case y31 => (intro W' hW'; obtain ⟨p0, p1, p2, p3⟩ := HF W' hW'; go_simp; try with_reducible rfl)
                    refine RC.take (i := 1) (v := ?v32) rfl (by kernel_rfl) (by kernel_rfl) (by kernel_rfl) (fun _ _ _ h => h) hC (by rfl) ?y32 ?r32
                    case y32 => (intro W' hW'; obtain ⟨p0, p1, p2, p3⟩ := HF W' hW'; go_simp; try with_reducible rfl)
                    refine RC.take (i := 2) (v := ?v33) rfl (by kernel_rfl) (by kernel_rfl) (by kernel_rfl) (fun _ _ _ h => h) hC (by rfl) ?y33 ?r33
                    case y33 => (intro W' hW'; obtain ⟨p0, p1, p2, p3⟩ := HF W' hW'; go_simp; try with_reducible rfl)
                    refine RC.take (i := 3) (v := ?v34) rfl (by kernel_rfl) (by kernel_rfl) (by kernel_rfl) (fun _ _ _ h => h) hC (by rfl) ?y34 ?r34
                    case y34 => (intro W' hW'; obtain ⟨p0, p1, p2, p3⟩ := HF W' hW'; go_simp; try with_reducible rfl)
                    refine RC.take (i := 4) (v := ?v35) rfl (by kernel_rfl) (by kernel_rfl) (by kernel_rfl) (fun _ _ _ h => h) hC (by rfl) ?y35 ?r35
                    case y35 => (intro W' hW'; obtain ⟨p0, p1, p2, p3⟩ := HF W' hW'; go_simp; try with_reducible rfl)
                    refine RC.take (i := 5) (v := ?v36) rfl (by kernel_rfl) (by kernel_rfl) (by kernel_rfl) (fun _ _ _ h => h) hC (by rfl) ?y36 ?r36
                    case y36 => (intro W' hW'; obtain ⟨p0, p1, p2, p3⟩ := HF W' hW'; go_simp; try with_reducible rfl)
                    refine RC.take (i := 6) (v := ?v37) rfl (by kernel_rfl) (by kernel_rfl) (by kernel_rfl) (fun _ _ _ h => h) hC (by rfl) ?y37 ?r37
                    case y37 => (intro W' hW'; obtain ⟨p0, p1, p2, p3⟩ := HF W' hW'; go_simp; try with_reducible rfl)
                    refine RC.take (i := 7) (v := ?v38) rfl (by kernel_rfl) (by kernel_rfl) (by kernel_rfl) (fun _ _ _ h => h) hC (by rfl) ?y38 ?r38
                    case y38 => (intro W' hW'; obtain ⟨p0, p1, p2, p3⟩ := HF W' hW'; go_simp; try with_reducible rfl)
                    refine RC.take (i := 8) (v := ?v39) rfl (by kernel_rfl) (by kernel_rfl) (by kernel_rfl) (fun _ _ _ h => h) hC (by rfl) ?y39 ?r39
                    case y39 => (intro W' hW'; obtain ⟨p0, p1, p2, p3⟩ := HF W' hW'; go_simp; try with_reducible rfl)
                    refine RC.take (i := 14) (v := ?v40) rfl (by kernel_rfl) (by kernel_rfl) (by kernel_rfl) (fun _ _ _ h => h) hC (by rfl) ?y40 ?r40
                    case y40 => (intro W' hW'; obtain ⟨p0, p1, p2, p3⟩ := HF W' hW'; go_simp; try with_reducible rfl)
                    refine RC.take (i := 15) (v := ?v41) rfl (by kernel_rfl) (by kernel_rfl) (by kernel_rfl) (fun _ _ _ h => h) hC (by rfl) ?y41 ?r41
                    case y41 => (intro W' hW'; obtain ⟨p0, p1, p2, p3⟩ := HF W' hW'; go_simp; try with_reducible rfl)
                    refine RC.take (i := 16) (v := ?v42) rfl (by kernel_rfl) (by kernel_rfl) (by kernel_rfl) (fun _ _ _ h => h) hC (by rfl) ?y42 ?r42
                    case y42 => (intro W' hW'; obtain ⟨p0, p1, p2, p3⟩ := HF W' hW'; go_simp; try with_reducible rfl)
                    refine RC.want (i := 9) (by kernel_rfl) rfl (by rfl) (fun K hK => ?_)
                    go_simp
                    refine hK _ _ hC9 ?_
                    clear hK K
                    refine RC.want (i := 10) (by kernel_rfl) rfl (by rfl) (fun K hK => ?_)
                    go_simp
                    refine HN.mono ?_
                    rintro e w4 ⟨rfl, hb4⟩
                    simp only
                    have hC10 : Below wb.heap.size wb w4 := hC9.trans (hb4.mono (by simp))
                    refine hK _ _ hC10 ?_
                    clear hK K hC hb4
                    have hC := hC10
                    have hC13 : Below wb.heap.size wb (w4.alloc (.cells turnCells 9)) := hC10.alloc hC10.size _
                    have cT : (w4.alloc (.cells turnCells 9)).cell? ⟨w4.heap.size, j, none⟩ = some (.string (wordT j)) := by
                      refine (cell_of_heapS (heap_alloc_new w4 _) j).trans ?_
                      have h : j = 0 ∨ j = 1 ∨ j = 2 ∨ j = 3 ∨ j = 4 ∨ j = 5 ∨ j = 6 ∨ j = 7 := by omega
                      rcases h with rfl | rfl | rfl | rfl | rfl | rfl | rfl | rfl <;> rfl
                    obtain ⟨w5, hw5⟩ : ∃ x, x = w4.alloc (.cells turnCells 9) := ⟨_, rfl⟩
                    have HTU := specTurns w4
                    rw [← hw5] at hC13 cT HTU
                    clear hw5
                    refine RC.take (i := 11) (v := ?v43) rfl (by kernel_rfl) (by kernel_rfl) (by kernel_rfl) (fun _ _ _ h => h) hC (by rfl) ?y43 ?r43
                    case y43 => (intro W' hW'; obtain ⟨p0, p1, p2, p3⟩ := HF W' hW'; go_simp; try with_reducible rfl)
                    refine RC.take (i := 12) (v := ?v44) rfl (by kernel_rfl) (by kernel_rfl) (by kernel_rfl) (fun _ _ _ h => h) hC (by rfl) ?y44 ?r44
                    case y44 => (intro W' hW'; obtain ⟨p0, p1, p2, p3⟩ := HF W' hW'; go_simp; try with_reducible rfl)
                    refine RC.want (i := 13) (by kernel_rfl) rfl (by rfl) (fun K hK => ?_)
                    go_simp
                    refine HTU.mono ?_
                    rintro e w6 ⟨rfl, rfl⟩
                    simp only
                    refine hK _ _ hC13 ?_
                    clear hK K
                    refine RC.want (i := 17) (by kernel_rfl) rfl (by rfl) (fun K hK => ?_)
                    go_simp
                    refine hK _ _ hC13 ?_
                    clear hK K
                    refine RC.want (i := 18) (by kernel_rfl) rfl (by rfl) (fun K hK => ?_)
                    go_simp
                    refine hK _ _ hC13 ?_
                    clear hK K
                    refine RC.want (i := 19) (by kernel_rfl) rfl (by rfl) (fun K hK => ?_)
                    go_simp
                    refine hK _ _ hC13 ?_
                    clear hK K
                    refine RC.want (i := 20) (by kernel_rfl) rfl (by rfl) (fun K hK => ?_)
                    go_simp
                    refine hK _ _ hC13 ?_
                    clear hK K
                    refine RC.want (i := 21) (by kernel_rfl) rfl (by rfl) (fun K hK => ?_)
                    go_simp
                    refine hK _ _ hC13 ?_
                    clear hK K
                    refine RC.done (by kernel_rfl) ?_
                    have hbn : Below (w.heap.size + 1) (w.alloc (.cells #[.int .i64 W, .int .i64 H, .int .i64 L, .slice ao3 ps.length cap3, .slice ao4 aw.length cap4, .slice ao5 ss.length cap5, .slice (some ⟨b1, off, none⟩) rs.length cap6] 35)) _ := hbb.trans (hC13.mono (by have := HWZ.out; omega))
                    clear HF HN hC hC9 hC10 hC13 HTU cT hadd1 hadd2 hadd3 hadd4 hadd5 hadd6
                    go_wp2
                    go_roundw
                    case rel => exact ⟨k + 1, a6, by omega, rfl, by go_num, HS, HZ, hbn⟩
                    case measure => simp [intOf]; omega
                  · have hke : k = rs.length := by omega
                    subst hke
                    have hfin : s = ⟨(T4 W H L ps aw ss rs rs.length).toArray⟩ := by rw [← hs.out]
                    subst hfin
                    have hbw : Below w.heap.size w wr := hB
                    clear hs hz
                    go_wp2
                    go_ret
                    exact ⟨.inl ⟨HY.out, rfl⟩, hbw⟩

end Go.Proofs.YtmfhbnelmbjkeabGreatDoor
