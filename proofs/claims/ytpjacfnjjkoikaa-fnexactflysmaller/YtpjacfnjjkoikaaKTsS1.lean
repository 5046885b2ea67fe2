/- DERIVED. spec.FlyFirst, spec.FlyLast: their walks, for whatever spec.FlySpans gives (written by wip/tools/mk_tss1.py). -/
import Derived.Test.YtpjacfnjjkoikaaKTsD
import Derived.Test.YtpjacfnjjkoikaaKBx0
namespace Go.Proofs.Ytpjacfnjjkoikaa
namespace Fly
open Go.RowKit
set_option linter.unusedSimpArgs false
set_option linter.unusedVariables false

theorem emptyI (w : World) (e : TypeId) (B : Nat) (hB : B ≤ w.heap.size) : (w.alloc (.cells #[] e)).ownsRow B e 1 (.slice (some ⟨w.heap.size, 0, none⟩) 0 0) 0 [] :=
  World.ownsRow_made w #[] 0 hB (Nat.zero_le _) rfl
theorem own_lo1' {W : World} {b : Nat} {e : TypeId} {size k : Nat} {v : Value} {xs : List Value} (h : W.ownsRow (b + 1) e size v k xs) : W.ownsRow b e size v k xs := by
  refine ⟨h.1, ?_⟩
  rcases h.2 with h1 | ⟨g, c, cur, h1, h2, h3⟩
  · exact .inl h1
  · exact .inr ⟨g, c, cur, h1, by omega, h3⟩
theorem new1 (W : World) (t : TypeId) (a : Int) : ∀ j u, [Value.int .i64 a][j]? = some u → (W.alloc (.cells #[.int .i64 a] t)).cell? ((⟨W.heap.size, 0, none⟩ : Addr).add j) = some u := by
  intro j u hj
  match j, hj with
  | 0, hj => simp at hj; subst hj; simp [Addr.add]
theorem one1 (a : Int) : ∀ u ∈ [Value.int .i64 a], u.oneCell' = true := by
  intro u hu
  simp at hu
  subst hu
  rfl

set_option maxRecDepth 100000 in
set_option maxHeartbeats 4000000 in
theorem sFirst (L : List RFlySpan) (ok : Bool) (x : DFlyPath) (ao : Option Addr) (cap : Nat) (w : World) (h : PathAt w x ao cap) (hL : L.length ≤ 1000)
    (HS : ∀ W, PathAt W x ao cap → Calls Try.prog 10 #[.agg #[.int .i64 x.1.1, .int .i64 x.1.2, .slice ao x.2.1.length cap, .int .i64 x.2.2.1, .int .i64 x.2.2.2]] W (GivesSp L ok W)) :
    Calls Try.prog 18 #[.agg #[.int .i64 x.1.1, .int .i64 x.1.2, .slice ao x.2.1.length cap, .int .i64 x.2.2.1, .int .i64 x.2.2.2]] w fun e w' => ∃ bo bc, e = .returned (.slice bo (L.map (·.1)).length bc) ∧ w'.ownsRow w.heap.size 3 1 (.slice bo (L.map (·.1)).length bc) (L.map (·.1)).length (valsInt (L.map (·.1))) ∧ Below w.heap.size w w' := by
  obtain ⟨i0, hi, hz0, hz1, hz2⟩ := info_parts Try.infoInt
  obtain ⟨w0, hw0⟩ : ∃ w0 : World, w0 = (w.alloc (.cells #[.int .i64 x.1.1, .int .i64 x.1.2, .slice ao x.2.1.length cap, .int .i64 x.2.2.1, .int .i64 x.2.2.2] 34)).alloc (.cells #[] 3) := ⟨_, rfl⟩
  have hb0 : Below w.heap.size w w0 := by rw [hw0]; exact ((Below.refl _ _).alloc (Nat.le_refl _) _).alloc (by simp) _
  have hz0' : w0.heap.size = w.heap.size + 2 := by rw [hw0]; simp
  have HT := HS w0 (h.later hb0)
  unfold GivesSp at HT
  have hO0 : w0.ownsRow (w.heap.size + 1) 3 1 (.slice (some ⟨w.heap.size + 1, 0, none⟩) 0 0) 0 [] := by
    rw [hw0]
    have hx := emptyI (w.alloc (.cells #[.int .i64 x.1.1, .int .i64 x.1.2, .slice ao x.2.1.length cap, .int .i64 x.2.2.1, .int .i64 x.2.2.2] 34)) 3 (w.heap.size + 1) (by simp)
    simpa using hx
  rw [hw0] at HT
  go_enter Try.func18, Try.ntmps18
  go_wp2_with fail
  refine HT.mono ?_
  rw [← hw0]
  rintro e w1 ⟨so, sc, rfl, hO1, hb1⟩
  have hA1 := atFlySpan_owns hO1
  have hscm : L.length ≤ sc ∧ sc ≤ 9223372036854775807 := by
    rcases hO1.2 with ⟨h1, _⟩ | ⟨_, c3, _, h1, _, _, h2, h3, _⟩
    · injection h1 with _ e2 e3
      omega
    · injection h1 with _ _ e3
      subst e3
      exact ⟨h2, h3⟩
  obtain ⟨hsc1, hsc2⟩ := hscm
  have hO2 := owns_below hO0 (hb1.mono (Nat.le_refl _))
  have hB1 := hb0.trans (hb1.mono hb0.size)
  have hz1' : w.heap.size + 2 ≤ w1.heap.size := by have := hb1.size; omega
  have hNB : ∀ g, so = some ⟨g, 0, none⟩ → (Value.slice (some ⟨w.heap.size + 1, 0, none⟩) 0 0).ownBlock ≠ some g := fun g e h => by
    subst e
    have h1 := own_ge hO1 g rfl
    simp [Value.ownBlock] at h
    omega
  clear HT HS hO1 hO0 hb1 hb0 hw0 hz0' h
  go_wp2
  go_loopw [3, 6] (fun v i wr => ∃ (k : Nat) (bo : Option Addr) (bc : Nat), k ≤ L.length ∧ i = .int .i64 k ∧ v = .slice bo k bc ∧ wr.ownsRow (w.heap.size + 1) 3 1 (.slice bo k bc) k (valsInt ((L.take k).map (·.1))) ∧ Below w.heap.size w wr ∧ AtFlySpan wr so L ∧ w.heap.size + 2 ≤ wr.heap.size ∧ ∀ g, so = some ⟨g, 0, none⟩ → (Value.slice bo k bc).ownBlock ≠ some g) (fun _ i _ => L.length - (intOf i).toNat)
  case atStart => exact ⟨0, _, 0, Nat.zero_le _, rfl, rfl, hO2, hB1, hA1, hz1', hNB⟩
  case round =>
    clear hO2 hB1 hA1 hNB
    obtain ⟨k, bo, bc, hk, rfl, rfl, hO, hB, hA, hzr, hNB⟩ := hrel
    by_cases hlt : k < L.length
    · obtain ⟨g, rfl, hg, c0, c1⟩ := hA.elem hlt
      have hNg := hNB g rfl
      have hkI : (k : Int) < (L.length : Int) := by omega
      have hnk : (L.length ≤ k) = False := by simp; omega
      have hsz := hB.size
      have HST : Hid (valsInt ((L.take (k + 1)).map (·.1)) = valsInt ((L.take k).map (·.1)) ++ [.int .i64 (L[k]'hlt).1]) := by
        show _ = _
        rw [List.take_succ_eq_append_getElem hlt, List.map_append]
        exact valsInt_snoc _ _
      generalize valsInt ((L.take k).map (·.1)) = V at *
      have hA' : Hid _ := hA
      have hB' : Hid _ := hB
      generalize L[k]'hlt = S at *
      obtain ⟨s0, s1⟩ := S
      simp only at c0 c1 HST
      have hbs : w.heap.size + 1 ≤ wr.heap.size := by omega
      have h63 : k + 1 ≤ maxLen := by unfold maxLen; omega
      have h48 : (k + 1) * 8 ≤ 140737488355328 := by omega
      have hbs2 : w.heap.size + 1 ≤ (wr.alloc (.cells #[.int .i64 s0] 3)).heap.size := by simp; omega
      clear hA hB hNB
      go_wp2_with (at_builtin; refine wpList_append_own_at _ rfl _ _ 41 rfl (w.heap.size + 1) 3 i0 (.int .i64 0) 1 8 Try.underlying41 hi hz0 hz1 hz2 rfl (by decide) _ _ _ rfl (hO.alloc _) ⟨wr.heap.size, 0, none⟩ 1 1 [.int .i64 s0] rfl rfl (new1 _ _ _) (one1 _) h63 h48 hbs2 ?_)
      intro v' w4 hown hgrow _ hat
      obtain ⟨g', cp, rfl⟩ := owns_pos hown
      have hne : g' ≠ g := fun e => by
        subst e
        rcases hat with h1 | h1
        · exact hNg h1.symm
        · simp [Value.ownBlock] at h1; omega
      have hA4 : AtFlySpan w4 (some ⟨g, 0, none⟩) L := AtFlySpan.kept hA'.out (fun g1 e h2 => by
        cases e
        exact (hgrow.block g (by simp; omega) (fun e => hNg e.symm)).trans (Below.heap_alloc _ _ _ hg)) (by have := hgrow.size; simp at this; omega)
      have hB4 : Below w.heap.size w w4 := (hB'.out.alloc hB'.out.size _).grown hgrow (by have := hB'.out.size; simp; omega) (fun j hj => by have := own_ge hO j hj; omega)
      have hO4 : w4.ownsRow (w.heap.size + 1) 3 1 (.slice (some ⟨g', 0, none⟩) (k + 1) cp) (k + 1) (valsInt ((L.take (k + 1)).map (·.1))) := by
        rw [HST.out]
        exact hown
      have HO4 : Hid _ := hO4
      have HA4 : Hid _ := hA4
      have hz4 : w.heap.size + 2 ≤ w4.heap.size := by have := hgrow.size; simp at this; omega
      clear hO hown hgrow hat hO4 hA4 c0 c1 hA' hB'
      go_wp2
      go_roundw
      case rel => exact ⟨k + 1, _, _, by omega, by go_num, rfl, HO4.out, hB4, HA4.out, hz4, fun g1 e h => by cases e; simp [Value.ownBlock] at h; exact hne h⟩
      case measure => simp [intOf]; omega
    · have e : k = L.length := by omega
      subst e
      rw [List.take_length] at hO
      have HO : Hid _ := hO
      clear hO hA
      go_wp2
      go_ret
      refine ⟨bo, bc, by simp, ?_, hB⟩
      have hq := HO.out
      rw [List.length_map]
      exact own_lo1' hq

set_option maxRecDepth 100000 in
set_option maxHeartbeats 4000000 in
theorem sLast (L : List RFlySpan) (ok : Bool) (x : DFlyPath) (ao : Option Addr) (cap : Nat) (w : World) (h : PathAt w x ao cap) (hL : L.length ≤ 1000)
    (HS : ∀ W, PathAt W x ao cap → Calls Try.prog 10 #[.agg #[.int .i64 x.1.1, .int .i64 x.1.2, .slice ao x.2.1.length cap, .int .i64 x.2.2.1, .int .i64 x.2.2.2]] W (GivesSp L ok W)) :
    Calls Try.prog 23 #[.agg #[.int .i64 x.1.1, .int .i64 x.1.2, .slice ao x.2.1.length cap, .int .i64 x.2.2.1, .int .i64 x.2.2.2]] w fun e w' => ∃ bo bc, e = .returned (.slice bo (L.map (·.2)).length bc) ∧ w'.ownsRow w.heap.size 3 1 (.slice bo (L.map (·.2)).length bc) (L.map (·.2)).length (valsInt (L.map (·.2))) ∧ Below w.heap.size w w' := by
  obtain ⟨i0, hi, hz0, hz1, hz2⟩ := info_parts Try.infoInt
  obtain ⟨w0, hw0⟩ : ∃ w0 : World, w0 = (w.alloc (.cells #[.int .i64 x.1.1, .int .i64 x.1.2, .slice ao x.2.1.length cap, .int .i64 x.2.2.1, .int .i64 x.2.2.2] 34)).alloc (.cells #[] 3) := ⟨_, rfl⟩
  have hb0 : Below w.heap.size w w0 := by rw [hw0]; exact ((Below.refl _ _).alloc (Nat.le_refl _) _).alloc (by simp) _
  have hz0' : w0.heap.size = w.heap.size + 2 := by rw [hw0]; simp
  have HT := HS w0 (h.later hb0)
  unfold GivesSp at HT
  have hO0 : w0.ownsRow (w.heap.size + 1) 3 1 (.slice (some ⟨w.heap.size + 1, 0, none⟩) 0 0) 0 [] := by
    rw [hw0]
    have hx := emptyI (w.alloc (.cells #[.int .i64 x.1.1, .int .i64 x.1.2, .slice ao x.2.1.length cap, .int .i64 x.2.2.1, .int .i64 x.2.2.2] 34)) 3 (w.heap.size + 1) (by simp)
    simpa using hx
  rw [hw0] at HT
  go_enter Try.func23, Try.ntmps23
  go_wp2_with fail
  refine HT.mono ?_
  rw [← hw0]
  rintro e w1 ⟨so, sc, rfl, hO1, hb1⟩
  have hA1 := atFlySpan_owns hO1
  have hscm : L.length ≤ sc ∧ sc ≤ 9223372036854775807 := by
    rcases hO1.2 with ⟨h1, _⟩ | ⟨_, c3, _, h1, _, _, h2, h3, _⟩
    · injection h1 with _ e2 e3
      omega
    · injection h1 with _ _ e3
      subst e3
      exact ⟨h2, h3⟩
  obtain ⟨hsc1, hsc2⟩ := hscm
  have hO2 := owns_below hO0 (hb1.mono (Nat.le_refl _))
  have hB1 := hb0.trans (hb1.mono hb0.size)
  have hz1' : w.heap.size + 2 ≤ w1.heap.size := by have := hb1.size; omega
  have hNB : ∀ g, so = some ⟨g, 0, none⟩ → (Value.slice (some ⟨w.heap.size + 1, 0, none⟩) 0 0).ownBlock ≠ some g := fun g e h => by
    subst e
    have h1 := own_ge hO1 g rfl
    simp [Value.ownBlock] at h
    omega
  clear HT HS hO1 hO0 hb1 hb0 hw0 hz0' h
  go_wp2
  go_loopw [3, 6] (fun v i wr => ∃ (k : Nat) (bo : Option Addr) (bc : Nat), k ≤ L.length ∧ i = .int .i64 k ∧ v = .slice bo k bc ∧ wr.ownsRow (w.heap.size + 1) 3 1 (.slice bo k bc) k (valsInt ((L.take k).map (·.2))) ∧ Below w.heap.size w wr ∧ AtFlySpan wr so L ∧ w.heap.size + 2 ≤ wr.heap.size ∧ ∀ g, so = some ⟨g, 0, none⟩ → (Value.slice bo k bc).ownBlock ≠ some g) (fun _ i _ => L.length - (intOf i).toNat)
  case atStart => exact ⟨0, _, 0, Nat.zero_le _, rfl, rfl, hO2, hB1, hA1, hz1', hNB⟩
  case round =>
    clear hO2 hB1 hA1 hNB
    obtain ⟨k, bo, bc, hk, rfl, rfl, hO, hB, hA, hzr, hNB⟩ := hrel
    by_cases hlt : k < L.length
    · obtain ⟨g, rfl, hg, c0, c1⟩ := hA.elem hlt
      have hNg := hNB g rfl
      have hkI : (k : Int) < (L.length : Int) := by omega
      have hnk : (L.length ≤ k) = False := by simp; omega
      have hsz := hB.size
      have HST : Hid (valsInt ((L.take (k + 1)).map (·.2)) = valsInt ((L.take k).map (·.2)) ++ [.int .i64 (L[k]'hlt).2]) := by
        show _ = _
        rw [List.take_succ_eq_append_getElem hlt, List.map_append]
        exact valsInt_snoc _ _
      generalize valsInt ((L.take k).map (·.2)) = V at *
      have hA' : Hid _ := hA
      have hB' : Hid _ := hB
      generalize L[k]'hlt = S at *
      obtain ⟨s0, s1⟩ := S
      simp only at c0 c1 HST
      have hbs : w.heap.size + 1 ≤ wr.heap.size := by omega
      have h63 : k + 1 ≤ maxLen := by unfold maxLen; omega
      have h48 : (k + 1) * 8 ≤ 140737488355328 := by omega
      have hbs2 : w.heap.size + 1 ≤ (wr.alloc (.cells #[.int .i64 s1] 3)).heap.size := by simp; omega
      clear hA hB hNB
      go_wp2_with (at_builtin; refine wpList_append_own_at _ rfl _ _ 41 rfl (w.heap.size + 1) 3 i0 (.int .i64 0) 1 8 Try.underlying41 hi hz0 hz1 hz2 rfl (by decide) _ _ _ rfl (hO.alloc _) ⟨wr.heap.size, 0, none⟩ 1 1 [.int .i64 s1] rfl rfl (new1 _ _ _) (one1 _) h63 h48 hbs2 ?_)
      intro v' w4 hown hgrow _ hat
      obtain ⟨g', cp, rfl⟩ := owns_pos hown
      have hne : g' ≠ g := fun e => by
        subst e
        rcases hat with h1 | h1
        · exact hNg h1.symm
        · simp [Value.ownBlock] at h1; omega
      have hA4 : AtFlySpan w4 (some ⟨g, 0, none⟩) L := AtFlySpan.kept hA'.out (fun g1 e h2 => by
        cases e
        exact (hgrow.block g (by simp; omega) (fun e => hNg e.symm)).trans (Below.heap_alloc _ _ _ hg)) (by have := hgrow.size; simp at this; omega)
      have hB4 : Below w.heap.size w w4 := (hB'.out.alloc hB'.out.size _).grown hgrow (by have := hB'.out.size; simp; omega) (fun j hj => by have := own_ge hO j hj; omega)
      have hO4 : w4.ownsRow (w.heap.size + 1) 3 1 (.slice (some ⟨g', 0, none⟩) (k + 1) cp) (k + 1) (valsInt ((L.take (k + 1)).map (·.2))) := by
        rw [HST.out]
        exact hown
      have HO4 : Hid _ := hO4
      have HA4 : Hid _ := hA4
      have hz4 : w.heap.size + 2 ≤ w4.heap.size := by have := hgrow.size; simp at this; omega
      clear hO hown hgrow hat hO4 hA4 c0 c1 hA' hB'
      go_wp2
      go_roundw
      case rel => exact ⟨k + 1, _, _, by omega, by go_num, rfl, HO4.out, hB4, HA4.out, hz4, fun g1 e h => by cases e; simp [Value.ownBlock] at h; exact hne h⟩
      case measure => simp [intOf]; omega
    · have e : k = L.length := by omega
      subst e
      rw [List.take_length] at hO
      have HO : Hid _ := hO
      clear hO hA
      go_wp2
      go_ret
      refine ⟨bo, bc, by simp, ?_, hB⟩
      have hq := HO.out
      rw [List.length_map]
      exact own_lo1' hq

end Fly
end Go.Proofs.Ytpjacfnjjkoikaa
