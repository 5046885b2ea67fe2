/- DERIVED. (impl.skyChecker).chainOk, airwaysOk: their walks. -/
import Derived.Test.YthkpjljhjdjbfaaDoorIC0
import Derived.Test.YthkpjljhjdjbfaaDoorIN2
namespace Go.Proofs.YthkpjljhjdjbfaaDoor
open Go.RowKit
set_option linter.unusedSimpArgs false
set_option linter.unusedVariables false

def ChainTo (ps : List DSkyPoint) (c : List ByteArray) (m : Nat) : Prop := ∀ t (ht : t < c.length), t < m → HasPoint ps (c[t]'ht) ∧ ¬ AmongTo c t (c[t]'ht)

theorem chainOk_iff {ps : List DSkyPoint} {c : List ByteArray} (h : InR (c.length : Int) 2 8) : ChainOk ps c ↔ ChainTo ps c c.length := by
  obtain ⟨h1, h2⟩ := h
  constructor
  · rintro ⟨_, _, h3⟩ t ht _
    exact ⟨(h3 t ht).1, fun ⟨j, hj, hjt, he⟩ => (h3 t ht).2 j hjt he⟩
  · intro h3
    exact ⟨by omega, by omega, fun k hk => ⟨(h3 k hk hk).1, fun j hj he => (h3 k hk hk).2 ⟨j, by omega, hj, he⟩⟩⟩

set_option maxRecDepth 100000 in
set_option maxHeartbeats 2000000 in
theorem chainOk_any (W H L : Int) (ao3 : Option Addr) (cap3 : Nat) (ps : List DSkyPoint) (b c d : Value) (ao : Option Addr) (cap : Nat) (ch : List ByteArray) (w : World) (hn : ps.length ≤ 1000) (h3 : SliceAt vSkyPoint (old w) w ao3 cap3 ps) (h : SliceAt vStr (old w) w ao cap ch) :
    Calls Tryd.prog 72 #[.agg #[.int .i64 W, .int .i64 H, .int .i64 L, .slice ao3 ps.length cap3, b, c, d], .slice ao ch.length cap] w fun e w' => ((ChainOk ps ch ∧ e = .returned (.bool true)) ∨ (¬ ChainOk ps ch ∧ e = .returned (.bool false))) ∧ Below w.heap.size w w' := by
  have hmax : ch.length ≤ 9223372036854775807 := Nat.le_trans h.1 h.2.1
  by_cases hl : InR (ch.length : Int) 2 8
  · have HI : Hid (ChainOk ps ch ↔ ChainTo ps ch ch.length) := chainOk_iff hl
    have hl8 : ch.length ≤ 8 := by have := hl.2; omega
    have hl2 : 2 ≤ ch.length := by have := hl.1; omega
    obtain ⟨b1, off1, rfl, hok1, _⟩ := elem_String h (show 0 < ch.length by omega)
    have HC : Hid (∀ j (hj : j < ch.length), w.cell? ⟨b1, off1 + j, none⟩ = some (.string (ch[j]'hj))) := fun j hj => by
      obtain ⟨b2, off2, hbo, _, e1, _⟩ := elem_String h hj
      cases hbo
      exact e1
    have hcap := h.1
    go_enter Tryd.func72, Tryd.ntmps72
    go_wp2_with (go_at_call 65; refine (from_yes _ _ _ _ hl).mono ?_; rintro e w' ⟨rfl, rfl⟩)
    clear hl
    go_loopw [13] (fun i wr => ∃ k : Nat, k ≤ ch.length ∧ i = .int .i64 k ∧ Hid (ChainTo ps ch k) ∧ Below (w.heap.size + 1) (w.alloc (.cells #[.int .i64 W, .int .i64 H, .int .i64 L, .slice ao3 ps.length cap3, b, c, d] 86)) wr) (fun i _ => ch.length - (intOf i).toNat)
    case atStart => exact ⟨0, Nat.zero_le _, rfl, fun j _ hj => by omega, Below.refl _ _⟩
    case round =>
      obtain ⟨k, hk, rfl, hpre, hb⟩ := hrel
      have hB := box_belowI hb
      have z0 := box_cellI hb 0
      have z1 := box_cellI hb 1
      have z2 := box_cellI hb 2
      have z3 := box_cellI hb 3
      have z4 := box_cellI hb 4
      have z5 := box_cellI hb 5
      have z6 := box_cellI hb 6
      simp at z0 z1 z2 z3 z4 z5 z6
      by_cases hlt : k < ch.length
      · have f0 := (hB.cell (p := ⟨b1, off1 + k, none⟩) hok1).trans (HC.out k hlt)
        have hkI : (k : Int) < (ch.length : Int) := by omega
        have hkc : (k : Int) ≤ (cap : Int) := by omega
        have HPRE : Hid (ChainTo ps ch k) := hpre
        clear hpre
        by_cases hhas : HasPoint ps (ch[k]'hlt)
        · have HH : Hid (HasPoint ps (ch[k]'hlt)) := hhas
          clear hhas
          go_wp2_with fail
          refine (hasPoint_any W H L ao3 cap3 ps b c d (ch[k]'hlt) wr hn (h3.later hB)).mono ?_
          rintro e w1 ⟨he, hb1⟩
          have he : e = .returned (.bool true) := by rcases he with ⟨_, h⟩ | ⟨h, _⟩; exact h; exact absurd HH.out h
          subst he
          have hb2 : Below (w.heap.size + 1) (w.alloc (.cells #[.int .i64 W, .int .i64 H, .int .i64 L, .slice ao3 ps.length cap3, b, c, d] 86)) w1 := hb.trans (hb1.mono (by have := hb.size; simpa using this))
          have hB1 := box_belowI hb2
          clear hb1 z0 z1 z2 z3 z4 z5 z6 f0
          go_wp2_with fail
          refine (contains_str b1 off1 cap k ch (ch[k]'hlt) w1 hk (by omega) (fun j hj => (hB1.cell (p := ⟨b1, off1 + j, none⟩) hok1).trans (HC.out j hj))).mono ?_
          rintro e w2 ⟨⟨ha, rfl⟩ | ⟨ha, rfl⟩, rfl⟩
          · have HF : Hid (¬ ChainOk ps ch) := fun h => (HI.out.1 h k hlt hlt).2 ha
            clear ha
            go_wp2
            go_ret
            exact ⟨.inr ⟨HF.out, rfl⟩, hB1⟩
          · have HN : Hid (ChainTo ps ch (k + 1)) := fun t ht h1 => by
              by_cases e : t = k
              · subst e; exact ⟨HH.out, ha⟩
              · exact HPRE.out t ht (by omega)
            clear ha
            go_wp2
            go_roundw
            case rel => exact ⟨k + 1, by omega, by go_num, HN, hb2⟩
            case measure => simp [intOf]; omega
        · have HH : Hid (¬ HasPoint ps (ch[k]'hlt)) := hhas
          have HF : Hid (¬ ChainOk ps ch) := fun h => hhas (HI.out.1 h k hlt hlt).1
          clear hhas
          go_wp2_with fail
          refine (hasPoint_any W H L ao3 cap3 ps b c d (ch[k]'hlt) wr hn (h3.later hB)).mono ?_
          rintro e w1 ⟨he, hb1⟩
          have he : e = .returned (.bool false) := by rcases he with ⟨h, _⟩ | ⟨_, h⟩; exact absurd h HH.out; exact h
          subst he
          have hB1 := hB.trans (hb1.mono hB.size)
          clear hb1
          go_wp2
          go_ret
          exact ⟨.inr ⟨HF.out, rfl⟩, hB1⟩
      · have hke : k = ch.length := by omega
        subst hke
        have HP : Hid (ChainOk ps ch) := HI.out.2 hpre.out
        clear hpre
        go_wp2
        go_ret
        exact ⟨.inl ⟨HP.out, rfl⟩, hB⟩
  · have HF : Hid (¬ ChainOk ps ch) := fun h => hl ⟨by have := h.1; omega, by have := h.2.1; omega⟩
    go_enter Tryd.func72, Tryd.ntmps72
    go_wp2_with (go_at_call 65; refine (from_no _ _ _ _ hl).mono ?_; rintro e w' ⟨rfl, rfl⟩)
    go_ret
    exact ⟨.inr ⟨HF.out, rfl⟩, (Below.refl _ _).alloc (Nat.le_refl _) _⟩

def ChainsTo (ps : List DSkyPoint) (aw : List DSkyAirway) (k : Nat) : Prop := ∀ j (h : j < aw.length), j < k → ChainOk ps (aw[j]'h).2

theorem airwaysOk_iff {ps : List DSkyPoint} {aw : List DSkyAirway} : AirwaysOk ps aw ↔ (aw.length ≤ 8 ∧ NamesTo (fun x : DSkyAirway => x.1) aw aw.length) ∧ ChainsTo ps aw aw.length :=
  ⟨fun h => ⟨⟨h.1, fun j hj _ => ⟨(h.2 j hj).1, (h.2 j hj).2.1⟩⟩, fun j hj _ => (h.2 j hj).2.2⟩, fun h => ⟨h.1.1, fun i hi => ⟨(h.1.2 i hi hi).1, (h.1.2 i hi hi).2, h.2 i hi hi⟩⟩⟩

set_option maxRecDepth 100000 in
set_option maxHeartbeats 2000000 in
theorem airwaysOk_any (W H L : Int) (ao3 : Option Addr) (cap3 : Nat) (ps : List DSkyPoint) (ao : Option Addr) (cap : Nat) (aw : List DSkyAirway) (c d : Value) (w : World) (hn : ps.length ≤ 1000) (h3 : SliceAt vSkyPoint (old w) w ao3 cap3 ps) (h : SliceAt vSkyAirway (old w) w ao cap aw) :
    Calls Tryd.prog 43 #[.agg #[.int .i64 W, .int .i64 H, .int .i64 L, .slice ao3 ps.length cap3, .slice ao aw.length cap, c, d]] w fun e w' => ((AirwaysOk ps aw ∧ e = .returned (.bool true)) ∨ (¬ AirwaysOk ps aw ∧ e = .returned (.bool false))) ∧ Below w.heap.size w w' := by
  have hb0 : Below w.heap.size w (w.alloc (.cells #[.int .i64 W, .int .i64 H, .int .i64 L, .slice ao3 ps.length cap3, .slice ao aw.length cap, c, d] 86)) := (Below.refl _ _).alloc (Nat.le_refl _) _
  go_enter Tryd.func43, Tryd.ntmps43
  go_wp2_with fail
  refine (names_SkyAirway ao cap aw _ (h.later hb0)).mono ?_
  rintro e w1 ⟨⟨hl, hnm, rfl⟩ | ⟨hno, rfl⟩, hb1⟩
  · have HNM : Hid (aw.length ≤ 8 ∧ NamesTo (fun x : DSkyAirway => x.1) aw aw.length) := ⟨hl, hnm⟩
    have hb2 : Below (w.heap.size + 1) (w.alloc (.cells #[.int .i64 W, .int .i64 H, .int .i64 L, .slice ao3 ps.length cap3, .slice ao aw.length cap, c, d] 86)) w1 := hb1.mono (by simp)
    have y4 := box_cellI hb2 4
    simp at y4
    clear hnm hb1 hb0
    go_wp2
    go_loopw [14] (fun i wr => ∃ k : Nat, k ≤ aw.length ∧ i = .int .i64 k ∧ Hid (ChainsTo ps aw k) ∧ Below (w.heap.size + 1) (w.alloc (.cells #[.int .i64 W, .int .i64 H, .int .i64 L, .slice ao3 ps.length cap3, .slice ao aw.length cap, c, d] 86)) wr) (fun i _ => aw.length - (intOf i).toNat)
    case atStart => exact ⟨0, Nat.zero_le _, rfl, fun j _ hj => by omega, hb2⟩
    case round =>
      clear hb2 y4
      obtain ⟨k, hk, rfl, hpre, hb⟩ := hrel
      have hB := box_belowI hb
      have z0 := box_cellI hb 0
      have z1 := box_cellI hb 1
      have z2 := box_cellI hb 2
      have z3 := box_cellI hb 3
      have z4 := box_cellI hb 4
      have z5 := box_cellI hb 5
      have z6 := box_cellI hb 6
      simp at z0 z1 z2 z3 z4 z5 z6
      have hwz : w.heap.size < wr.heap.size := by have := hb.size; simp at this; omega
      by_cases hlt : k < aw.length
      · obtain ⟨b, off, ao1, cap1, rfl, hok, c0, c1, q0, p1⟩ := elem_SkyAirway h hlt
        have f0 := (hB.cell (p := ⟨b, off + k * 2, none⟩) hok).trans c0
        have f1 := (hB.cell (p := ⟨b, off + k * 2 + 1, none⟩) hok).trans c1
        have hkI : (k : Int) < (aw.length : Int) := by omega
        have hbX : Below w.heap.size w (wr.alloc (.cells #[.string (aw[k]'hlt).1, .slice ao1 (aw[k]'hlt).2.length cap1] 80)) := hB.alloc hB.size _
        have HPRE : Hid (ChainsTo ps aw k) := hpre
        clear hpre c0 c1
        go_wp2_with fail
        refine (chainOk_any W H L ao3 cap3 ps _ c d ao1 cap1 (aw[k]'hlt).2 _ hn (h3.later hbX) (p1.later hbX)).mono ?_
        rintro e w2 ⟨⟨hc, rfl⟩ | ⟨hc, rfl⟩, hb2⟩
        · have HN : Hid (ChainsTo ps aw (k + 1)) := fun t ht h1 => by
            by_cases e : t = k
            · subst e; exact hc
            · exact HPRE.out t ht (by omega)
          have hb3 : Below (w.heap.size + 1) (w.alloc (.cells #[.int .i64 W, .int .i64 H, .int .i64 L, .slice ao3 ps.length cap3, .slice (some ⟨b, off, none⟩) aw.length cap, c, d] 86)) w2 := (hb.alloc (by omega) _).trans (hb2.mono (by simp; omega))
          clear hc hb2 hbX
          go_wp2
          go_roundw
          case rel => exact ⟨k + 1, by omega, by go_num, HN, hb3⟩
          case measure => simp [intOf]; omega
        · have HF : Hid (¬ AirwaysOk ps aw) := fun h => hc ((airwaysOk_iff.1 h).2 k hlt hlt)
          have hb3 := hbX.trans (hb2.mono hbX.size)
          clear hc hb2 hbX
          go_wp2
          go_ret
          exact ⟨.inr ⟨HF.out, rfl⟩, hb3⟩
      · have hke : k = aw.length := by omega
        subst hke
        have HP : Hid (AirwaysOk ps aw) := airwaysOk_iff.2 ⟨HNM.out, hpre.out⟩
        clear hpre
        go_wp2
        go_ret
        exact ⟨.inl ⟨HP.out, rfl⟩, hB⟩
  · have HF : Hid (¬ AirwaysOk ps aw) := fun h => hno (airwaysOk_iff.1 h).1
    have hb2 := hb0.trans (hb1.mono hb0.size)
    clear hno hb1
    go_wp2
    go_ret
    exact ⟨.inr ⟨HF.out, rfl⟩, hb2⟩

end Go.Proofs.YthkpjljhjdjbfaaDoor
