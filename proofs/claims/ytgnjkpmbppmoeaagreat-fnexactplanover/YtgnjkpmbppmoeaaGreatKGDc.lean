/- DERIVED. impl.planEntryStands: its walk. -/
import Derived.Test.YtgnjkpmbppmoeaaGreatKGDb
import Derived.Test.YtgnjkpmbppmoeaaGreatKBkI0
import Derived.Test.YtgnjkpmbppmoeaaGreatKBkI1
namespace Go.Proofs.YtgnjkpmbppmoeaaGreat
namespace Std
open Go.RowKit
set_option linter.unusedSimpArgs false
set_option linter.unusedVariables false

theorem Dr.new (w : World) (cs : Array Value) (t : TypeId) : Dr (w.alloc (.cells cs t)) w.heap.size cs.toList where
  c := fun i => by rw [BxC.new w cs t i]; simp
  f := fun i => by go_simp
  lt := by simp
theorem Kp.under {B : Nat} {w W W' : World} {Bd g : Nat} (h : Below B w W) (hk : Kp W W' Bd g) (h1 : B ≤ Bd) (h2 : B ≤ g) (h3 : B ≤ W.heap.size) : Below B w W' :=
  h.trans ⟨hk.b.os, hk.b.tape, hk.b.output, hk.b.size, fun b hb => hk.o b (by omega) (by omega) (by omega)⟩

set_option maxRecDepth 100000 in
set_option maxHeartbeats 8000000 in
theorem entryStands (x : DPlanBase) (ao0 : Option Addr) (cap0 : Nat) (ao1 : Option Addr) (cap1 : Nat) (e : DPlanEntry) (fo : Option Addr) (fc : Nat) (w : World) (h : BaseAt w x ao0 cap0 ao1 cap1) (hx : EntOk x e) (hf : SliceAt vPlanField (old w) w fo fc e.2) (hs : wPlanFieldS e.2 ≤ 1048576) :
    Calls Tryz.prog 30 #[.agg #[.slice ao0 x.1.length cap0, .slice ao1 x.2.length cap1], .agg #[.string e.1, .slice fo e.2.length fc]] w fun r w' => ∃ d, DftTo x e.2 e.2.length d ∧ GivesF (outD e.1 d) w r w' := by
  obtain ⟨n, fs⟩ := e
  have hx2 : Hid (FldTo x n fs fs.length) := hx.2.2
  clear hx
  simp only at *
  have hm : fs.length ≤ 9223372036854775807 := Nat.le_trans hf.1 hf.2.1
  obtain ⟨wA, hwA⟩ : ∃ wA : World, wA = ((w.alloc (.cells #[.slice ao0 x.1.length cap0, .slice ao1 x.2.length cap1] 40)).alloc (.cells #[.string n, .slice fo fs.length fc] 67)).alloc (.cells #[.string ⟨#[]⟩, .string ⟨#[]⟩, .int .i64 0, .int .i64 0, .int .i64 0, .int .i64 0, .int .i64 0, .slice none 0 0] 34) := ⟨_, rfl⟩
  have hzA : wA.heap.size = w.heap.size + 3 := by rw [hwA]; simp
  have hbA : Below w.heap.size w wA := by rw [hwA]; exact (((Below.refl _ _).alloc (Nat.le_refl _) _).alloc (by simp) _).alloc (by simp; omega) _
  have HBA : BxC w.heap.size #[.slice ao0 x.1.length cap0, .slice ao1 x.2.length cap1] wA := by
    rw [hwA]; exact (BxC.new w _ _).below (((Below.refl (w.heap.size + 1) _).alloc (by simp) _).alloc (by simp) _) (by omega)
  have HCA : BxC (w.heap.size + 1) #[.string n, .slice fo fs.length fc] wA := by
    have hc := BxC.new (w.alloc (.cells #[.slice ao0 x.1.length cap0, .slice ao1 x.2.length cap1] 40)) #[.string n, .slice fo fs.length fc] 67
    rw [World.size_alloc] at hc
    rw [hwA]; exact hc.below ((Below.refl (w.heap.size + 2) _).alloc (by simp) _) (by omega)
  have HZA : Dr wA (w.heap.size + 2) [.string ⟨#[]⟩, .string ⟨#[]⟩, .int .i64 0, .int .i64 0, .int .i64 0, .int .i64 0, .int .i64 0, .slice none 0 0] := by
    have hd := Dr.new ((w.alloc (.cells #[.slice ao0 x.1.length cap0, .slice ao1 x.2.length cap1] 40)).alloc (.cells #[.string n, .slice fo fs.length fc] 67)) #[.string ⟨#[]⟩, .string ⟨#[]⟩, .int .i64 0, .int .i64 0, .int .i64 0, .int .i64 0, .int .i64 0, .slice none 0 0] 34
    rw [World.size_alloc, World.size_alloc] at hd
    rw [hwA]; exact hd
  go_enter Tryz.func30, Tryz.ntmps30
  go_wp2_with fail
  rw [← hwA]
  clear hwA
  refine (builder n wA).mono ?_
  rintro e w1 ⟨g, hg, rfl, hR, hb1⟩
  rw [hzA] at hg hR hb1
  have hz1 : w.heap.size + 3 ≤ w1.heap.size := by have := hb1.size; omega
  have hz2 : w.heap.size + 1 < w1.heap.size := by omega
  have HC1 := HCA.below hb1 (by omega)
  have z1 := HC1 1
  simp at z1
  go_wp2
  obtain ⟨Bd, hBd⟩ : ∃ Bd, Bd = w1.heap.size := ⟨_, rfl⟩
  obtain ⟨w2, hw2⟩ : ∃ w2 : World, w2 = w1.alloc (.cells #[.string n, .string ByteArray.empty, .int .i64 0, .int .i64 0, .int .i64 0, .int .i64 0, .int .i64 0, .slice none 0 0, .slice (some ⟨g, 0, none⟩) 4 4, .bool false] 118) := ⟨_, rfl⟩
  rw [← hBd, ← hw2]
  have hw2s : w2.heap.size = Bd + 1 := by rw [hw2, hBd]; simp
  have hbB : Below Bd w1 w2 := by rw [hw2, hBd]; exact (Below.refl _ _).alloc (Nat.le_refl _) _
  have HB2 := (HBA.below hb1 (by omega)).below hbB (by omega)
  have hA2 : Below (w.heap.size + 3) wA w2 := hb1.trans (hbB.mono (by omega))
  have HS2 : DrS w2 (w.heap.size + 3) Bd g n draft0 (.slice none 0 0) := by
    have hgl := hR.lt g rfl
    refine ⟨?_, ?_, ⟨rfl, .inl ⟨rfl, rfl⟩⟩, by omega, fun b hb => by simp [Value.ownBlock] at hb, by decide, by decide⟩
    · rw [hw2, hBd]; exact Dr.new w1 _ _
    · rw [hw2]; exact World.ownsRow.alloc hR _
  have hgB : g < Bd := by have := (hR.lt g rfl).2; omega
  have hBd3 : w.heap.size + 3 ≤ Bd := by omega
  clear HC1 z1 hz2 hR hb1 hbB hw2 hBd hz1
  go_loopw [18] (fun i wr => ∃ k : Nat, ∃ d rv, k ≤ fs.length ∧ i = .int .i64 k ∧ Hid (DftTo x fs k d) ∧ DrS wr (w.heap.size + 3) Bd g n d rv ∧ Kp w2 wr Bd g) (fun i _ => fs.length - (intOf i).toNat)
  case atStart => exact ⟨0, draft0, _, Nat.zero_le _, rfl, DftTo.zero x fs, HS2, Kp.refl _ _ _⟩
  case round =>
    clear HS2
    obtain ⟨k, d, rv, hk, rfl, hpre, hDS, hKp⟩ := hrel
    have hbel : Below (w.heap.size + 3) wA wr := Kp.under hA2 hKp (by omega) hg (by omega)
    have hB := hbA.trans (hbel.mono (by omega))
    have HB := HBA.below hbel (by omega)
    have hbs : w.heap.size + 3 ≤ wr.heap.size := by have := hbel.size; rw [hzA] at this; exact this
    have hsz : w.heap.size < wr.heap.size := by omega
    have hBr : Bd < wr.heap.size := hDS.dr.lt
    by_cases hlt : k < fs.length
    · have hv := fld_small hs hlt
      obtain ⟨b, off, rfl, hok, c0, c1, c2, q0, _, _⟩ := elem_PlanField hf hlt
      have f0 := (hB.cell (p := ⟨b, off + k * 3, none⟩) hok).trans c0
      have f1 := (hB.cell (p := ⟨b, off + k * 3 + 1, none⟩) hok).trans c1
      have f2 := (hB.cell (p := ⟨b, off + k * 3 + 2, none⟩) hok).trans c2
      clear c0 c1 c2
      have hkI : (k : Int) < (fs.length : Int) := by omega
      have hch : ChangeOk x (n, fs[k]'hlt) := (hx2.out k hlt hlt).1
      have hno : NoF fs (fs[k]'hlt).1 k := fld_noF hx2.out hlt
      obtain ⟨wh, nu, v, hcur⟩ : ∃ a b c, fs[k]'hlt = (a, b, c) := ⟨_, _, _, rfl⟩
      rw [hcur] at f0 f1 f2 q0 hv hch hno
      simp only at f0 f1 f2 q0 hv hno
      have hfit : FitsAs x wh v := hch.2.2.2
      have hwh := fits_in hfit
      have HN1 : Hid (DftTo x fs (k + 1) (hearD x d wh v)) := hpre.out.next hlt hcur hwh.1 hwh.2 hno
      have hmm : wh ≠ 5 → wh ∈ d.m := fun h5 => (hpre.out.m wh hwh.1 (by omega)).2 hno
      have hpb := pb_yes hfit
      have hfit : Hid _ := hfit
      have hmm : Hid _ := hmm
      have t0 := HB 0
      have t1 := HB 1
      simp at t0 t1
      clear hcur hch hno hwh hpre
      go_wp2_with fail
      have hbW : Below wr.heap.size wr (wr.alloc (.cells #[.int .i64 wh, .int .i64 nu, .string v] 120)) := (Below.refl _ _).alloc (Nat.le_refl _) _
      have HO := iOf x ao0 cap0 ao1 cap1 wh v _ (h.later (hB.trans (hbW.mono hB.size))) q0 hv
      refine HO.mono ?_
      unfold GivesV
      rw [hpb]
      rintro e w5 ⟨va, rfl, hS, hb5⟩
      rw [World.size_alloc] at hS hb5
      have hS : Hid _ := hS
      have hDS5 := (hDS.later hbW).later (hb5.mono (by simp) |>.mono (Nat.le_refl _))
      have hK5 : Kp wr w5 Bd g := Kp.below (hbW.trans (hb5.mono (by omega)))
      have HH := hearV x (w.heap.size + 3) _ Bd g n d rv wh v w5 va hDS5 hfit.out hS.out (by omega) (by omega) (by omega) hmm.out
      clear hb5 hbW hDS5 hDS hS hfit hmm HO t0 t1 f0 f1 f2 q0 HB hB hbel
      go_wp2_with fail
      refine HH.mono ?_
      rintro e w6 ⟨rfl, rv', hDS6, hK6⟩
      have hK : Kp w2 w6 Bd g := (hKp.trans hK5).trans hK6
      clear HH hK5 hK6 hKp
      go_wp2
      go_roundw
      case rel => exact ⟨k + 1, _, rv', by omega, by go_num, HN1, hDS6, hK⟩
      case measure => simp [intOf]; omega
    · have hkl : k = fs.length := by omega
      have hpre2 : Hid (DftTo x fs fs.length d) := hkl ▸ hpre
      clear hpre hkl
      go_wp2_with fail
      refine (stands Bd g 4 d.m.length d.c _ wr hDS.dr rfl rfl (by have := hDS.m4; omega)).mono ?_
      rintro e w7 ⟨rfl, hb7⟩
      have hDS7 := hDS.later hb7
      have hbel7 := hbel.trans (hb7.mono hbs)
      have hB7 := hbA.trans (hbel7.mono (by omega))
      have HZ7 := HZA.kept (hbel7.block _ (by omega)) hbel7.size
      have hzlt := HZ7.lt
      have HC : Hid (∀ b, w.heap.size + 3 ≤ b → b ≠ w.heap.size + 2) := fun b hb => by omega
      have c0 := HZ7.c 0
      have f0 := HZ7.f 0
      have c1 := HZ7.c 1
      have f1 := HZ7.f 1
      have c2 := HZ7.c 2
      have f2 := HZ7.f 2
      have c3 := HZ7.c 3
      have f3 := HZ7.f 3
      have c4 := HZ7.c 4
      have f4 := HZ7.f 4
      have c5 := HZ7.c 5
      have f5 := HZ7.f 5
      have c6 := HZ7.c 6
      have f6 := HZ7.f 6
      have c7 := HZ7.c 7
      have f7 := HZ7.f 7
      simp at c0 c1 c2 c3 c4 c5 c6 c7
      obtain ⟨zb, hzb⟩ : ∃ zb, zb = w.heap.size + 2 := ⟨_, rfl⟩
      have hzb2 : w.heap.size + 1 + 1 = zb := by omega
      rw [← hzb] at c0 f0
      rw [← hzb] at c1 f1
      rw [← hzb] at c2 f2
      rw [← hzb] at c3 f3
      rw [← hzb] at c4 f4
      rw [← hzb] at c5 f5
      rw [← hzb] at c6 f6
      rw [← hzb] at c7 f7
      rw [← hzb] at hzlt HC
      rw [hzb2]
      have hzle : w.heap.size ≤ zb := by omega
      clear HZ7 hzb hzb2 HZA HB hbel hbel7 hB HBA hb7 hKp
      have y0 := hDS7.dr.c 0
      have y1 := hDS7.dr.c 1
      have y2 := hDS7.dr.c 2
      have y3 := hDS7.dr.c 3
      have y4 := hDS7.dr.c 4
      have y5 := hDS7.dr.c 5
      have y6 := hDS7.dr.c 6
      have y7 := hDS7.dr.c 7
      have y8 := hDS7.dr.c 8
      have y9 := hDS7.dr.c 9
      unfold cellsD at y0 y1 y2 y3 y4 y5 y6 y7 y8 y9
      simp at y0 y1 y2 y3 y4 y5 y6 y7 y8 y9
      have hBz : Bd ≠ zb := HC.out Bd hBd3
      have hown := hDS7.o
      obtain ⟨ra, rn, rc, hrv⟩ : ∃ a n c, rv = .slice a n c := by
        rcases hown.2 with ⟨e, _⟩ | ⟨_, _, _, e, _⟩
        · exact ⟨_, _, _, e⟩
        · exact ⟨_, _, _, e⟩
      subst hrv
      by_cases hst : d.m.length = 0 ∧ d.c = false
      · have hO : Hid (outD n d = ((n, d.k, d.f, d.b, d.l, d.r), true)) := by show outD n d = _; unfold outD; rw [if_pos hst]
        rw [show (decide (d.m.length = 0) && !d.c) = true by rw [hst.2, decide_eq_true hst.1]; rfl]
        clear hst hDS hDS7
        go_wp2
        refine bodyPost_ret (v := .tuple #[flV (n, d.k, d.f, d.b, d.l, d.r) (.slice ra rn rc), .bool true]) (by simp [results, Tryz.results30, go_sem, flV, c0, c1, c2, c3, c4, c5, c6, c7, hzlt]) rfl ?_
        refine ⟨d, hpre2.out, ?_⟩
        unfold GivesF
        rw [hO.out]
        refine ⟨_, rfl, own_of (own_lo2 hown (by omega)) (fun b hb => ?_), ?_⟩
        · have hne := HC.out b (hown.lt b hb).1
          rw [Below.heap_setCell _ _ _ _ hne, Below.heap_setCell _ _ _ _ hne, Below.heap_setCell _ _ _ _ hne, Below.heap_setCell _ _ _ _ hne, Below.heap_setCell _ _ _ _ hne, Below.heap_setCell _ _ _ _ hne, Below.heap_setCell _ _ _ _ hne, Below.heap_setCell _ _ _ _ hne]
        · exact ((((((((hB7.setCell hzle _).setCell hzle _).setCell hzle _).setCell hzle _).setCell hzle _).setCell hzle _).setCell hzle _).setCell hzle _)
      · have hO : Hid (outD n d = (zF, false)) := by show outD n d = _; unfold outD; rw [if_neg hst]
        rw [show (decide (d.m.length = 0) && !d.c) = false by
          by_cases h0 : d.m.length = 0
          · cases hc : d.c
            · exact absurd ⟨h0, hc⟩ hst
            · simp
          · simp [h0]]
        clear hst hDS hDS7
        go_wp2
        refine bodyPost_ret (v := .tuple #[flV zF (.slice none 0 0), .bool false]) (by simp [results, Tryz.results30, go_sem, flV, zF, c0, c1, c2, c3, c4, c5, c6, c7, hzlt]; try rfl) rfl ?_
        refine ⟨d, hpre2.out, ?_⟩
        unfold GivesF
        rw [hO.out]
        refine ⟨.slice none 0 0, rfl, ⟨rfl, .inl ⟨rfl, rfl⟩⟩, ?_⟩
        exact ((((((((hB7.setCell hzle _).setCell hzle _).setCell hzle _).setCell hzle _).setCell hzle _).setCell hzle _).setCell hzle _).setCell hzle _)

end Std
end Go.Proofs.YtgnjkpmbppmoeaaGreat

/- DERIVED. impl.PlanStands: its walk. -/
namespace Go.Proofs.YtgnjkpmbppmoeaaGreat
namespace Std
open Go.RowKit
set_option linter.unusedSimpArgs false
set_option linter.unusedVariables false

abbrev nm1 : DPlanEntry → ByteArray := fun e => e.1
/-- What stands, told by a draft. -/
def StdIs (bk : DPlanBook) (nm : ByteArray) (o : DFlight × Bool) : Prop :=
  (¬ BookOk bk ∧ o = (zF, false)) ∨ (BookOk bk ∧ NoNm nm1 bk.2 nm bk.2.length ∧ o = (zF, false)) ∨
  (BookOk bk ∧ ∃ k, ∃ h : k < bk.2.length, NoNm nm1 bk.2 nm k ∧ (bk.2[k]'h).1 = nm ∧ ∃ d, DftTo bk.1 (bk.2[k]'h).2 (bk.2[k]'h).2.length d ∧ o = outD nm d)

set_option maxRecDepth 100000 in
set_option maxHeartbeats 8000000 in
theorem iStands (bk : DPlanBook) (nm : ByteArray) (ao0 : Option Addr) (cap0 : Nat) (ao1 : Option Addr) (cap1 : Nat) (ao2 : Option Addr) (cap2 : Nat) (w : World) (h : BaseAt w bk.1 ao0 cap0 ao1 cap1) (he : SliceAt vPlanEntry (old w) w ao2 cap2 bk.2) (hs : wPlanEntryS bk.2 ≤ 1048576) :
    Calls Tryz.prog 9 #[.agg #[.slice ao0 bk.1.1.length cap0, .slice ao1 bk.1.2.length cap1, .slice ao2 bk.2.length cap2], .string nm] w fun r w' => ∃ o, StdIs bk nm o ∧ GivesF o w r w' := by
  obtain ⟨x, es⟩ := bk
  simp only at *
  have hm : es.length ≤ 9223372036854775807 := Nat.le_trans he.1 he.2.1
  obtain ⟨wA, hwA⟩ : ∃ wA : World, wA = (w.alloc (.cells #[.slice ao0 x.1.length cap0, .slice ao1 x.2.length cap1, .slice ao2 es.length cap2] 43)).alloc (.cells #[.string ⟨#[]⟩, .string ⟨#[]⟩, .int .i64 0, .int .i64 0, .int .i64 0, .int .i64 0, .int .i64 0, .slice none 0 0] 34) := ⟨_, rfl⟩
  have hzA : wA.heap.size = w.heap.size + 2 := by rw [hwA]; simp
  have hbA : Below w.heap.size w wA := by rw [hwA]; exact ((Below.refl _ _).alloc (Nat.le_refl _) _).alloc (by simp) _
  have HBA : BxC w.heap.size #[.slice ao0 x.1.length cap0, .slice ao1 x.2.length cap1, .slice ao2 es.length cap2] wA := by
    rw [hwA]; exact (BxC.new w _ _).below ((Below.refl (w.heap.size + 1) _).alloc (by simp) _) (by omega)
  have HZA : Dr wA (w.heap.size + 1) [.string ⟨#[]⟩, .string ⟨#[]⟩, .int .i64 0, .int .i64 0, .int .i64 0, .int .i64 0, .int .i64 0, .slice none 0 0] := by
    have hd := Dr.new (w.alloc (.cells #[.slice ao0 x.1.length cap0, .slice ao1 x.2.length cap1, .slice ao2 es.length cap2] 43)) #[.string ⟨#[]⟩, .string ⟨#[]⟩, .int .i64 0, .int .i64 0, .int .i64 0, .int .i64 0, .int .i64 0, .slice none 0 0] 34
    rw [World.size_alloc] at hd
    rw [hwA]; exact hd
  obtain ⟨zb, hzb⟩ : ∃ zb, zb = w.heap.size + 1 := ⟨_, rfl⟩
  go_enter Tryz.func9, Tryz.ntmps9
  go_wp2_with fail
  rw [← hwA, ← hzb]
  rw [← hzb] at HZA
  have hzl : w.heap.size < zb := by omega
  have hzl2 : zb < w.heap.size + 2 := by omega
  have hzle : w.heap.size ≤ zb := by omega
  clear hwA hzb
  refine (iBook (x, es) ao0 cap0 ao1 cap1 ao2 cap2 wA (h.later hbA) (he.later hbA) hs).mono ?_
  rintro e w1 ⟨rfl, hb1⟩
  have hbel1 : Below (w.heap.size + 2) wA w1 := by rw [← hzA]; exact hb1
  clear hb1
  by_cases g1 : BookOk (x, es)
  · rw [pb_yes g1]
    have hz1 : w.heap.size < w1.heap.size := by have := hbel1.size; omega
    have z2 := (HBA.below hbel1 (by omega)) 2
    simp at z2
    go_wp2
    clear z2 hz1
    go_loopw [15] (fun i wr => ∃ k : Nat, k ≤ es.length ∧ i = .int .i64 k ∧ Hid (NoNm nm1 es nm k) ∧ Below (w.heap.size + 2) wA wr) (fun i _ => es.length - (intOf i).toNat)
    case atStart => exact ⟨0, Nat.zero_le _, rfl, fun i _ h => by omega, hbel1⟩
    case round =>
      clear hbel1
      obtain ⟨k, hk, rfl, hpre, hbel⟩ := hrel
      have hB := hbA.trans (hbel.mono (by omega))
      have HB := HBA.below hbel (by omega)
      have HZ := HZA.kept (hbel.block _ hzl2) hbel.size
      have hbs : w.heap.size + 2 ≤ wr.heap.size := by have := hbel.size; rw [hzA] at this; exact this
      have hsz : w.heap.size < wr.heap.size := by omega
      have hzlt : zb < wr.heap.size := by omega
      by_cases hlt : k < es.length
      · have hv := ent_small hs hlt
        obtain ⟨b, off, fo, fc, rfl, hok, c0, c1, q0, q1⟩ := elem_PlanEntry he hlt
        have f0 := (hB.cell (p := ⟨b, off + k * 2, none⟩) hok).trans c0
        have f1 := (hB.cell (p := ⟨b, off + k * 2 + 1, none⟩) hok).trans c1
        clear c0 c1
        have hkI : (k : Int) < (es.length : Int) := by omega
        have hent : EntOk x (es[k]'hlt) := (g1.2.2 k hlt hlt).1
        obtain ⟨n, fs, hcur⟩ : ∃ n fs, es[k]'hlt = (n, fs) := ⟨_, _, rfl⟩
        have HN : Hid (¬ n = nm → NoNm nm1 es nm (k + 1)) := fun e => hpre.out.next hlt (by show ¬ (es[k]'hlt).1 = nm; rw [hcur]; exact e)
        have HY : Hid (n = nm → ∀ d, DftTo x fs fs.length d → StdIs (x, es) nm (outD n d)) := fun e d hd => .inr (.inr ⟨g1, k, hlt, hpre.out, by rw [hcur]; exact e, d, by rw [hcur]; exact hd, by rw [e]⟩)
        rw [hcur] at f0 f1 q0 q1 hv hent
        simp only at f0 f1 q0 q1 hv
        have hent : Hid _ := hent
        have t0 := HB 0
        have t1 := HB 1
        have t2 := HB 2
        simp at t0 t1 t2
        clear hcur hpre
        by_cases hq : n = nm
        · have hqb : (n.toList == nm.toList) = true := by rw [hq]; simp
          subst hq
          go_wp2_with fail
          have hbW : Below wr.heap.size wr (wr.alloc (.cells #[.string n, .slice fo fs.length fc] 67)) := (Below.refl _ _).alloc (Nat.le_refl _) _
          have hB6 := hB.trans (hbW.mono (by omega))
          refine (entryStands x ao0 cap0 ao1 cap1 (n, fs) fo fc _ (h.later hB6) hent.out (q1.later hB6) hv).mono ?_
          rintro e w5 ⟨d, hd, rv, rfl, hown, hb5⟩
          rw [World.size_alloc] at hown hb5
          have hO : Hid (StdIs (x, es) n (outD n d)) := HY.out trivial d hd
          clear hd HY HN hqb hent
          have hB7 := hB6.trans (hb5.mono (by omega))
          have HZ7 := (HZ.kept (hbW.block _ hzlt) hbW.size).kept (hb5.block _ (by omega)) hb5.size
          have hz7 : zb < w5.heap.size := HZ7.lt
          obtain ⟨ra, rn, rc, hrv⟩ : ∃ a n c, rv = .slice a n c := by
            rcases hown.2 with ⟨e, _⟩ | ⟨_, _, _, e, _⟩
            · exact ⟨_, _, _, e⟩
            · exact ⟨_, _, _, e⟩
          subst hrv
          have hfr : Hid (∀ b', wr.heap.size + 1 ≤ b' → b' ≠ zb) := fun b' hb' => by omega
          have c0 := HZ7.c 0
          have f0 := HZ7.f 0
          have c1 := HZ7.c 1
          have f1 := HZ7.f 1
          have c2 := HZ7.c 2
          have f2 := HZ7.f 2
          have c3 := HZ7.c 3
          have f3 := HZ7.f 3
          have c4 := HZ7.c 4
          have f4 := HZ7.f 4
          have c5 := HZ7.c 5
          have f5 := HZ7.f 5
          have c6 := HZ7.c 6
          have f6 := HZ7.f 6
          have c7 := HZ7.c 7
          have f7 := HZ7.f 7
          simp at c0 c1 c2 c3 c4 c5 c6 c7
          clear HZ7 HZ HZA hb5 hbW hB6 hB HB hbel t0 t1 t2
          generalize outD n d = o at *
          obtain ⟨⟨o0, ⟨o1, o2, o3⟩, o4, o5, o6, o7⟩, ob⟩ := o
          unfold flV
          simp only at hown ⊢
          go_wp2
          refine bodyPost_ret (v := .tuple #[flV (o0, (o1, o2, o3), o4, o5, o6, o7) (.slice ra rn rc), .bool ob]) (by simp [results, Tryz.results9, go_sem, flV, c0, c1, c2, c3, c4, c5, c6, c7, hz7]) rfl ?_
          refine ⟨_, hO.out, _, rfl, own_of (own_lo2 hown (by omega)) (fun b hb => ?_), ?_⟩
          · have hne := hfr.out b (hown.lt b hb).1
            rw [Below.heap_setCell _ _ _ _ hne, Below.heap_setCell _ _ _ _ hne, Below.heap_setCell _ _ _ _ hne, Below.heap_setCell _ _ _ _ hne, Below.heap_setCell _ _ _ _ hne, Below.heap_setCell _ _ _ _ hne, Below.heap_setCell _ _ _ _ hne, Below.heap_setCell _ _ _ _ hne]
          · exact ((((((((hB7.setCell hzle _).setCell hzle _).setCell hzle _).setCell hzle _).setCell hzle _).setCell hzle _).setCell hzle _).setCell hzle _)
        · have hqb : (n.toList == nm.toList) = false := by rw [beq_eq_false_iff_ne]; exact fun e => hq (lst_inj e)
          have HN1 : Hid (NoNm nm1 es nm (k + 1)) := HN.out hq
          clear HN HY hq hent
          go_wp2
          have hbq := hbel.trans ((Below.refl wr.heap.size wr).alloc (Nat.le_refl _) (.cells #[.string n, .slice fo fs.length fc] 67) |>.mono hbs)
          go_roundw
          case rel => exact ⟨k + 1, by omega, by go_num, HN1, hbq⟩
          case measure => simp [intOf]; omega
      · have hkl : k = es.length := by omega
        have hO : Hid (StdIs (x, es) nm (zF, false)) := .inr (.inl ⟨g1, hkl ▸ hpre.out, rfl⟩)
        clear hkl hpre
        have hB7 := hB
        have hz7 : zb < wr.heap.size := HZ.lt
        have c0 := HZ.c 0
        have f0 := HZ.f 0
        have c1 := HZ.c 1
        have f1 := HZ.f 1
        have c2 := HZ.c 2
        have f2 := HZ.f 2
        have c3 := HZ.c 3
        have f3 := HZ.f 3
        have c4 := HZ.c 4
        have f4 := HZ.f 4
        have c5 := HZ.c 5
        have f5 := HZ.f 5
        have c6 := HZ.c 6
        have f6 := HZ.f 6
        have c7 := HZ.c 7
        have f7 := HZ.f 7
        simp at c0 c1 c2 c3 c4 c5 c6 c7
        go_wp2
        refine bodyPost_ret (v := .tuple #[flV zF (.slice none 0 0), .bool false]) (by simp [results, Tryz.results9, go_sem, flV, zF, c0, c1, c2, c3, c4, c5, c6, c7, hz7]; try rfl) rfl ?_
        exact ⟨(zF, false), hO.out, .slice none 0 0, rfl, ⟨rfl, .inl ⟨rfl, rfl⟩⟩, ((((((((hB7.setCell hzle _).setCell hzle _).setCell hzle _).setCell hzle _).setCell hzle _).setCell hzle _).setCell hzle _).setCell hzle _)⟩
  · rw [pb_no g1]
    have hO : Hid (StdIs (x, es) nm (zF, false)) := .inl ⟨g1, rfl⟩
    have HZ1 := HZA.kept (hbel1.block _ hzl2) hbel1.size
    have hB7 := hbA.trans (hbel1.mono (by omega))
    have hz7 : zb < w1.heap.size := HZ1.lt
    have c0 := HZ1.c 0
    have f0 := HZ1.f 0
    have c1 := HZ1.c 1
    have f1 := HZ1.f 1
    have c2 := HZ1.c 2
    have f2 := HZ1.f 2
    have c3 := HZ1.c 3
    have f3 := HZ1.f 3
    have c4 := HZ1.c 4
    have f4 := HZ1.f 4
    have c5 := HZ1.c 5
    have f5 := HZ1.f 5
    have c6 := HZ1.c 6
    have f6 := HZ1.f 6
    have c7 := HZ1.c 7
    have f7 := HZ1.f 7
    simp at c0 c1 c2 c3 c4 c5 c6 c7
    go_wp2
    refine bodyPost_ret (v := .tuple #[flV zF (.slice none 0 0), .bool false]) (by simp [results, Tryz.results9, go_sem, flV, zF, c0, c1, c2, c3, c4, c5, c6, c7, hz7]; try rfl) rfl ?_
    exact ⟨(zF, false), hO.out, .slice none 0 0, rfl, ⟨rfl, .inl ⟨rfl, rfl⟩⟩, ((((((((hB7.setCell hzle _).setCell hzle _).setCell hzle _).setCell hzle _).setCell hzle _).setCell hzle _).setCell hzle _).setCell hzle _)⟩

end Std
end Go.Proofs.YtgnjkpmbppmoeaaGreat

/- DERIVED. What stands, told by the values of an entry: the same as told by a draft. -/
namespace Go.Proofs.YtgnjkpmbppmoeaaGreat
namespace Std
open Go.RowKit
set_option linter.unusedSimpArgs false
set_option linter.unusedVariables false

def AllSaid (fs : List DPlanField) : Prop := ∀ wh : Int, 1 ≤ wh → wh ≤ 4 → ¬ valP fs wh = ByteArray.empty
noncomputable def stdE (x : DPlanBase) (n : ByteArray) (fs : List DPlanField) : DFlight × Bool :=
  if pb (AllSaid fs ∧ ¬ valP fs 5 = closB) then ((n, findD nmK zK x.1 (valP fs 1), decZ ((wordsP (valP fs 2)).getD 0 ByteArray.empty), decZ ((wordsP (valP fs 2)).getD 1 ByteArray.empty), decZ (valP fs 3), wordsP (valP fs 4)), true) else (zF, false)

theorem words_empty : (wordsP ByteArray.empty).length = 1 := by decide +kernel
theorem fits_some {x : DPlanBase} {wh : Int} {v : ByteArray} (h : FitsOk x wh v) (h4 : wh ≤ 4) : ¬ v = ByteArray.empty := by
  rintro rfl
  obtain ⟨hb, h⟩ := h
  have hz : ByteArray.empty.size = 0 := rfl
  rcases h with ⟨rfl, h⟩ | ⟨rfl, h⟩ | ⟨rfl, h⟩ | ⟨rfl, h⟩ | ⟨rfl, h⟩
  · obtain ⟨i, hi, e⟩ := h
    have h1 := (hb.2.1 i hi hi).1.1.1
    have e : (x.1[i]'hi).1 = ByteArray.empty := e
    rw [e, hz] at h1
    omega
  · obtain ⟨a, b, e, _⟩ := h
    have := words_empty
    rw [e] at this
    simp at this
  · have := h.1.1.1
    rw [hz] at this
    omega
  · have := h.1.1
    rw [words_empty] at this
    omega
  · omega
theorem said_or {fs : List DPlanField} {wh : Int} : NoF fs wh fs.length ∨ ∃ j, ∃ h : j < fs.length, (fs[j]'h).1 = wh := by
  by_cases h : ∃ j, ∃ h : j < fs.length, (fs[j]'h).1 = wh
  · exact .inr h
  · exact .inl (fun j hj _ e => h ⟨j, hj, e⟩)
theorem val_at {x : DPlanBase} {n : ByteArray} {fs : List DPlanField} (h : FldTo x n fs fs.length) {wh : Int} {j : Nat} (hj : j < fs.length) (e : (fs[j]'hj).1 = wh) : valP fs wh = (fs[j]'hj).2.2 :=
  valP_hit (e ▸ fld_noF h hj) hj e
theorem val_some {x : DPlanBase} {n : ByteArray} {fs : List DPlanField} (h : FldTo x n fs fs.length) {wh : Int} (h4 : wh ≤ 4) : (¬ valP fs wh = ByteArray.empty) ↔ ¬ NoF fs wh fs.length := by
  constructor
  · exact fun h1 h2 => h1 (valP_none h2)
  · intro h1
    rcases said_or (fs := fs) (wh := wh) with h2 | ⟨j, hj, e⟩
    · exact absurd h2 h1
    · rw [val_at h hj e]
      have hf : FitsOk x (fs[j]'hj).1 (fs[j]'hj).2.2 := (h j hj hj).1.2.2
      exact fits_some hf (by omega)
theorem val_fits {x : DPlanBase} {n : ByteArray} {fs : List DPlanField} (h : FldTo x n fs fs.length) {wh : Int} (hs : ¬ valP fs wh = ByteArray.empty) : FitsOk x wh (valP fs wh) := by
  rcases said_or (fs := fs) (wh := wh) with h2 | ⟨j, hj, e⟩
  · exact absurd (valP_none h2) hs
  · rw [val_at h hj e]
    have hf : FitsOk x (fs[j]'hj).1 (fs[j]'hj).2.2 := (h j hj hj).1.2.2
    rw [e] at hf
    exact hf
theorem says_val {x : DPlanBase} {n : ByteArray} {fs : List DPlanField} {d : DDraft} (h : FldTo x n fs fs.length) (hd : DftTo x fs fs.length d) {wh : Int} (hs : ¬ NoF fs wh fs.length) : SaysD x d wh (valP fs wh) := by
  rcases said_or (fs := fs) (wh := wh) with h2 | ⟨j, hj, e⟩
  · exact absurd h2 hs
  · rw [val_at h hj e]
    have := hd.s j hj hj
    rw [e] at this
    exact this
theorem outD_eq {x : DPlanBase} {n : ByteArray} {fs : List DPlanField} {d : DDraft} (h : FldTo x n fs fs.length) (hd : DftTo x fs fs.length d) : outD n d = stdE x n fs := by
  have hall : d.m.length = 0 ↔ AllSaid fs := by
    constructor
    · intro h0 wh h1 h4
      rw [val_some h h4, ← hd.m wh h1 h4]
      rw [List.length_eq_zero_iff.1 h0]
      simp
    · intro ha
      rw [List.length_eq_zero_iff, List.eq_nil_iff_forall_not_mem]
      intro a hm
      have hr := hd.v a hm
      exact ((val_some h hr.2).1 (ha a hr.1 hr.2)) ((hd.m a hr.1 hr.2).1 hm)
  have hcl : d.c = false ↔ ¬ valP fs 5 = closB := by
    by_cases h5 : NoF fs 5 fs.length
    · rw [hd.c h5, valP_none h5]
      exact ⟨fun _ e => absurd (congrArg ByteArray.size e) (by decide), fun _ => rfl⟩
    · rw [(says_val h hd h5).c rfl, decide_eq_false_iff_not]
  unfold outD stdE
  by_cases hst : AllSaid fs ∧ ¬ valP fs 5 = closB
  · rw [if_pos ⟨hall.2 hst.1, hcl.2 hst.2⟩, if_pos (pb_yes hst)]
    have hs := fun wh (h1 : 1 ≤ wh) (h4 : wh ≤ 4) => says_val h hd ((val_some h h4).1 (hst.1 wh h1 h4))
    rw [(hs 1 (by decide) (by decide)).k rfl, (hs 2 (by decide) (by decide)).f rfl, (hs 2 (by decide) (by decide)).b rfl, (hs 3 (by decide) (by decide)).l rfl, (hs 4 (by decide) (by decide)).r rfl]
  · rw [if_neg (fun e => hst ⟨hall.1 e.1, hcl.1 e.2⟩), if_neg (by rw [pb_no hst]; decide)]

/-- What stands, told by the entry's values. -/
def StdOf (bk : DPlanBook) (nm : ByteArray) (o : DFlight × Bool) : Prop :=
  (¬ BookOk bk ∧ o = (zF, false)) ∨ (BookOk bk ∧ NoNm nm1 bk.2 nm bk.2.length ∧ o = (zF, false)) ∨
  (BookOk bk ∧ ∃ k, ∃ h : k < bk.2.length, NoNm nm1 bk.2 nm k ∧ (bk.2[k]'h).1 = nm ∧ o = stdE bk.1 nm (bk.2[k]'h).2)
theorem StdIs.of {bk : DPlanBook} {nm : ByteArray} {o : DFlight × Bool} (h : StdIs bk nm o) : StdOf bk nm o := by
  rcases h with h | h | ⟨h1, k, h2, h3, h4, d, h5, h6⟩
  · exact .inl h
  · exact .inr (.inl h)
  · exact .inr (.inr ⟨h1, k, h2, h3, h4, by rw [h6]; exact outD_eq ((h4 ▸ (h1.2.2 k h2 h2).1.2.2 : FldTo bk.1 nm _ _)) h5⟩)
theorem StdOf.one {bk : DPlanBook} {nm : ByteArray} {o o' : DFlight × Bool} (h : StdOf bk nm o) (h' : StdOf bk nm o') : o = o' := by
  rcases h with ⟨a1, rfl⟩ | ⟨a1, a2, rfl⟩ | ⟨a1, k, a2, a3, a4, rfl⟩
  all_goals rcases h' with ⟨b1, rfl⟩ | ⟨b1, b2, rfl⟩ | ⟨b1, k', b2, b3, b4, rfl⟩
  all_goals first
    | rfl
    | exact absurd ‹BookOk bk› ‹¬ BookOk bk›
    | exact absurd b4 (b2' b2)
    | skip
  · exact absurd b4 (a2 k' b2 b2)
  · exact absurd a4 (b2 k a2 a2)
  · have e : k = k' := by
      rcases Nat.lt_trichotomy k k' with hlt | e | hlt
      · exact absurd a4 (b3 k a2 hlt)
      · exact e
      · exact absurd b4 (a3 k' b2 hlt)
    subst e
    rfl

end Std
end Go.Proofs.YtgnjkpmbppmoeaaGreat
