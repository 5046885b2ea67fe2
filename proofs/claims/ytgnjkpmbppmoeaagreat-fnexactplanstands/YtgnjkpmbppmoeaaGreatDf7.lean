/- DERIVED. impl.PlanStands: its walk. -/
import Derived.Test.YtgnjkpmbppmoeaaGreatDf6
import Derived.Test.YtgnjkpmbppmoeaaGreatBkI1
namespace Go.Proofs.YtgnjkpmbppmoeaaGreat
namespace Std
open Go.RowKit
set_option linter.unusedSimpArgs false
set_option linter.unusedVariables false

abbrev nm1 : DPlanEntry → ByteArray := fun e => e.1
/-- What stands, told by a draft. -/
def StdIs (bk : DPlanBook) (nm : ByteArray) (o : DFlight × Bool) : Prop :=
  (¬ BookOk bk ∧ o = (zF, false)) ∨ (BookOk bk ∧ NoNm nm1 bk.2 nm bk.2.length ∧ o = (zF, false)) ∨
  (BookOk bk ∧ ∃ k, ∃ h : k < bk.2.length, NoNm nm1 bk.2 nm k ∧ (bk.2[k]'h).1 = nm ∧ ∃ d, DftTo bk.1 (bk.2[k]'h).2 (bk.2[k]'h).2.length d ∧ o = outD nm d)

set_option maxRecDepth 100000 in
set_option maxHeartbeats 8000000 in
theorem iStands (bk : DPlanBook) (nm : ByteArray) (ao0 : Option Addr) (cap0 : Nat) (ao1 : Option Addr) (cap1 : Nat) (ao2 : Option Addr) (cap2 : Nat) (w : World) (h : BaseAt w bk.1 ao0 cap0 ao1 cap1) (he : SliceAt vPlanEntry (old w) w ao2 cap2 bk.2) (hs : wPlanEntryS bk.2 ≤ 1048576) :
    Calls Tryz.prog 9 #[.agg #[.slice ao0 bk.1.1.length cap0, .slice ao1 bk.1.2.length cap1, .slice ao2 bk.2.length cap2], .string nm] w fun r w' => ∃ o, StdIs bk nm o ∧ GivesF o w r w' := by
  obtain ⟨x, es⟩ := bk
  simp only at *
  have hm : es.length ≤ 9223372036854775807 := Nat.le_trans he.1 he.2.1
  obtain ⟨wA, hwA⟩ : ∃ wA : World, wA = (w.alloc (.cells #[.slice ao0 x.1.length cap0, .slice ao1 x.2.length cap1, .slice ao2 es.length cap2] 43)).alloc (.cells #[.string ⟨#[]⟩, .string ⟨#[]⟩, .int .i64 0, .int .i64 0, .int .i64 0, .int .i64 0, .int .i64 0, .slice none 0 0] 34) := ⟨_, rfl⟩
  have hzA : wA.heap.size = w.heap.size + 2 := by rw [hwA]; simp
  have hbA : Below w.heap.size w wA := by rw [hwA]; exact ((Below.refl _ _).alloc (Nat.le_refl _) _).alloc (by simp) _
  have HBA : BxC w.heap.size #[.slice ao0 x.1.length cap0, .slice ao1 x.2.length cap1, .slice ao2 es.length cap2] wA := by
    rw [hwA]; exact (BxC.new w _ _).below ((Below.refl (w.heap.size + 1) _).alloc (by simp) _) (by omega)
  have HZA : Dr wA (w.heap.size + 1) [.string ⟨#[]⟩, .string ⟨#[]⟩, .int .i64 0, .int .i64 0, .int .i64 0, .int .i64 0, .int .i64 0, .slice none 0 0] := by
    have hd := Dr.new (w.alloc (.cells #[.slice ao0 x.1.length cap0, .slice ao1 x.2.length cap1, .slice ao2 es.length cap2] 43)) #[.string ⟨#[]⟩, .string ⟨#[]⟩, .int .i64 0, .int .i64 0, .int .i64 0, .int .i64 0, .int .i64 0, .slice none 0 0] 34
    rw [World.size_alloc] at hd
    rw [hwA]; exact hd
  obtain ⟨zb, hzb⟩ : ∃ zb, zb = w.heap.size + 1 := ⟨_, rfl⟩
  go_enter Tryz.func9, Tryz.ntmps9
  go_wp2_with fail
  rw [← hwA, ← hzb]
  rw [← hzb] at HZA
  have hzl : w.heap.size < zb := by omega
  have hzl2 : zb < w.heap.size + 2 := by omega
  have hzle : w.heap.size ≤ zb := by omega
  clear hwA hzb
  refine (iBook (x, es) ao0 cap0 ao1 cap1 ao2 cap2 wA (h.later hbA) (he.later hbA) hs).mono ?_
  rintro e w1 ⟨rfl, hb1⟩
  have hbel1 : Below (w.heap.size + 2) wA w1 := by rw [← hzA]; exact hb1
  clear hb1
  by_cases g1 : BookOk (x, es)
  · rw [pb_yes g1]
    have hz1 : w.heap.size < w1.heap.size := by have := hbel1.size; omega
    have z2 := (HBA.below hbel1 (by omega)) 2
    simp at z2
    go_wp2
    clear z2 hz1
    go_loopw [15] (fun i wr => ∃ k : Nat, k ≤ es.length ∧ i = .int .i64 k ∧ Hid (NoNm nm1 es nm k) ∧ Below (w.heap.size + 2) wA wr) (fun i _ => es.length - (intOf i).toNat)
    case atStart => exact ⟨0, Nat.zero_le _, rfl, fun i _ h => by omega, hbel1⟩
    case round =>
      clear hbel1
      obtain ⟨k, hk, rfl, hpre, hbel⟩ := hrel
      have hB := hbA.trans (hbel.mono (by omega))
      have HB := HBA.below hbel (by omega)
      have HZ := HZA.kept (hbel.block _ hzl2) hbel.size
      have hbs : w.heap.size + 2 ≤ wr.heap.size := by have := hbel.size; rw [hzA] at this; exact this
      have hsz : w.heap.size < wr.heap.size := by omega
      have hzlt : zb < wr.heap.size := by omega
      by_cases hlt : k < es.length
      · have hv := ent_small hs hlt
        obtain ⟨b, off, fo, fc, rfl, hok, c0, c1, q0, q1⟩ := elem_PlanEntry he hlt
        have f0 := (hB.cell (p := ⟨b, off + k * 2, none⟩) hok).trans c0
        have f1 := (hB.cell (p := ⟨b, off + k * 2 + 1, none⟩) hok).trans c1
        clear c0 c1
        have hkI : (k : Int) < (es.length : Int) := by omega
        have hent : EntOk x (es[k]'hlt) := (g1.2.2 k hlt hlt).1
        obtain ⟨n, fs, hcur⟩ : ∃ n fs, es[k]'hlt = (n, fs) := ⟨_, _, rfl⟩
        have HN : Hid (¬ n = nm → NoNm nm1 es nm (k + 1)) := fun e => hpre.out.next hlt (by show ¬ (es[k]'hlt).1 = nm; rw [hcur]; exact e)
        have HY : Hid (n = nm → ∀ d, DftTo x fs fs.length d → StdIs (x, es) nm (outD n d)) := fun e d hd => .inr (.inr ⟨g1, k, hlt, hpre.out, by rw [hcur]; exact e, d, by rw [hcur]; exact hd, by rw [e]⟩)
        rw [hcur] at f0 f1 q0 q1 hv hent
        simp only at f0 f1 q0 q1 hv
        have hent : Hid _ := hent
        have t0 := HB 0
        have t1 := HB 1
        have t2 := HB 2
        simp at t0 t1 t2
        clear hcur hpre
        by_cases hq : n = nm
        · have hqb : (n.toList == nm.toList) = true := by rw [hq]; simp
          subst hq
          go_wp2_with fail
          have hbW : Below wr.heap.size wr (wr.alloc (.cells #[.string n, .slice fo fs.length fc] 67)) := (Below.refl _ _).alloc (Nat.le_refl _) _
          have hB6 := hB.trans (hbW.mono (by omega))
          refine (entryStands x ao0 cap0 ao1 cap1 (n, fs) fo fc _ (h.later hB6) hent.out (q1.later hB6) hv).mono ?_
          rintro e w5 ⟨d, hd, rv, rfl, hown, hb5⟩
          rw [World.size_alloc] at hown hb5
          have hO : Hid (StdIs (x, es) n (outD n d)) := HY.out trivial d hd
          clear hd HY HN hqb hent
          have hB7 := hB6.trans (hb5.mono (by omega))
          have HZ7 := (HZ.kept (hbW.block _ hzlt) hbW.size).kept (hb5.block _ (by omega)) hb5.size
          have hz7 : zb < w5.heap.size := HZ7.lt
          obtain ⟨ra, rn, rc, hrv⟩ : ∃ a n c, rv = .slice a n c := by
            rcases hown.2 with ⟨e, _⟩ | ⟨_, _, _, e, _⟩
            · exact ⟨_, _, _, e⟩
            · exact ⟨_, _, _, e⟩
          subst hrv
          have hfr : Hid (∀ b', wr.heap.size + 1 ≤ b' → b' ≠ zb) := fun b' hb' => by omega
          have c0 := HZ7.c 0
          have f0 := HZ7.f 0
          have c1 := HZ7.c 1
          have f1 := HZ7.f 1
          have c2 := HZ7.c 2
          have f2 := HZ7.f 2
          have c3 := HZ7.c 3
          have f3 := HZ7.f 3
          have c4 := HZ7.c 4
          have f4 := HZ7.f 4
          have c5 := HZ7.c 5
          have f5 := HZ7.f 5
          have c6 := HZ7.c 6
          have f6 := HZ7.f 6
          have c7 := HZ7.c 7
          have f7 := HZ7.f 7
          simp at c0 c1 c2 c3 c4 c5 c6 c7
          clear HZ7 HZ HZA hb5 hbW hB6 hB HB hbel t0 t1 t2
          generalize outD n d = o at *
          obtain ⟨⟨o0, ⟨o1, o2, o3⟩, o4, o5, o6, o7⟩, ob⟩ := o
          unfold flV
          simp only at hown ⊢
          go_wp2
          refine bodyPost_ret (v := .tuple #[flV (o0, (o1, o2, o3), o4, o5, o6, o7) (.slice ra rn rc), .bool ob]) (by simp [results, Tryz.results9, go_sem, flV, c0, c1, c2, c3, c4, c5, c6, c7, hz7]) rfl ?_
          refine ⟨_, hO.out, _, rfl, own_of (own_lo2 hown (by omega)) (fun b hb => ?_), ?_⟩
          · have hne := hfr.out b (hown.lt b hb).1
            rw [Below.heap_setCell _ _ _ _ hne, Below.heap_setCell _ _ _ _ hne, Below.heap_setCell _ _ _ _ hne, Below.heap_setCell _ _ _ _ hne, Below.heap_setCell _ _ _ _ hne, Below.heap_setCell _ _ _ _ hne, Below.heap_setCell _ _ _ _ hne, Below.heap_setCell _ _ _ _ hne]
          · exact ((((((((hB7.setCell hzle _).setCell hzle _).setCell hzle _).setCell hzle _).setCell hzle _).setCell hzle _).setCell hzle _).setCell hzle _)
        · have hqb : (n.toList == nm.toList) = false := by rw [beq_eq_false_iff_ne]; exact fun e => hq (lst_inj e)
          have HN1 : Hid (NoNm nm1 es nm (k + 1)) := HN.out hq
          clear HN HY hq hent
          go_wp2
          have hbq := hbel.trans ((Below.refl wr.heap.size wr).alloc (Nat.le_refl _) (.cells #[.string n, .slice fo fs.length fc] 67) |>.mono hbs)
          go_roundw
          case rel => exact ⟨k + 1, by omega, by go_num, HN1, hbq⟩
          case measure => simp [intOf]; omega
      · have hkl : k = es.length := by omega
        have hO : Hid (StdIs (x, es) nm (zF, false)) := .inr (.inl ⟨g1, hkl ▸ hpre.out, rfl⟩)
        clear hkl hpre
        have hB7 := hB
        have hz7 : zb < wr.heap.size := HZ.lt
        have c0 := HZ.c 0
        have f0 := HZ.f 0
        have c1 := HZ.c 1
        have f1 := HZ.f 1
        have c2 := HZ.c 2
        have f2 := HZ.f 2
        have c3 := HZ.c 3
        have f3 := HZ.f 3
        have c4 := HZ.c 4
        have f4 := HZ.f 4
        have c5 := HZ.c 5
        have f5 := HZ.f 5
        have c6 := HZ.c 6
        have f6 := HZ.f 6
        have c7 := HZ.c 7
        have f7 := HZ.f 7
        simp at c0 c1 c2 c3 c4 c5 c6 c7
        go_wp2
        refine bodyPost_ret (v := .tuple #[flV zF (.slice none 0 0), .bool false]) (by simp [results, Tryz.results9, go_sem, flV, zF, c0, c1, c2, c3, c4, c5, c6, c7, hz7]; try rfl) rfl ?_
        exact ⟨(zF, false), hO.out, .slice none 0 0, rfl, ⟨rfl, .inl ⟨rfl, rfl⟩⟩, ((((((((hB7.setCell hzle _).setCell hzle _).setCell hzle _).setCell hzle _).setCell hzle _).setCell hzle _).setCell hzle _).setCell hzle _)⟩
  · rw [pb_no g1]
    have hO : Hid (StdIs (x, es) nm (zF, false)) := .inl ⟨g1, rfl⟩
    have HZ1 := HZA.kept (hbel1.block _ hzl2) hbel1.size
    have hB7 := hbA.trans (hbel1.mono (by omega))
    have hz7 : zb < w1.heap.size := HZ1.lt
    have c0 := HZ1.c 0
    have f0 := HZ1.f 0
    have c1 := HZ1.c 1
    have f1 := HZ1.f 1
    have c2 := HZ1.c 2
    have f2 := HZ1.f 2
    have c3 := HZ1.c 3
    have f3 := HZ1.f 3
    have c4 := HZ1.c 4
    have f4 := HZ1.f 4
    have c5 := HZ1.c 5
    have f5 := HZ1.f 5
    have c6 := HZ1.c 6
    have f6 := HZ1.f 6
    have c7 := HZ1.c 7
    have f7 := HZ1.f 7
    simp at c0 c1 c2 c3 c4 c5 c6 c7
    go_wp2
    refine bodyPost_ret (v := .tuple #[flV zF (.slice none 0 0), .bool false]) (by simp [results, Tryz.results9, go_sem, flV, zF, c0, c1, c2, c3, c4, c5, c6, c7, hz7]; try rfl) rfl ?_
    exact ⟨(zF, false), hO.out, .slice none 0 0, rfl, ⟨rfl, .inl ⟨rfl, rfl⟩⟩, ((((((((hB7.setCell hzle _).setCell hzle _).setCell hzle _).setCell hzle _).setCell hzle _).setCell hzle _).setCell hzle _).setCell hzle _)⟩

end Std
end Go.Proofs.YtgnjkpmbppmoeaaGreat
