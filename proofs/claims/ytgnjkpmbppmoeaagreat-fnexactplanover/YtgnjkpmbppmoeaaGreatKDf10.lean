/- DERIVED. spec.l16Stands: its walk. -/
import Derived.Test.YtgnjkpmbppmoeaaGreatKGDc
import Derived.Test.YtgnjkpmbppmoeaaGreatKGPs
import Derived.Test.YtgnjkpmbppmoeaaGreatKPQ0
namespace Go.Proofs.YtgnjkpmbppmoeaaGreat
namespace Std
open Go.RowKit Leg
set_option linter.unusedSimpArgs false
set_option linter.unusedVariables false

def GivesS (o : DFlight × Bool) (w : World) (e : Ending) (w' : World) : Prop :=
  ∃ ao cap, e = .returned (.tuple #[flV o.1 (.slice ao o.1.2.2.2.2.2.length cap), .bool o.2]) ∧ TxtAt w' ao o.1.2.2.2.2.2 ∧ (∀ h0 : 0 < o.1.2.2.2.2.2.length, ¬ (o.1.2.2.2.2.2)[0]'h0 = ByteArray.empty) ∧ Below w.heap.size w w'
theorem list_nil {v : ByteArray} : (v.toList == []) = true ↔ v = ByteArray.empty := by
  rw [beq_iff_eq]
  exact ⟨fun h => lst_inj (h.trans (by decide +kernel : ([] : List UInt8) = ByteArray.empty.toList)), fun h => by rw [h]; decide +kernel⟩
theorem list_clos {v : ByteArray} : (v.toList == [99, 108, 111, 115, 101, 100]) = true ↔ v = closB := by
  rw [beq_iff_eq]
  exact ⟨fun h => lst_inj (h.trans closB_list.symm), fun h => by rw [h]; exact closB_list⟩

/-- The book's box, the entry's box, a kind, two words. -/
def CS (B b0 o g7 : Nat) (v0 v1 fv : Value) (n k1 : ByteArray) (k2 k3 : Int) (a b : ByteArray) (W : World) : Prop :=
  W.cell? ⟨B, 0, none⟩ = some v0 ∧ W.cell? ⟨B, 1, none⟩ = some v1 ∧ W.cell? ⟨B + 1, 0, none⟩ = some (.string n) ∧ W.cell? ⟨B + 1, 1, none⟩ = some fv ∧
  W.cell? ⟨b0, o, none⟩ = some (.string k1) ∧ W.cell? ⟨b0, o + 1, none⟩ = some (.int .i64 k2) ∧ W.cell? ⟨b0, o + 2, none⟩ = some (.int .i64 k3) ∧ W.cell? ⟨g7, 0, none⟩ = some (.string a) ∧ W.cell? ⟨g7, 1, none⟩ = some (.string b)
theorem CS.kept {B b0 o g7 : Nat} {v0 v1 fv : Value} {n k1 : ByteArray} {k2 k3 : Int} {a b : ByteArray} {W W' : World} (h : CS B b0 o g7 v0 v1 fv n k1 k2 k3 a b W) (hB : W'.heap[B]? = W.heap[B]?) (hE : W'.heap[B + 1]? = W.heap[B + 1]?) (h0 : W'.heap[b0]? = W.heap[b0]?) (h7 : W'.heap[g7]? = W.heap[g7]?) : CS B b0 o g7 v0 v1 fv n k1 k2 k3 a b W' := by
  obtain ⟨q0, q1, q2, q3, q4, q5, q6, q7, q8⟩ := h
  exact ⟨(World.cell?_of_block (w := W) hB).trans q0, (World.cell?_of_block (w := W) hB).trans q1, (World.cell?_of_block (w := W) hE).trans q2, (World.cell?_of_block (w := W) hE).trans q3, (World.cell?_of_block (w := W) h0).trans q4, (World.cell?_of_block (w := W) h0).trans q5, (World.cell?_of_block (w := W) h0).trans q6, (World.cell?_of_block (w := W) h7).trans q7, (World.cell?_of_block (w := W) h7).trans q8⟩
theorem CS.later {B b0 o g7 m : Nat} {v0 v1 fv : Value} {n k1 : ByteArray} {k2 k3 : Int} {a b : ByteArray} {W W' : World} (h : CS B b0 o g7 v0 v1 fv n k1 k2 k3 a b W) (hb : Below m W W') (hB : B + 1 < m) (h0 : b0 < m) (h7 : g7 < m) : CS B b0 o g7 v0 v1 fv n k1 k2 k3 a b W' :=
  h.kept (hb.block _ (by omega)) (hb.block _ hB) (hb.block _ h0) (hb.block _ h7)
theorem name_at {l : List DPlanKind} {v : ByteArray} (h : HasNm nmK l v) : ∃ k, ∃ hk : k < l.length, idxOf nmK l v = k ∧ findD nmK zK l v = l[k]'hk := by
  rcases idxTo_cases nmK l v l.length (Nat.le_refl _) with h1 | ⟨k, hk, h1, h2⟩
  · exact absurd h h1.all
  · exact ⟨k, hk, idxOf_hit h1 hk h2, findD_hit h1 hk h2⟩
theorem mixedS : Tryz.prog.follows .mixedOrders = true := by kernel_rfl
theorem decM_Z {s : ByteArray} (h : DecOk s) : decM s = decZ s := (decM_yes h).out.trans (decZ_yes h).out.2.symm

set_option maxRecDepth 100000 in
set_option maxHeartbeats 8000000 in
theorem sEntryStands (x : DPlanBase) (es : List DPlanEntry) (ao0 : Option Addr) (cap0 : Nat) (ao1 : Option Addr) (cap1 : Nat) (ao2 : Option Addr) (cap2 : Nat) (n : ByteArray) (fs : List DPlanField) (fo : Option Addr) (fc : Nat) (w : World) (h : BaseAt w x ao0 cap0 ao1 cap1) (hx : EntOk x (n, fs)) (hf : SliceAt vPlanField (old w) w fo fc fs) (hs : wPlanFieldS fs ≤ 1048576) :
    Calls Tryz.prog 26 #[.agg #[.slice ao0 x.1.length cap0, .slice ao1 x.2.length cap1, .slice ao2 es.length cap2], .agg #[.string n, .slice fo fs.length fc]] w (GivesS (stdE x n fs) w) := by
  have hx2 : Hid (FldTo x n fs fs.length) := hx.2.2
  clear hx
  obtain ⟨wA, hwA⟩ : ∃ wA : World, wA = ((w.alloc (.cells #[.slice ao0 x.1.length cap0, .slice ao1 x.2.length cap1, .slice ao2 es.length cap2] 43)).alloc (.cells #[.string n, .slice fo fs.length fc] 67)).alloc (.cells #[.string ⟨#[]⟩, .string ⟨#[]⟩, .int .i64 0, .int .i64 0, .int .i64 0, .int .i64 0, .int .i64 0, .slice none 0 0] 34) := ⟨_, rfl⟩
  have hzA : wA.heap.size = w.heap.size + 3 := by rw [hwA]; simp
  have hbA : Below w.heap.size w wA := by rw [hwA]; exact (((Below.refl _ _).alloc (Nat.le_refl _) _).alloc (by simp) _).alloc (by simp; omega) _
  have HBA : BxC w.heap.size #[.slice ao0 x.1.length cap0, .slice ao1 x.2.length cap1, .slice ao2 es.length cap2] wA := by
    rw [hwA]; exact (BxC.new w _ _).below (((Below.refl (w.heap.size + 1) _).alloc (by simp) _).alloc (by simp) _) (by omega)
  have HCA : BxC (w.heap.size + 1) #[.string n, .slice fo fs.length fc] wA := by
    have hc := BxC.new (w.alloc (.cells #[.slice ao0 x.1.length cap0, .slice ao1 x.2.length cap1, .slice ao2 es.length cap2] 43)) #[.string n, .slice fo fs.length fc] 67
    rw [World.size_alloc] at hc
    rw [hwA]; exact hc.below ((Below.refl (w.heap.size + 2) _).alloc (by simp) _) (by omega)
  have HZA : Dr wA (w.heap.size + 2) [.string ⟨#[]⟩, .string ⟨#[]⟩, .int .i64 0, .int .i64 0, .int .i64 0, .int .i64 0, .int .i64 0, .slice none 0 0] := by
    have hd := Dr.new ((w.alloc (.cells #[.slice ao0 x.1.length cap0, .slice ao1 x.2.length cap1, .slice ao2 es.length cap2] 43)).alloc (.cells #[.string n, .slice fo fs.length fc] 67)) #[.string ⟨#[]⟩, .string ⟨#[]⟩, .int .i64 0, .int .i64 0, .int .i64 0, .int .i64 0, .int .i64 0, .slice none 0 0] 34
    rw [World.size_alloc, World.size_alloc] at hd
    rw [hwA]; exact hd
  go_enter Tryz.func26, Tryz.ntmps26
  go_wp2
  obtain ⟨zb, hzb⟩ : ∃ zb, zb = w.heap.size + 2 := ⟨_, rfl⟩
  have hzb2 : w.heap.size + 1 + 1 = zb := by omega
  rw [← hwA, hzb2]
  rw [← hzb] at HZA
  have hzl : w.heap.size + 1 < zb := by omega
  have hzl2 : zb < w.heap.size + 3 := by omega
  have hzle : w.heap.size ≤ zb := by omega
  clear hwA hzb hzb2
  go_loopw [6] (fun i wr => ∃ k : Nat, 1 ≤ k ∧ k ≤ 5 ∧ i = .int .i64 k ∧ Hid (∀ wh : Int, 1 ≤ wh → wh < k → ¬ valP fs wh = ByteArray.empty) ∧ Below (w.heap.size + 3) wA wr) (fun i _ => 5 - (intOf i).toNat)
  case atStart => exact ⟨1, Nat.le_refl _, by omega, rfl, fun wh h1 h2 => by omega, Below.refl _ _⟩
  case round =>
    obtain ⟨k, hk1, hk5, rfl, hpre, hbel⟩ := hrel
    have hB := hbA.trans (hbel.mono (by omega))
    have HB := HBA.below hbel (by omega)
    have HC := HCA.below hbel (by omega)
    have HZ := HZA.kept (hbel.block _ hzl2) hbel.size
    have hbs : w.heap.size + 3 ≤ wr.heap.size := by have := hbel.size; rw [hzA] at this; exact this
    have hsz : w.heap.size + 1 < wr.heap.size := by omega
    have hz7 : zb < wr.heap.size := by omega
    have t0 := HC 0
    have t1 := HC 1
    simp at t0 t1
    by_cases hlt : k ≤ 4
    · have hkI : (k : Int) ≤ 4 := by omega
      have HN : Hid (¬ valP fs k = ByteArray.empty → ∀ wh : Int, 1 ≤ wh → wh < ((k + 1 : Nat) : Int) → ¬ valP fs wh = ByteArray.empty) := fun e wh h1 h2 => by
        by_cases e2 : wh = k
        · rw [e2]; exact e
        · exact hpre.out wh h1 (by omega)
      have HE : Hid (valP fs k = ByteArray.empty → stdE x n fs = (zF, false)) := fun e => by
        unfold stdE
        rw [if_neg (by rw [pb_no (fun a => a.1 k (by omega) (by omega) e)]; decide)]
      clear hpre
      go_wp2_with fail
      refine (sValue n fs fo fc k wr (hf.later hB)).mono ?_
      rintro e w5 ⟨rfl, hb5⟩
      have hbel5 := hbel.trans (hb5.mono hbs)
      generalize valP fs k = v at *
      by_cases hq : v = ByteArray.empty
      · have hO : Hid (stdE x n fs = (zF, false)) := HE.out hq
        have hqb : (v.toList == []) = true := list_nil.2 hq
        have HZ5 := HZA.kept (hbel5.block _ hzl2) hbel5.size
        have hz5 : zb < w5.heap.size := HZ5.lt
        have hB7 := hbA.trans (hbel5.mono (by omega))
        clear HN HE hq HB HC HZ HZA hbel hbel5 hb5 t0 t1
        have c0 := HZ5.c 0
        have f0 := HZ5.f 0
        have c1 := HZ5.c 1
        have f1 := HZ5.f 1
        have c2 := HZ5.c 2
        have f2 := HZ5.f 2
        have c3 := HZ5.c 3
        have f3 := HZ5.f 3
        have c4 := HZ5.c 4
        have f4 := HZ5.f 4
        have c5 := HZ5.c 5
        have f5 := HZ5.f 5
        have c6 := HZ5.c 6
        have f6 := HZ5.f 6
        have c7 := HZ5.c 7
        have f7 := HZ5.f 7
        simp at c0 c1 c2 c3 c4 c5 c6 c7
        clear HZ5
        go_wp2
        refine bodyPost_ret (v := .tuple #[flV zF (.slice none 0 0), .bool false]) (by simp [results, Tryz.results26, go_sem, flV, zF, c0, c1, c2, c3, c4, c5, c6, c7, hz5]; try rfl) rfl ?_
        unfold GivesS
        rw [hO.out]
        exact ⟨none, 0, rfl, .inl rfl, fun h0 => absurd h0 (by decide), ((((((((hB7.setCell hzle _).setCell hzle _).setCell hzle _).setCell hzle _).setCell hzle _).setCell hzle _).setCell hzle _).setCell hzle _)⟩
      · have hqb : (v.toList == []) = false := by
          cases hc : (v.toList == [])
          · rfl
          · exact absurd (list_nil.1 hc) hq
        have HN1 := HN.out hq
        have HN1 : Hid _ := HN1
        clear HN HE hq HB HC HZ hbel hb5 t0 t1 hB
        go_wp2
        go_roundw
        case rel => exact ⟨k + 1, by omega, by omega, by go_num, HN1, hbel5⟩
        case measure => simp [intOf]; omega
    · have hk : k = 5 := by omega
      subst hk
      have hall : AllSaid fs := fun wh h1 h4 => hpre.out wh h1 (by omega)
      have hall : Hid _ := hall
      clear hpre hlt hk1 hk5
      go_wp2_with fail
      refine (sValue n fs fo fc 5 wr (hf.later hB)).mono ?_
      rintro e w5 ⟨rfl, hb5⟩
      have hbel5 := hbel.trans (hb5.mono hbs)
      clear hb5 HB HC HZ t0 t1 hbel hsz hz7 hB
      by_cases hq : valP fs 5 = closB
      · have hO : Hid (stdE x n fs = (zF, false)) := by
          show stdE x n fs = _
          unfold stdE
          rw [if_neg (by rw [pb_no (fun a => a.2 hq)]; decide)]
        have hqb : ((valP fs 5).toList == [99, 108, 111, 115, 101, 100]) = true := list_clos.2 hq
        generalize valP fs 5 = v at hqb ⊢
        have HZ5 := HZA.kept (hbel5.block _ hzl2) hbel5.size
        have hz5 : zb < w5.heap.size := HZ5.lt
        have hB7 := hbA.trans (hbel5.mono (by omega))
        clear hq HZA hbel5 hall
        have c0 := HZ5.c 0
        have f0 := HZ5.f 0
        have c1 := HZ5.c 1
        have f1 := HZ5.f 1
        have c2 := HZ5.c 2
        have f2 := HZ5.f 2
        have c3 := HZ5.c 3
        have f3 := HZ5.f 3
        have c4 := HZ5.c 4
        have f4 := HZ5.f 4
        have c5 := HZ5.c 5
        have f5 := HZ5.f 5
        have c6 := HZ5.c 6
        have f6 := HZ5.f 6
        have c7 := HZ5.c 7
        have f7 := HZ5.f 7
        simp at c0 c1 c2 c3 c4 c5 c6 c7
        clear HZ5
        go_wp2
        refine bodyPost_ret (v := .tuple #[flV zF (.slice none 0 0), .bool false]) (by simp [results, Tryz.results26, go_sem, flV, zF, c0, c1, c2, c3, c4, c5, c6, c7, hz5]; try rfl) rfl ?_
        unfold GivesS
        rw [hO.out]
        exact ⟨none, 0, rfl, .inl rfl, fun h0 => absurd h0 (by decide), ((((((((hB7.setCell hzle _).setCell hzle _).setCell hzle _).setCell hzle _).setCell hzle _).setCell hzle _).setCell hzle _).setCell hzle _)⟩
      · have hqb : ((valP fs 5).toList == [99, 108, 111, 115, 101, 100]) = false := by
          cases hc : ((valP fs 5).toList == [99, 108, 111, 115, 101, 100])
          · rfl
          · exact absurd (list_clos.1 hc) hq
        have hO : Hid (AllSaid fs ∧ ¬ valP fs 5 = closB) := ⟨hall.out, hq⟩
        generalize valP fs 5 = v5 at hqb ⊢
        have hB5 := hbA.trans (hbel5.mono (by omega))
        have HC5 := HCA.below hbel5 (by omega)
        have hbs5 : w.heap.size + 3 ≤ w5.heap.size := by have := hbel5.size; rw [hzA] at this; exact this
        have hsz5 : w.heap.size + 1 < w5.heap.size := by omega
        have t0 := HC5 0
        have t1 := HC5 1
        simp at t0 t1
        have hv2 : (valP fs 2).size ≤ 1048576 := by
          rcases said_or (fs := fs) (wh := 2) with h2 | ⟨j, hj, e⟩
          · rw [valP_none h2]; decide
          · rw [val_at hx2.out hj e]; exact fld_small hs hj
        clear hq hall
        go_wp2_with fail
        refine (sValue n fs fo fc 2 w5 (hf.later hB5)).mono ?_
        rintro e w6 ⟨rfl, hb6⟩
        have hbel6 := hbel5.trans (hb6.mono hbs5)
        have hbs6 : w.heap.size + 3 ≤ w6.heap.size := Nat.le_trans hbs5 hb6.size
        clear hb6 hbel5 HC5 hB5 t0 t1 hqb
        go_wp2_with fail
        refine (sCut (valP fs 2) w6 hv2).mono ?_
        rintro e w7 ⟨at7, cap7, rfl, hT7, hb7⟩
        have hbel7 := hbel6.trans (hb7.mono hbs6)
        clear hb7 hbel6
        go_wp2
        have hA4 := hO.out.1
        have F1 := val_fits hx2.out (hA4 1 (by decide) (by decide))
        have F2 := val_fits hx2.out (hA4 2 (by decide) (by decide))
        have F3 := val_fits hx2.out (hA4 3 (by decide) (by decide))
        have F4 := val_fits hx2.out (hA4 4 (by decide) (by decide))
        have hw4 : ∀ (h0 : 0 < (wordsP (valP fs 4)).length), ¬ (wordsP (valP fs 4))[0]'h0 = ByteArray.empty := fun h0 e => by
          obtain ⟨i, hi, e2⟩ := (((fits4 x _).1 F4.2).2 0 h0 h0).1
          have h1 := (F4.1.2.2.1 i hi hi).1.1.1
          have e2 : (x.2[i]'hi).1 = _ := e2
          rw [e2, e] at h1
          exact absurd h1 (by decide)
        have F1 := (fits1 x _).1 F1.2
        have F2 := (fits2 x _).1 F2.2
        have F3 := ((fits3 x _).1 F3.2).1
        have hsz4 : ∀ wh, (valP fs wh).size ≤ 1048576 := fun wh => by
          rcases said_or (fs := fs) (wh := wh) with h2 | ⟨j, hj, e⟩
          · rw [valP_none h2]; decide
          · rw [val_at hx2.out hj e]; exact fld_small hs hj
        obtain ⟨ki, hki, hix, hfd⟩ := name_at F1
        obtain ⟨a, b, hab, hda, hdb, -, -⟩ := F2
        have hna : ¬ a = ByteArray.empty := fun e => by have := hda.1.1; rw [e] at this; exact absurd this (by decide)
        have hsa : a.size ≤ maxLen := by have := hda.1.2; unfold maxLen; omega
        have hsb : b.size ≤ maxLen := by have := hdb.1.2; unfold maxLen; omega
        have hs3 : (valP fs 3).size ≤ maxLen := by have := F3.1.2; unfold maxLen; omega
        have hE : stdE x n fs = ((n, x.1[ki]'hki, decM a, decM b, decM (valP fs 3), wordsP (valP fs 4)), true) := by
          unfold stdE
          rw [if_pos (pb_yes ⟨hO.out.1, by have := hO.out.2; exact this⟩), hfd, hab, decM_Z hda, decM_Z hdb, decM_Z F3]
          rfl
        have hE : Hid _ := hE
        have hK1 := sValue n fs fo fc 1
        have hK3 := sValue n fs fo fc 3
        have hK4 := sValue n fs fo fc 4
        have hKn := sPlanKind x ao0 cap0 ao1 cap1 (valP fs 1)
        rw [hix] at hKn
        have hs4 := hsz4 4
        rw [hab] at hT7 ⊢
        rcases hT7 with h0 | ⟨g7, rfl, hg7, hc7⟩
        · cases h0
        have e0 := hc7 0 (by simp)
        have e1 := hc7 1 (by simp)
        simp only [List.getElem_cons_zero, List.getElem_cons_succ] at e0 e1
        generalize valP fs 1 = v1 at *
        generalize valP fs 3 = v3 at *
        generalize valP fs 4 = v4 at *
        have hw4 : Hid _ := hw4
        clear F1 F3 F4 hsz4 hix hfd hO hA4 hc7 hv2 hab hda hdb
        have hB7 := hbA.trans (hbel7.mono (by omega))
        obtain ⟨b0, off0, rfl, hok0, p0, p1, p2, -, -, -⟩ := elem_PlanKind h.p0 hki
        have hkI : (ki : Int) < (x.1.length : Int) := by omega
        have hb0 : b0 < w.heap.size := hok0
        have p0 := (hB7.cell (p := ⟨b0, off0 + ki * 3, none⟩) hok0).trans p0
        have p1 := (hB7.cell (p := ⟨b0, off0 + ki * 3 + 1, none⟩) hok0).trans p1
        have p2 := (hB7.cell (p := ⟨b0, off0 + ki * 3 + 2, none⟩) hok0).trans p2
        obtain ⟨⟨k1, k2, k3⟩, hkk⟩ : ∃ k, k = x.1[ki]'hki := ⟨_, rfl⟩
        rw [← hkk] at p0 p1 p2
        rw [← hkk] at hE
        have HB7 := HBA.below hbel7 (by omega)
        have HE7 := HCA.below hbel7 (by omega)
        have y0 := HB7 0
        have y1 := HB7 1
        have y2 := HE7 0
        have y3 := HE7 1
        simp at y0 y1 y2 y3
        obtain ⟨w8, hw8⟩ : ∃ w8 : World, w8 = w7.drew := ⟨_, rfl⟩
        have HC0 : CS w.heap.size b0 (off0 + ki * 3) g7 (.slice (some ⟨b0, off0, none⟩) x.1.length cap0) (.slice ao1 x.2.length cap1) (.slice fo fs.length fc) n k1 k2 k3 a b w8 := by
          rw [hw8]
          exact ⟨y0, y1, y2, y3, p0, p1, p2, e0, e1⟩
        have hb8 : Below (w.heap.size + 3) wA w8 := by rw [hw8]; exact hbel7.drew
        have hg8 : g7 < w8.heap.size := by rw [hw8]; exact hg7
        have hm8 : w.heap.size + 3 ≤ w8.heap.size := by have := hb8.size; rw [hzA] at this; exact this
        have hne7 : g7 ≠ zb := fun e => by
          have hz := (HZA.kept (hb8.block _ hzl2) hb8.size).c 0
          rw [← e, HC0.2.2.2.2.2.2.2.1] at hz
          simp at hz
          exact hna hz
        have hne7 : Hid _ := hne7
        clear y0 y1 y2 y3 p0 p1 p2 e0 e1 HB7 HE7 hbel7 hB7 hg7 hkk
        refine wp_region_RC (CS w.heap.size b0 (off0 + ki * 3) g7 (.slice (some ⟨b0, off0, none⟩) x.1.length cap0) (.slice ao1 x.2.length cap1) (.slice fo fs.length fc) n k1 k2 k3 a b) mixedS ?_
        rw [← hw8]
        clear hw8
        refine RC.take (i := 0) (v := .pointer (some ⟨w.heap.size + 1, 0, none⟩)) rfl (by kernel_rfl) (by kernel_rfl) (by kernel_rfl) (fun _ _ _ h => h) HC0 (by kernel_rfl) ?y1 ?r1
        case y1 => (intro W hW; obtain ⟨q0, q1, q2, q3, q4, q5, q6, q7, q8⟩ := hW; clear HC0 hK1 hK3 hK4 hKn hE h hf HBA HCA HZA hb8 hm8; go_simp)
        refine RC.take (i := 1) (v := .string n) rfl (by kernel_rfl) (by kernel_rfl) (by kernel_rfl) (fun _ _ _ h => h) HC0 (by kernel_rfl) ?y2 ?r2
        case y2 => (intro W hW; obtain ⟨q0, q1, q2, q3, q4, q5, q6, q7, q8⟩ := hW; clear HC0 hK1 hK3 hK4 hKn hE h hf HBA HCA HZA hb8 hm8; go_simp)
        refine RC.take (i := 2) (v := .pointer (some ⟨w.heap.size, 0, none⟩)) rfl (by kernel_rfl) (by kernel_rfl) (by kernel_rfl) (fun _ _ _ h => h) HC0 (by kernel_rfl) ?y3 ?r3
        case y3 => (intro W hW; obtain ⟨q0, q1, q2, q3, q4, q5, q6, q7, q8⟩ := hW; clear HC0 hK1 hK3 hK4 hKn hE h hf HBA HCA HZA hb8 hm8; go_simp)
        refine RC.take (i := 3) (v := .pointer (some ⟨w.heap.size, 0, none⟩)) rfl (by kernel_rfl) (by kernel_rfl) (by kernel_rfl) (fun _ _ _ h => h) HC0 (by kernel_rfl) ?y4 ?r4
        case y4 => (intro W hW; obtain ⟨q0, q1, q2, q3, q4, q5, q6, q7, q8⟩ := hW; clear HC0 hK1 hK3 hK4 hKn hE h hf HBA HCA HZA hb8 hm8; go_simp)
        refine RC.take (i := 4) (v := .slice (some ⟨b0, off0, none⟩) x.1.length cap0) rfl (by kernel_rfl) (by kernel_rfl) (by kernel_rfl) (fun _ _ _ h => h) HC0 (by kernel_rfl) ?y5 ?r5
        case y5 => (intro W hW; obtain ⟨q0, q1, q2, q3, q4, q5, q6, q7, q8⟩ := hW; clear HC0 hK1 hK3 hK4 hKn hE h hf HBA HCA HZA hb8 hm8; go_simp)
        refine RC.take (i := 5) (v := .pointer (some ⟨w.heap.size, 0, none⟩)) rfl (by kernel_rfl) (by kernel_rfl) (by kernel_rfl) (fun _ _ _ h => h) HC0 (by kernel_rfl) ?y6 ?r6
        case y6 => (intro W hW; obtain ⟨q0, q1, q2, q3, q4, q5, q6, q7, q8⟩ := hW; clear HC0 hK1 hK3 hK4 hKn hE h hf HBA HCA HZA hb8 hm8; go_simp)
        refine RC.take (i := 6) (v := .agg #[.slice (some ⟨b0, off0, none⟩) x.1.length cap0, .slice ao1 x.2.length cap1]) rfl (by kernel_rfl) (by kernel_rfl) (by kernel_rfl) (fun _ _ _ h => h) HC0 (by kernel_rfl) ?y7 ?r7
        case y7 => (intro W hW; obtain ⟨q0, q1, q2, q3, q4, q5, q6, q7, q8⟩ := hW; clear HC0 hK1 hK3 hK4 hKn hE h hf HBA HCA HZA hb8 hm8; go_simp)
        refine RC.take (i := 7) (v := .agg #[.string n, .slice fo fs.length fc]) rfl (by kernel_rfl) (by kernel_rfl) (by kernel_rfl) (fun _ _ _ h => h) HC0 (by kernel_rfl) ?y8 ?r8
        case y8 => (intro W hW; obtain ⟨q0, q1, q2, q3, q4, q5, q6, q7, q8⟩ := hW; clear HC0 hK1 hK3 hK4 hKn hE h hf HBA HCA HZA hb8 hm8; go_simp)
        refine RC.take (i := 12) (v := .slice (some ⟨g7, 0, none⟩) 2 cap7) rfl (by kernel_rfl) (by kernel_rfl) (by kernel_rfl) (fun _ _ _ h => h) HC0 (by kernel_rfl) ?y9 ?r9
        case y9 => (intro W hW; obtain ⟨q0, q1, q2, q3, q4, q5, q6, q7, q8⟩ := hW; clear HC0 hK1 hK3 hK4 hKn hE h hf HBA HCA HZA hb8 hm8; go_simp)
        refine RC.take (i := 13) (v := .pointer (some ⟨g7, 0, none⟩)) rfl (by kernel_rfl) (by kernel_rfl) (by kernel_rfl) (fun _ _ _ h => h) HC0 (by kernel_rfl) ?y10 ?r10
        case y10 => (intro W hW; obtain ⟨q0, q1, q2, q3, q4, q5, q6, q7, q8⟩ := hW; clear HC0 hK1 hK3 hK4 hKn hE h hf HBA HCA HZA hb8 hm8; go_simp)
        refine RC.take (i := 14) (v := .string a) rfl (by kernel_rfl) (by kernel_rfl) (by kernel_rfl) (fun _ _ _ h => h) HC0 (by kernel_rfl) ?y11 ?r11
        case y11 => (intro W hW; obtain ⟨q0, q1, q2, q3, q4, q5, q6, q7, q8⟩ := hW; clear HC0 hK1 hK3 hK4 hKn hE h hf HBA HCA HZA hb8 hm8; go_simp)
        refine RC.take (i := 16) (v := .slice (some ⟨g7, 0, none⟩) 2 cap7) rfl (by kernel_rfl) (by kernel_rfl) (by kernel_rfl) (fun _ _ _ h => h) HC0 (by kernel_rfl) ?y12 ?r12
        case y12 => (intro W hW; obtain ⟨q0, q1, q2, q3, q4, q5, q6, q7, q8⟩ := hW; clear HC0 hK1 hK3 hK4 hKn hE h hf HBA HCA HZA hb8 hm8; go_simp)
        refine RC.take (i := 17) (v := .pointer (some ⟨g7, 1, none⟩)) rfl (by kernel_rfl) (by kernel_rfl) (by kernel_rfl) (fun _ _ _ h => h) HC0 (by kernel_rfl) ?y13 ?r13
        case y13 => (intro W hW; obtain ⟨q0, q1, q2, q3, q4, q5, q6, q7, q8⟩ := hW; clear HC0 hK1 hK3 hK4 hKn hE h hf HBA HCA HZA hb8 hm8; go_simp)
        refine RC.take (i := 18) (v := .string b) rfl (by kernel_rfl) (by kernel_rfl) (by kernel_rfl) (fun _ _ _ h => h) HC0 (by kernel_rfl) ?y14 ?r14
        case y14 => (intro W hW; obtain ⟨q0, q1, q2, q3, q4, q5, q6, q7, q8⟩ := hW; clear HC0 hK1 hK3 hK4 hKn hE h hf HBA HCA HZA hb8 hm8; go_simp)
        refine RC.take (i := 20) (v := .agg #[.string n, .slice fo fs.length fc]) rfl (by kernel_rfl) (by kernel_rfl) (by kernel_rfl) (fun _ _ _ h => h) HC0 (by kernel_rfl) ?y15 ?r15
        case y15 => (intro W hW; obtain ⟨q0, q1, q2, q3, q4, q5, q6, q7, q8⟩ := hW; clear HC0 hK1 hK3 hK4 hKn hE h hf HBA HCA HZA hb8 hm8; go_simp)
        refine RC.take (i := 23) (v := .agg #[.string n, .slice fo fs.length fc]) rfl (by kernel_rfl) (by kernel_rfl) (by kernel_rfl) (fun _ _ _ h => h) HC0 (by kernel_rfl) ?y16 ?r16
        case y16 => (intro W hW; obtain ⟨q0, q1, q2, q3, q4, q5, q6, q7, q8⟩ := hW; clear HC0 hK1 hK3 hK4 hKn hE h hf HBA HCA HZA hb8 hm8; go_simp)
        refine RC.want (i := 8) (by kernel_rfl) rfl (by kernel_rfl) (fun K hK => ?_)
        go_simp
        refine (hK1 _ (hf.later (hbA.trans (hb8.mono (by omega))))).mono ?_
        rintro e w9 ⟨rfl, hq⟩
        simp only
        have HC9 := HC0.later hq (by omega) (by omega) hg8
        refine hK _ _ HC9 ?_
        have hb9 := hb8.trans (hq.mono hm8)
        have hm9 := Nat.le_trans hm8 hq.size
        have hg9 := Nat.lt_of_lt_of_le hg8 hq.size
        clear hK K HC0 hb8 hm8 hg8 hq
        have HC0 := HC9
        have hb8 := hb9
        have hm8 := hm9
        have hg8 := hg9
        clear HC9 hb9 hm9 hg9
        refine RC.want (i := 9) (by kernel_rfl) rfl (by kernel_rfl) (fun K hK => ?_)
        go_simp
        refine (hKn _ (h.later (hbA.trans (hb8.mono (by omega))))).mono ?_
        rintro e w9 ⟨rfl, hq⟩
        simp only
        have HC9 := HC0.later hq (by omega) (by omega) hg8
        refine hK _ _ HC9 ?_
        have hb9 := hb8.trans (hq.mono hm8)
        have hm9 := Nat.le_trans hm8 hq.size
        have hg9 := Nat.lt_of_lt_of_le hg8 hq.size
        clear hK K HC0 hb8 hm8 hg8 hq
        have HC0 := HC9
        have hb8 := hb9
        have hm8 := hm9
        have hg8 := hg9
        clear HC9 hb9 hm9 hg9
        refine RC.take (i := 10) (v := .pointer (some ⟨b0, off0 + ki * 3, none⟩)) rfl (by kernel_rfl) (by kernel_rfl) (by kernel_rfl) (fun _ _ _ h => h) HC0 (by kernel_rfl) ?y17 ?r17
        case y17 => (intro W hW; obtain ⟨q0, q1, q2, q3, q4, q5, q6, q7, q8⟩ := hW; clear HC0 hK1 hK3 hK4 hKn hE h hf HBA HCA HZA hb8 hm8; go_simp)
        refine RC.take (i := 11) (v := .agg #[.string k1, .int .i64 k2, .int .i64 k3]) rfl (by kernel_rfl) (by kernel_rfl) (by kernel_rfl) (fun _ _ _ h => h) HC0 (by kernel_rfl) ?y18 ?r18
        case y18 => (intro W hW; obtain ⟨q0, q1, q2, q3, q4, q5, q6, q7, q8⟩ := hW; clear HC0 hK1 hK3 hK4 hKn hE h hf HBA HCA HZA hb8 hm8; go_simp)
        refine RC.want (i := 15) (by kernel_rfl) rfl (by kernel_rfl) (fun K hK => ?_)
        go_simp
        refine (sNumB a _ hsa).mono ?_
        rintro e w9 ⟨rfl, hq⟩
        simp only
        have HC9 := HC0.later hq (by omega) (by omega) hg8
        refine hK _ _ HC9 ?_
        have hb9 := hb8.trans (hq.mono hm8)
        have hm9 := Nat.le_trans hm8 hq.size
        have hg9 := Nat.lt_of_lt_of_le hg8 hq.size
        clear hK K HC0 hb8 hm8 hg8 hq
        have HC0 := HC9
        have hb8 := hb9
        have hm8 := hm9
        have hg8 := hg9
        clear HC9 hb9 hm9 hg9
        refine RC.want (i := 19) (by kernel_rfl) rfl (by kernel_rfl) (fun K hK => ?_)
        go_simp
        refine (sNumB b _ hsb).mono ?_
        rintro e w9 ⟨rfl, hq⟩
        simp only
        have HC9 := HC0.later hq (by omega) (by omega) hg8
        refine hK _ _ HC9 ?_
        have hb9 := hb8.trans (hq.mono hm8)
        have hm9 := Nat.le_trans hm8 hq.size
        have hg9 := Nat.lt_of_lt_of_le hg8 hq.size
        clear hK K HC0 hb8 hm8 hg8 hq
        have HC0 := HC9
        have hb8 := hb9
        have hm8 := hm9
        have hg8 := hg9
        clear HC9 hb9 hm9 hg9
        refine RC.want (i := 21) (by kernel_rfl) rfl (by kernel_rfl) (fun K hK => ?_)
        go_simp
        refine (hK3 _ (hf.later (hbA.trans (hb8.mono (by omega))))).mono ?_
        rintro e w9 ⟨rfl, hq⟩
        simp only
        have HC9 := HC0.later hq (by omega) (by omega) hg8
        refine hK _ _ HC9 ?_
        have hb9 := hb8.trans (hq.mono hm8)
        have hm9 := Nat.le_trans hm8 hq.size
        have hg9 := Nat.lt_of_lt_of_le hg8 hq.size
        clear hK K HC0 hb8 hm8 hg8 hq
        have HC0 := HC9
        have hb8 := hb9
        have hm8 := hm9
        have hg8 := hg9
        clear HC9 hb9 hm9 hg9
        refine RC.want (i := 22) (by kernel_rfl) rfl (by kernel_rfl) (fun K hK => ?_)
        go_simp
        refine (sNumB v3 _ hs3).mono ?_
        rintro e w9 ⟨rfl, hq⟩
        simp only
        have HC9 := HC0.later hq (by omega) (by omega) hg8
        refine hK _ _ HC9 ?_
        have hb9 := hb8.trans (hq.mono hm8)
        have hm9 := Nat.le_trans hm8 hq.size
        have hg9 := Nat.lt_of_lt_of_le hg8 hq.size
        clear hK K HC0 hb8 hm8 hg8 hq
        have HC0 := HC9
        have hb8 := hb9
        have hm8 := hm9
        have hg8 := hg9
        clear HC9 hb9 hm9 hg9
        refine RC.want (i := 24) (by kernel_rfl) rfl (by kernel_rfl) (fun K hK => ?_)
        go_simp
        refine (hK4 _ (hf.later (hbA.trans (hb8.mono (by omega))))).mono ?_
        rintro e w9 ⟨rfl, hq⟩
        simp only
        have HC9 := HC0.later hq (by omega) (by omega) hg8
        refine hK _ _ HC9 ?_
        have hb9 := hb8.trans (hq.mono hm8)
        have hm9 := Nat.le_trans hm8 hq.size
        have hg9 := Nat.lt_of_lt_of_le hg8 hq.size
        clear hK K HC0 hb8 hm8 hg8 hq
        have HC0 := HC9
        have hb8 := hb9
        have hm8 := hm9
        have hg8 := hg9
        clear HC9 hb9 hm9 hg9
        refine RC.want (i := 25) (by kernel_rfl) rfl (by kernel_rfl) (fun K hK => ?_)
        go_simp
        refine (sCut v4 _ hs4).mono ?_
        rintro e w9 ⟨at4, cap4, rfl, hT4, hq⟩
        simp only
        have HC9 := HC0.later hq (by omega) (by omega) hg8
        refine hK _ _ HC9 ?_
        have hb9 := hb8.trans (hq.mono hm8)
        have hm9 := Nat.le_trans hm8 hq.size
        have hg9 := Nat.lt_of_lt_of_le hg8 hq.size
        clear hK K HC0 hb8 hm8 hg8 hq
        have HC0 := HC9
        have hb8 := hb9
        have hm8 := hm9
        have hg8 := hg9
        clear HC9 hb9 hm9 hg9
        refine RC.want (i := 26) (by kernel_rfl) rfl (by kernel_rfl) (fun K hK => ?_)
        go_simp
        refine hK _ _ HC0 ?_
        clear hK K
        have HZ9 := HZA.kept (hb8.block _ hzl2) hb8.size
        have hB7 := hbA.trans (hb8.mono (by omega))
        have hz5 : zb < w9.heap.size := HZ9.lt
        have hTe : Hid (∀ W, (∀ b, b ≠ zb → W.heap[b]? = w9.heap[b]?) → w9.heap.size ≤ W.heap.size → TxtAt W at4 (wordsP v4)) := fun W hW hz => by
          rcases hT4 with h0 | ⟨g4, e4, hg4, hc4⟩
          · exact .inl h0
          · by_cases hl : 0 < (wordsP v4).length
            · have hne : g4 ≠ zb := fun e => by
                have hz0 := HZ9.c 0
                rw [← e, hc4 0 hl] at hz0
                simp at hz0
                exact hw4.out hl hz0
              exact .inr ⟨g4, e4, Nat.lt_of_lt_of_le hg4 hz, fun i hi => (World.cell?_of_block (w := w9) (hW g4 hne)).trans (hc4 i hi)⟩
            · exact .inl (List.length_eq_zero_iff.1 (by omega))
        have c0 := HZ9.c 0
        have f0 := HZ9.f 0
        have c1 := HZ9.c 1
        have f1 := HZ9.f 1
        have c2 := HZ9.c 2
        have f2 := HZ9.f 2
        have c3 := HZ9.c 3
        have f3 := HZ9.f 3
        have c4 := HZ9.c 4
        have f4 := HZ9.f 4
        have c5 := HZ9.c 5
        have f5 := HZ9.f 5
        have c6 := HZ9.c 6
        have f6 := HZ9.f 6
        have c7 := HZ9.c 7
        have f7 := HZ9.f 7
        simp at c0 c1 c2 c3 c4 c5 c6 c7
        clear HZ9 HZA HBA HCA hT4 hK1 hK3 hK4 hKn hb8 hf h
        refine RC.want (i := 27) (by kernel_rfl) rfl (by kernel_rfl) (fun K hK => ?_)
        go_simp
        refine hK _ _ ?hcz ?hrest
        case hcz =>
          have n1 : w.heap.size ≠ zb := by omega
          have n2 : w.heap.size + 1 ≠ zb := by omega
          have n3 : b0 ≠ zb := by omega
          have n4 := hne7.out
          refine HC0.kept ?_ ?_ ?_ ?_
          · rw [Below.heap_setCell _ _ _ _ n1, Below.heap_setCell _ _ _ _ n1, Below.heap_setCell _ _ _ _ n1, Below.heap_setCell _ _ _ _ n1, Below.heap_setCell _ _ _ _ n1, Below.heap_setCell _ _ _ _ n1, Below.heap_setCell _ _ _ _ n1, Below.heap_setCell _ _ _ _ n1]
          · rw [Below.heap_setCell _ _ _ _ n2, Below.heap_setCell _ _ _ _ n2, Below.heap_setCell _ _ _ _ n2, Below.heap_setCell _ _ _ _ n2, Below.heap_setCell _ _ _ _ n2, Below.heap_setCell _ _ _ _ n2, Below.heap_setCell _ _ _ _ n2, Below.heap_setCell _ _ _ _ n2]
          · rw [Below.heap_setCell _ _ _ _ n3, Below.heap_setCell _ _ _ _ n3, Below.heap_setCell _ _ _ _ n3, Below.heap_setCell _ _ _ _ n3, Below.heap_setCell _ _ _ _ n3, Below.heap_setCell _ _ _ _ n3, Below.heap_setCell _ _ _ _ n3, Below.heap_setCell _ _ _ _ n3]
          · rw [Below.heap_setCell _ _ _ _ n4, Below.heap_setCell _ _ _ _ n4, Below.heap_setCell _ _ _ _ n4, Below.heap_setCell _ _ _ _ n4, Below.heap_setCell _ _ _ _ n4, Below.heap_setCell _ _ _ _ n4, Below.heap_setCell _ _ _ _ n4, Below.heap_setCell _ _ _ _ n4]
        clear hK K
        refine RC.want (i := 28) (by kernel_rfl) rfl (by kernel_rfl) (fun K hK => ?_)
        go_simp
        refine hK _ _ ?hczb ?hrestb
        case hczb =>
          have n1 : w.heap.size ≠ zb := by omega
          have n2 : w.heap.size + 1 ≠ zb := by omega
          have n3 : b0 ≠ zb := by omega
          have n4 := hne7.out
          refine HC0.kept ?_ ?_ ?_ ?_
          · rw [Below.heap_setCell _ _ _ _ n1, Below.heap_setCell _ _ _ _ n1, Below.heap_setCell _ _ _ _ n1, Below.heap_setCell _ _ _ _ n1, Below.heap_setCell _ _ _ _ n1, Below.heap_setCell _ _ _ _ n1, Below.heap_setCell _ _ _ _ n1, Below.heap_setCell _ _ _ _ n1]
          · rw [Below.heap_setCell _ _ _ _ n2, Below.heap_setCell _ _ _ _ n2, Below.heap_setCell _ _ _ _ n2, Below.heap_setCell _ _ _ _ n2, Below.heap_setCell _ _ _ _ n2, Below.heap_setCell _ _ _ _ n2, Below.heap_setCell _ _ _ _ n2, Below.heap_setCell _ _ _ _ n2]
          · rw [Below.heap_setCell _ _ _ _ n3, Below.heap_setCell _ _ _ _ n3, Below.heap_setCell _ _ _ _ n3, Below.heap_setCell _ _ _ _ n3, Below.heap_setCell _ _ _ _ n3, Below.heap_setCell _ _ _ _ n3, Below.heap_setCell _ _ _ _ n3, Below.heap_setCell _ _ _ _ n3]
          · rw [Below.heap_setCell _ _ _ _ n4, Below.heap_setCell _ _ _ _ n4, Below.heap_setCell _ _ _ _ n4, Below.heap_setCell _ _ _ _ n4, Below.heap_setCell _ _ _ _ n4, Below.heap_setCell _ _ _ _ n4, Below.heap_setCell _ _ _ _ n4, Below.heap_setCell _ _ _ _ n4]
        clear hK K
        clear HC0
        refine RC.done (by kernel_rfl) ?_
        go_wp2
        refine bodyPost_ret (v := .tuple #[flV (n, (k1, k2, k3), decM a, decM b, decM v3, wordsP v4) (.slice at4 (wordsP v4).length cap4), .bool true]) (by simp [results, Tryz.results26, go_sem, flV, c0, c1, c2, c3, c4, c5, c6, c7, hz5]; try rfl) rfl ?_
        unfold GivesS
        rw [hE.out]
        refine ⟨at4, cap4, rfl, hTe.out _ (fun b hne => ?_) ?_, hw4.out, ((((((((hB7.setCell hzle _).setCell hzle _).setCell hzle _).setCell hzle _).setCell hzle _).setCell hzle _).setCell hzle _).setCell hzle _)⟩
        · rw [Below.heap_setCell _ _ _ _ hne, Below.heap_setCell _ _ _ _ hne, Below.heap_setCell _ _ _ _ hne, Below.heap_setCell _ _ _ _ hne, Below.heap_setCell _ _ _ _ hne, Below.heap_setCell _ _ _ _ hne, Below.heap_setCell _ _ _ _ hne, Below.heap_setCell _ _ _ _ hne]
        · simp

end Std
end Go.Proofs.YtgnjkpmbppmoeaaGreat
