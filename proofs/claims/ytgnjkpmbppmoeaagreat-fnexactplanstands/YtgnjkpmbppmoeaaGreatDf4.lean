/- DERIVED. A draft on plain data; what (*planDraft).hear makes of it (written by wip/tools/mk_df4.py). -/
import Derived.Test.YtgnjkpmbppmoeaaGreatGDa
import Derived.Test.YtgnjkpmbppmoeaaGreatPgI3
namespace Go.Proofs.YtgnjkpmbppmoeaaGreat
namespace Std
open Go.RowKit
set_option linter.unusedSimpArgs false
set_option linter.unusedVariables false

structure DDraft where
  k : DPlanKind
  f : Int
  b : Int
  l : Int
  r : List ByteArray
  m : List Int
  c : Bool
def draft0 : DDraft := ⟨(ByteArray.empty, 0, 0), 0, 0, 0, [], [1, 2, 3, 4], false⟩
noncomputable def hearD (x : DPlanBase) (d : DDraft) (wh : Int) (v : ByteArray) : DDraft :=
  if wh = 1 then { d with k := findD nmK zK x.1 v, m := d.m.erase 1 }
  else if wh = 2 then { d with f := decZ ((wordsP v).getD 0 ByteArray.empty), b := decZ ((wordsP v).getD 1 ByteArray.empty), m := d.m.erase 2 }
  else if wh = 3 then { d with l := decZ v, m := d.m.erase 3 }
  else if wh = 4 then { d with r := wordsP v, m := d.m.erase 4 }
  else { d with c := decide (v = closB) }
def cellsD (nm : ByteArray) (d : DDraft) (rv : Value) (g : Nat) : List Value :=
  [.string nm, .string d.k.1, .int .i64 d.k.2.1, .int .i64 d.k.2.2, .int .i64 d.f, .int .i64 d.b, .int .i64 d.l, rv, .slice (some ⟨g, 0, none⟩) d.m.length 4, .bool d.c]
/-- The draft in its box; its route and what is missing lie in blocks of their own. -/
structure DrS (W : World) (B Bd g : Nat) (nm : ByteArray) (d : DDraft) (rv : Value) : Prop where
  dr : Dr W Bd (cellsD nm d rv g)
  r : Row W B g d.m.length 4 d.m
  o : W.ownsRow B 9 1 rv d.r.length (strB d.r)
  ne : Bd ≠ g
  ob : ∀ b, rv.ownBlock = some b → b ≠ Bd ∧ b ≠ g
  nd : d.m.Nodup
  m4 : d.m.length ≤ 4
structure Kp (w W : World) (Bd g : Nat) : Prop where
  o : ∀ b, b < w.heap.size → b ≠ Bd → b ≠ g → W.heap[b]? = w.heap[b]?
  z : w.heap.size ≤ W.heap.size
  b : Below 0 w W
theorem Kp.refl (w : World) (Bd g : Nat) : Kp w w Bd g := ⟨fun _ _ _ _ => rfl, Nat.le_refl _, Below.refl 0 w⟩
theorem Kp.trans {w W W' : World} {Bd g : Nat} (h : Kp w W Bd g) (h' : Kp W W' Bd g) : Kp w W' Bd g :=
  ⟨fun b hb h1 h2 => (h'.o b (Nat.lt_of_lt_of_le hb h.z) h1 h2).trans (h.o b hb h1 h2), Nat.le_trans h.z h'.z, h.b.trans h'.b⟩
theorem Kp.of {w W : World} {Bd g : Nat} {cs : List Value} (h : At w W Bd g cs) : Kp w W Bd g := ⟨h.o, h.z, h.b⟩
theorem Kp.below {w W : World} {Bd g : Nat} (h : Below w.heap.size w W) : Kp w W Bd g := ⟨fun b hb _ _ => h.block b hb, h.size, h.mono (Nat.zero_le _)⟩
theorem DrS.later {W W' : World} {B Bd g : Nat} {nm : ByteArray} {d : DDraft} {rv : Value} (h : DrS W B Bd g nm d rv) (hb : Below W.heap.size W W') : DrS W' B Bd g nm d rv :=
  ⟨h.dr.kept (hb.block Bd h.dr.lt) hb.size, own_of h.r (fun b hb' => hb.block b (h.r.lt b hb').2), own_of h.o (fun b hb' => hb.block b (h.o.lt b hb').2), h.ne, h.ob, h.nd, h.m4⟩

theorem cut_at {m : List Int} {a : Int} (h : a ∈ m) (hn : m.Nodup) : ∃ A C, m = A ++ a :: C ∧ a ∉ A ∧ a ∉ C ∧ m.erase a = A ++ C := by
  obtain ⟨A, C, rfl⟩ := List.append_of_mem h
  have h1 := List.nodup_append.1 hn
  have hA : a ∉ A := fun hA => h1.2.2 a hA a (List.mem_cons_self ..) rfl
  refine ⟨A, C, rfl, hA, (List.nodup_cons.1 h1.2.1).1, ?_⟩
  rw [List.erase_append_right _ hA, List.erase_cons_head]

set_option maxHeartbeats 1000000 in
theorem hearV1 (x : DPlanBase) (B B' Bd g : Nat) (nm : ByteArray) (d : DDraft) (rv : Value) (v : ByteArray) (W : World) (va : Value) (hs : DrS W B Bd g nm d rv) (hf : FitsAs x 1 v) (hS : SaysV x 1 v B' W va) (h1 : Bd < B') (h2 : g < B') (h3 : B < B') (hm : (1 : Int) ∈ d.m) :
    Calls Tryz.prog 69 #[.pointer (some ⟨Bd, 0, none⟩), va] W fun e W' => e = .returned (.tuple #[]) ∧ ∃ rv', DrS W' B Bd g nm (hearD x d 1 v) rv' ∧ Kp W W' Bd g := by
  obtain ⟨A, C, hmc, hA, hC, hE⟩ := cut_at hm hs.nd
  obtain ⟨kk, ff, bb, ll, rr, mm, cc⟩ := d
  simp only at hmc
  subst hmc
  simp only at hE
  have hl : (A ++ 1 :: C).length = A.length + 1 + C.length := by simp; omega
  have h8 : (cellsD nm ⟨kk, ff, bb, ll, rr, A ++ 1 :: C, cc⟩ rv g)[8]? = some (.slice (some ⟨g, 0, none⟩) (A.length + 1 + C.length) 4) := by
    show some (Value.slice (some ⟨g, 0, none⟩) (A ++ 1 :: C).length 4) = _
    rw [hl]
  have hr := hs.r
  have hm4 := hs.m4
  have hnd := hs.nd
  simp only [hl] at hr hm4 hnd
  have hnd2 : (A ++ C).Nodup := hE ▸ hnd.erase 1
  obtain rfl := hS.k rfl
  refine (hear_add Bd _ _ W (fun W' => At W W' Bd g _ ∧ Row W' B g _ 4 _) (asKS _) (addK B g 4 Bd A C _ _ _ _ W hs.dr h8 rfl hr hA hC hs.ne (by omega) hm4 (by omega))).mono ?_
  rintro e W' ⟨rfl, hAt, hR⟩
  have hd : hearD x ⟨kk, ff, bb, ll, rr, A ++ 1 :: C, cc⟩ 1 v = ⟨findD nmK zK x.1 v, ff, bb, ll, rr, A ++ C, cc⟩ := by
    unfold hearD
    simp [hE]
  rw [hd]
  have hlen : (A ++ C).length = A.length + C.length := by simp
  refine ⟨rfl, rv, ⟨?_, ?_, ?_, hs.ne, ?_, hnd2, by simp only [hlen]; omega⟩, Kp.of hAt⟩
  · have := hAt.d
    unfold cellsD at this ⊢
    simp only [hlen]
    exact this
  · simp only [hlen]; exact hR
  · exact own_of hs.o (fun b hb => hAt.o b (hs.o.lt b hb).2 (hs.ob b hb).1 (hs.ob b hb).2)
  · exact hs.ob

set_option maxHeartbeats 1000000 in
theorem hearV2 (x : DPlanBase) (B B' Bd g : Nat) (nm : ByteArray) (d : DDraft) (rv : Value) (v : ByteArray) (W : World) (va : Value) (hs : DrS W B Bd g nm d rv) (hf : FitsAs x 2 v) (hS : SaysV x 2 v B' W va) (h1 : Bd < B') (h2 : g < B') (h3 : B < B') (hm : (2 : Int) ∈ d.m) :
    Calls Tryz.prog 69 #[.pointer (some ⟨Bd, 0, none⟩), va] W fun e W' => e = .returned (.tuple #[]) ∧ ∃ rv', DrS W' B Bd g nm (hearD x d 2 v) rv' ∧ Kp W W' Bd g := by
  obtain ⟨A, C, hmc, hA, hC, hE⟩ := cut_at hm hs.nd
  obtain ⟨kk, ff, bb, ll, rr, mm, cc⟩ := d
  simp only at hmc
  subst hmc
  simp only at hE
  have hl : (A ++ 2 :: C).length = A.length + 1 + C.length := by simp; omega
  have h8 : (cellsD nm ⟨kk, ff, bb, ll, rr, A ++ 2 :: C, cc⟩ rv g)[8]? = some (.slice (some ⟨g, 0, none⟩) (A.length + 1 + C.length) 4) := by
    show some (Value.slice (some ⟨g, 0, none⟩) (A ++ 2 :: C).length 4) = _
    rw [hl]
  have hr := hs.r
  have hm4 := hs.m4
  have hnd := hs.nd
  simp only [hl] at hr hm4 hnd
  have hnd2 : (A ++ C).Nodup := hE ▸ hnd.erase 2
  obtain ⟨ta, tb, htw, -⟩ := (fits2 x v).1 hf
  obtain rfl := hS.t rfl ta tb htw
  refine (hear_add Bd _ _ W (fun W' => At W W' Bd g _ ∧ Row W' B g _ 4 _) (asTS _) (addT B g 4 Bd A C _ _ _ W hs.dr h8 rfl hr hA hC hs.ne (by omega) hm4 (by omega))).mono ?_
  rintro e W' ⟨rfl, hAt, hR⟩
  have hd : hearD x ⟨kk, ff, bb, ll, rr, A ++ 2 :: C, cc⟩ 2 v = ⟨kk, decZ ((wordsP v).getD 0 ByteArray.empty), decZ ((wordsP v).getD 1 ByteArray.empty), ll, rr, A ++ C, cc⟩ := by
    unfold hearD
    simp [hE]
  rw [hd]
  rw [htw]
  have hlen : (A ++ C).length = A.length + C.length := by simp
  refine ⟨rfl, rv, ⟨?_, ?_, ?_, hs.ne, ?_, hnd2, by simp only [hlen]; omega⟩, Kp.of hAt⟩
  · have := hAt.d
    unfold cellsD at this ⊢
    simp only [hlen]
    exact this
  · simp only [hlen]; exact hR
  · exact own_of hs.o (fun b hb => hAt.o b (hs.o.lt b hb).2 (hs.ob b hb).1 (hs.ob b hb).2)
  · exact hs.ob

set_option maxHeartbeats 1000000 in
theorem hearV3 (x : DPlanBase) (B B' Bd g : Nat) (nm : ByteArray) (d : DDraft) (rv : Value) (v : ByteArray) (W : World) (va : Value) (hs : DrS W B Bd g nm d rv) (hf : FitsAs x 3 v) (hS : SaysV x 3 v B' W va) (h1 : Bd < B') (h2 : g < B') (h3 : B < B') (hm : (3 : Int) ∈ d.m) :
    Calls Tryz.prog 69 #[.pointer (some ⟨Bd, 0, none⟩), va] W fun e W' => e = .returned (.tuple #[]) ∧ ∃ rv', DrS W' B Bd g nm (hearD x d 3 v) rv' ∧ Kp W W' Bd g := by
  obtain ⟨A, C, hmc, hA, hC, hE⟩ := cut_at hm hs.nd
  obtain ⟨kk, ff, bb, ll, rr, mm, cc⟩ := d
  simp only at hmc
  subst hmc
  simp only at hE
  have hl : (A ++ 3 :: C).length = A.length + 1 + C.length := by simp; omega
  have h8 : (cellsD nm ⟨kk, ff, bb, ll, rr, A ++ 3 :: C, cc⟩ rv g)[8]? = some (.slice (some ⟨g, 0, none⟩) (A.length + 1 + C.length) 4) := by
    show some (Value.slice (some ⟨g, 0, none⟩) (A ++ 3 :: C).length 4) = _
    rw [hl]
  have hr := hs.r
  have hm4 := hs.m4
  have hnd := hs.nd
  simp only [hl] at hr hm4 hnd
  have hnd2 : (A ++ C).Nodup := hE ▸ hnd.erase 3
  obtain rfl := hS.l rfl
  refine (hear_add Bd _ _ W (fun W' => At W W' Bd g _ ∧ Row W' B g _ 4 _) (asLS _) (addL B g 4 Bd A C _ _ W hs.dr h8 rfl hr hA hC hs.ne (by omega) hm4 (by omega))).mono ?_
  rintro e W' ⟨rfl, hAt, hR⟩
  have hd : hearD x ⟨kk, ff, bb, ll, rr, A ++ 3 :: C, cc⟩ 3 v = ⟨kk, ff, bb, decZ v, rr, A ++ C, cc⟩ := by
    unfold hearD
    simp [hE]
  rw [hd]
  have hlen : (A ++ C).length = A.length + C.length := by simp
  refine ⟨rfl, rv, ⟨?_, ?_, ?_, hs.ne, ?_, hnd2, by simp only [hlen]; omega⟩, Kp.of hAt⟩
  · have := hAt.d
    unfold cellsD at this ⊢
    simp only [hlen]
    exact this
  · simp only [hlen]; exact hR
  · exact own_of hs.o (fun b hb => hAt.o b (hs.o.lt b hb).2 (hs.ob b hb).1 (hs.ob b hb).2)
  · exact hs.ob

set_option maxHeartbeats 1000000 in
theorem hearV4 (x : DPlanBase) (B B' Bd g : Nat) (nm : ByteArray) (d : DDraft) (rv : Value) (v : ByteArray) (W : World) (va : Value) (hs : DrS W B Bd g nm d rv) (hf : FitsAs x 4 v) (hS : SaysV x 4 v B' W va) (h1 : Bd < B') (h2 : g < B') (h3 : B < B') (hm : (4 : Int) ∈ d.m) :
    Calls Tryz.prog 69 #[.pointer (some ⟨Bd, 0, none⟩), va] W fun e W' => e = .returned (.tuple #[]) ∧ ∃ rv', DrS W' B Bd g nm (hearD x d 4 v) rv' ∧ Kp W W' Bd g := by
  obtain ⟨A, C, hmc, hA, hC, hE⟩ := cut_at hm hs.nd
  obtain ⟨kk, ff, bb, ll, rr, mm, cc⟩ := d
  simp only at hmc
  subst hmc
  simp only at hE
  have hl : (A ++ 4 :: C).length = A.length + 1 + C.length := by simp; omega
  have h8 : (cellsD nm ⟨kk, ff, bb, ll, rr, A ++ 4 :: C, cc⟩ rv g)[8]? = some (.slice (some ⟨g, 0, none⟩) (A.length + 1 + C.length) 4) := by
    show some (Value.slice (some ⟨g, 0, none⟩) (A ++ 4 :: C).length 4) = _
    rw [hl]
  have hr := hs.r
  have hm4 := hs.m4
  have hnd := hs.nd
  simp only [hl] at hr hm4 hnd
  have hnd2 : (A ++ C).Nodup := hE ▸ hnd.erase 4
  obtain ⟨aw, capw, rfl, hown⟩ := hS.r rfl ((fits4 x v).1 hf)
  refine (hear_add Bd _ _ W (fun W' => At W W' Bd g _ ∧ Row W' B g _ 4 _) (asRS _) (addR B g 4 Bd A C _ _ _ _ W hs.dr h8 rfl hr hA hC hs.ne (by omega) hm4 (by omega))).mono ?_
  rintro e W' ⟨rfl, hAt, hR⟩
  have hd : hearD x ⟨kk, ff, bb, ll, rr, A ++ 4 :: C, cc⟩ 4 v = ⟨kk, ff, bb, ll, wordsP v, A ++ C, cc⟩ := by
    unfold hearD
    simp [hE]
  rw [hd]
  have hlen : (A ++ C).length = A.length + C.length := by simp
  refine ⟨rfl, (.slice aw (wordsP v).length capw), ⟨?_, ?_, ?_, hs.ne, ?_, hnd2, by simp only [hlen]; omega⟩, Kp.of hAt⟩
  · have := hAt.d
    unfold cellsD at this ⊢
    simp only [hlen]
    exact this
  · simp only [hlen]; exact hR
  · exact own_of (own_lo2 hown h3) (fun b hb => by
      have hb' := hown.lt b hb
      exact hAt.o b hb'.2 (by omega) (by omega))
  · intro b hb
    have hb' := hown.lt b hb
    exact ⟨by omega, by omega⟩

set_option maxHeartbeats 1000000 in
theorem hearV5 (x : DPlanBase) (B B' Bd g : Nat) (nm : ByteArray) (d : DDraft) (rv : Value) (v : ByteArray) (W : World) (va : Value) (hs : DrS W B Bd g nm d rv) (hS : SaysV x 5 v B' W va) :
    Calls Tryz.prog 69 #[.pointer (some ⟨Bd, 0, none⟩), va] W fun e W' => e = .returned (.tuple #[]) ∧ ∃ rv', DrS W' B Bd g nm (hearD x d 5 v) rv' ∧ Kp W W' Bd g := by
  obtain ⟨kk, ff, bb, ll, rr, mm, cc⟩ := d
  obtain rfl := hS.s rfl
  refine (hearS Bd v _ W hs.dr rfl).mono ?_
  rintro e W' ⟨rfl, hAt⟩
  have hd : hearD x ⟨kk, ff, bb, ll, rr, mm, cc⟩ 5 v = ⟨kk, ff, bb, ll, rr, mm, decide (v = closB)⟩ := by
    unfold hearD
    simp
  rw [hd]
  refine ⟨rfl, rv, ⟨hAt.d, hAt.row hs.r hs.ne, own_of hs.o (fun b hb => hAt.o b (hs.o.lt b hb).2 (hs.ob b hb).1 (hs.ob b hb).1), hs.ne, hs.ob, hs.nd, hs.m4⟩, ⟨fun b hb h1 _ => hAt.o b hb h1 h1, hAt.z, hAt.b⟩⟩

theorem hearV (x : DPlanBase) (B B' Bd g : Nat) (nm : ByteArray) (d : DDraft) (rv : Value) (wh : Int) (v : ByteArray) (W : World) (va : Value) (hs : DrS W B Bd g nm d rv) (hf : FitsAs x wh v) (hS : SaysV x wh v B' W va) (h1 : Bd < B') (h2 : g < B') (h3 : B < B') (hm : wh ≠ 5 → wh ∈ d.m) :
    Calls Tryz.prog 69 #[.pointer (some ⟨Bd, 0, none⟩), va] W fun e W' => e = .returned (.tuple #[]) ∧ ∃ rv', DrS W' B Bd g nm (hearD x d wh v) rv' ∧ Kp W W' Bd g := by
  have hf' := hf
  rcases hf' with ⟨rfl, _⟩ | ⟨rfl, _⟩ | ⟨rfl, _⟩ | ⟨rfl, _⟩ | ⟨rfl, _⟩
  · exact hearV1 x B B' Bd g nm d rv v W va hs hf hS h1 h2 h3 (hm (by decide))
  · exact hearV2 x B B' Bd g nm d rv v W va hs hf hS h1 h2 h3 (hm (by decide))
  · exact hearV3 x B B' Bd g nm d rv v W va hs hf hS h1 h2 h3 (hm (by decide))
  · exact hearV4 x B B' Bd g nm d rv v W va hs hf hS h1 h2 h3 (hm (by decide))
  · exact hearV5 x B B' Bd g nm d rv v W va hs hS

end Std
end Go.Proofs.YtgnjkpmbppmoeaaGreat
