/- DERIVED. A draft on plain data; what (*planDraft).hear makes of it (written by wip/tools/mk_df4.py). -/
import Derived.Test.YtgnjkpmbppmoeaaGreatKGDa
import Derived.Test.YtgnjkpmbppmoeaaGreatKPgI3
import Derived.Test.YtgnjkpmbppmoeaaGreatKGVb
import Derived.Test.YtgnjkpmbppmoeaaGreatKGPw
namespace Go.Proofs.YtgnjkpmbppmoeaaGreat
namespace Std
open Go.RowKit
set_option linter.unusedSimpArgs false
set_option linter.unusedVariables false

structure DDraft where
  k : DPlanKind
  f : Int
  b : Int
  l : Int
  r : List ByteArray
  m : List Int
  c : Bool
def draft0 : DDraft := ⟨(ByteArray.empty, 0, 0), 0, 0, 0, [], [1, 2, 3, 4], false⟩
noncomputable def hearD (x : DPlanBase) (d : DDraft) (wh : Int) (v : ByteArray) : DDraft :=
  if wh = 1 then { d with k := findD nmK zK x.1 v, m := d.m.erase 1 }
  else if wh = 2 then { d with f := decZ ((wordsP v).getD 0 ByteArray.empty), b := decZ ((wordsP v).getD 1 ByteArray.empty), m := d.m.erase 2 }
  else if wh = 3 then { d with l := decZ v, m := d.m.erase 3 }
  else if wh = 4 then { d with r := wordsP v, m := d.m.erase 4 }
  else { d with c := decide (v = closB) }
def cellsD (nm : ByteArray) (d : DDraft) (rv : Value) (g : Nat) : List Value :=
  [.string nm, .string d.k.1, .int .i64 d.k.2.1, .int .i64 d.k.2.2, .int .i64 d.f, .int .i64 d.b, .int .i64 d.l, rv, .slice (some ⟨g, 0, none⟩) d.m.length 4, .bool d.c]
/-- The draft in its box; its route and what is missing lie in blocks of their own. -/
structure DrS (W : World) (B Bd g : Nat) (nm : ByteArray) (d : DDraft) (rv : Value) : Prop where
  dr : Dr W Bd (cellsD nm d rv g)
  r : Row W B g d.m.length 4 d.m
  o : W.ownsRow B 9 1 rv d.r.length (strB d.r)
  ne : Bd ≠ g
  ob : ∀ b, rv.ownBlock = some b → b ≠ Bd ∧ b ≠ g
  nd : d.m.Nodup
  m4 : d.m.length ≤ 4
structure Kp (w W : World) (Bd g : Nat) : Prop where
  o : ∀ b, b < w.heap.size → b ≠ Bd → b ≠ g → W.heap[b]? = w.heap[b]?
  z : w.heap.size ≤ W.heap.size
  b : Below 0 w W
theorem Kp.refl (w : World) (Bd g : Nat) : Kp w w Bd g := ⟨fun _ _ _ _ => rfl, Nat.le_refl _, Below.refl 0 w⟩
theorem Kp.trans {w W W' : World} {Bd g : Nat} (h : Kp w W Bd g) (h' : Kp W W' Bd g) : Kp w W' Bd g :=
  ⟨fun b hb h1 h2 => (h'.o b (Nat.lt_of_lt_of_le hb h.z) h1 h2).trans (h.o b hb h1 h2), Nat.le_trans h.z h'.z, h.b.trans h'.b⟩
theorem Kp.of {w W : World} {Bd g : Nat} {cs : List Value} (h : At w W Bd g cs) : Kp w W Bd g := ⟨h.o, h.z, h.b⟩
theorem Kp.below {w W : World} {Bd g : Nat} (h : Below w.heap.size w W) : Kp w W Bd g := ⟨fun b hb _ _ => h.block b hb, h.size, h.mono (Nat.zero_le _)⟩
theorem DrS.later {W W' : World} {B Bd g : Nat} {nm : ByteArray} {d : DDraft} {rv : Value} (h : DrS W B Bd g nm d rv) (hb : Below W.heap.size W W') : DrS W' B Bd g nm d rv :=
  ⟨h.dr.kept (hb.block Bd h.dr.lt) hb.size, own_of h.r (fun b hb' => hb.block b (h.r.lt b hb').2), own_of h.o (fun b hb' => hb.block b (h.o.lt b hb').2), h.ne, h.ob, h.nd, h.m4⟩

theorem cut_at {m : List Int} {a : Int} (h : a ∈ m) (hn : m.Nodup) : ∃ A C, m = A ++ a :: C ∧ a ∉ A ∧ a ∉ C ∧ m.erase a = A ++ C := by
  obtain ⟨A, C, rfl⟩ := List.append_of_mem h
  have h1 := List.nodup_append.1 hn
  have hA : a ∉ A := fun hA => h1.2.2 a hA a (List.mem_cons_self ..) rfl
  refine ⟨A, C, rfl, hA, (List.nodup_cons.1 h1.2.1).1, ?_⟩
  rw [List.erase_append_right _ hA, List.erase_cons_head]

set_option maxHeartbeats 1000000 in
theorem hearV1 (x : DPlanBase) (B B' Bd g : Nat) (nm : ByteArray) (d : DDraft) (rv : Value) (v : ByteArray) (W : World) (va : Value) (hs : DrS W B Bd g nm d rv) (hf : FitsAs x 1 v) (hS : SaysV x 1 v B' W va) (h1 : Bd < B') (h2 : g < B') (h3 : B < B') (hm : (1 : Int) ∈ d.m) :
    Calls Tryz.prog 69 #[.pointer (some ⟨Bd, 0, none⟩), va] W fun e W' => e = .returned (.tuple #[]) ∧ ∃ rv', DrS W' B Bd g nm (hearD x d 1 v) rv' ∧ Kp W W' Bd g := by
  obtain ⟨A, C, hmc, hA, hC, hE⟩ := cut_at hm hs.nd
  obtain ⟨kk, ff, bb, ll, rr, mm, cc⟩ := d
  simp only at hmc
  subst hmc
  simp only at hE
  have hl : (A ++ 1 :: C).length = A.length + 1 + C.length := by simp; omega
  have h8 : (cellsD nm ⟨kk, ff, bb, ll, rr, A ++ 1 :: C, cc⟩ rv g)[8]? = some (.slice (some ⟨g, 0, none⟩) (A.length + 1 + C.length) 4) := by
    show some (Value.slice (some ⟨g, 0, none⟩) (A ++ 1 :: C).length 4) = _
    rw [hl]
  have hr := hs.r
  have hm4 := hs.m4
  have hnd := hs.nd
  simp only [hl] at hr hm4 hnd
  have hnd2 : (A ++ C).Nodup := hE ▸ hnd.erase 1
  obtain rfl := hS.k rfl
  refine (hear_add Bd _ _ W (fun W' => At W W' Bd g _ ∧ Row W' B g _ 4 _) (asKS _) (addK B g 4 Bd A C _ _ _ _ W hs.dr h8 rfl hr hA hC hs.ne (by omega) hm4 (by omega))).mono ?_
  rintro e W' ⟨rfl, hAt, hR⟩
  have hd : hearD x ⟨kk, ff, bb, ll, rr, A ++ 1 :: C, cc⟩ 1 v = ⟨findD nmK zK x.1 v, ff, bb, ll, rr, A ++ C, cc⟩ := by
    unfold hearD
    simp [hE]
  rw [hd]
  have hlen : (A ++ C).length = A.length + C.length := by simp
  refine ⟨rfl, rv, ⟨?_, ?_, ?_, hs.ne, ?_, hnd2, by simp only [hlen]; omega⟩, Kp.of hAt⟩
  · have := hAt.d
    unfold cellsD at this ⊢
    simp only [hlen]
    exact this
  · simp only [hlen]; exact hR
  · exact own_of hs.o (fun b hb => hAt.o b (hs.o.lt b hb).2 (hs.ob b hb).1 (hs.ob b hb).2)
  · exact hs.ob

set_option maxHeartbeats 1000000 in
theorem hearV2 (x : DPlanBase) (B B' Bd g : Nat) (nm : ByteArray) (d : DDraft) (rv : Value) (v : ByteArray) (W : World) (va : Value) (hs : DrS W B Bd g nm d rv) (hf : FitsAs x 2 v) (hS : SaysV x 2 v B' W va) (h1 : Bd < B') (h2 : g < B') (h3 : B < B') (hm : (2 : Int) ∈ d.m) :
    Calls Tryz.prog 69 #[.pointer (some ⟨Bd, 0, none⟩), va] W fun e W' => e = .returned (.tuple #[]) ∧ ∃ rv', DrS W' B Bd g nm (hearD x d 2 v) rv' ∧ Kp W W' Bd g := by
  obtain ⟨A, C, hmc, hA, hC, hE⟩ := cut_at hm hs.nd
  obtain ⟨kk, ff, bb, ll, rr, mm, cc⟩ := d
  simp only at hmc
  subst hmc
  simp only at hE
  have hl : (A ++ 2 :: C).length = A.length + 1 + C.length := by simp; omega
  have h8 : (cellsD nm ⟨kk, ff, bb, ll, rr, A ++ 2 :: C, cc⟩ rv g)[8]? = some (.slice (some ⟨g, 0, none⟩) (A.length + 1 + C.length) 4) := by
    show some (Value.slice (some ⟨g, 0, none⟩) (A ++ 2 :: C).length 4) = _
    rw [hl]
  have hr := hs.r
  have hm4 := hs.m4
  have hnd := hs.nd
  simp only [hl] at hr hm4 hnd
  have hnd2 : (A ++ C).Nodup := hE ▸ hnd.erase 2
  obtain ⟨ta, tb, htw, -⟩ := (fits2 x v).1 hf
  obtain rfl := hS.t rfl ta tb htw
  refine (hear_add Bd _ _ W (fun W' => At W W' Bd g _ ∧ Row W' B g _ 4 _) (asTS _) (addT B g 4 Bd A C _ _ _ W hs.dr h8 rfl hr hA hC hs.ne (by omega) hm4 (by omega))).mono ?_
  rintro e W' ⟨rfl, hAt, hR⟩
  have hd : hearD x ⟨kk, ff, bb, ll, rr, A ++ 2 :: C, cc⟩ 2 v = ⟨kk, decZ ((wordsP v).getD 0 ByteArray.empty), decZ ((wordsP v).getD 1 ByteArray.empty), ll, rr, A ++ C, cc⟩ := by
    unfold hearD
    simp [hE]
  rw [hd]
  rw [htw]
  have hlen : (A ++ C).length = A.length + C.length := by simp
  refine ⟨rfl, rv, ⟨?_, ?_, ?_, hs.ne, ?_, hnd2, by simp only [hlen]; omega⟩, Kp.of hAt⟩
  · have := hAt.d
    unfold cellsD at this ⊢
    simp only [hlen]
    exact this
  · simp only [hlen]; exact hR
  · exact own_of hs.o (fun b hb => hAt.o b (hs.o.lt b hb).2 (hs.ob b hb).1 (hs.ob b hb).2)
  · exact hs.ob

set_option maxHeartbeats 1000000 in
theorem hearV3 (x : DPlanBase) (B B' Bd g : Nat) (nm : ByteArray) (d : DDraft) (rv : Value) (v : ByteArray) (W : World) (va : Value) (hs : DrS W B Bd g nm d rv) (hf : FitsAs x 3 v) (hS : SaysV x 3 v B' W va) (h1 : Bd < B') (h2 : g < B') (h3 : B < B') (hm : (3 : Int) ∈ d.m) :
    Calls Tryz.prog 69 #[.pointer (some ⟨Bd, 0, none⟩), va] W fun e W' => e = .returned (.tuple #[]) ∧ ∃ rv', DrS W' B Bd g nm (hearD x d 3 v) rv' ∧ Kp W W' Bd g := by
  obtain ⟨A, C, hmc, hA, hC, hE⟩ := cut_at hm hs.nd
  obtain ⟨kk, ff, bb, ll, rr, mm, cc⟩ := d
  simp only at hmc
  subst hmc
  simp only at hE
  have hl : (A ++ 3 :: C).length = A.length + 1 + C.length := by simp; omega
  have h8 : (cellsD nm ⟨kk, ff, bb, ll, rr, A ++ 3 :: C, cc⟩ rv g)[8]? = some (.slice (some ⟨g, 0, none⟩) (A.length + 1 + C.length) 4) := by
    show some (Value.slice (some ⟨g, 0, none⟩) (A ++ 3 :: C).length 4) = _
    rw [hl]
  have hr := hs.r
  have hm4 := hs.m4
  have hnd := hs.nd
  simp only [hl] at hr hm4 hnd
  have hnd2 : (A ++ C).Nodup := hE ▸ hnd.erase 3
  obtain rfl := hS.l rfl
  refine (hear_add Bd _ _ W (fun W' => At W W' Bd g _ ∧ Row W' B g _ 4 _) (asLS _) (addL B g 4 Bd A C _ _ W hs.dr h8 rfl hr hA hC hs.ne (by omega) hm4 (by omega))).mono ?_
  rintro e W' ⟨rfl, hAt, hR⟩
  have hd : hearD x ⟨kk, ff, bb, ll, rr, A ++ 3 :: C, cc⟩ 3 v = ⟨kk, ff, bb, decZ v, rr, A ++ C, cc⟩ := by
    unfold hearD
    simp [hE]
  rw [hd]
  have hlen : (A ++ C).length = A.length + C.length := by simp
  refine ⟨rfl, rv, ⟨?_, ?_, ?_, hs.ne, ?_, hnd2, by simp only [hlen]; omega⟩, Kp.of hAt⟩
  · have := hAt.d
    unfold cellsD at this ⊢
    simp only [hlen]
    exact this
  · simp only [hlen]; exact hR
  · exact own_of hs.o (fun b hb => hAt.o b (hs.o.lt b hb).2 (hs.ob b hb).1 (hs.ob b hb).2)
  · exact hs.ob

set_option maxHeartbeats 1000000 in
theorem hearV4 (x : DPlanBase) (B B' Bd g : Nat) (nm : ByteArray) (d : DDraft) (rv : Value) (v : ByteArray) (W : World) (va : Value) (hs : DrS W B Bd g nm d rv) (hf : FitsAs x 4 v) (hS : SaysV x 4 v B' W va) (h1 : Bd < B') (h2 : g < B') (h3 : B < B') (hm : (4 : Int) ∈ d.m) :
    Calls Tryz.prog 69 #[.pointer (some ⟨Bd, 0, none⟩), va] W fun e W' => e = .returned (.tuple #[]) ∧ ∃ rv', DrS W' B Bd g nm (hearD x d 4 v) rv' ∧ Kp W W' Bd g := by
  obtain ⟨A, C, hmc, hA, hC, hE⟩ := cut_at hm hs.nd
  obtain ⟨kk, ff, bb, ll, rr, mm, cc⟩ := d
  simp only at hmc
  subst hmc
  simp only at hE
  have hl : (A ++ 4 :: C).length = A.length + 1 + C.length := by simp; omega
  have h8 : (cellsD nm ⟨kk, ff, bb, ll, rr, A ++ 4 :: C, cc⟩ rv g)[8]? = some (.slice (some ⟨g, 0, none⟩) (A.length + 1 + C.length) 4) := by
    show some (Value.slice (some ⟨g, 0, none⟩) (A ++ 4 :: C).length 4) = _
    rw [hl]
  have hr := hs.r
  have hm4 := hs.m4
  have hnd := hs.nd
  simp only [hl] at hr hm4 hnd
  have hnd2 : (A ++ C).Nodup := hE ▸ hnd.erase 4
  obtain ⟨aw, capw, rfl, hown⟩ := hS.r rfl ((fits4 x v).1 hf)
  refine (hear_add Bd _ _ W (fun W' => At W W' Bd g _ ∧ Row W' B g _ 4 _) (asRS _) (addR B g 4 Bd A C _ _ _ _ W hs.dr h8 rfl hr hA hC hs.ne (by omega) hm4 (by omega))).mono ?_
  rintro e W' ⟨rfl, hAt, hR⟩
  have hd : hearD x ⟨kk, ff, bb, ll, rr, A ++ 4 :: C, cc⟩ 4 v = ⟨kk, ff, bb, ll, wordsP v, A ++ C, cc⟩ := by
    unfold hearD
    simp [hE]
  rw [hd]
  have hlen : (A ++ C).length = A.length + C.length := by simp
  refine ⟨rfl, (.slice aw (wordsP v).length capw), ⟨?_, ?_, ?_, hs.ne, ?_, hnd2, by simp only [hlen]; omega⟩, Kp.of hAt⟩
  · have := hAt.d
    unfold cellsD at this ⊢
    simp only [hlen]
    exact this
  · simp only [hlen]; exact hR
  · exact own_of (own_lo2 hown h3) (fun b hb => by
      have hb' := hown.lt b hb
      exact hAt.o b hb'.2 (by omega) (by omega))
  · intro b hb
    have hb' := hown.lt b hb
    exact ⟨by omega, by omega⟩

set_option maxHeartbeats 1000000 in
theorem hearV5 (x : DPlanBase) (B B' Bd g : Nat) (nm : ByteArray) (d : DDraft) (rv : Value) (v : ByteArray) (W : World) (va : Value) (hs : DrS W B Bd g nm d rv) (hS : SaysV x 5 v B' W va) :
    Calls Tryz.prog 69 #[.pointer (some ⟨Bd, 0, none⟩), va] W fun e W' => e = .returned (.tuple #[]) ∧ ∃ rv', DrS W' B Bd g nm (hearD x d 5 v) rv' ∧ Kp W W' Bd g := by
  obtain ⟨kk, ff, bb, ll, rr, mm, cc⟩ := d
  obtain rfl := hS.s rfl
  refine (hearS Bd v _ W hs.dr rfl).mono ?_
  rintro e W' ⟨rfl, hAt⟩
  have hd : hearD x ⟨kk, ff, bb, ll, rr, mm, cc⟩ 5 v = ⟨kk, ff, bb, ll, rr, mm, decide (v = closB)⟩ := by
    unfold hearD
    simp
  rw [hd]
  refine ⟨rfl, rv, ⟨hAt.d, hAt.row hs.r hs.ne, own_of hs.o (fun b hb => hAt.o b (hs.o.lt b hb).2 (hs.ob b hb).1 (hs.ob b hb).1), hs.ne, hs.ob, hs.nd, hs.m4⟩, ⟨fun b hb h1 _ => hAt.o b hb h1 h1, hAt.z, hAt.b⟩⟩

theorem hearV (x : DPlanBase) (B B' Bd g : Nat) (nm : ByteArray) (d : DDraft) (rv : Value) (wh : Int) (v : ByteArray) (W : World) (va : Value) (hs : DrS W B Bd g nm d rv) (hf : FitsAs x wh v) (hS : SaysV x wh v B' W va) (h1 : Bd < B') (h2 : g < B') (h3 : B < B') (hm : wh ≠ 5 → wh ∈ d.m) :
    Calls Tryz.prog 69 #[.pointer (some ⟨Bd, 0, none⟩), va] W fun e W' => e = .returned (.tuple #[]) ∧ ∃ rv', DrS W' B Bd g nm (hearD x d wh v) rv' ∧ Kp W W' Bd g := by
  have hf' := hf
  rcases hf' with ⟨rfl, _⟩ | ⟨rfl, _⟩ | ⟨rfl, _⟩ | ⟨rfl, _⟩ | ⟨rfl, _⟩
  · exact hearV1 x B B' Bd g nm d rv v W va hs hf hS h1 h2 h3 (hm (by decide))
  · exact hearV2 x B B' Bd g nm d rv v W va hs hf hS h1 h2 h3 (hm (by decide))
  · exact hearV3 x B B' Bd g nm d rv v W va hs hf hS h1 h2 h3 (hm (by decide))
  · exact hearV4 x B B' Bd g nm d rv v W va hs hf hS h1 h2 h3 (hm (by decide))
  · exact hearV5 x B B' Bd g nm d rv v W va hs hS

end Std
end Go.Proofs.YtgnjkpmbppmoeaaGreat

/- DERIVED. What a book of plans is, on plain data. -/
namespace Go.Proofs.YtgnjkpmbppmoeaaGreat
open Go.RowKit
set_option linter.unusedSimpArgs false
set_option linter.unusedVariables false

/-- The first k of an entry's fields are ok, and what they say ascends. -/
def FldTo (x : DPlanBase) (n : ByteArray) (fs : List DPlanField) (k : Nat) : Prop := ∀ j (h : j < fs.length), j < k → ChangeOk x (n, fs[j]'h) ∧ ∀ h0 : 0 < j, (fs[j - 1]'(by omega)).1 < (fs[j]'h).1
def EntOk (x : DPlanBase) (e : DPlanEntry) : Prop := NameOk e.1 ∧ 0 < e.2.length ∧ FldTo x e.1 e.2 e.2.length
def BookOk (b : DPlanBook) : Prop := BaseOk b.1 ∧ b.2.length ≤ 12 ∧ RowTo (EntOk b.1) (fun e : DPlanEntry => e.1) b.2 b.2.length

theorem FldTo.zero {x : DPlanBase} {n : ByteArray} {fs : List DPlanField} : FldTo x n fs 0 := fun j _ h => by omega
theorem FldTo.next {x : DPlanBase} {n : ByteArray} {fs : List DPlanField} {k : Nat} (h : FldTo x n fs k) (hk : k < fs.length) (h1 : ChangeOk x (n, fs[k]'hk)) (h2 : ∀ h0 : 0 < k, (fs[k - 1]'(by omega)).1 < (fs[k]'hk).1) : FldTo x n fs (k + 1) := fun j hj h3 => by
  by_cases e : j = k
  · subst e; exact ⟨h1, h2⟩
  · exact h j hj (by omega)
theorem fld_small {fs : List DPlanField} (h : wPlanFieldS fs ≤ 1048576) {k : Nat} (hk : k < fs.length) : (fs[k]'hk).2.2.size ≤ 1048576 := by
  have h1 := sum_elem wPlanField fs k hk
  unfold wPlanFieldS at h
  have h2 : wPlanField (fs[k]'hk) = (fs[k]'hk).2.2.size := rfl
  omega
theorem ent_small {es : List DPlanEntry} (h : wPlanEntryS es ≤ 1048576) {k : Nat} (hk : k < es.length) : wPlanFieldS (es[k]'hk).2 ≤ 1048576 := by
  have h1 := sum_elem wPlanEntry es k hk
  unfold wPlanEntryS at h
  have h2 : wPlanEntry (es[k]'hk) = (es[k]'hk).1.size + wPlanFieldS (es[k]'hk).2 := rfl
  omega

end Go.Proofs.YtgnjkpmbppmoeaaGreat

/- DERIVED. What a draft is behind some fields, on plain data. -/
namespace Go.Proofs.YtgnjkpmbppmoeaaGreat
namespace Std
open Go.RowKit
set_option linter.unusedSimpArgs false
set_option linter.unusedVariables false

def NoF (fs : List DPlanField) (wh : Int) (k : Nat) : Prop := ∀ j (h : j < fs.length), j < k → ¬ (fs[j]'h).1 = wh
/-- A draft says what a value says of a thing. -/
structure SaysD (x : DPlanBase) (d : DDraft) (wh : Int) (v : ByteArray) : Prop where
  k : wh = 1 → d.k = findD nmK zK x.1 v
  f : wh = 2 → d.f = decZ ((wordsP v).getD 0 ByteArray.empty)
  b : wh = 2 → d.b = decZ ((wordsP v).getD 1 ByteArray.empty)
  l : wh = 3 → d.l = decZ v
  r : wh = 4 → d.r = wordsP v
  c : wh = 5 → d.c = decide (v = closB)
structure DftTo (x : DPlanBase) (fs : List DPlanField) (k : Nat) (d : DDraft) : Prop where
  m : ∀ wh, 1 ≤ wh → wh ≤ 4 → (wh ∈ d.m ↔ NoF fs wh k)
  s : ∀ j (h : j < fs.length), j < k → SaysD x d (fs[j]'h).1 (fs[j]'h).2.2
  c : NoF fs 5 k → d.c = false
  v : ∀ a ∈ d.m, 1 ≤ a ∧ a ≤ 4
  nd : d.m.Nodup
theorem DftTo.zero (x : DPlanBase) (fs : List DPlanField) : DftTo x fs 0 draft0 where
  m := fun wh h1 h2 => ⟨fun _ j _ h => by omega, fun _ => by
    obtain rfl | rfl | rfl | rfl : wh = 1 ∨ wh = 2 ∨ wh = 3 ∨ wh = 4 := by omega
    all_goals decide⟩
  s := fun j _ h => by omega
  c := fun _ => rfl
  v := by decide
  nd := by decide
theorem noF_next {fs : List DPlanField} {wh : Int} {k : Nat} (hk : k < fs.length) : NoF fs wh (k + 1) ↔ NoF fs wh k ∧ ¬ (fs[k]'hk).1 = wh := by
  constructor
  · exact fun h => ⟨fun j hj h1 => h j hj (by omega), h k hk (by omega)⟩
  · rintro ⟨h1, h2⟩ j hj h3
    by_cases e : j = k
    · subst e; exact h2
    · exact h1 j hj (by omega)
theorem mem_er {m : List Int} (hn : m.Nodup) (a b : Int) : a ∈ m.erase b ↔ a ≠ b ∧ a ∈ m := hn.mem_erase_iff
theorem DftTo.next {x : DPlanBase} {fs : List DPlanField} {k : Nat} {d : DDraft} (h : DftTo x fs k d) (hk : k < fs.length) {wh nu : Int} {v : ByteArray} (hf : fs[k]'hk = (wh, nu, v)) (h1 : 1 ≤ wh) (h5 : wh ≤ 5) (hn : NoF fs wh k) : DftTo x fs (k + 1) (hearD x d wh v) := by
  have e0 : (fs[k]'hk).1 = wh := by rw [hf]
  have e2 : (fs[k]'hk).2.2 = v := by rw [hf]
  have hs0 : ∀ d', (∀ j (h : j < fs.length), j < k → SaysD x d' (fs[j]'h).1 (fs[j]'h).2.2) → SaysD x d' wh v → ∀ j (h : j < fs.length), j < k + 1 → SaysD x d' (fs[j]'h).1 (fs[j]'h).2.2 := fun d' a b j hj hj1 => by
    by_cases e : j = k
    · subst e; rw [e0, e2]; exact b
    · exact a j hj (by omega)
  have hm : ∀ w', NoF fs w' (k + 1) ↔ NoF fs w' k ∧ ¬ wh = w' := fun w' => by rw [noF_next hk, e0]
  obtain rfl | rfl | rfl | rfl | rfl : wh = 1 ∨ wh = 2 ∨ wh = 3 ∨ wh = 4 ∨ wh = 5 := by omega
  all_goals
    unfold hearD
    simp only [↓reduceIte, (by decide : ¬ (2 : Int) = 1), (by decide : ¬ (3 : Int) = 1), (by decide : ¬ (3 : Int) = 2), (by decide : ¬ (4 : Int) = 1), (by decide : ¬ (4 : Int) = 2), (by decide : ¬ (4 : Int) = 3), (by decide : ¬ (5 : Int) = 1), (by decide : ¬ (5 : Int) = 2), (by decide : ¬ (5 : Int) = 3), (by decide : ¬ (5 : Int) = 4)]
    refine ⟨fun w' a b => ?_, hs0 _ (fun j hj hjk => ?_) ?_, fun a => ?_, fun a ha => ?_, ?_⟩
  all_goals first
    | exact h.nd
    | exact h.nd.erase _
    | (show w' ∈ d.m.erase _ ↔ _; rw [mem_er h.nd, hm, h.m w' a b]; exact ⟨fun ⟨p, q⟩ => ⟨q, fun e => p e.symm⟩, fun ⟨p, q⟩ => ⟨fun e => q e.symm, p⟩⟩)
    | (show w' ∈ d.m ↔ _; rw [hm, h.m w' a b]; exact ⟨fun p => ⟨p, by omega⟩, fun p => p.1⟩; done)
    | (have g := h.s j hj hjk; have g1 := hn j hj hjk; exact ⟨by first | exact g.k | exact fun e => absurd e g1, by first | exact g.f | exact fun e => absurd e g1, by first | exact g.b | exact fun e => absurd e g1, by first | exact g.l | exact fun e => absurd e g1, by first | exact g.r | exact fun e => absurd e g1, by first | exact g.c | exact fun e => absurd e g1⟩; done)
    | (exact ⟨by intro e; first | rfl | omega, by intro e; first | rfl | omega, by intro e; first | rfl | omega, by intro e; first | rfl | omega, by intro e; first | rfl | omega, by intro e; first | rfl | omega⟩; done)
    | (exact h.c ((hm 5).1 a).1; done)
    | (exact absurd rfl ((hm 5).1 a).2; done)
    | (exact h.v a (List.mem_of_mem_erase ha); done)
    | (exact h.v a ha; done)

theorem fld_asc {x : DPlanBase} {n : ByteArray} {fs : List DPlanField} (h : FldTo x n fs fs.length) : ∀ (d j : Nat) (hj : j + (d + 1) < fs.length), (fs[j]'(by omega)).1 < (fs[j + (d + 1)]'hj).1
  | 0, j, hj => (h (j + 1) hj hj).2 (by omega)
  | d + 1, j, hj => Int.lt_trans (fld_asc h d j (by omega)) ((h (j + (d + 1) + 1) hj hj).2 (by omega))
theorem fld_noF {x : DPlanBase} {n : ByteArray} {fs : List DPlanField} (h : FldTo x n fs fs.length) {k : Nat} (hk : k < fs.length) : NoF fs (fs[k]'hk).1 k := fun j hj hjk e => by
  obtain ⟨d, rfl⟩ : ∃ d, k = j + (d + 1) := ⟨k - j - 1, by omega⟩
  have := fld_asc h d j hk
  omega
theorem fits_in {x : DPlanBase} {wh : Int} {v : ByteArray} (h : FitsAs x wh v) : 1 ≤ wh ∧ wh ≤ 5 := by
  rcases h with ⟨rfl, _⟩ | ⟨rfl, _⟩ | ⟨rfl, _⟩ | ⟨rfl, _⟩ | ⟨rfl, _⟩ <;> exact ⟨by decide, by decide⟩

/-- A flight: name, kind, from, by, level, route. -/
abbrev DFlight := ByteArray × DPlanKind × Int × Int × Int × List ByteArray
def zF : DFlight := (ByteArray.empty, (ByteArray.empty, 0, 0), 0, 0, 0, [])
def outD (nm : ByteArray) (d : DDraft) : DFlight × Bool := if d.m.length = 0 ∧ d.c = false then ((nm, d.k, d.f, d.b, d.l, d.r), true) else (zF, false)
def flV (f : DFlight) (rv : Value) : Value := .agg #[.string f.1, .string f.2.1.1, .int .i64 f.2.1.2.1, .int .i64 f.2.1.2.2, .int .i64 f.2.2.1, .int .i64 f.2.2.2.1, .int .i64 f.2.2.2.2.1, rv]
def GivesF (o : DFlight × Bool) (w : World) (e : Ending) (w' : World) : Prop :=
  ∃ rv, e = .returned (.tuple #[flV o.1 rv, .bool o.2]) ∧ w'.ownsRow w.heap.size 9 1 rv o.1.2.2.2.2.2.length (strB o.1.2.2.2.2.2) ∧ Below w.heap.size w w'

end Std
end Go.Proofs.YtgnjkpmbppmoeaaGreat

/- DERIVED. spec.l16Value: what is said of a thing; its walk. -/
namespace Go.Proofs.YtgnjkpmbppmoeaaGreat
namespace Std
open Go.RowKit
set_option linter.unusedSimpArgs false
set_option linter.unusedVariables false

def valP : List DPlanField → Int → ByteArray
  | [], _ => ByteArray.empty
  | f :: l, wh => if f.1 = wh then f.2.2 else valP l wh
theorem valP_hit {wh : Int} : ∀ {l : List DPlanField} {k : Nat}, NoF l wh k → ∀ hk : k < l.length, (l[k]'hk).1 = wh → valP l wh = (l[k]'hk).2.2
  | f :: l, 0, _, _, h => by
    show (if f.1 = wh then f.2.2 else valP l wh) = _
    rw [if_pos (show f.1 = wh from h)]; rfl
  | f :: l, k + 1, hn, hk, h => by
    show (if f.1 = wh then f.2.2 else valP l wh) = _
    rw [if_neg (show ¬ f.1 = wh from hn 0 (by simp) (by omega))]
    exact valP_hit (fun j hj hjk => hn (j + 1) (by simpa using hj) (by omega)) (by simpa using hk) h
theorem valP_none {wh : Int} : ∀ {l : List DPlanField}, NoF l wh l.length → valP l wh = ByteArray.empty
  | [], _ => rfl
  | f :: l, hn => by
    show (if f.1 = wh then f.2.2 else valP l wh) = _
    rw [if_neg (show ¬ f.1 = wh from hn 0 (by simp) (by simp))]
    exact valP_none (fun j hj hjk => hn (j + 1) (by simpa using hj) (by simpa using hj))

set_option maxRecDepth 100000 in
set_option maxHeartbeats 2000000 in
theorem sValue (n : ByteArray) (fs : List DPlanField) (fo : Option Addr) (fc : Nat) (wh : Int) (w : World) (hf : SliceAt vPlanField (old w) w fo fc fs) :
    Calls Tryz.prog 58 #[.agg #[.string n, .slice fo fs.length fc], .int .i64 wh] w fun e w' => e = .returned (.string (valP fs wh)) ∧ Below w.heap.size w w' := by
  have hm : fs.length ≤ 9223372036854775807 := Nat.le_trans hf.1 hf.2.1
  have hb0 : Below w.heap.size w (w.alloc (.cells #[.string n, .slice fo fs.length fc] 67)) := (Below.refl _ _).alloc (Nat.le_refl _) _
  have HB0 := BxC.new w #[.string n, .slice fo fs.length fc] 67
  have x1 := HB0 1
  simp at x1
  clear HB0
  go_enter Tryz.func58, Tryz.ntmps58
  go_wp2
  go_loop [5] (fun i => ∃ k : Nat, k ≤ fs.length ∧ i = .int .i64 k ∧ Hid (NoF fs wh k)) (fun i => fs.length - (intOf i).toNat)
  case atStart => exact ⟨0, Nat.zero_le _, rfl, fun j _ hj => by omega⟩
  case round =>
    obtain ⟨k, hk, rfl, hpre⟩ := hrel
    by_cases hlt : k < fs.length
    · obtain ⟨b, off, rfl, hok, c0, c1, c2, q0, _, _⟩ := elem_PlanField hf hlt
      have f0 := (hb0.cell (p := ⟨b, off + k * 3, none⟩) hok).trans c0
      have f2 := (hb0.cell (p := ⟨b, off + k * 3 + 2, none⟩) hok).trans c2
      clear c0 c1 c2
      have hbw : b < w.heap.size := hok
      have hkI : (k : Int) < (fs.length : Int) := by omega
      have HN : Hid (¬ (fs[k]'hlt).1 = wh → NoF fs wh (k + 1)) := fun e => (noF_next hlt).2 ⟨hpre.out, e⟩
      have HY : Hid ((fs[k]'hlt).1 = wh → valP fs wh = (fs[k]'hlt).2.2) := fun e => valP_hit hpre.out hlt e
      obtain ⟨a, nu, v, hcur⟩ : ∃ a b c, fs[k]'hlt = (a, b, c) := ⟨_, _, _, rfl⟩
      rw [hcur] at f0 f2 q0 HN HY
      simp only at f0 f2 q0 HN HY
      clear hcur hpre
      by_cases hq : a = wh
      · have HR : Hid (valP fs wh = v) := HY.out hq
        subst hq
        clear HN HY
        go_wp2
        go_ret
        exact ⟨by rw [HR.out]; rfl, hb0⟩
      · have HR : Hid (NoF fs wh (k + 1)) := HN.out hq
        clear HN HY
        go_wp2
        go_round
        case rel => exact ⟨k + 1, by omega, by go_num, HR⟩
        case measure => simp [intOf]; omega
    · have hkl : k = fs.length := by omega
      have HR : Hid (valP fs wh = ByteArray.empty) := valP_none (hkl ▸ hpre.out)
      clear hpre hkl
      go_wp2
      go_ret
      exact ⟨by rw [HR.out]; rfl, hb0⟩

end Std
end Go.Proofs.YtgnjkpmbppmoeaaGreat
