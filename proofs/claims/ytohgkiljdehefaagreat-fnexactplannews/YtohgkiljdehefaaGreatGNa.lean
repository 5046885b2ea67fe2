/- DERIVED. cmp.Compare at int and string, cmp.Or of two; PlanField.later, planCompareThings, PlanChange.thing, .field: their walks. -/
import Derived.Test.YtohgkiljdehefaaGreatGXc
import Derived.StillTailTactics
namespace Go.Proofs.YtohgkiljdehefaaGreat
open Go.RowKit
set_option linter.unusedSimpArgs false
set_option linter.unusedVariables false

def cmpI (x y : Int) : Int := if x < y then -1 else if y < x then 1 else 0
noncomputable def cmpS (x y : ByteArray) : Int := @ite _ (SLess x y) (Classical.propDecidable _) (-1) (@ite _ (x = y) (Classical.propDecidable _) 0 1)
def orI2 (a b : Int) : Int := if a ≠ 0 then a else b

theorem nanI (x : Int) (w : World) : Calls Tryz.prog 71 #[.int .i64 x] w fun e w' => e = .returned (.bool false) ∧ w' = w := by
  have hb : (x != x) = false := by simp
  go_enter Tryz.func71, Tryz.ntmps71
  go_wp2
  go_ret
  exact ⟨rfl, rfl⟩
theorem nanS (x : ByteArray) (w : World) : Calls Tryz.prog 72 #[.string x] w fun e w' => e = .returned (.bool false) ∧ w' = w := by
  have hb : (x.toList == x.toList) = true := beqL.2 rfl
  have hb2 : (x.toList != x.toList) = false := by simp
  go_enter Tryz.func72, Tryz.ntmps72
  go_wp2
  go_ret
  exact ⟨rfl, rfl⟩

theorem compare_int (x y : Int) (w : World) : Calls Tryz.prog 47 #[.int .i64 x, .int .i64 y] w fun e w' => e = .returned (.int .i64 (cmpI x y)) ∧ w' = w := by
  by_cases h1 : x < y
  · have hc : cmpI x y = -1 := by unfold cmpI; rw [if_pos h1]
    rw [hc]
    clear hc
    go_enter Tryz.func47, Tryz.ntmps47
    go_wp2
    go_ret
    exact ⟨rfl, rfl⟩
  · by_cases h2 : y < x
    · have hc : cmpI x y = 1 := by unfold cmpI; rw [if_neg h1, if_pos h2]
      rw [hc]
      clear hc
      go_enter Tryz.func47, Tryz.ntmps47
      go_wp2
      go_ret
      exact ⟨rfl, rfl⟩
    · have hc : cmpI x y = 0 := by unfold cmpI; rw [if_neg h1, if_neg h2]
      rw [hc]
      clear hc
      go_enter Tryz.func47, Tryz.ntmps47
      go_wp2
      go_ret
      exact ⟨rfl, rfl⟩

theorem cmpS_lt {x y : ByteArray} (h : SLess x y) : cmpS x y = -1 := by unfold cmpS; rw [if_pos h]
theorem cmpS_eq {x y : ByteArray} (h : ¬ SLess x y) (e : x = y) : cmpS x y = 0 := by unfold cmpS; rw [if_neg h, if_pos e]
theorem cmpS_gt {x y : ByteArray} (h : ¬ SLess x y) (e : ¬ x = y) : cmpS x y = 1 := by unfold cmpS; rw [if_neg h, if_neg e]

theorem compare_str (x y : ByteArray) (w : World) : Calls Tryz.prog 48 #[.string x, .string y] w fun e w' => e = .returned (.int .i64 (cmpS x y)) ∧ w' = w := by
  by_cases h1 : SLess x y
  · rw [cmpS_lt h1]
    have hl : Op.bytesLess x.toList y.toList = true := h1
    clear h1
    go_enter Tryz.func48, Tryz.ntmps48
    go_wp2_with (go_at_call 72; refine (nanS _ _).mono ?_; rintro e w' ⟨rfl, hw⟩; try subst hw)
    go_ret
    exact ⟨rfl, rfl⟩
  · have hl : Op.bytesLess x.toList y.toList = false := by unfold SLess at h1; simpa using h1
    by_cases h2 : x = y
    · rw [cmpS_eq h1 h2]
      have he : (x.toList == y.toList) = true := beqL.2 h2
      clear h1 h2
      go_enter Tryz.func48, Tryz.ntmps48
      go_wp2_with (go_at_call 72; refine (nanS _ _).mono ?_; rintro e w' ⟨rfl, hw⟩; try subst hw)
      go_ret
      exact ⟨rfl, rfl⟩
    · rw [cmpS_gt h1 h2]
      have he : (x.toList == y.toList) = false := beqL_no h2
      clear h1 h2
      go_enter Tryz.func48, Tryz.ntmps48
      go_wp2_with (go_at_call 72; refine (nanS _ _).mono ?_; rintro e w' ⟨rfl, hw⟩; try subst hw)
      go_ret
      exact ⟨rfl, rfl⟩

set_option maxHeartbeats 1000000 in
theorem or_two (g : Nat) (a b : Int) (w : World) (q0 : w.cell? ⟨g, 0, none⟩ = some (.int .i64 a)) (q1 : w.cell? ⟨g, 1, none⟩ = some (.int .i64 b)) :
    Calls Tryz.prog 46 #[.slice (some ⟨g, 0, none⟩) 2 2] w fun e w' => e = .returned (.int .i64 (orI2 a b)) ∧ w' = w := by
  go_enter Tryz.func46, Tryz.ntmps46
  go_wp2
  go_loop [8] (fun i => ∃ k : Nat, k ≤ 2 ∧ i = .int .i64 k ∧ Hid ((0 < k → a = 0) ∧ (1 < k → b = 0))) (fun i => 2 - (intOf i).toNat)
  case atStart => exact ⟨0, by omega, rfl, by omega, by omega⟩
  case round =>
    obtain ⟨k, hk, rfl, hall⟩ := hrel
    have hk' : k = 0 ∨ k = 1 ∨ k = 2 := by omega
    rcases hk' with rfl | rfl | rfl
    · by_cases h : a = 0
      · subst h
        go_wp2
        go_round
        case rel => exact ⟨1, by omega, by go_num, fun _ => by simp, by omega⟩
        case measure => simp [intOf]
      · have hb : (a != 0) = true := by simp [h]
        have HE : Hid (orI2 a b = a) := by show _ = _; unfold orI2; rw [if_pos h]
        go_wp2
        go_ret
        exact ⟨by rw [HE.out]; rfl, rfl⟩
    · have ha := hall.out.1 (by omega)
      by_cases h : b = 0
      · subst h
        clear ha
        go_wp2
        go_round
        case rel => exact ⟨2, by omega, by go_num, fun _ => hall.out.1 (by omega), fun _ => by simp⟩
        case measure => simp [intOf]
      · have hb : (b != 0) = true := by simp [h]
        have HE : Hid (orI2 a b = b) := by show _ = _; unfold orI2; rw [if_neg (by simp [ha])]
        clear ha
        go_wp2
        go_ret
        exact ⟨by rw [HE.out]; rfl, rfl⟩
    · have HE : Hid (orI2 a b = 0) := by show _ = _; unfold orI2; rw [if_neg (by simp [hall.out.1 (by omega)]), hall.out.2 (by omega)]
      go_wp2
      go_ret
      exact ⟨by rw [HE.out]; rfl, rfl⟩

/-- A region that draws its order, whose first n operations leave the world as it is and whose last ones wait for all others. -/
theorem region_tail2 {P : Program} {id : Nat} {Q : Exit → Act → World → Prop} {a : Act} {w : World} {l : List Oper} (n : Nat) (hm : P.follows .mixedOrders = true) (hB : Region.lexTailB .any l.toArray n = true)
    (h : wpStill P l.toArray w.drew (fun a' => wpList P l.toArray Q (l.drop n) a' w.drew) (l.take n) a) : (Code.region id l.toArray true).wp P Q a w :=
  wp_region_still_tail n hm hB h
theorem mixedF2 : Tryz.prog.follows .mixedOrders = true := by kernel_rfl

theorem later_iff (a b : DPlanField) : Later a b ↔ 0 < orI2 (cmpI a.2.1 b.2.1) (cmpS a.2.2 b.2.2) := by
  unfold Later orI2
  by_cases h1 : a.2.1 < b.2.1
  · have : cmpI a.2.1 b.2.1 = -1 := by unfold cmpI; rw [if_pos h1]
    rw [this]; simp; omega
  · by_cases h2 : b.2.1 < a.2.1
    · have : cmpI a.2.1 b.2.1 = 1 := by unfold cmpI; rw [if_neg h1, if_pos h2]
      rw [this]; simp; omega
    · have e : a.2.1 = b.2.1 := by omega
      have : cmpI a.2.1 b.2.1 = 0 := by unfold cmpI; rw [if_neg h1, if_neg h2]
      rw [this, e]
      simp only [ne_eq, not_true_eq_false, if_false, Int.lt_irrefl, false_or, true_and]
      by_cases h3 : SLess a.2.2 b.2.2
      · rw [cmpS_lt h3]; simp [h3]
      · by_cases h4 : a.2.2 = b.2.2
        · rw [cmpS_eq h3 h4]; simp [h4]
        · rw [cmpS_gt h3 h4]; simp [h3, h4]

set_option maxRecDepth 100000 in
set_option maxHeartbeats 1000000 in
theorem iLater (a b : DPlanField) (w : World) :
    Calls Tryz.prog 23 #[.agg #[.int .i64 a.1, .int .i64 a.2.1, .string a.2.2], .agg #[.int .i64 b.1, .int .i64 b.2.1, .string b.2.2]] w fun e w' => e = .returned (.bool (pb (Later a b))) ∧ Below w.heap.size w w' := by
  have HL : Hid (pb (Later a b) = decide (0 < orI2 (cmpI a.2.1 b.2.1) (cmpS a.2.2 b.2.2))) := by
    show _ = _
    by_cases h : Later a b
    · rw [pb_yes h, decide_eq_true ((later_iff a b).1 h)]
    · rw [pb_no h, decide_eq_false (fun h' => h ((later_iff a b).2 h'))]
  obtain ⟨a0, a1, a2⟩ := a
  obtain ⟨b0, b1, b2⟩ := b
  simp only at *
  go_enter Tryz.func23, Tryz.ntmps23
  go_wp2
  refine region_tail2 10 mixedF2 (by kernel_rfl) ?_
  simp only [List.take_succ_cons, List.take_zero, List.drop_succ_cons, List.drop_zero]
  still_step
  still_step
  still_step
  still_step
  still_call (compare_int _ _ _)
  still_step
  still_step
  still_step
  still_step
  still_call (compare_str _ _ _)
  refine wpStill_nil ?_
  go_wp2_with fail
  refine (or_two _ (cmpI a1 b1) (cmpS a2 b2) _ (by go_simp) (by go_simp)).mono ?_
  rintro e w1 ⟨rfl, rfl⟩
  go_wp2
  go_ret
  exact ⟨by rw [HL.out]; rfl, by repeat (first | exact Below.refl _ _ | refine Below.drew ?_ | refine Below.alloc ?_ (by simp; try omega) _)⟩

noncomputable def cmpT (a b : ByteArray × Int) : Int := orI2 (cmpS a.1 b.1) (cmpI a.2 b.2)

set_option maxRecDepth 100000 in
set_option maxHeartbeats 1000000 in
theorem iCmpT (a b : ByteArray × Int) (w : World) :
    Calls Tryz.prog 70 #[.agg #[.string a.1, .int .i64 a.2], .agg #[.string b.1, .int .i64 b.2]] w fun e w' => e = .returned (.int .i64 (cmpT a b)) ∧ Below w.heap.size w w' := by
  obtain ⟨a0, a1⟩ := a
  obtain ⟨b0, b1⟩ := b
  simp only [cmpT] at *
  go_enter Tryz.func70, Tryz.ntmps70
  go_wp2
  refine region_tail2 10 mixedF2 (by kernel_rfl) ?_
  simp only [List.take_succ_cons, List.take_zero, List.drop_succ_cons, List.drop_zero]
  still_step
  still_step
  still_step
  still_step
  still_call (compare_str _ _ _)
  still_step
  still_step
  still_step
  still_step
  still_call (compare_int _ _ _)
  refine wpStill_nil ?_
  go_wp2_with fail
  refine (or_two _ (cmpS a0 b0) (cmpI a1 b1) _ (by go_simp) (by go_simp)).mono ?_
  rintro e w1 ⟨rfl, rfl⟩
  go_wp2
  go_ret
  exact ⟨rfl, by repeat (first | exact Below.refl _ _ | refine Below.drew ?_ | refine Below.alloc ?_ (by simp; try omega) _)⟩

abbrev chCells (c : DChange) : Array Value := #[.string c.1, .int .i64 c.2.1, .int .i64 c.2.2.1, .string c.2.2.2]

set_option maxHeartbeats 1000000 in
theorem iThing (c : DChange) (w : World) :
    Calls Tryz.prog 69 #[.agg #[.string c.1, .int .i64 c.2.1, .int .i64 c.2.2.1, .string c.2.2.2]] w fun e w' => e = .returned (.agg #[.string c.1, .int .i64 c.2.1]) ∧ Below w.heap.size w w' := by
  go_enter Tryz.func69, Tryz.ntmps69
  go_wp2
  exact bodyPost_ret (v := .agg #[.string c.1, .int .i64 c.2.1]) (by simp [results, Tryz.results69, go_sem]) rfl ⟨rfl, by repeat (first | exact Below.refl _ _ | refine Below.alloc ?_ (by simp; try omega) _)⟩
set_option maxHeartbeats 1000000 in
theorem iField (c : DChange) (w : World) :
    Calls Tryz.prog 22 #[.agg #[.string c.1, .int .i64 c.2.1, .int .i64 c.2.2.1, .string c.2.2.2]] w fun e w' => e = .returned (.agg #[.int .i64 c.2.1, .int .i64 c.2.2.1, .string c.2.2.2]) ∧ Below w.heap.size w w' := by
  go_enter Tryz.func22, Tryz.ntmps22
  go_wp2
  exact bodyPost_ret (v := .agg #[.int .i64 c.2.1, .int .i64 c.2.2.1, .string c.2.2.2]) (by simp [results, Tryz.results22, go_sem]) rfl ⟨rfl, by repeat (first | exact Below.refl _ _ | refine Below.alloc ?_ (by simp; try omega) _)⟩

end Go.Proofs.YtohgkiljdehefaaGreat

/- DERIVED. The order of texts as a strict order; things of flights in order. -/
namespace Go.Proofs.YtohgkiljdehefaaGreat
open Go.RowKit
set_option linter.unusedSimpArgs false
set_option linter.unusedVariables false

theorem bl_lt : ∀ (x y : List UInt8), Op.bytesLess x y = true ↔ x < y
  | [], [] => by simp [Op.bytesLess]
  | _ :: _, [] => by simp [Op.bytesLess]
  | [], _ :: _ => by simp [Op.bytesLess]
  | a :: x, b :: y => by
    rw [Op.bytesLess, List.cons_lt_cons_iff]
    have ih := bl_lt x y
    simp [ih]
theorem sless_trans {a b c : ByteArray} (h1 : SLess a b) (h2 : SLess b c) : SLess a c := by
  unfold SLess at *
  rw [bl_lt] at *
  exact List.lt_trans h1 h2
theorem sless_irr (a : ByteArray) : ¬ SLess a a := fun h => by
  unfold SLess at h
  rw [bl_lt] at h
  exact List.lt_irrefl _ h
theorem sless_total {a b : ByteArray} (h : ¬ SLess a b) (he : ¬ a = b) : SLess b a := by
  unfold SLess at *
  rw [bl_lt] at *
  have h1 : b.toList ≤ a.toList := h
  rcases Classical.em (b.toList < a.toList) with h2 | h2
  · exact h2
  · have h3 : a.toList ≤ b.toList := h2
    exact absurd (beqL.1 (beq_iff_eq.2 (List.le_antisymm h3 h1))) he

/-- A thing of a flight. -/
abbrev Thing := ByteArray × Int
abbrev th (c : DChange) : Thing := (c.1, c.2.1)
def TLt (a b : Thing) : Prop := SLess a.1 b.1 ∨ (a.1 = b.1 ∧ a.2 < b.2)
theorem TLt.trans {a b c : Thing} (h : TLt a b) (k : TLt b c) : TLt a c := by
  rcases h with h | ⟨h, h'⟩
  · rcases k with k | ⟨k, k'⟩
    · exact .inl (sless_trans h k)
    · exact .inl (k ▸ h)
  · rcases k with k | ⟨k, k'⟩
    · exact .inl (h ▸ k)
    · exact .inr ⟨h.trans k, by omega⟩
theorem TLt.irr (a : Thing) : ¬ TLt a a := fun h => by
  rcases h with h | ⟨_, h⟩
  · exact sless_irr _ h
  · omega
theorem TLt.ne {a b : Thing} (h : TLt a b) : ¬ a = b := fun e => TLt.irr b (e ▸ h)
theorem cmpT_le {a b : Thing} (h : cmpT a b ≤ 0) : a = b ∨ TLt a b := by
  obtain ⟨a0, a1⟩ := a
  obtain ⟨b0, b1⟩ := b
  unfold cmpT orI2 at h
  simp only at h
  by_cases h1 : SLess a0 b0
  · exact .inr (.inl h1)
  · by_cases h2 : a0 = b0
    · rw [cmpS_eq h1 h2] at h
      simp only [ne_eq, not_true_eq_false, if_false] at h
      unfold cmpI at h
      subst h2
      by_cases h3 : a1 < b1
      · exact .inr (.inr ⟨rfl, h3⟩)
      · rw [if_neg h3] at h
        by_cases h4 : b1 < a1
        · rw [if_pos h4] at h; omega
        · left
          have : a1 = b1 := by omega
          rw [this]
    · rw [cmpS_gt h1 h2] at h
      simp at h
theorem cmpT_gt {a b : Thing} (h : ¬ cmpT a b ≤ 0) : TLt b a := by
  obtain ⟨a0, a1⟩ := a
  obtain ⟨b0, b1⟩ := b
  unfold cmpT orI2 at h
  simp only at h
  by_cases h1 : SLess a0 b0
  · rw [cmpS_lt h1] at h; simp at h
  · by_cases h2 : a0 = b0
    · rw [cmpS_eq h1 h2] at h
      simp only [ne_eq, not_true_eq_false, if_false] at h
      unfold cmpI at h
      by_cases h3 : a1 < b1
      · rw [if_pos h3] at h; omega
      · rw [if_neg h3] at h
        by_cases h4 : b1 < a1
        · exact .inr ⟨h2.symm, h4⟩
        · rw [if_neg h4] at h; omega
    · exact .inl (sless_total h1 h2)

end Go.Proofs.YtohgkiljdehefaaGreat

/- DERIVED. News, on plain data: what a walk through two books side by side tells is what the one says that the other does not know. -/
namespace Go.Proofs.YtohgkiljdehefaaGreat
open Go.RowKit
set_option linter.unusedSimpArgs false
set_option linter.unusedVariables false

/-- All that a book says, in its order. -/
def chs (es : List DPlanEntry) : List DChange := es.flatMap fun e => e.2.map fun f => (e.1, f)
noncomputable def notHas (es : List DPlanEntry) (c : DChange) : Bool := !pb (HasIt es c.1 c.2)
/-- What is news. -/
noncomputable def newsL (A B : List DPlanEntry) : List DChange := (chs B).filter (notHas A)

def zc : DChange := (⟨#[]⟩, 0, 0, ⟨#[]⟩)
noncomputable def nextT : List DChange → List DChange → Option Thing
  | [], [] => none
  | a :: _, [] => some (th a)
  | [], b :: _ => some (th b)
  | a :: _, b :: _ => some (if cmpT (th a) (th b) ≤ 0 then th a else th b)
noncomputable def passV (t : Thing) : List DChange → DChange
  | [] => zc
  | c :: _ => @ite _ (th c = t) (Classical.propDecidable _) c zc
noncomputable def passR (t : Thing) : List DChange → List DChange
  | [] => []
  | c :: r => @ite _ (th c = t) (Classical.propDecidable _) r (c :: r)
noncomputable def sbsF : Nat → List DChange → List DChange → List (DChange × DChange)
  | 0, _, _ => []
  | n + 1, A, B => match nextT A B with
    | none => []
    | some t => (passV t A, passV t B) :: sbsF n (passR t A) (passR t B)
noncomputable def newsP (l : List (DChange × DChange)) : List DChange := (l.filter fun p => pb (Later p.2.2 p.1.2)).map (·.2)

def Asc (l : List DChange) : Prop := l.Pairwise fun a b => TLt (th a) (th b)
def Num1 (l : List DChange) : Prop := ∀ c ∈ l, 1 ≤ c.2.2.1
/-- One of the list says this thing, and it is not behind it. -/
def HasL (A : List DChange) (c : DChange) : Prop := ∃ g ∈ A, th g = th c ∧ ¬ Later c.2 g.2

theorem passV_cons_yes {t : Thing} {c : DChange} {r : List DChange} (h : th c = t) : passV t (c :: r) = c := by simp only [passV]; exact if_pos h
theorem passV_cons_no {t : Thing} {c : DChange} {r : List DChange} (h : ¬ th c = t) : passV t (c :: r) = zc := by simp only [passV]; exact if_neg h
theorem passR_cons_yes {t : Thing} {c : DChange} {r : List DChange} (h : th c = t) : passR t (c :: r) = r := by simp only [passR]; exact if_pos h
theorem passR_cons_no {t : Thing} {c : DChange} {r : List DChange} (h : ¬ th c = t) : passR t (c :: r) = c :: r := by simp only [passR]; exact if_neg h
theorem passR_len (t : Thing) (l : List DChange) : (passR t l).length ≤ l.length := by
  cases l with
  | nil => exact Nat.le_refl _
  | cons c r =>
    by_cases h : th c = t
    · rw [passR_cons_yes h]; simp
    · rw [passR_cons_no h]; exact Nat.le_refl _
/-- What the next thing is: no head is ahead of it, and it is one of the heads. -/
theorem nextT_head {A B : List DChange} {t : Thing} (h : nextT A B = some t) : (∀ a r, A = a :: r → th a = t ∨ TLt t (th a)) ∧ (∀ b r, B = b :: r → th b = t ∨ TLt t (th b)) ∧ ((∃ a r, A = a :: r ∧ th a = t) ∨ (∃ b r, B = b :: r ∧ th b = t)) := by
  cases A with
  | nil =>
    cases B with
    | nil => simp [nextT] at h
    | cons b B =>
      simp only [nextT, Option.some.injEq] at h
      refine ⟨fun a r e => (by cases e), fun b' r e => by cases e; exact .inl h, .inr ⟨b, B, rfl, h⟩⟩
  | cons a A =>
    cases B with
    | nil =>
      simp only [nextT, Option.some.injEq] at h
      refine ⟨fun a' r e => by cases e; exact .inl h, fun b r e => (by cases e), .inl ⟨a, A, rfl, h⟩⟩
    | cons b B =>
      simp only [nextT, Option.some.injEq] at h
      by_cases hc : cmpT (th a) (th b) ≤ 0
      · rw [if_pos hc] at h
        refine ⟨fun a' r e => by cases e; exact .inl h, fun b' r e => ?_, .inl ⟨a, A, rfl, h⟩⟩
        cases e
        rcases cmpT_le hc with k | k
        · exact .inl (k.symm.trans h)
        · exact .inr (h ▸ k)
      · rw [if_neg hc] at h
        refine ⟨fun a' r e => ?_, fun b' r e => by cases e; exact .inl h, .inr ⟨b, B, rfl, h⟩⟩
        cases e
        exact .inr (h ▸ cmpT_gt hc)
theorem nextT_len {A B : List DChange} {t : Thing} (h : nextT A B = some t) : (passR t A).length + (passR t B).length < A.length + B.length := by
  have hA := passR_len t A
  have hB := passR_len t B
  rcases (nextT_head h).2.2 with ⟨a, r, rfl, e⟩ | ⟨b, r, rfl, e⟩
  · rw [passR_cons_yes e]; simp; omega
  · rw [passR_cons_yes e]; simp; omega
theorem asc_tail {t : Thing} {l : List DChange} (h : Asc l) : Asc (passR t l) := by
  cases l with
  | nil => exact h
  | cons c r =>
    by_cases e : th c = t
    · rw [passR_cons_yes e]; exact (List.pairwise_cons.1 h).2
    · rw [passR_cons_no e]; exact h
theorem num_tail {t : Thing} {l : List DChange} (h : Num1 l) : Num1 (passR t l) := by
  cases l with
  | nil => exact h
  | cons c r =>
    by_cases e : th c = t
    · rw [passR_cons_yes e]; exact fun x hx => h x (List.mem_cons_of_mem _ hx)
    · rw [passR_cons_no e]; exact h
/-- Behind a pass all things are behind the thing. -/
theorem rest_behind {t : Thing} {l : List DChange} (h : Asc l) (hh : ∀ a r, l = a :: r → th a = t ∨ TLt t (th a)) : ∀ c ∈ passR t l, TLt t (th c) := by
  cases l with
  | nil => intro c hc; simp [passR] at hc
  | cons a r =>
    have h2 := List.pairwise_cons.1 h
    by_cases e : th a = t
    · rw [passR_cons_yes e]
      intro c hc
      exact e ▸ h2.1 c hc
    · rw [passR_cons_no e]
      have h1 := (hh a r rfl).resolve_left e
      intro c hc
      rcases List.mem_cons.1 hc with rfl | hc
      · exact h1
      · exact h1.trans (h2.1 c hc)
theorem hasL_pass {t : Thing} {A : List DChange} {c : DChange} (hc : TLt t (th c)) : HasL A c ↔ HasL (passR t A) c := by
  cases A with
  | nil => exact Iff.rfl
  | cons a r =>
    by_cases e : th a = t
    · rw [passR_cons_yes e]
      constructor
      · rintro ⟨g, hg, h1, h2⟩
        rcases List.mem_cons.1 hg with rfl | hg
        · exact absurd (e.symm.trans h1) hc.ne
        · exact ⟨g, hg, h1, h2⟩
      · rintro ⟨g, hg, h1, h2⟩
        exact ⟨g, List.mem_cons_of_mem _ hg, h1, h2⟩
    · rw [passR_cons_no e]
theorem later_zc {c : DChange} (h : 1 ≤ c.2.2.1) : Later c.2 zc.2 := .inl (by show (0 : Int) < c.2.2.1; omega)
theorem zc_later {c : DChange} (h : 1 ≤ c.2.2.1) : ¬ Later zc.2 c.2 := fun k => by
  rcases k with k | ⟨k, _⟩
  · have k : c.2.2.1 < 0 := k; omega
  · have k : 0 = c.2.2.1 := k; omega
theorem not_later_self (f : DPlanField) : ¬ Later f f := fun h => by
  rcases h with h | ⟨_, _, h⟩
  · omega
  · exact h rfl

noncomputable def notL (A : List DChange) (c : DChange) : Bool := !pb (HasL A c)
theorem filter_same {A A' B : List DChange} (h : ∀ c ∈ B, HasL A c ↔ HasL A' c) : B.filter (notL A) = B.filter (notL A') := by
  apply List.filter_congr
  intro c hc
  unfold notL
  rw [pb_same (h c hc)]
theorem newsP_cons (p : DChange × DChange) (l : List (DChange × DChange)) : newsP (p :: l) = if pb (Later p.2.2 p.1.2) then p.2 :: newsP l else newsP l := by
  unfold newsP
  rw [List.filter_cons]
  split <;> rfl

theorem sbs_news : ∀ (n : Nat) (A B : List DChange), A.length + B.length ≤ n → Asc A → Asc B → Num1 A → Num1 B → newsP (sbsF n A B) = B.filter (notL A)
  | 0, A, B, hl, _, _, _, _ => by
    have : B = [] := List.eq_nil_of_length_eq_zero (by omega)
    subst this
    rfl
  | n + 1, A, B, hl, hA, hB, nA, nB => by
    unfold sbsF
    cases hn : nextT A B with
    | none =>
      simp only
      have : B = [] := by
        cases A <;> cases B <;> simp [nextT] at hn <;> rfl
      subst this
      rfl
    | some t =>
      simp only
      obtain ⟨h1, h2, h3⟩ := nextT_head hn
      have hlen := nextT_len hn
      have ih := sbs_news n (passR t A) (passR t B) (by omega) (asc_tail hA) (asc_tail hB) (num_tail nA) (num_tail nB)
      have hbB := rest_behind hB h2
      have hbA := rest_behind hA h1
      rw [newsP_cons, ih, ← filter_same (fun c hc => hasL_pass (hbB c hc))]
      simp only
      cases B with
      | nil =>
        -- only the first book has this thing
        have hz : ¬ Later (passV t []).2 (passV t A).2 := by
          rcases h3 with ⟨a, r, rfl, e⟩ | ⟨b, r, e, _⟩
          · rw [passV_cons_yes e]; exact zc_later (nA a List.mem_cons_self)
          · cases e
        rw [pb_no hz]
        rfl
      | cons b B =>
        by_cases e : th b = t
        · rw [passV_cons_yes e, passR_cons_yes e]
          have hb1 := nB b List.mem_cons_self
          have hq : pb (Later b.2 (passV t A).2) = notL A b := by
            unfold notL
            cases A with
            | nil =>
              rw [pb_yes (show Later b.2 (passV t []).2 from later_zc hb1), pb_no (by rintro ⟨g, hg, _⟩; cases hg)]
              rfl
            | cons a A =>
              by_cases ea : th a = t
              · rw [passV_cons_yes ea]
                have hiff : HasL (a :: A) b ↔ ¬ Later b.2 a.2 := by
                  constructor
                  · rintro ⟨g, hg, k1, k2⟩
                    rcases List.mem_cons.1 hg with rfl | hg
                    · exact k2
                    · exact absurd ((ea.trans e.symm).trans k1.symm) ((List.pairwise_cons.1 hA).1 g hg).ne
                  · intro k
                    exact ⟨a, List.mem_cons_self, ea.trans e.symm, k⟩
                rw [pb_same hiff]
                by_cases hl : Later b.2 a.2
                · rw [pb_yes hl, pb_no (fun k => k hl)]; rfl
                · rw [pb_no hl, pb_yes hl]; rfl
              · rw [passV_cons_no ea, pb_yes (later_zc hb1)]
                have : ¬ HasL (a :: A) b := by
                  rintro ⟨g, hg, k1, _⟩
                  have := hbA g (by rw [passR_cons_no ea]; exact hg)
                  exact this.ne (e.symm.trans k1.symm)
                rw [pb_no this]; rfl
          rw [hq, List.filter_cons]
        · rw [passV_cons_no e, passR_cons_no e]
          have hz : ¬ Later zc.2 (passV t A).2 := by
            rcases h3 with ⟨a, r, rfl, ea⟩ | ⟨b', r, eb, e'⟩
            · rw [passV_cons_yes ea]; exact zc_later (nA a List.mem_cons_self)
            · cases eb; exact absurd e' e
          rw [pb_no hz]
          rfl

/-! What a book that is ok says ascends, and each has a Number of at least 1. -/
theorem mem_chs {es : List DPlanEntry} {c : DChange} : c ∈ chs es ↔ ∃ e ∈ es, e.1 = c.1 ∧ c.2 ∈ e.2 := by
  unfold chs
  rw [List.mem_flatMap]
  constructor
  · rintro ⟨e, he, h⟩
    obtain ⟨f, hf, rfl⟩ := List.mem_map.1 h
    exact ⟨e, he, rfl, hf⟩
  · rintro ⟨e, he, h1, h2⟩
    exact ⟨e, he, List.mem_map.2 ⟨c.2, h2, by rw [h1]⟩⟩
theorem pairwise_of_next {α : Type} {R : α → α → Prop} (hT : ∀ a b c, R a b → R b c → R a c) : ∀ (l : List α), (∀ j (h : j < l.length) (h0 : 0 < j), R (l[j - 1]'(by omega)) (l[j]'h)) → l.Pairwise R
  | [], _ => List.Pairwise.nil
  | [_], _ => List.pairwise_singleton _ _
  | a :: b :: l, h => by
    have hab : R a b := h 1 (by simp) (by omega)
    have ih := pairwise_of_next hT (b :: l) (fun j hj h0 => by
      have := h (j + 1) (by simp at hj ⊢; omega) (by omega)
      obtain ⟨j', rfl⟩ : ∃ j', j = j' + 1 := ⟨j - 1, by omega⟩
      simpa using this)
    refine List.pairwise_cons.2 ⟨fun c hc => ?_, ih⟩
    rcases List.mem_cons.1 hc with rfl | hc
    · exact hab
    · exact hT a b c hab ((List.pairwise_cons.1 ih).1 c hc)
theorem book_asc {bk : DPlanBook} (hb : BookOk bk) : Asc (chs bk.2) := by
  have h := hb.2.2
  clear hb
  have hE : bk.2.Pairwise fun a b : DPlanEntry => SLess a.1 b.1 := pairwise_of_next (R := fun a b : DPlanEntry => SLess a.1 b.1) (fun _ _ _ => sless_trans) _ (fun j hj h0 => (h j hj hj).2 h0)
  have hok : ∀ e ∈ bk.2, EntOk bk.1 e := fun e he => by
    obtain ⟨j, hj, rfl⟩ := List.getElem_of_mem he
    exact (h j hj hj).1
  generalize bk.2 = es at *
  clear h
  induction es with
  | nil => exact List.Pairwise.nil
  | cons e es ih =>
    have h2 := List.pairwise_cons.1 hE
    have he := hok e List.mem_cons_self
    unfold Asc chs
    rw [List.flatMap_cons, List.pairwise_append]
    refine ⟨?_, ih h2.2 (fun x hx => hok x (List.mem_cons_of_mem _ hx)), ?_⟩
    · rw [List.pairwise_map]
      have := pairwise_of_next (R := fun a b : DPlanField => a.1 < b.1) (fun _ _ _ h k => by omega) e.2 (fun j hj h0 => (he.2.2 j hj hj).2 h0)
      exact this.imp (fun h => .inr ⟨rfl, h⟩)
    · intro a ha b hb
      obtain ⟨f, _, rfl⟩ := List.mem_map.1 ha
      obtain ⟨e', he', h3, _⟩ := mem_chs.1 hb
      exact .inl (h3 ▸ h2.1 e' he')
theorem book_num {bk : DPlanBook} (h : BookOk bk) : Num1 (chs bk.2) := fun c hc => by
  obtain ⟨e, he, h1, h2⟩ := mem_chs.1 hc
  obtain ⟨j, hj, rfl⟩ := List.getElem_of_mem he
  obtain ⟨i, hi, h3⟩ := List.getElem_of_mem h2
  have := ((h.2.2 j hj hj).1.2.2 i hi hi).1.2.1.1
  rw [h3] at this
  exact this
/-- Looked up entry by entry, or thing by thing. -/
theorem hasIt_iff {bk : DPlanBook} (h : BookOk bk) (c : DChange) : HasIt bk.2 c.1 c.2 ↔ HasL (chs bk.2) c := by
  have hA := book_asc h
  constructor
  · rintro ⟨k, hk, _, h2, m, hm, _, h4, h5⟩
    refine ⟨(c.1, (bk.2[k]'hk).2[m]'hm), mem_chs.2 ⟨_, List.getElem_mem hk, h2, List.getElem_mem hm⟩, ?_, h5⟩
    show (c.1, _) = (c.1, _)
    rw [h4]
  · rintro ⟨g, hg, h1, h2⟩
    obtain ⟨e, he, h3, h4⟩ := mem_chs.1 hg
    obtain ⟨k, hk, rfl⟩ := List.getElem_of_mem he
    obtain ⟨m, hm, h5⟩ := List.getElem_of_mem h4
    have h1' : (g.1, g.2.1) = (c.1, c.2.1) := h1
    have e1 : g.1 = c.1 := (Prod.mk.inj h1').1
    have e2 : g.2.1 = c.2.1 := (Prod.mk.inj h1').2
    have hnm : NoNm nmE bk.2 c.1 k := fun i hi hik hc => by
      have hE : bk.2.Pairwise fun a b : DPlanEntry => SLess a.1 b.1 := pairwise_of_next (R := fun a b : DPlanEntry => SLess a.1 b.1) (fun _ _ _ => sless_trans) _ (fun j hj h0 => (h.2.2 j hj hj).2 h0)
      have hlt := List.pairwise_iff_getElem.1 hE i k hi hk hik
      rw [show (bk.2[i]'hi).1 = c.1 from hc, h3, e1] at hlt
      exact sless_irr _ hlt
    have hfl : NoFld (bk.2[k]'hk).2 c.2.1 m := fun i hi him hc => by
      have hF := pairwise_of_next (R := fun a b : DPlanField => a.1 < b.1) (fun _ _ _ h k => by omega) (bk.2[k]'hk).2 (fun j hj h0 => ((h.2.2 k hk hk).1.2.2 j hj hj).2 h0)
      have hlt := List.pairwise_iff_getElem.1 hF i m hi hm him
      rw [hc, h5, e2] at hlt
      omega
    exact ⟨k, hk, hnm, h3.trans e1, m, hm, hfl, by rw [h5]; exact e2, by rw [h5]; exact h2⟩
theorem news_same {a b : DPlanBook} (ha : BookOk a) (hb : BookOk b) (n : Nat) (hn : (chs a.2).length + (chs b.2).length ≤ n) : newsP (sbsF n (chs a.2) (chs b.2)) = newsL a.2 b.2 := by
  rw [sbs_news n _ _ hn (book_asc ha) (book_asc hb) (book_num ha) (book_num hb)]
  unfold newsL
  apply List.filter_congr
  intro c _
  unfold notL notHas
  rw [pb_same (hasIt_iff ha c)]

end Go.Proofs.YtohgkiljdehefaaGreat
