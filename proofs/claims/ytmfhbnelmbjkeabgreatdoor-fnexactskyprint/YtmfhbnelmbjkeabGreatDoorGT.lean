import Derived.Test.YtmfhbnelmbjkeabGreatDoorSkyD
import Derived.Test.YtmfhbnelmbjkeabGreatDoorIT0
import Derived.Test.YtmfhbnelmbjkeabGreatDoorGW
import Derived.Test.YtmfhbnelmbjkeabGreatDoorVw1
import Derived.RegionTactic
import Derived.Test.YtmfhbnelmbjkeabGreatDoorIS3
import Derived.Test.YtmfhbnelmbjkeabGreatDoorIV0

/- DERIVED. The text of a sky, on plain data. -/
namespace Go.Proofs.YtmfhbnelmbjkeabGreatDoor
open Go.RowKit
set_option linter.unusedSimpArgs false
set_option linter.unusedVariables false

abbrev kSky : List UInt8 := [115, 107, 121]
abbrev kPoint : List UInt8 := [112, 111, 105, 110, 116]
abbrev kAirway : List UInt8 := [97, 105, 114, 119, 97, 121]
abbrev kSector : List UInt8 := [115, 101, 99, 116, 111, 114]
abbrev kRunway : List UInt8 := [114, 117, 110, 119, 97, 121]

def hdLine (W H L : Int) : List UInt8 := lineW ([kSky] ++ decsL [W, H, L])
def ptLine (p : DSkyPoint) : List UInt8 := lineW ([kPoint, p.1.data.toList] ++ decsL [p.2.1, p.2.2])
def awLine (a : DSkyAirway) : List UInt8 := lineW ([kAirway, a.1.data.toList] ++ a.2.map (·.data.toList))
def blLine (n : ByteArray) (b : DSkyBlock) : List UInt8 := lineW ([kSector, n.data.toList] ++ decsL [b.1, b.2.1, b.2.2.1, b.2.2.2.1, b.2.2.2.2.1, b.2.2.2.2.2])
def scLines (s : DSkySector) : List UInt8 := s.2.flatMap (blLine s.1)
def rwLine (r : DSkyRunway) : List UInt8 := lineW [kRunway, r.1.data.toList, Lib.decDigits r.2.1.toNat, Lib.decDigits r.2.2.1.toNat, (wordT (r.2.2.2 - 1).toNat).data.toList]

def T1 (W H L : Int) (ps : List DSkyPoint) (k : Nat) : List UInt8 := hdLine W H L ++ (ps.take k).flatMap ptLine
def T2 (W H L : Int) (ps : List DSkyPoint) (aw : List DSkyAirway) (k : Nat) : List UInt8 := T1 W H L ps ps.length ++ (aw.take k).flatMap awLine
def T3 (W H L : Int) (ps : List DSkyPoint) (aw : List DSkyAirway) (ss : List DSkySector) (k : Nat) : List UInt8 := T2 W H L ps aw aw.length ++ (ss.take k).flatMap scLines
def T3b (W H L : Int) (ps : List DSkyPoint) (aw : List DSkyAirway) (ss : List DSkySector) (i : Nat) (s : DSkySector) (k : Nat) : List UInt8 := T3 W H L ps aw ss i ++ (s.2.take k).flatMap (blLine s.1)
def T4 (W H L : Int) (ps : List DSkyPoint) (aw : List DSkyAirway) (ss : List DSkySector) (rs : List DSkyRunway) (k : Nat) : List UInt8 := T3 W H L ps aw ss ss.length ++ (rs.take k).flatMap rwLine

theorem flat_take {α : Type} (f : α → List UInt8) (l : List α) (k : Nat) (h : k < l.length) : (l.take (k + 1)).flatMap f = (l.take k).flatMap f ++ f (l[k]'h) := by
  rw [List.take_succ_eq_append_getElem h, List.flatMap_append, List.flatMap_cons, List.flatMap_nil, List.append_nil]

theorem T1_succ (W H L : Int) (ps : List DSkyPoint) (k : Nat) (h : k < ps.length) : T1 W H L ps (k + 1) = T1 W H L ps k ++ ptLine (ps[k]'h) := by
  simp only [T1, flat_take _ _ _ h, List.append_assoc]
theorem T2_succ (W H L : Int) (ps : List DSkyPoint) (aw : List DSkyAirway) (k : Nat) (h : k < aw.length) : T2 W H L ps aw (k + 1) = T2 W H L ps aw k ++ awLine (aw[k]'h) := by
  simp only [T2, flat_take _ _ _ h, List.append_assoc]
theorem T3_succ (W H L : Int) (ps : List DSkyPoint) (aw : List DSkyAirway) (ss : List DSkySector) (k : Nat) (h : k < ss.length) : T3 W H L ps aw ss (k + 1) = T3b W H L ps aw ss k (ss[k]'h) (ss[k]'h).2.length := by
  simp only [T3, T3b, flat_take _ _ _ h, List.append_assoc, List.take_length, scLines]
theorem T3b_succ (W H L : Int) (ps : List DSkyPoint) (aw : List DSkyAirway) (ss : List DSkySector) (i : Nat) (s : DSkySector) (k : Nat) (h : k < s.2.length) : T3b W H L ps aw ss i s (k + 1) = T3b W H L ps aw ss i s k ++ blLine s.1 (s.2[k]'h) := by
  simp only [T3b, flat_take _ _ _ h, List.append_assoc]
theorem T4_succ (W H L : Int) (ps : List DSkyPoint) (aw : List DSkyAirway) (ss : List DSkySector) (rs : List DSkyRunway) (k : Nat) (h : k < rs.length) : T4 W H L ps aw ss rs (k + 1) = T4 W H L ps aw ss rs k ++ rwLine (rs[k]'h) := by
  simp only [T4, flat_take _ _ _ h, List.append_assoc]
theorem T1_zero (W H L : Int) (ps : List DSkyPoint) : T1 W H L ps 0 = hdLine W H L := by simp [T1]
theorem T2_zero (W H L : Int) (ps : List DSkyPoint) (aw : List DSkyAirway) : T2 W H L ps aw 0 = T1 W H L ps ps.length := by simp [T2]
theorem T3_zero (W H L : Int) (ps : List DSkyPoint) (aw : List DSkyAirway) (ss : List DSkySector) : T3 W H L ps aw ss 0 = T2 W H L ps aw aw.length := by simp [T3]
theorem T3b_zero (W H L : Int) (ps : List DSkyPoint) (aw : List DSkyAirway) (ss : List DSkySector) (i : Nat) (s : DSkySector) : T3b W H L ps aw ss i s 0 = T3 W H L ps aw ss i := by simp [T3b]
theorem T4_zero (W H L : Int) (ps : List DSkyPoint) (aw : List DSkyAirway) (ss : List DSkySector) (rs : List DSkyRunway) : T4 W H L ps aw ss rs 0 = T3 W H L ps aw ss ss.length := by simp [T4]

/-- Words behind a first one, each behind a space. -/
def spW (ws : List (List UInt8)) : List UInt8 := ws.flatMap fun w => 32 :: w
theorem lineW_cons (a : List UInt8) (r : List (List UInt8)) : lineW (a :: r) = a ++ (spW r ++ [10]) := by
  rw [lineW, Lib.join_cons, Lib.joinTail, spW, List.flatMap_def, List.append_assoc]
  rfl
theorem spW_app (a b : List (List UInt8)) : spW (a ++ b) = spW a ++ spW b := by simp [spW]
theorem spW_cons (a : List UInt8) (b : List (List UInt8)) : spW (a :: b) = 32 :: (a ++ spW b) := by simp [spW]
theorem spW_nil : spW [] = [] := rfl

def Sm (n : Int) : Prop := 0 ≤ n ∧ n < 100
theorem decI_len {n : Int} (h : Sm n) : (Lib.decDigits n.toNat).length ≤ 2 := dec_len (by have := h.1; have := h.2; omega)

theorem name_len (s : ByteArray) : s.data.toList.length = s.size := by rw [Array.length_toList]; rfl

theorem hd_len {W H L : Int} (hW : Sm W) (hH : Sm H) (hL : Sm L) : (hdLine W H L).length ≤ 50 := by
  have h1 := decI_len hW
  have h2 := decI_len hH
  have h3 := decI_len hL
  simp only [hdLine, decsL, List.map, List.cons_append, List.nil_append, lineW_cons, spW_cons, spW_nil, List.length_append, List.length_cons, List.length_nil]
  omega
theorem pt_len {p : DSkyPoint} (hn : p.1.size ≤ 8) (hX : Sm p.2.1) (hY : Sm p.2.2) : (ptLine p).length ≤ 50 := by
  have h1 := decI_len hX
  have h2 := decI_len hY
  simp only [ptLine, decsL, List.map, List.cons_append, List.nil_append, lineW_cons, spW_cons, spW_nil, List.length_append, List.length_cons, List.length_nil, name_len]
  omega
theorem spW_len (ws : List (List UInt8)) (h : ∀ w ∈ ws, w.length ≤ 8) : (spW ws).length ≤ 9 * ws.length := by
  induction ws with
  | nil => simp [spW]
  | cons a r ih =>
    have := ih fun w hw => h w (List.mem_cons_of_mem _ hw)
    have := h a List.mem_cons_self
    rw [spW_cons]
    simp only [List.length_cons, List.length_append]
    omega
theorem aw_len {a : DSkyAirway} (hn : a.1.size ≤ 8) (hl : a.2.length ≤ 8) (hp : ∀ n ∈ a.2, n.size ≤ 8) : (awLine a).length ≤ 200 := by
  have h1 := spW_len (a.2.map (·.data.toList)) (by
    intro w hw
    obtain ⟨n, h1, rfl⟩ := List.mem_map.1 hw
    rw [name_len]
    exact hp n h1)
  simp only [awLine, List.cons_append, List.nil_append, lineW_cons, spW_cons, spW_nil, List.length_append, List.length_cons, List.length_nil, name_len]
  rw [List.length_map] at h1
  omega
theorem bl_len {n : ByteArray} {b : DSkyBlock} (hn : n.size ≤ 8) (h1 : Sm b.1) (h2 : Sm b.2.1) (h3 : Sm b.2.2.1) (h4 : Sm b.2.2.2.1) (h5 : Sm b.2.2.2.2.1) (h6 : Sm b.2.2.2.2.2) : (blLine n b).length ≤ 50 := by
  have h1 := decI_len h1
  have h2 := decI_len h2
  have h3 := decI_len h3
  have h4 := decI_len h4
  have h5 := decI_len h5
  have h6 := decI_len h6
  simp only [blLine, decsL, List.map, List.cons_append, List.nil_append, lineW_cons, spW_cons, spW_nil, List.length_append, List.length_cons, List.length_nil, name_len]
  omega
theorem rw_len {r : DSkyRunway} (hn : r.1.size ≤ 8) (h1 : Sm r.2.1) (h2 : Sm r.2.2.1) (h3 : (wordT (r.2.2.2 - 1).toNat).size ≤ 2) : (rwLine r).length ≤ 50 := by
  have h1 := decI_len h1
  have h2 := decI_len h2
  simp only [rwLine, lineW_cons, spW_cons, spW_nil, List.length_append, List.length_cons, List.length_nil, name_len]
  omega

/-- What a valid sky says of its parts. -/
theorem sm_of_in {n m : Int} (h : InR n 0 (m - 1)) (hm : InR m 1 16) : Sm n := by
  obtain ⟨h1, h2⟩ := h
  obtain ⟨h3, h4⟩ := hm
  exact ⟨h1, by omega⟩

structure FineSky (W H L : Int) (ps : List DSkyPoint) (aw : List DSkyAirway) (ss : List DSkySector) (rs : List DSkyRunway) : Prop where
  w : Sm W
  h : Sm H
  l : Sm L
  pl : ps.length ≤ 16
  p : ∀ k (hk : k < ps.length), (ps[k]'hk).1.size ≤ 8 ∧ Sm (ps[k]'hk).2.1 ∧ Sm (ps[k]'hk).2.2
  al : aw.length ≤ 8
  a : ∀ k (hk : k < aw.length), (aw[k]'hk).1.size ≤ 8 ∧ 2 ≤ (aw[k]'hk).2.length ∧ (aw[k]'hk).2.length ≤ 8 ∧ ∀ j (hj : j < (aw[k]'hk).2.length), ((aw[k]'hk).2[j]'hj).size ≤ 8
  sl : ss.length ≤ 6
  s : ∀ k (hk : k < ss.length), (ss[k]'hk).1.size ≤ 8 ∧ (ss[k]'hk).2.length ≤ 4 ∧ ∀ j (hj : j < (ss[k]'hk).2.length), Sm ((ss[k]'hk).2[j]'hj).1 ∧ Sm ((ss[k]'hk).2[j]'hj).2.1 ∧ Sm ((ss[k]'hk).2[j]'hj).2.2.1 ∧ Sm ((ss[k]'hk).2[j]'hj).2.2.2.1 ∧ Sm ((ss[k]'hk).2[j]'hj).2.2.2.2.1 ∧ Sm ((ss[k]'hk).2[j]'hj).2.2.2.2.2
  rl : rs.length ≤ 4
  r : ∀ k (hk : k < rs.length), (rs[k]'hk).1.size ≤ 8 ∧ Sm (rs[k]'hk).2.1 ∧ Sm (rs[k]'hk).2.2.1 ∧ 1 ≤ (rs[k]'hk).2.2.2 ∧ (rs[k]'hk).2.2.2 ≤ 8

theorem fine_of_valid {W H L : Int} {ps : List DSkyPoint} {aw : List DSkyAirway} {ss : List DSkySector} {rs : List DSkyRunway} (v : ValidSky (W, H, L, ps, aw, ss, rs)) : FineSky W H L ps aw ss rs := by
  obtain ⟨⟨hW, hH, hL⟩, hp, ha, hs, _, hr⟩ := v
  dsimp only at hW hH hL hp ha hs hr
  have hps : ∀ k (hk : k < ps.length), (ps[k]'hk).1.size ≤ 8 ∧ Sm (ps[k]'hk).2.1 ∧ Sm (ps[k]'hk).2.2 := fun k hk =>
    ⟨(hp.2 k hk).1.2.1, sm_of_in (hp.2 k hk).2.2.1 hW, sm_of_in (hp.2 k hk).2.2.2.1 hH⟩
  refine ⟨⟨by have := hW.1; omega, by have := hW.2; omega⟩, ⟨by have := hH.1; omega, by have := hH.2; omega⟩, ⟨by have := hL.1; omega, by have := hL.2; omega⟩, hp.1, hps, ha.1, fun k hk => ?_, hs.1, fun k hk => ?_, hr.1, fun k hk => ?_⟩
  · obtain ⟨h1, _, h2, h3, h4⟩ := ha.2 k hk
    refine ⟨h1.2.1, h2, h3, fun j hj => ?_⟩
    obtain ⟨⟨i, hi, e⟩, _⟩ := h4 j hj
    rw [← e]
    exact (hps i hi).1
  · obtain ⟨h1, _, _, h3, h4⟩ := hs.2 k hk
    refine ⟨h1.2.1, h3, fun j hj => ?_⟩
    obtain ⟨⟨⟨a1, a2, a3⟩, ⟨b1, b2, b3⟩, ⟨c1, c2, c3⟩⟩, _⟩ := h4 j hj
    have := hW.2
    have := hH.2
    have := hL.2
    exact ⟨⟨a1, by omega⟩, ⟨b1, by omega⟩, ⟨by omega, by omega⟩, ⟨by omega, by omega⟩, ⟨by omega, by omega⟩, ⟨by omega, by omega⟩⟩
  · obtain ⟨h1, _, h2, h3, h4, _⟩ := hr.2 k hk
    exact ⟨h1.2.1, sm_of_in h2 hW, sm_of_in h3 hH, h4.1, h4.2⟩

end Go.Proofs.YtmfhbnelmbjkeabGreatDoor

/- DERIVED. A region that draws its order and lays blocks: what reads the same in every world of a class is taken first. -/
namespace Go.Proofs.YtmfhbnelmbjkeabGreatDoor
open Go.RowKit
set_option linter.unusedSimpArgs false
set_option linter.unusedVariables false

section
variable {P : Program} {ops : Array Oper} {md : Region.Mode} {Q : Exit → Act → World → Prop} {C : World → Prop}

/-- Every order of the region goes well, and every world on the way is of the class. -/
def wpAnyC (P : Program) (md : Region.Mode) (ops : Array Oper) (C : World → Prop) (Q : Exit → Act → World → Prop) : Nat → Array Bool → Act → World → Prop
  | 0, listed, a, w => Region.ready md ops listed = [] ∧ Q .normal a w
  | n + 1, listed, a, w => (Region.ready md ops listed = [] → Q .normal a w) ∧ ∀ i ∈ Region.ready md ops listed, wpOp P ops Q i (fun a' w' => C w' ∧ wpAnyC P md ops C Q n (listed.setIfInBounds i true) a' w') a w

theorem wpAny_of_C : ∀ (n : Nat) (listed : Array Bool) (a : Act) (w : World), wpAnyC P md ops C Q n listed a w → wpAny P md ops Q n listed a w
  | 0, _, _, _, h => h
  | n + 1, listed, a, w, h => ⟨h.1, fun i hi => wpOp_mono (fun a' w' h' => wpAny_of_C n _ a' w' h'.2) (h.2 i hi)⟩

/-- An operation that yields v in every world of the class. -/
def YC (P : Program) (ops : Array Oper) (C : World → Prop) (o : Oper) (v : Value) (a : Act) : Prop :=
  (Region.wanted o (yielded ops a.tmps) = true ∧ ∀ w, C w → (execOp a.eval o).run P w = .ok (.value v) w) ∨ (Region.wanted o (yielded ops a.tmps) = false ∧ v = undef)

theorem YC.step {i : Nat} {o : Oper} {v : Value} {a : Act} (hi : ops[i]? = some o) (hy : YC P ops C o v a) {K : Act → World → Prop} {w : World} (hC : C w) (h : K (a.put o.dst v) w) : wpOp P ops Q i K a w := by
  unfold wpOp
  simp only [hi]
  rcases hy with ⟨h1, h2⟩ | ⟨h1, rfl⟩
  · simp only [h1, if_true, Oper.wp, h2 w hC, Oper.upon]
    exact .inl h
  · simp only [h1, Bool.false_eq_true, if_false]
    exact h

theorem YC.same {o : Oper} {v : Value} {a a' : Act} (hy : YC P ops C o v a) (he : execOp a'.eval o = execOp a.eval o) (hw : Region.wanted o (yielded ops a'.tmps) = Region.wanted o (yielded ops a.tmps)) : YC P ops C o v a' := by
  unfold YC at *
  rw [he, hw]
  exact hy

theorem wpOp_putC {j : Nat} {oi oj : Oper} {v : Value} (hj : ops[j]? = some oj) (hap : oi.apart ops oj = true) (hsi : ∀ cs b, oi.op ≠ .select cs b) (hsj : ∀ cs b, oj.op ≠ .select cs b)
    (hQ : ∀ c a w, Q (.panic c) (a.put oi.dst v) w → Q (.panic c) a w) {K : Act → World → Prop} {a : Act} {w : World} (hy : YC P ops C oi v a) (h : wpOp P ops Q j K (a.put oi.dst v) w) :
    wpOp P ops Q j (fun a' w' => YC P ops C oi v a' ∧ K (a'.put oi.dst v) w') a w := by
  obtain ⟨p1, p2, p3⟩ := Oper.apart_spec hap
  have kp : ∀ (a : Act), YC P ops C oi v a → ∀ u, YC P ops C oi v (a.put oj.dst u) := fun a hy u => hy.same (execOp_put oi hsi a oj.dst u p3) (wanted_put oi a oj.dst u p3)
  have kd : ∀ d, YC P ops C oi v { a with defers := d :: a.defers } := fun d => hy.same rfl rfl
  unfold wpOp at *
  simp only [hj] at *
  rw [wanted_put oj a oi.dst v p1] at h
  split
  · rename_i hw
    simp only [hw, if_true] at h
    rcases h with h | ⟨h4, h5⟩
    case inr => exact .inr ⟨by unfold Oper.asks at *; rw [execOp_put oj hsj a oi.dst v p1] at h4; exact h4, h5⟩
    refine .inl ?_
    unfold Oper.wp at *
    rw [execOp_put oj hsj a oi.dst v p1] at h
    generalize (execOp a.eval oj).run P w = r at *
    cases r with
    | ok n w' =>
      cases n <;> simp only [Oper.upon] at h ⊢
      case value u => exact ⟨kp a hy u, by rw [← Act.put_comm a v u p2]; exact h⟩
      case skip => exact ⟨kp a hy _, by rw [← Act.put_comm a v undef p2]; exact h⟩
      case defer d =>
        refine ⟨kp _ (kd d) _, ?_⟩
        rw [← Act.put_comm _ v undef p2, ← Act.put_defers]
        exact h
      case enter f args =>
        refine Calls.mono h fun e w'' he => ?_
        cases e with
        | returned u => exact ⟨kp a hy u, by rw [← Act.put_comm a v u p2]; exact he⟩
        | panicked c => exact hQ _ _ _ he
        | outgrown => exact he
      case row row args => exact Rows.mono h fun u w'' he => ⟨kp a hy u, by rw [← Act.put_comm a v u p2]; exact he⟩
    | halt x w' =>
      cases x <;> simp only [Oper.upon] at h ⊢
      case panic u => exact hQ _ _ _ h
  · rename_i hw
    simp only [hw] at h
    exact ⟨kp a hy _, by rw [← Act.put_comm a v undef p2]; exact h⟩

theorem wpAnyC_first {i : Nat} {oi : Oper} {v : Value} (hi : ops[i]? = some oi) (hsel : ∀ (j : Nat) (o : Oper) cs b, ops[j]? = some o → o.op ≠ .select cs b)
    (hQ : ∀ c a w, Q (.panic c) (a.put oi.dst v) w → Q (.panic c) a w) :
    ∀ (n : Nat) (listed : Array Bool) (a : Act) (w : World),
      (∀ j oj, ops[j]? = some oj → j ≠ i → listed.getD j true = false → (∀ e ∈ oj.after, Region.binds md e = true → e.on ≠ i) → oi.apart ops oj = true) →
      i ∈ Region.ready md ops listed → YC P ops C oi v a → C w →
      wpAnyC P md ops C Q n (listed.setIfInBounds i true) (a.put oi.dst v) w → wpAnyC P md ops C Q (n + 1) listed a w := by
  intro n
  induction n with
  | zero =>
    intro listed a w _ hr hy hC H
    refine ⟨fun h => (by rw [h] at hr; cases hr), fun j hj => ?_⟩
    by_cases hji : j = i
    · subst hji; exact hy.step hi hC ⟨hC, H⟩
    · have := ready_mono hj hji
      rw [H.1] at this
      cases this
  | succ n ih =>
    intro listed a w hfree hr hy hC H
    refine ⟨fun h => (by rw [h] at hr; cases hr), fun j hj => ?_⟩
    by_cases hji : j = i
    · subst hji; exact hy.step hi hC ⟨hC, H⟩
    · have h1 := H.2 j (ready_mono hj hji)
      obtain ⟨hjun, oj, hoj, hall⟩ := mem_ready.1 hj
      have hnot : ∀ e ∈ oj.after, Region.binds md e = true → e.on ≠ i := fun e he hb heq => by
        have h1 := hall e he hb
        have h0 := (mem_ready.1 hr).1
        rw [heq] at h1
        rcases Nat.lt_or_ge i listed.size with h' | h'
        · simp [h'] at h0 h1; rw [h0] at h1; cases h1
        · simp [Array.getElem?_eq_none h'] at h1
      have h2 := wpOp_putC hoj (hfree j oj hoj hji hjun hnot) (fun cs b => hsel i oi cs b hi) (fun cs b => hsel j oj cs b hoj) hQ hy h1
      have hfree' : ∀ k ok, ops[k]? = some ok → k ≠ i → (listed.setIfInBounds j true).getD k true = false → (∀ e ∈ ok.after, Region.binds md e = true → e.on ≠ i) → oi.apart ops ok = true := fun k ok hk hki hun hno => by
        refine hfree k ok hk hki ?_ hno
        by_cases hjk : j = k
        · subst hjk; exact hjun
        · rw [getD_set_ne true hjk] at hun; exact hun
      refine wpOp_mono (fun a' w' h3 => ⟨h3.2.1, ih (listed.setIfInBounds j true) a' w' hfree' (ready_mono hr (Ne.symm hji)) h3.1 h3.2.1 ?_⟩) h2
      rw [Array.setIfInBounds_comm _ _ hji]
      exact h3.2.2

/-- A region's state, behind a structure (so that nothing runs down it). -/
structure RC (P : Program) (md : Region.Mode) (ops : Array Oper) (C : World → Prop) (Q : Exit → Act → World → Prop) (n : Nat) (listed : Array Bool) (a : Act) (w : World) : Prop where
  out : wpAnyC P md ops C Q n listed a w

theorem RC.take {i : Nat} {oi : Oper} {v : Value} {n : Nat} {listed : Array Bool} {a : Act} {w : World} (hi : ops[i]? = some oi) (hs : Region.noSelect ops = true) (hf : Region.free md ops listed i = true) (hr : (Region.ready md ops listed).contains i = true)
    (hQ : ∀ c a w, Q (.panic c) (a.put oi.dst v) w → Q (.panic c) a w) (hC : C w) (hw : Region.wanted oi (yielded ops a.tmps) = true) (hy : ∀ w, C w → (execOp a.eval oi).run P w = .ok (.value v) w)
    (h : RC P md ops C Q n (listed.setIfInBounds i true) (a.put oi.dst v) w) : RC P md ops C Q (n + 1) listed a w :=
  ⟨wpAnyC_first hi (Region.noSelect_spec hs) hQ n listed a w (Region.free_spec hi hf) (by simpa using hr) (.inl ⟨hw, hy⟩) hC h.out⟩

theorem RC.one {i : Nat} {o : Oper} {n : Nat} {listed : Array Bool} {a : Act} {w : World} (hr : Region.ready md ops listed = [i]) (ho : ops[i]? = some o)
    (h : ∀ K' : Act → World → Prop, (∀ a w, C w → RC P md ops C Q n (listed.setIfInBounds i true) a w → K' a w) → if Region.wanted o (yielded ops a.tmps) = true then Oper.wp P o a w K' Q else K' (a.put o.dst undef) w) : RC P md ops C Q (n + 1) listed a w := by
  refine ⟨⟨fun h0 => absurd (hr.symm.trans h0) (by simp), fun j hj => ?_⟩⟩
  rw [hr] at hj
  obtain rfl : j = i := by simpa using hj
  exact wpOp_step ho fun K' hK => h K' fun a w h1 h2 => hK a w ⟨h1, h2.out⟩

theorem RC.two {i k : Nat} {o p : Oper} {n : Nat} {listed : Array Bool} {a : Act} {w : World} (hr : Region.ready md ops listed = [i, k]) (ho : ops[i]? = some o) (hp : ops[k]? = some p)
    (h : ∀ K' : Act → World → Prop, (∀ a w, C w → RC P md ops C Q n (listed.setIfInBounds i true) a w → K' a w) → if Region.wanted o (yielded ops a.tmps) = true then Oper.wp P o a w K' Q else K' (a.put o.dst undef) w)
    (h' : ∀ K' : Act → World → Prop, (∀ a w, C w → RC P md ops C Q n (listed.setIfInBounds k true) a w → K' a w) → if Region.wanted p (yielded ops a.tmps) = true then Oper.wp P p a w K' Q else K' (a.put p.dst undef) w) : RC P md ops C Q (n + 1) listed a w := by
  refine ⟨⟨fun h0 => absurd (hr.symm.trans h0) (by simp), fun j hj => ?_⟩⟩
  rw [hr] at hj
  have hj' : j = i ∨ j = k := by simpa using hj
  rcases hj' with rfl | rfl
  · exact wpOp_step ho fun K' hK => h K' fun a w h1 h2 => hK a w ⟨h1, h2.out⟩
  · exact wpOp_step hp fun K' hK => h' K' fun a w h1 h2 => hK a w ⟨h1, h2.out⟩

theorem RC.want {i : Nat} {o : Oper} {n : Nat} {listed : Array Bool} {a : Act} {w : World} (hr : Region.ready md ops listed = [i]) (ho : ops[i]? = some o) (hw : Region.wanted o (yielded ops a.tmps) = true)
    (h : ∀ K' : Act → World → Prop, (∀ a w, C w → RC P md ops C Q n (listed.setIfInBounds i true) a w → K' a w) → Oper.wp P o a w K' Q) : RC P md ops C Q (n + 1) listed a w :=
  RC.one hr ho fun K' hK => by rw [if_pos hw]; exact h K' hK

theorem RC.done {listed : Array Bool} {a : Act} {w : World} (hr : Region.ready md ops listed = []) (h : Q .normal a w) : RC P md ops C Q 0 listed a w := ⟨⟨hr, h⟩⟩

theorem wp_region_RC (C : World → Prop) {id : Nat} {a : Act} {w : World} (hm : P.follows .mixedOrders = true) (h : RC P .any ops C Q ops.size (Array.replicate ops.size false) a w.drew) : (Code.region id ops true).wp P Q a w :=
  wp_region_any hm (wpAny_of_C _ _ _ _ h.out)

end
end Go.Proofs.YtmfhbnelmbjkeabGreatDoor

/- DERIVED. (*impl.skyWriter).runway: its walk. -/
namespace Go.Proofs.YtmfhbnelmbjkeabGreatDoor
open Go.RowKit
set_option linter.unusedSimpArgs false
set_option linter.unusedVariables false

/-- A row of texts that is just laid. -/
theorem owns_laid (w : World) (base : Nat) (hb : base ≤ w.heap.size) (cs : Array Value) (xs : List Value) (n : Nat) (hn : n = xs.length) (hm : n ≤ 1000) (hx : cs.toList = xs) :
    (w.alloc (.cells cs 9)).ownsRow base 9 1 (.slice (some ⟨w.heap.size, 0, none⟩) n n) n xs := by
  subst hx
  refine ⟨by rw [hn, Nat.mul_one], .inr ⟨w.heap.size, n, cs, rfl, hb, heap_alloc_new w _, Nat.le_refl _, by unfold maxLen; omega, by rw [hn, Nat.mul_one, Array.length_toList], ?_⟩⟩
  rw [hn, Nat.mul_one, List.take_length]

theorem str_of (s : ByteArray) : (⟨s.data.toList.toArray⟩ : ByteArray) = s := by cases s; rfl

/-- The cells that runway reads. -/
def RwC (g0 : Nat) (nm : ByteArray) (x y t : Int) (j : Nat) (W : World) : Prop :=
  W.cell? ⟨g0, 0, none⟩ = some (.string nm) ∧ W.cell? ⟨g0, 1, none⟩ = some (.int .i64 x) ∧ W.cell? ⟨g0, 2, none⟩ = some (.int .i64 y) ∧ W.cell? ⟨g0, 3, none⟩ = some (.int .i64 t) ∧ W.cell? ⟨0, j, none⟩ = some (.string (wordT j))

set_option maxRecDepth 100000 in
set_option maxHeartbeats 2000000 in
theorem runway_any (b : Nat) (l : List UInt8) (nm : ByteArray) (x y t : Int) (j : Nat) (w : World) (hW : WrAt w b l) (hT : TurnsLaid w) (hnm : nm.size ≤ 8) (hx : Sm x) (hy : Sm y) (hj : j < 8) (htj : t - 1 = (j : Int)) (hlen : l.length ≤ 100000) (hgb : 0 < b) :
    Calls Tryz.prog 22 #[.pointer (some ⟨b, 0, none⟩), .agg #[.string nm, .int .i64 x, .int .i64 y, .int .i64 t]] w fun e w' => e = .returned (.tuple #[]) ∧ WrAt w' b (l ++ rwLine (nm, x, y, t)) ∧ Kp b w w' := by
  obtain ⟨w0, hw0⟩ : ∃ w0, w0 = w.alloc (.cells #[.string nm, .int .i64 x, .int .i64 y, .int .i64 t] 57) := ⟨_, rfl⟩
  have hb0 : Below w.heap.size w w0 := by rw [hw0]; exact (Below.refl _ _).alloc (Nat.le_refl _) _
  have hblt := hW.lt
  have hsz : w.heap.size + 1 = w0.heap.size := by rw [hw0]; simp
  have c0 : w0.drew.cell? ⟨w.heap.size, 0, none⟩ = some (.string nm) := by rw [hw0]; go_simp
  have c1 : w0.drew.cell? ⟨w.heap.size, 1, none⟩ = some (.int .i64 x) := by rw [hw0]; go_simp
  have c2 : w0.drew.cell? ⟨w.heap.size, 2, none⟩ = some (.int .i64 y) := by rw [hw0]; go_simp
  have c3 : w0.drew.cell? ⟨w.heap.size, 3, none⟩ = some (.int .i64 t) := by rw [hw0]; go_simp
  have c4 : w0.drew.cell? ⟨0, j, none⟩ = some (.string (wordT j)) := by
    refine ((hT.later hb0) j hj).trans ?_
    have h : j = 0 ∨ j = 1 ∨ j = 2 ∨ j = 3 ∨ j = 4 ∨ j = 5 ∨ j = 6 ∨ j = 7 := by omega
    rcases h with rfl | rfl | rfl | rfl | rfl | rfl | rfl | rfl <;> rfl
  have hOw := (owns_laid w0 (b + 1) (by omega) #[.string ⟨#[114, 117, 110, 119, 97, 121]⟩, .string nm, .string ⟨(Lib.decDigits x.toNat).toArray⟩, .string ⟨(Lib.decDigits y.toNat).toArray⟩, .string (wordT j)] (strVals [kRunway, nm.data.toList, Lib.decDigits x.toNat, Lib.decDigits y.toNat, (wordT j).data.toList]) 5 rfl (by omega) (by simp [strVals, kRunway])).drew
  have hbA : Below w0.heap.size w0 (w0.alloc (.cells #[.string ⟨#[114, 117, 110, 119, 97, 121]⟩, .string nm, .string ⟨(Lib.decDigits x.toNat).toArray⟩, .string ⟨(Lib.decDigits y.toNat).toArray⟩, .string (wordT j)] 9)).drew := ((Below.refl _ _).alloc (Nat.le_refl _) _).drew
  have hWA : WrAt _ b l := (hW.later hb0).later hbA
  have hwl : (rwLine (nm, x, y, t)).length ≤ 50 := rw_len hnm hx hy (by show (wordT (t - 1).toNat).size ≤ 2; rw [htj, Int.toNat_natCast]; exact (wordT_fine j hj).1)
  have hEq : rwLine (nm, x, y, t) = lineW ([kRunway, nm.data.toList, Lib.decDigits x.toNat, Lib.decDigits y.toNat, (wordT j).data.toList] ++ decsL []) := by
    simp only [rwLine, decsL, List.map_nil, List.append_nil, htj, Int.toNat_natCast]
  rw [hEq] at hwl ⊢
  have HL := line_any b l w0.heap.size 5 [kRunway, nm.data.toList, Lib.decDigits x.toNat, Lib.decDigits y.toNat, (wordT j).data.toList] none 0 [] _ hWA (by simp) (by simp) (by simp) hOw (.inl rfl) (by intro gn h; cases h) (by intro n h; cases h) (by omega)
  have hKp : Kp b w (w0.alloc (.cells #[.string ⟨#[114, 117, 110, 119, 97, 121]⟩, .string nm, .string ⟨(Lib.decDigits x.toNat).toArray⟩, .string ⟨(Lib.decDigits y.toNat).toArray⟩, .string (wordT j)] 9)).drew := (Kp.of_below hb0 (by omega)).trans (Kp.of_below hbA (by omega))
  generalize lineW ([kRunway, nm.data.toList, Lib.decDigits x.toNat, Lib.decDigits y.toNat, (wordT j).data.toList] ++ decsL []) = LN at *
  have hx1 := hx.1
  have hx2 := hx.2
  have hy1 := hy.1
  have hy2 := hy.2
  have hjI : (j : Int) < 8 := by omega
  have hwr : IntKind.i64.wrap (j : Int) = (j : Int) := by rw [IntKind.wrap_i64]; all_goals omega
  have hjN : (j : Int).toNat = j := Int.toNat_natCast j
  have hj0 : (0 : Int) ≤ (j : Int) := by omega
  simp only [List.length_cons, List.length_nil, Nat.zero_add, Nat.reduceAdd] at HL
  have HX := itoa_small x hx1 hx2 w0.drew
  have HY := itoa_small y hy1 hy2 w0.drew
  have HF : ∀ W, Below w0.heap.size w0 W → RwC w.heap.size nm x y t j W := fun W h =>
    ⟨(h.cell (p := ⟨w.heap.size, 0, none⟩) (by show w.heap.size < w0.heap.size; omega)).trans c0, (h.cell (p := ⟨w.heap.size, 1, none⟩) (by show w.heap.size < w0.heap.size; omega)).trans c1, (h.cell (p := ⟨w.heap.size, 2, none⟩) (by show w.heap.size < w0.heap.size; omega)).trans c2, (h.cell (p := ⟨w.heap.size, 3, none⟩) (by show w.heap.size < w0.heap.size; omega)).trans c3, (h.cell (p := ⟨0, j, none⟩) (hT.later hb0).pos).trans c4⟩
  have HG : ∀ W, Kp b (w0.alloc (.cells #[.string ⟨#[114, 117, 110, 119, 97, 121]⟩, .string nm, .string ⟨(Lib.decDigits x.toNat).toArray⟩, .string ⟨(Lib.decDigits y.toNat).toArray⟩, .string (wordT j)] 9)).drew W → RwC w.heap.size nm x y t j W := fun W h => by
    have e1 := HF _ hbA
    have hbx : (w0.alloc (.cells #[.string ⟨#[114, 117, 110, 119, 97, 121]⟩, .string nm, .string ⟨(Lib.decDigits x.toNat).toArray⟩, .string ⟨(Lib.decDigits y.toNat).toArray⟩, .string (wordT j)] 9)).drew.heap[w.heap.size]? = some (.cells #[.string nm, .int .i64 x, .int .i64 y, .int .i64 t] 57 (0, 0)) := by
      refine (hbA.block w.heap.size (by omega)).trans ?_
      rw [hw0]
      exact heap_alloc_new w _
    have h2 := h.rest w.heap.size _ hbx (by omega) (by intro c fz hh; cases hh) (by intro c fz hh; cases hh)
    exact ⟨cell_of_heapW h2 0, cell_of_heapW h2 1, cell_of_heapW h2 2, cell_of_heapW h2 3, (h.below.cell (p := ⟨0, j, none⟩) hgb).trans e1.2.2.2.2⟩
  clear hEq hwl hWA hOw hb0 hlen hT hW c0 c1 c2 c3 c4
  go_enter Tryz.func22, Tryz.ntmps22
  go_wp2
  rw [← hw0]
  clear hw0
  refine wp_region_RC (RwC w.heap.size nm x y t j) mixedF ?_
  have hC : RwC w.heap.size nm x y t j w0.drew := HF _ (Below.refl _ _).drew
  have hC2 := HF _ hbA
  clear HF hbA
  generalize Lib.decDigits x.toNat = dx at *
  generalize Lib.decDigits y.toNat = dy at *
  refine RC.take (i := 0) (v := ?v0) rfl (by kernel_rfl) (by kernel_rfl) (by kernel_rfl) (fun _ _ _ h => h) hC (by rfl) ?y0 ?r0
  case y0 => (intro W hW; obtain ⟨c0, c1, c2, c3, c4⟩ := hW; go_simp; try with_reducible rfl)
  refine RC.take (i := 1) (v := ?v1) rfl (by kernel_rfl) (by kernel_rfl) (by kernel_rfl) (fun _ _ _ h => h) hC (by rfl) ?y1 ?r1
  case y1 => (intro W hW; obtain ⟨c0, c1, c2, c3, c4⟩ := hW; go_simp; try with_reducible rfl)
  refine RC.take (i := 3) (v := ?v3) rfl (by kernel_rfl) (by kernel_rfl) (by kernel_rfl) (fun _ _ _ h => h) hC (by rfl) ?y3 ?r3
  case y3 => (intro W hW; obtain ⟨c0, c1, c2, c3, c4⟩ := hW; go_simp; try with_reducible rfl)
  refine RC.take (i := 6) (v := ?v6) rfl (by kernel_rfl) (by kernel_rfl) (by kernel_rfl) (fun _ _ _ h => h) hC (by rfl) ?y6 ?r6
  case y6 => (intro W hW; obtain ⟨c0, c1, c2, c3, c4⟩ := hW; go_simp; try with_reducible rfl)
  refine RC.take (i := 9) (v := ?v9) rfl (by kernel_rfl) (by kernel_rfl) (by kernel_rfl) (fun _ _ _ h => h) hC (by rfl) ?y9 ?r9
  case y9 => (intro W hW; obtain ⟨c0, c1, c2, c3, c4⟩ := hW; go_simp; try with_reducible rfl)
  refine RC.take (i := 2) (v := ?v2) rfl (by kernel_rfl) (by kernel_rfl) (by kernel_rfl) (fun _ _ _ h => h) hC (by rfl) ?y2 ?r2
  case y2 => (intro W hW; obtain ⟨c0, c1, c2, c3, c4⟩ := hW; go_simp; try with_reducible rfl)
  refine RC.take (i := 4) (v := ?v4) rfl (by kernel_rfl) (by kernel_rfl) (by kernel_rfl) (fun _ _ _ h => h) hC (by rfl) ?y4 ?r4
  case y4 => (intro W hW; obtain ⟨c0, c1, c2, c3, c4⟩ := hW; go_simp; try with_reducible rfl)
  refine RC.take (i := 7) (v := ?v7) rfl (by kernel_rfl) (by kernel_rfl) (by kernel_rfl) (fun _ _ _ h => h) hC (by rfl) ?y7 ?r7
  case y7 => (intro W hW; obtain ⟨c0, c1, c2, c3, c4⟩ := hW; go_simp; try with_reducible rfl)
  refine RC.take (i := 10) (v := ?v10) rfl (by kernel_rfl) (by kernel_rfl) (by kernel_rfl) (fun _ _ _ h => h) hC (by rfl) ?y10 ?r10
  case y10 => (intro W hW; obtain ⟨c0, c1, c2, c3, c4⟩ := hW; go_simp; try with_reducible rfl)
  refine RC.take (i := 11) (v := ?v11) rfl (by kernel_rfl) (by kernel_rfl) (by kernel_rfl) (fun _ _ _ h => h) hC (by rfl) ?y11 ?r11
  case y11 => (intro W hW; obtain ⟨c0, c1, c2, c3, c4⟩ := hW; go_simp; try with_reducible rfl)
  refine RC.take (i := 12) (v := ?v12) rfl (by kernel_rfl) (by kernel_rfl) (by kernel_rfl) (fun _ _ _ h => h) hC (by rfl) ?y12 ?r12
  case y12 => (intro W hW; obtain ⟨c0, c1, c2, c3, c4⟩ := hW; go_simp; try with_reducible rfl)
  refine RC.take (i := 13) (v := ?v13) rfl (by kernel_rfl) (by kernel_rfl) (by kernel_rfl) (fun _ _ _ h => h) hC (by rfl) ?y13 ?r13
  case y13 => (intro W hW; obtain ⟨c0, c1, c2, c3, c4⟩ := hW; go_simp; try with_reducible rfl)
  refine RC.want (i := 5) (by kernel_rfl) rfl (by rfl) (fun K hK => ?_)
  go_simp
  refine HX.mono ?_
  rintro e w6 ⟨rfl, rfl⟩
  simp only
  refine hK _ _ hC ?_
  clear hK K
  refine RC.want (i := 8) (by kernel_rfl) rfl (by rfl) (fun K hK => ?_)
  go_simp
  refine HY.mono ?_
  rintro e w6 ⟨rfl, rfl⟩
  simp only
  refine hK _ _ hC ?_
  clear hK K
  refine RC.want (i := 14) (by kernel_rfl) rfl (by rfl) (fun K hK => ?_)
  go_simp
  refine hK _ _ hC2 ?_
  clear hK K
  refine RC.want (i := 15) (by kernel_rfl) rfl (by rfl) (fun K hK => ?_)
  go_simp
  refine HL.mono ?_
  rintro e w7 ⟨rfl, hW7, hk7⟩
  simp only
  refine hK _ _ (HG _ hk7) ?_
  clear hK K
  refine RC.done (by kernel_rfl) ?_
  go_wp2
  go_end0
  exact ⟨rfl, hW7, hKp.trans hk7⟩

end Go.Proofs.YtmfhbnelmbjkeabGreatDoor

/- DERIVED. impl.SkyPrint: its walk. -/
namespace Go.Proofs.YtmfhbnelmbjkeabGreatDoor
open Go.RowKit
set_option linter.unusedSimpArgs false
set_option linter.unusedVariables false

theorem line_rows (b : Nat) (l : List UInt8) (wr : World) (gw gn nw nn : Nat) (csS csN : Array Value) (ws : List (List UInt8)) (ns : List Int) (hgw : gw = wr.heap.size) (hgn : gn = wr.heap.size + 1) (hnw : nw = ws.length) (hnn : nn = ns.length) (hW : WrAt wr b l) (hws : 0 < ws.length) (hws2 : ws.length ≤ 100) (hns0 : 0 < ns.length) (hns : ns.length ≤ 6) (hcs : csS.toList = strVals ws) (hcn : csN = (ns.map (Value.int .i64)).toArray) (hsm : ∀ n ∈ ns, Sm n) (hlen : l.length + (lineW (ws ++ decsL ns)).length ≤ 1000000) :
    Calls Tryz.prog 21 #[.pointer (some ⟨b, 0, none⟩), .slice (some ⟨gw, 0, none⟩) nw nw, .slice (some ⟨gn, 0, none⟩) nn nn] ((wr.alloc (.cells csS 9)).alloc (.cells csN 3)) fun e w' => e = .returned (.tuple #[]) ∧ WrAt w' b (l ++ lineW (ws ++ decsL ns)) ∧ Kp b wr w' := by
  subst hgw hgn hnw hnn hcn
  have hblt := hW.lt
  have hb1 : Below wr.heap.size wr ((wr.alloc (.cells csS 9)).alloc (.cells (ns.map (Value.int .i64)).toArray 3)) := ((Below.refl _ _).alloc (Nat.le_refl _) _).alloc (by simp) _
  have hown := (owns_laid wr (b + 1) hblt csS (strVals ws) ws.length (by simp [strVals]) (by omega) hcs).alloc (.cells (ns.map (Value.int .i64)).toArray 3)
  have hnw : ((wr.alloc (.cells csS 9)).alloc (.cells (ns.map (Value.int .i64)).toArray 3)).heap[wr.heap.size + 1]? = some (.cells (ns.map (Value.int .i64)).toArray 3 (0, 0)) := by
    have := heap_alloc_new (wr.alloc (.cells csS 9)) (.cells (ns.map (Value.int .i64)).toArray 3)
    simpa using this
  refine (line_any b l wr.heap.size ws.length ws (some ⟨wr.heap.size + 1, 0, none⟩) ns.length ns _ (hW.later hb1) hws hws2 hns hown (.inr ⟨_, _, rfl, hnw, fun j h => by simp [h]⟩) (by intro gn h; cases h; omega) hsm hlen).mono ?_
  rintro e w' ⟨rfl, h1, h2⟩
  exact ⟨rfl, h1, (Kp.of_below hb1 (by omega)).trans h2⟩

theorem T4_ne (W H L : Int) (ps : List DSkyPoint) (aw : List DSkyAirway) (ss : List DSkySector) (rs : List DSkyRunway) (k : Nat) : T4 W H L ps aw ss rs k ≠ [] := by
  simp [T4, T3, T2, T1, hdLine, lineW]

set_option maxRecDepth 100000 in
set_option maxHeartbeats 4000000 in
theorem iSkyPrint_any (W H L : Int) (ps : List DSkyPoint) (aw : List DSkyAirway) (ss : List DSkySector) (rs : List DSkyRunway) (ao3 : Option Addr) (cap3 : Nat) (ao4 : Option Addr) (cap4 : Nat) (ao5 : Option Addr) (cap5 : Nat) (ao6 : Option Addr) (cap6 : Nat) (w : World)
    (h : SkyAt w (W, H, L, ps, aw, ss, rs) ao3 cap3 ao4 cap4 ao5 cap5 ao6 cap6) (hT : TurnsLaid w) :
    Calls Tryz.prog 7 #[.agg #[.int .i64 W, .int .i64 H, .int .i64 L, .slice ao3 ps.length cap3, .slice ao4 aw.length cap4, .slice ao5 ss.length cap5, .slice ao6 rs.length cap6]] w fun e w' => ((ValidSky (W, H, L, ps, aw, ss, rs) ∧ e = .returned (.string ⟨(T4 W H L ps aw ss rs rs.length).toArray⟩)) ∨ (¬ ValidSky (W, H, L, ps, aw, ss, rs) ∧ e = .returned (.string ByteArray.empty))) ∧ Below w.heap.size w w' := by
  have hb0 : Below w.heap.size w (w.alloc (.cells #[.int .i64 W, .int .i64 H, .int .i64 L, .slice ao3 ps.length cap3, .slice ao4 aw.length cap4, .slice ao5 ss.length cap5, .slice ao6 rs.length cap6] 35)) := (Below.refl _ _).alloc (Nat.le_refl _) _
  have HV := iSkyValid (W, H, L, ps, aw, ss, rs) ao3 cap3 ao4 cap4 ao5 cap5 ao6 cap6 (w.alloc (.cells #[.int .i64 W, .int .i64 H, .int .i64 L, .slice ao3 ps.length cap3, .slice ao4 aw.length cap4, .slice ao5 ss.length cap5, .slice ao6 rs.length cap6] 35)) (h.later hb0) (hT.later hb0)
  simp only [skyCells] at HV
  go_enter Tryz.func7, Tryz.ntmps7
  go_wp2_with fail
  refine HV.mono ?_
  rintro e w1 ⟨⟨hv, rfl⟩ | ⟨hv, rfl⟩, hb1⟩
  case inr =>
    have HF : Hid (¬ ValidSky (W, H, L, ps, aw, ss, rs)) := hv
    have hbw : Below w.heap.size w w1 := hb0.trans (hb1.mono (by simp))
    clear hv HV hb0 hb1
    go_wp2
    go_ret
    exact ⟨.inr ⟨HF.out, rfl⟩, hbw⟩
  case inl =>
    have HY : Hid (ValidSky (W, H, L, ps, aw, ss, rs)) := hv
    have fine := fine_of_valid hv
    have FN : Hid (FineSky W H L ps aw ss rs) := fine
    have hbx1 : Below (w.heap.size + 1) (w.alloc (.cells #[.int .i64 W, .int .i64 H, .int .i64 L, .slice ao3 ps.length cap3, .slice ao4 aw.length cap4, .slice ao5 ss.length cap5, .slice ao6 rs.length cap6] 35)) w1 := hb1.mono (by simp)
    have hw1 : Below w.heap.size w w1 := box_below hbx1
    have hs1 : w.heap.size + 1 ≤ w1.heap.size := by have := hbx1.size; simpa using this
    have y0 := box_cell hbx1 0
    have y1 := box_cell hbx1 1
    have y2 := box_cell hbx1 2
    have y3 := box_cell hbx1 3
    simp at y0 y1 y2 y3
    have hzw : w.heap.size < w1.heap.size := by omega
    have hW0 : WrAt (w1.alloc (.cells #[.pointer none, .slice none 0 0] 69)) w1.heap.size [] := WrAt.made w1
    have HBW : Hid (∀ W' : World, Kp w1.heap.size (w1.alloc (.cells #[.pointer none, .slice none 0 0] 69)) W' → Below w1.heap.size w1 W') := fun W' h => ((Below.refl _ _).alloc (Nat.le_refl _) _).trans h.below
    clear hv HV hb1
    have hhd := hd_len fine.w fine.h fine.l
    have HL0 := line_rows w1.heap.size [] (w1.alloc (.cells #[.pointer none, .slice none 0 0] 69)) (w1.heap.size + 1) (w1.heap.size + 1 + 1) 1 3 #[.string ⟨#[115, 107, 121]⟩] #[.int .i64 W, .int .i64 H, .int .i64 L] [kSky] [W, H, L] (by simp) (by simp) rfl rfl hW0 (by simp) (by simp) (by simp) (by simp) (by simp [strVals, kSky]) rfl (by intro n hn; simp at hn; rcases hn with rfl | rfl | rfl; exact fine.w; exact fine.h; exact fine.l) (by show _ + (hdLine W H L).length ≤ _; simp; omega)
    clear fine hW0
    go_wp2_with fail
    refine HL0.mono ?_
    rintro e w3 ⟨rfl, hW3, hK3⟩
    rw [List.nil_append] at hW3
    have HT3 : Hid (hdLine W H L = T1 W H L ps 0) := (T1_zero W H L ps).symm
    have hW3' : WrAt w3 w1.heap.size (hdLine W H L) := hW3
    have hBx3 : Below (w.heap.size + 1) (w.alloc (.cells #[.int .i64 W, .int .i64 H, .int .i64 L, .slice ao3 ps.length cap3, .slice ao4 aw.length cap4, .slice ao5 ss.length cap5, .slice ao6 rs.length cap6] 35)) w3 := hbx1.trans ((HBW.out w3 hK3).mono hs1)
    have z3 := box_cell hBx3 3
    simp at z3
    have hs3 : w1.heap.size + 1 ≤ w3.heap.size := by have := hK3.size; simpa using this
    have hz3 : w.heap.size < w3.heap.size := by omega
    clear HL0 hW3 hBx3 y0 y1 y2 y3
    go_wp2
    go_loopw [32] (fun i wr => ∃ (k : Nat) (l : List UInt8), k ≤ ps.length ∧ i = .int .i64 k ∧ Hid (l = T1 W H L ps k) ∧ Hid (l.length ≤ 50 + 50 * k) ∧ WrAt wr w1.heap.size l ∧ Kp w1.heap.size (w1.alloc (.cells #[.pointer none, .slice none 0 0] 69)) wr) (fun i _ => ps.length - (intOf i).toNat)
    case atStart => exact ⟨0, _, Nat.zero_le _, rfl, HT3, hhd, hW3', hK3⟩
    case round =>
      clear hW3' hK3 z3 hs3 hz3 hhd HT3
      obtain ⟨k, l, hk, rfl, hl, hln, hWr, hK⟩ := hrel
      have hbk : Below w1.heap.size w1 wr := HBW.out wr hK
      have hBx : Below (w.heap.size + 1) (w.alloc (.cells #[.int .i64 W, .int .i64 H, .int .i64 L, .slice ao3 ps.length cap3, .slice ao4 aw.length cap4, .slice ao5 ss.length cap5, .slice ao6 rs.length cap6] 35)) wr := hbx1.trans (hbk.mono hs1)
      have hB : Below w.heap.size w wr := box_below hBx
      have hszr := hK.size
      have z0 := box_cell hBx 0
      have z1 := box_cell hBx 1
      have z2 := box_cell hBx 2
      have z3 := box_cell hBx 3
      have z4 := box_cell hBx 4
      have z5 := box_cell hBx 5
      have z6 := box_cell hBx 6
      simp at z0 z1 z2 z3 z4 z5 z6
      have hsr : w1.heap.size + 1 ≤ wr.heap.size := by have := hK.size; simp at this; omega
      have hzr : w.heap.size < wr.heap.size := by omega

      by_cases hlt : k < ps.length
      · obtain ⟨b1, off, rfl, hok, c0, c1, c2, q0, q1, q2⟩ := elem_SkyPoint h.p3 hlt
        have f0 := (hB.cell (p := ⟨b1, off + k * 3, none⟩) hok).trans c0
        have f1 := (hB.cell (p := ⟨b1, off + k * 3 + 1, none⟩) hok).trans c1
        have f2 := (hB.cell (p := ⟨b1, off + k * 3 + 2, none⟩) hok).trans c2
        have hkI : (k : Int) < (ps.length : Int) := by omega
        have hfn := FN.out.p k hlt
        have HSU : Hid (l ++ ptLine (ps[k]'hlt) = T1 W H L ps (k + 1)) := by show _ = _; rw [T1_succ _ _ _ _ _ hlt, ← hl.out]
        have hpl := pt_len hfn.1 hfn.2.1 hfn.2.2
        have HLN : Hid ((l ++ ptLine (ps[k]'hlt)).length ≤ 50 + 50 * (k + 1)) := by have := hln.out; show _ ≤ _; rw [List.length_append]; omega
        have hk16 : k < 16 := Nat.lt_of_lt_of_le hlt FN.out.pl
        have hll : l.length + (ptLine (ps[k]'hlt)).length ≤ 1000000 := by have := hln.out; omega
        clear c0 c1 c2 q0 q1 q2 hl hln
        have HL := line_rows w1.heap.size l (wr.alloc (.cells #[.string (ps[k]'hlt).1, .int .i64 (ps[k]'hlt).2.1, .int .i64 (ps[k]'hlt).2.2] 47)) (wr.heap.size + 1) (wr.heap.size + 1 + 1) 2 2 #[.string ⟨#[112, 111, 105, 110, 116]⟩, .string (ps[k]'hlt).1] #[.int .i64 (ps[k]'hlt).2.1, .int .i64 (ps[k]'hlt).2.2] [kPoint, (ps[k]'hlt).1.data.toList] [(ps[k]'hlt).2.1, (ps[k]'hlt).2.2] (by simp) (by simp) rfl rfl (hWr.later ((Below.refl _ _).alloc (Nat.le_refl _) _)) (by simp) (by simp) (by simp) (by simp) (by simp [strVals, kPoint]) rfl (by intro n hn; simp at hn; rcases hn with rfl | rfl; exact hfn.2.1; exact hfn.2.2) hll
        clear hll hpl hfn
        go_wp2_with fail
        refine HL.mono ?_
        rintro e w4 ⟨rfl, hW4, hK4⟩
        have hK5 := hK.trans ((Kp.of_below ((Below.refl _ _).alloc (Nat.le_refl _) _) (by omega)).trans hK4)
        clear HL hK4
        go_wp2
        go_roundw
        case rel => exact ⟨k + 1, _, by omega, by go_num, HSU, HLN, hW4, hK5⟩
        case measure => simp [intOf]; omega
      · have hke : k = ps.length := by omega
        subst hke
        have HT2 : Hid (l = T2 W H L ps aw 0) := by show _ = _; rw [T2_zero, ← hl.out]
        have HL2 : Hid (l.length ≤ 1000 + 200 * 0) := by have := hln.out; have := FN.out.pl; show _ ≤ _; omega
        clear hl hln hB hBx hbk
        go_wp2
        go_loopw [50] (fun i wr => ∃ (k : Nat) (l : List UInt8), k ≤ aw.length ∧ i = .int .i64 k ∧ Hid (l = T2 W H L ps aw k) ∧ Hid (l.length ≤ 1000 + 200 * k) ∧ WrAt wr w1.heap.size l ∧ Kp w1.heap.size (w1.alloc (.cells #[.pointer none, .slice none 0 0] 69)) wr) (fun i _ => aw.length - (intOf i).toNat)
        case atStart => exact ⟨0, _, Nat.zero_le _, rfl, HT2, HL2, hWr, hK⟩
        case round =>
          clear hWr hK HT2 HL2 z0 z1 z2 z3 z4 z5 z6 hszr hsr hzr hlt hk
          obtain ⟨k, l, hk, rfl, hl, hln, hWr, hK⟩ := hrel
          have hbk : Below w1.heap.size w1 wr := HBW.out wr hK
          have hBx : Below (w.heap.size + 1) (w.alloc (.cells #[.int .i64 W, .int .i64 H, .int .i64 L, .slice ao3 ps.length cap3, .slice ao4 aw.length cap4, .slice ao5 ss.length cap5, .slice ao6 rs.length cap6] 35)) wr := hbx1.trans (hbk.mono hs1)
          have hB : Below w.heap.size w wr := box_below hBx
          have hszr := hK.size
          have z0 := box_cell hBx 0
          have z1 := box_cell hBx 1
          have z2 := box_cell hBx 2
          have z3 := box_cell hBx 3
          have z4 := box_cell hBx 4
          have z5 := box_cell hBx 5
          have z6 := box_cell hBx 6
          simp at z0 z1 z2 z3 z4 z5 z6
          have hsr : w1.heap.size + 1 ≤ wr.heap.size := by have := hK.size; simp at this; omega
          have hzr : w.heap.size < wr.heap.size := by omega

          by_cases hlt : k < aw.length
          · obtain ⟨b1, off, ao1, cap1, rfl, hok, c0, c1, q0, q1⟩ := elem_SkyAirway h.p4 hlt
            have f0 := (hB.cell (p := ⟨b1, off + k * 2, none⟩) hok).trans c0
            have f1 := (hB.cell (p := ⟨b1, off + k * 2 + 1, none⟩) hok).trans c1
            have hkI : (k : Int) < (aw.length : Int) := by omega
            have hfn := FN.out.a k hlt
            have hAL := aw_len hfn.1 hfn.2.2.1 (by intro n hn; obtain ⟨j, hj, rfl⟩ := List.getElem_of_mem hn; exact hfn.2.2.2 j hj)
            have HSU : Hid (l ++ awLine (aw[k]'hlt) = T2 W H L ps aw (k + 1)) := by show _ = _; rw [T2_succ _ _ _ _ _ _ hlt, ← hl.out]
            have HLN : Hid ((l ++ awLine (aw[k]'hlt)).length ≤ 1000 + 200 * (k + 1)) := by have := hln.out; show _ ≤ _; rw [List.length_append]; omega
            have hk8 : k < 8 := Nat.lt_of_lt_of_le hlt FN.out.al
            have HLL : Hid (l.length + (awLine (aw[k]'hlt)).length ≤ 1000000) := by have := hln.out; show _ ≤ _; omega
            obtain ⟨b2, off2, rfl, hok2, q5⟩ := elem_String q1 (i := 0) (Nat.lt_of_lt_of_le (by decide) hfn.2.1)
            have HSRC : Hid (∀ j u, ((aw[k]'hlt).2.map Value.string)[j]? = some u → wr.cell? ⟨b2, off2 + j, none⟩ = some u ∧ b2 < wr.heap.size) := by
              intro j u hu
              rw [List.getElem?_map, Option.map_eq_some_iff] at hu
              obtain ⟨s, hs, rfl⟩ := hu
              obtain ⟨hj, rfl⟩ := List.getElem?_eq_some_iff.1 hs
              obtain ⟨b3, off3, e3, hok3, c3, _⟩ := elem_String q1 hj
              cases e3
              refine ⟨(hB.cell (p := ⟨b2, off2 + j, none⟩) hok3).trans c3, ?_⟩
              have : b2 < w.heap.size := hok3
              omega
            obtain ⟨m, hm⟩ : ∃ m, m = (aw[k]'hlt).2.length := ⟨_, rfl⟩
            have hm8 : m ≤ 8 := by rw [hm]; exact hfn.2.2.1
            have HOW0 := owns_laid (wr.alloc (.cells #[.string (aw[k]'hlt).1, .slice (some ⟨b2, off2, none⟩) m cap1] 50)) (w1.heap.size + 1) (by simp; omega) #[.string ⟨#[97, 105, 114, 119, 97, 121]⟩, .string (aw[k]'hlt).1] (strVals [kAirway, (aw[k]'hlt).1.data.toList]) 2 rfl (by omega) (by simp [strVals, kAirway])
            have HOW := HOW0
            rw [World.size_alloc] at HOW
            have hbA : Below wr.heap.size wr ((wr.alloc (.cells #[.string (aw[k]'hlt).1, .slice (some ⟨b2, off2, none⟩) m cap1] 50)).alloc (.cells #[.string ⟨#[97, 105, 114, 119, 97, 121]⟩, .string (aw[k]'hlt).1] 9)) := ((Below.refl _ _).alloc (Nat.le_refl _) _).alloc (by simp) _
            have hWA := hWr.later hbA
            have HSV : Hid (strVals [kAirway, (aw[k]'hlt).1.data.toList] ++ (aw[k]'hlt).2.map Value.string = strVals ([kAirway, (aw[k]'hlt).1.data.toList] ++ (aw[k]'hlt).2.map (·.data.toList))) := by
              show _ = _
              rw [strVals_app]
              congr 1
              rw [strVals, List.map_map]
              refine List.map_congr_left fun s _ => ?_
              show Value.string s = Value.string ⟨s.data.toList.toArray⟩
              rw [str_of]
            obtain ⟨i0, hi, hz0, hz1, hz2⟩ := info_parts Tryz.infoStrW
            rw [← hm] at f1
            have HM : Hid (m = (aw[k]'hlt).2.length) := hm
            clear hm
            clear c0 c1 q0 q1 q5 hl hln hfn hAL
            go_wp2_with (at_builtin; refine wpList_append_own _ rfl _ _ 48 rfl (w1.heap.size + 1) 9 i0 (.string ByteArray.empty) 1 16 Tryz.underlying48 hi hz0 hz1 hz2 rfl (by decide) _ _ _ rfl HOW ⟨b2, off2, none⟩ m cap1 ((aw[k]'hlt).2.map Value.string) rfl (by rw [HM.out]; simp) ?c1 ?c2 ?c3 ?c4 ?c5 ?_)
            case c1 =>
              intro j u hu
              obtain ⟨h1, h2⟩ := HSRC.out j (.string u) (by rw [List.getElem?_map, hu]; rfl)
              exact (hbA.cell (p := ⟨b2, off2 + j, none⟩) h2).trans h1
            case c2 => intro u hu; rfl
            case c3 => unfold maxLen; omega
            case c4 => omega
            case c5 => omega
            intro v' w4 hown' hgrow _
            obtain ⟨g', cap', rfl⟩ := ownsW_pos hown' (by omega)
            rw [HSV.out] at hown'
            have hW4 := hWA.grown hgrow HOW
            have hK4 : Kp w1.heap.size wr w4 := (Kp.of_below hbA (by omega)).trans (kp_grown (by simp; omega) hgrow HOW)
            have hlw : ([kAirway, (aw[k]'hlt).1.data.toList] ++ (aw[k]'hlt).2.map (·.data.toList)).length = 2 + m := by rw [HM.out]; simp; omega
            have HL := line_any w1.heap.size l g' cap' ([kAirway, (aw[k]'hlt).1.data.toList] ++ (aw[k]'hlt).2.map (·.data.toList)) none 0 [] w4 hW4 (by rw [hlw]; omega) (by rw [hlw]; omega) (by simp) (by rw [hlw]; exact hown') (.inl rfl) (by intro gn h; cases h) (by intro n h; cases h) (by have := HLL.out; simpa [decsL, awLine] using this)
            have hEq : lineW (([kAirway, (aw[k]'hlt).1.data.toList] ++ (aw[k]'hlt).2.map (·.data.toList)) ++ decsL []) = awLine (aw[k]'hlt) := by simp [decsL, awLine]
            rw [hlw, hEq] at HL
            simp only [List.length_nil] at HL
            clear hEq hlw hown' hgrow HOW HOW0 hbA hWA HSV hW4
            go_wp2_with fail
            refine HL.mono ?_
            rintro e w5 ⟨rfl, hW5, hK5⟩
            have hK6 := hK.trans (hK4.trans hK5)
            clear HL hK4 hK5
            go_wp2
            go_roundw
            case rel => exact ⟨k + 1, _, by omega, by go_num, HSU, HLN, hW5, hK6⟩
            case measure => simp [intOf]; omega
          · have hke : k = aw.length := by omega
            subst hke
            have HT2 : Hid (l = T3 W H L ps aw ss 0) := by show _ = _; rw [T3_zero, ← hl.out]
            have HL2 : Hid (l.length ≤ 3000 + 200 * 0) := by have := hln.out; have := FN.out.al; show _ ≤ _; omega
            clear hl hln hB hBx hbk
            go_wp2
            go_loopw [66] (fun i wr => ∃ (k : Nat) (l : List UInt8), k ≤ ss.length ∧ i = .int .i64 k ∧ Hid (l = T3 W H L ps aw ss k) ∧ Hid (l.length ≤ 3000 + 200 * k) ∧ WrAt wr w1.heap.size l ∧ Kp w1.heap.size (w1.alloc (.cells #[.pointer none, .slice none 0 0] 69)) wr) (fun i _ => ss.length - (intOf i).toNat)
            case atStart => exact ⟨0, _, Nat.zero_le _, rfl, HT2, HL2, hWr, hK⟩
            case round =>
              clear hWr hK HT2 HL2 z0 z1 z2 z3 z4 z5 z6 hszr hsr hzr hlt hk
              obtain ⟨k, l, hk, rfl, hl, hln, hWr, hK⟩ := hrel
              have hbk : Below w1.heap.size w1 wr := HBW.out wr hK
              have hBx : Below (w.heap.size + 1) (w.alloc (.cells #[.int .i64 W, .int .i64 H, .int .i64 L, .slice ao3 ps.length cap3, .slice ao4 aw.length cap4, .slice ao5 ss.length cap5, .slice ao6 rs.length cap6] 35)) wr := hbx1.trans (hbk.mono hs1)
              have hB : Below w.heap.size w wr := box_below hBx
              have hszr := hK.size
              have z0 := box_cell hBx 0
              have z1 := box_cell hBx 1
              have z2 := box_cell hBx 2
              have z3 := box_cell hBx 3
              have z4 := box_cell hBx 4
              have z5 := box_cell hBx 5
              have z6 := box_cell hBx 6
              simp at z0 z1 z2 z3 z4 z5 z6
              have hsr : w1.heap.size + 1 ≤ wr.heap.size := by have := hK.size; simp at this; omega
              have hzr : w.heap.size < wr.heap.size := by omega

              by_cases hlt : k < ss.length
              · obtain ⟨b1, off, ao1, cap1, rfl, hok, c0, c1, q0, q1⟩ := elem_SkySector h.p5 hlt
                have f0 := (hB.cell (p := ⟨b1, off + k * 2, none⟩) hok).trans c0
                have f1 := (hB.cell (p := ⟨b1, off + k * 2 + 1, none⟩) hok).trans c1
                have hkI : (k : Int) < (ss.length : Int) := by omega
                have HFN : Hid ((ss[k]'hlt).1.size ≤ 8 ∧ (ss[k]'hlt).2.length ≤ 4 ∧ ∀ j (hj : j < (ss[k]'hlt).2.length), Sm ((ss[k]'hlt).2[j]'hj).1 ∧ Sm ((ss[k]'hlt).2[j]'hj).2.1 ∧ Sm ((ss[k]'hlt).2[j]'hj).2.2.1 ∧ Sm ((ss[k]'hlt).2[j]'hj).2.2.2.1 ∧ Sm ((ss[k]'hlt).2[j]'hj).2.2.2.2.1 ∧ Sm ((ss[k]'hlt).2[j]'hj).2.2.2.2.2) := FN.out.s k hlt
                obtain ⟨sk, hsk⟩ : ∃ s : DSkySector, s = ss[k]'hlt := ⟨_, rfl⟩
                have HSU : Hid (T3b W H L ps aw ss k sk sk.2.length = T3 W H L ps aw ss (k + 1)) := by show _ = _; rw [T3_succ _ _ _ _ _ _ _ hlt, hsk]
                have HT0 : Hid (l = T3b W H L ps aw ss k sk 0) := by show _ = _; rw [T3b_zero, ← hl.out]
                have HN0 : Hid (l.length ≤ 3000 + 200 * k + 50 * 0) := hln.out
                have hk6 : k < 6 := Nat.lt_of_lt_of_le hlt FN.out.sl
                rw [← hsk] at f0 f1 q1 HFN
                clear hl hln c0 c1 q0 hsk
                obtain ⟨wo, hwo⟩ : ∃ x, x = wr := ⟨_, rfl⟩
                subst hwo
                have hW0 := hWr.later ((Below.refl _ _).alloc (Nat.le_refl _) (.cells #[.string sk.1, .slice ao1 sk.2.length cap1] 53))
                have hK0 : Kp w1.heap.size (w1.alloc (.cells #[.pointer none, .slice none 0 0] 69)) (wo.alloc (.cells #[.string sk.1, .slice ao1 sk.2.length cap1] 53)) := hK.trans (Kp.of_below ((Below.refl _ _).alloc (Nat.le_refl _) _) (by omega))
                have hX0 : (wo.alloc (.cells #[.string sk.1, .slice ao1 sk.2.length cap1] 53)).heap[wo.heap.size]? = some (.cells #[.string sk.1, .slice ao1 sk.2.length cap1] 53 (0, 0)) := heap_alloc_new wo _
                have hgo : w1.heap.size + 1 ≤ wo.heap.size := hsr
                clear hWr hK
                go_wp2
                go_loopw [73] (fun i wr => ∃ (j : Nat) (l : List UInt8), j ≤ sk.2.length ∧ i = .int .i64 j ∧ Hid (l = T3b W H L ps aw ss k sk j) ∧ Hid (l.length ≤ 3000 + 200 * k + 50 * j) ∧ WrAt wr w1.heap.size l ∧ Kp w1.heap.size (w1.alloc (.cells #[.pointer none, .slice none 0 0] 69)) wr ∧ wr.heap[wo.heap.size]? = some (.cells #[.string sk.1, .slice ao1 sk.2.length cap1] 53 (0, 0))) (fun i _ => sk.2.length - (intOf i).toNat)
                case atStart => exact ⟨0, _, Nat.zero_le _, rfl, HT0, HN0, hW0, hK0, hX0⟩
                case round =>
                  clear hW0 hK0 hX0 HT0 HN0 f0 f1 z0 z1 z2 z3 z4 z5 z6 hszr hsr hzr hB hBx hbk
                  obtain ⟨j, l, hj, rfl, hl, hln, hWr, hK, hX⟩ := hrel
                  have hbk : Below w1.heap.size w1 wr := HBW.out wr hK
                  have hBx : Below (w.heap.size + 1) (w.alloc (.cells #[.int .i64 W, .int .i64 H, .int .i64 L, .slice ao3 ps.length cap3, .slice ao4 aw.length cap4, .slice (some ⟨b1, off, none⟩) ss.length cap5, .slice ao6 rs.length cap6] 35)) wr := hbx1.trans (hbk.mono hs1)
                  have hB : Below w.heap.size w wr := box_below hBx
                  have hszr := hK.size
                  have z0 := box_cell hBx 0
                  have z1 := box_cell hBx 1
                  have z2 := box_cell hBx 2
                  have z3 := box_cell hBx 3
                  have z4 := box_cell hBx 4
                  have z5 := box_cell hBx 5
                  have z6 := box_cell hBx 6
                  simp at z0 z1 z2 z3 z4 z5 z6
                  have hsr : w1.heap.size + 1 ≤ wr.heap.size := by have := hK.size; simp at this; omega
                  have hzr : w.heap.size < wr.heap.size := by omega

                  have g0 : wr.cell? ⟨wo.heap.size, 0, none⟩ = some (.string sk.1) := cell_of_heapW hX 0
                  have g1 : wr.cell? ⟨wo.heap.size, 1, none⟩ = some (.slice ao1 sk.2.length cap1) := cell_of_heapW hX 1
                  have hgw : wo.heap.size < wr.heap.size := (Array.getElem?_eq_some_iff.1 hX).1
                  by_cases hlt2 : j < sk.2.length
                  · obtain ⟨b2, off2, rfl, hok2, c0, c1, c2, c3, c4, c5, q2⟩ := elem_SkyBlock q1 hlt2
                    have e0 := (hB.cell (p := ⟨b2, off2 + j * 6, none⟩) hok2).trans c0
                    have e1 := (hB.cell (p := ⟨b2, off2 + j * 6 + 1, none⟩) hok2).trans c1
                    have e2 := (hB.cell (p := ⟨b2, off2 + j * 6 + 2, none⟩) hok2).trans c2
                    have e3 := (hB.cell (p := ⟨b2, off2 + j * 6 + 3, none⟩) hok2).trans c3
                    have e4 := (hB.cell (p := ⟨b2, off2 + j * 6 + 4, none⟩) hok2).trans c4
                    have e5 := (hB.cell (p := ⟨b2, off2 + j * 6 + 5, none⟩) hok2).trans c5
                    have hjI : (j : Int) < (sk.2.length : Int) := by omega
                    have hfn := HFN.out.2.2 j hlt2
                    have hpl := bl_len HFN.out.1 hfn.1 hfn.2.1 hfn.2.2.1 hfn.2.2.2.1 hfn.2.2.2.2.1 hfn.2.2.2.2.2
                    have HSV : Hid (l ++ blLine sk.1 (sk.2[j]'hlt2) = T3b W H L ps aw ss k sk (j + 1)) := by show _ = _; rw [T3b_succ _ _ _ _ _ _ _ _ _ hlt2, ← hl.out]
                    have HLN : Hid ((l ++ blLine sk.1 (sk.2[j]'hlt2)).length ≤ 3000 + 200 * k + 50 * (j + 1)) := by have := hln.out; show _ ≤ _; rw [List.length_append]; omega
                    have hj4 : j < 4 := Nat.lt_of_lt_of_le hlt2 HFN.out.2.1
                    have hll : l.length + (blLine sk.1 (sk.2[j]'hlt2)).length ≤ 1000000 := by have := hln.out; omega
                    have HL := line_rows w1.heap.size l (wr.alloc (.cells #[.int .i64 (sk.2[j]'hlt2).1, .int .i64 (sk.2[j]'hlt2).2.1, .int .i64 (sk.2[j]'hlt2).2.2.1, .int .i64 (sk.2[j]'hlt2).2.2.2.1, .int .i64 (sk.2[j]'hlt2).2.2.2.2.1, .int .i64 (sk.2[j]'hlt2).2.2.2.2.2] 55)) (wr.heap.size + 1) (wr.heap.size + 1 + 1) 2 6 #[.string ⟨#[115, 101, 99, 116, 111, 114]⟩, .string sk.1] #[.int .i64 (sk.2[j]'hlt2).1, .int .i64 (sk.2[j]'hlt2).2.1, .int .i64 (sk.2[j]'hlt2).2.2.1, .int .i64 (sk.2[j]'hlt2).2.2.2.1, .int .i64 (sk.2[j]'hlt2).2.2.2.2.1, .int .i64 (sk.2[j]'hlt2).2.2.2.2.2] [kSector, sk.1.data.toList] [(sk.2[j]'hlt2).1, (sk.2[j]'hlt2).2.1, (sk.2[j]'hlt2).2.2.1, (sk.2[j]'hlt2).2.2.2.1, (sk.2[j]'hlt2).2.2.2.2.1, (sk.2[j]'hlt2).2.2.2.2.2] (by simp) (by simp) rfl rfl (hWr.later ((Below.refl _ _).alloc (Nat.le_refl _) _)) (by simp) (by simp) (by simp) (by simp) (by simp [strVals, kSector]) rfl (by intro n hn; simp at hn; rcases hn with rfl | rfl | rfl | rfl | rfl | rfl; exact hfn.1; exact hfn.2.1; exact hfn.2.2.1; exact hfn.2.2.2.1; exact hfn.2.2.2.2.1; exact hfn.2.2.2.2.2) hll
                    clear hll hpl hfn hl hln c0 c1 c2 c3 c4 c5 q2
                    go_wp2_with fail
                    refine HL.mono ?_
                    rintro e w4 ⟨rfl, hW4, hK4⟩
                    have hK5 : Kp w1.heap.size wr w4 := (Kp.of_below ((Below.refl _ _).alloc (Nat.le_refl _) _) (by omega)).trans hK4
                    have hX5 := hK5.rest wo.heap.size _ hX (by omega) (by intro c fz hh; cases hh) (by intro c fz hh; cases hh)
                    have hK6 := hK.trans hK5
                    clear HL hK4 hK5
                    go_wp2
                    go_roundw
                    case rel => exact ⟨j + 1, _, by omega, by go_num, HSV, HLN, hW4, hK6, hX5⟩
                    case measure => simp [intOf]; omega
                  · have hje : j = sk.2.length := by omega
                    subst hje
                    have HT2 : Hid (l = T3 W H L ps aw ss (k + 1)) := by show _ = _; rw [← HSU.out, ← hl.out]
                    have HL2 : Hid (l.length ≤ 3000 + 200 * (k + 1)) := by have := hln.out; have := HFN.out.2.1; show _ ≤ _; omega
                    clear hl hln
                    go_wp2
                    go_roundw
                    case rel => exact ⟨k + 1, l, by omega, by go_num, HT2, HL2, hWr, hK⟩
                    case measure => simp [intOf]; omega
              · have hke : k = ss.length := by omega
                subst hke
                have HT2 : Hid (l = T4 W H L ps aw ss rs 0) := by show _ = _; rw [T4_zero, ← hl.out]
                have HL2 : Hid (l.length ≤ 5000 + 50 * 0) := by have := hln.out; have := FN.out.sl; show _ ≤ _; omega
                clear hl hln hB hBx hbk
                go_wp2
                go_loopw [100] (fun i wr => ∃ (k : Nat) (l : List UInt8), k ≤ rs.length ∧ i = .int .i64 k ∧ Hid (l = T4 W H L ps aw ss rs k) ∧ Hid (l.length ≤ 5000 + 50 * k) ∧ WrAt wr w1.heap.size l ∧ Kp w1.heap.size (w1.alloc (.cells #[.pointer none, .slice none 0 0] 69)) wr) (fun i _ => rs.length - (intOf i).toNat)
                case atStart => exact ⟨0, _, Nat.zero_le _, rfl, HT2, HL2, hWr, hK⟩
                case round =>
                  clear hWr hK HT2 HL2 z0 z1 z2 z3 z4 z5 z6 hszr hsr hzr hlt hk
                  obtain ⟨k, l, hk, rfl, hl, hln, hWr, hK⟩ := hrel
                  have hbk : Below w1.heap.size w1 wr := HBW.out wr hK
                  have hBx : Below (w.heap.size + 1) (w.alloc (.cells #[.int .i64 W, .int .i64 H, .int .i64 L, .slice ao3 ps.length cap3, .slice ao4 aw.length cap4, .slice ao5 ss.length cap5, .slice ao6 rs.length cap6] 35)) wr := hbx1.trans (hbk.mono hs1)
                  have hB : Below w.heap.size w wr := box_below hBx
                  have hszr := hK.size
                  have z0 := box_cell hBx 0
                  have z1 := box_cell hBx 1
                  have z2 := box_cell hBx 2
                  have z3 := box_cell hBx 3
                  have z4 := box_cell hBx 4
                  have z5 := box_cell hBx 5
                  have z6 := box_cell hBx 6
                  simp at z0 z1 z2 z3 z4 z5 z6
                  have hsr : w1.heap.size + 1 ≤ wr.heap.size := by have := hK.size; simp at this; omega
                  have hzr : w.heap.size < wr.heap.size := by omega

                  by_cases hlt : k < rs.length
                  · obtain ⟨b1, off, rfl, hok, c0, c1, c2, c3, q0, q1, q2, q3⟩ := elem_SkyRunway h.p6 hlt
                    have f0 := (hB.cell (p := ⟨b1, off + k * 4, none⟩) hok).trans c0
                    have f1 := (hB.cell (p := ⟨b1, off + k * 4 + 1, none⟩) hok).trans c1
                    have f2 := (hB.cell (p := ⟨b1, off + k * 4 + 2, none⟩) hok).trans c2
                    have f3 := (hB.cell (p := ⟨b1, off + k * 4 + 3, none⟩) hok).trans c3
                    have hkI : (k : Int) < (rs.length : Int) := by omega
                    have hfn := FN.out.r k hlt
                    have hk4 : k < 4 := Nat.lt_of_lt_of_le hlt FN.out.rl
                    have hj8 : ((rs[k]'hlt).2.2.2 - 1).toNat < 8 := by have := hfn.2.2.2.1; have := hfn.2.2.2.2; omega
                    have hpl := rw_len hfn.1 hfn.2.1 hfn.2.2.1 (wordT_fine _ hj8).1
                    have HSV : Hid (l ++ rwLine (rs[k]'hlt) = T4 W H L ps aw ss rs (k + 1)) := by show _ = _; rw [T4_succ _ _ _ _ _ _ _ _ hlt, ← hl.out]
                    have HLN : Hid ((l ++ rwLine (rs[k]'hlt)).length ≤ 5000 + 50 * (k + 1)) := by have := hln.out; show _ ≤ _; rw [List.length_append]; omega
                    have HR := runway_any w1.heap.size l (rs[k]'hlt).1 (rs[k]'hlt).2.1 (rs[k]'hlt).2.2.1 (rs[k]'hlt).2.2.2 ((rs[k]'hlt).2.2.2 - 1).toNat (wr.alloc (.cells #[.string (rs[k]'hlt).1, .int .i64 (rs[k]'hlt).2.1, .int .i64 (rs[k]'hlt).2.2.1, .int .i64 (rs[k]'hlt).2.2.2] 57)) (hWr.later ((Below.refl _ _).alloc (Nat.le_refl _) _)) (hT.later (hB.alloc (by omega) _)) hfn.1 hfn.2.1 hfn.2.2.1 hj8 (by have := hfn.2.2.2.1; omega) (by have := hln.out; omega) (by have := hT.pos; omega)
                    clear hpl hfn hl hln c0 c1 c2 c3 q0 q1 q2 q3 hj8
                    go_wp2_with fail
                    refine HR.mono ?_
                    rintro e w4 ⟨rfl, hW4, hK4⟩
                    have hK5 := hK.trans ((Kp.of_below ((Below.refl _ _).alloc (Nat.le_refl _) _) (by omega)).trans hK4)
                    clear HR hK4
                    go_wp2
                    go_roundw
                    case rel => exact ⟨k + 1, _, by omega, by go_num, HSV, HLN, hW4, hK5⟩
                    case measure => simp [intOf]; omega
                  · have hke : k = rs.length := by omega
                    subst hke
                    have hne : l ≠ [] := by rw [hl.out]; exact T4_ne W H L ps aw ss rs _
                    have hbz : Below w.heap.size w wr := hB
                    clear hln hBx hbk
                    go_wp2_with fail
                    refine (string_any w1.heap.size l _ hWr hne).mono ?_
                    rintro e w5 ⟨rfl, hb5⟩
                    have hbf : Below w.heap.size w w5 := hbz.trans (hb5.mono (by omega))
                    have hle := hl.out
                    clear hb5
                    go_wp2
                    go_ret
                    exact ⟨.inl ⟨HY.out, by rw [← hle]; rfl⟩, hbf⟩

end Go.Proofs.YtmfhbnelmbjkeabGreatDoor
