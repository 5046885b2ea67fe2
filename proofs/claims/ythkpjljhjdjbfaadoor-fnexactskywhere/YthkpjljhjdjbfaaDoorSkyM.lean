/- DERIVED. Places of blocks, on plain data. -/
import Derived.Test.YthkpjljhjdjbfaaDoorSkyD
namespace Go.Proofs.YthkpjljhjdjbfaaDoor
open Go.RowKit
set_option linter.unusedSimpArgs false
set_option linter.unusedVariables false

abbrev Spot := Int × Int × Int
def InB (s : Spot) (b : DSkyBlock) : Prop := (b.1 ≤ s.1 ∧ s.1 ≤ b.2.2.1) ∧ (b.2.1 ≤ s.2.1 ∧ s.2.1 ≤ b.2.2.2.1) ∧ (b.2.2.2.2.1 ≤ s.2.2 ∧ s.2.2 ≤ b.2.2.2.2.2)
def SomeB (bs : List DSkyBlock) (s : Spot) : Prop := ∃ b, b ∈ bs ∧ InB s b
def Apart (bs : List DSkyBlock) : Prop := bs.Pairwise (fun a b => ¬ Shares a b)

theorem shares_iff {W H L : Int} {a b : DSkyBlock} (ha : BlockOk W H L a) (hb : BlockOk W H L b) : Shares a b ↔ ∃ s, InB s a ∧ InB s b := by
  obtain ⟨aX0, aY0, aX1, aY1, al, ah⟩ := a
  obtain ⟨bX0, bY0, bX1, bY1, bl, bh⟩ := b
  simp only [BlockOk] at ha hb
  constructor
  · intro h
    simp only [Shares] at h
    refine ⟨(max aX0 bX0, max aY0 bY0, max al bl), ?_, ?_⟩ <;> (simp only [InB]; omega)
  · rintro ⟨⟨x, y, l⟩, h1, h2⟩
    simp only [InB] at h1 h2
    simp only [Shares]
    omega

theorem covers_iff {W H L : Int} {bs : List DSkyBlock} : Covers W H L bs ↔ Apart bs ∧ (bs.map vol).sum = W * H * L := by
  unfold Covers Apart
  rw [List.pairwise_iff_getElem]
  constructor
  · rintro ⟨h1, h2⟩
    exact ⟨fun i j hi hj hij => h1 j hj i hij, h2⟩
  · rintro ⟨h1, h2⟩
    exact ⟨fun i hi k hk => h1 k i (by omega) hi hk, h2⟩

theorem apart_snoc {bs : List DSkyBlock} {b : DSkyBlock} : Apart (bs ++ [b]) ↔ Apart bs ∧ ∀ a ∈ bs, ¬ Shares a b := by
  unfold Apart
  rw [List.pairwise_append]
  constructor
  · rintro ⟨h1, _, h3⟩
    exact ⟨h1, fun a ha => h3 a ha b (by simp)⟩
  · rintro ⟨h1, h2⟩
    exact ⟨h1, by simp, fun a ha c hc => by simp at hc; subst hc; exact h2 a ha⟩

theorem apart_free {W H L : Int} {bs : List DSkyBlock} {b : DSkyBlock} (hbs : ∀ a ∈ bs, BlockOk W H L a) (hb : BlockOk W H L b) :
    (∀ s, InB s b → ¬ SomeB bs s) ↔ ∀ a ∈ bs, ¬ Shares a b := by
  constructor
  · intro h a ha hs
    obtain ⟨s, h1, h2⟩ := (shares_iff (hbs a ha) hb).1 hs
    exact h s h2 ⟨a, ha, h1⟩
  · rintro h s hs ⟨a, ha, h1⟩
    exact h a ha ((shares_iff (hbs a ha) hb).2 ⟨s, h1, hs⟩)

theorem someB_snoc {bs : List DSkyBlock} {b : DSkyBlock} (s : Spot) : SomeB (bs ++ [b]) s ↔ SomeB bs s ∨ InB s b := by
  unfold SomeB
  constructor
  · rintro ⟨a, ha, h⟩
    simp at ha
    rcases ha with ha | rfl
    · exact .inl ⟨a, ha, h⟩
    · exact .inr h
  · rintro (⟨a, ha, h⟩ | h)
    · exact ⟨a, by simp [ha], h⟩
    · exact ⟨b, by simp, h⟩

theorem apart_pre {bs cs : List DSkyBlock} (h : Apart (bs ++ cs)) : Apart bs := (List.pairwise_append.1 h).1

theorem vol_snoc (bs : List DSkyBlock) (b : DSkyBlock) : ((bs ++ [b]).map vol).sum = (bs.map vol).sum + vol b := by
  simp [List.sum_append]

theorem all_take_snoc (ss : List DSkySector) (i : Nat) (h : i < ss.length) : allBlocks (ss.take (i + 1)) = allBlocks (ss.take i) ++ (ss[i]'h).2 := by
  unfold allBlocks
  rw [List.take_succ_eq_append_getElem h, List.flatMap_append]
  simp

theorem take_snoc' {α : Type} (l : List α) (k : Nat) (h : k < l.length) : l.take (k + 1) = l.take k ++ [l[k]'h] := List.take_succ_eq_append_getElem h

theorem vol_pos {W H L : Int} {b : DSkyBlock} (h : BlockOk W H L b) (hW : W ≤ 16) (hH : H ≤ 16) (hL : L ≤ 6) : 0 ≤ vol b ∧ vol b ≤ 1536 := by
  obtain ⟨X0, Y0, X1, Y1, l, u⟩ := b
  simp only [BlockOk, vol] at *
  have h1 : 1 ≤ X1 - X0 + 1 ∧ X1 - X0 + 1 ≤ 16 := by omega
  have h2 : 1 ≤ Y1 - Y0 + 1 ∧ Y1 - Y0 + 1 ≤ 16 := by omega
  have h3 : 1 ≤ u - l + 1 ∧ u - l + 1 ≤ 6 := by omega
  generalize X1 - X0 + 1 = a at *
  generalize Y1 - Y0 + 1 = b at *
  generalize u - l + 1 = c at *
  have k1 : 0 ≤ a * b := Int.mul_nonneg (by omega) (by omega)
  have k2 : a * b ≤ 16 * 16 := Int.mul_le_mul h1.2 h2.2 (by omega) (by omega)
  exact ⟨Int.mul_nonneg k1 (by omega), Int.mul_le_mul k2 h3.2 (by omega) (by omega)⟩

/-- How many places are gone through: a rows of A times C, b of C, and d. -/
def cntI (a A C b d : Int) : Int := a * A * C + b * C + d
theorem cnt_0 (A C : Int) : cntI 0 A C 0 0 = 0 := by simp [cntI]
theorem cnt_d (a A C b d : Int) : cntI a A C b (d + 1) = cntI a A C b d + 1 := by unfold cntI; omega
theorem cnt_b (a A C b : Int) : cntI a A C b C = cntI a A C (b + 1) 0 := by
  unfold cntI; rw [Int.add_mul b 1 C, Int.one_mul]; omega
theorem cnt_a (a A C : Int) : cntI a A C A 0 = cntI (a + 1) A C 0 0 := by
  unfold cntI; rw [Int.add_mul a 1 A, Int.one_mul, Int.add_mul (a * A) A C]; omega
theorem cnt_end (a A C : Int) : cntI a A C 0 0 = a * A * C := by simp [cntI]
theorem cnt_bd {a A C b d : Int} (ha : 0 ≤ a ∧ a ≤ 17) (hA : 0 ≤ A ∧ A ≤ 17) (hC : 0 ≤ C ∧ C ≤ 17) (hb : 0 ≤ b ∧ b ≤ 17) (hd : 0 ≤ d ∧ d ≤ 17) : 0 ≤ cntI a A C b d ∧ cntI a A C b d ≤ 6000 := by
  unfold cntI
  have k0 : 0 ≤ a * A := Int.mul_nonneg ha.1 hA.1
  have k1 : a * A ≤ 17 * 17 := Int.mul_le_mul ha.2 hA.2 hA.1 (by omega)
  have k2 : 0 ≤ a * A * C := Int.mul_nonneg k0 hC.1
  have k3 : a * A * C ≤ 17 * 17 * 17 := Int.mul_le_mul k1 hC.2 hC.1 (by omega)
  have k4 : 0 ≤ b * C := Int.mul_nonneg hb.1 hC.1
  have k5 : b * C ≤ 17 * 17 := Int.mul_le_mul hb.2 hC.2 hC.1 (by omega)
  omega

/-- A block as takeBlock goes through it: some rows, some of a row, some levels of a cell. -/
def Gone (b : DSkyBlock) (x y l : Int) (s : Spot) : Prop :=
  InB s (b.1, b.2.1, x - 1, b.2.2.2.1, b.2.2.2.2.1, b.2.2.2.2.2) ∨ InB s (x, b.2.1, x, y - 1, b.2.2.2.2.1, b.2.2.2.2.2) ∨ InB s (x, y, x, y, b.2.2.2.2.1, l - 1)

theorem gone_start (b : DSkyBlock) (s : Spot) : ¬ Gone b b.1 b.2.1 b.2.2.2.2.1 s := by
  unfold Gone InB; simp only; omega
theorem gone_step (b : DSkyBlock) (x y l : Int) (hl : b.2.2.2.2.1 ≤ l) (s : Spot) : Gone b x y (l + 1) s ↔ Gone b x y l s ∨ s = (x, y, l) := by
  obtain ⟨s1, s2, s3⟩ := s
  unfold Gone InB; simp only [Prod.mk.injEq]; omega
theorem gone_y (b : DSkyBlock) (x y : Int) (hy : b.2.1 ≤ y) (s : Spot) : Gone b x y (b.2.2.2.2.2 + 1) s ↔ Gone b x (y + 1) b.2.2.2.2.1 s := by
  obtain ⟨s1, s2, s3⟩ := s
  unfold Gone InB; simp only; omega
theorem gone_x (b : DSkyBlock) (x : Int) (hx : b.1 ≤ x) (s : Spot) : Gone b x (b.2.2.2.1 + 1) b.2.2.2.2.1 s ↔ Gone b (x + 1) b.2.1 b.2.2.2.2.1 s := by
  obtain ⟨s1, s2, s3⟩ := s
  unfold Gone InB; simp only; omega
theorem gone_end (b : DSkyBlock) (s : Spot) : Gone b (b.2.2.1 + 1) b.2.1 b.2.2.2.2.1 s ↔ InB s b := by
  obtain ⟨s1, s2, s3⟩ := s
  unfold Gone InB; simp only; omega
theorem gone_in {b : DSkyBlock} {x y l : Int} (hx : b.1 ≤ x ∧ x ≤ b.2.2.1) (hy : b.2.1 ≤ y ∧ y ≤ b.2.2.2.1) (hl : b.2.2.2.2.1 ≤ l ∧ l ≤ b.2.2.2.2.2) : InB (x, y, l) b := ⟨hx, hy, hl⟩
theorem gone_not (b : DSkyBlock) (x y l : Int) : ¬ Gone b x y l (x, y, l) := by
  unfold Gone InB; simp only; omega

end Go.Proofs.YthkpjljhjdjbfaaDoor
