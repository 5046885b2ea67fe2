/- DERIVED. What a valid sky is, on plain data. -/
import Derived.Test.YthkpjljhjdjbfaaDoorVSky
namespace Go.Proofs.YthkpjljhjdjbfaaDoor
open Go.RowKit
set_option linter.unusedSimpArgs false
set_option linter.unusedVariables false

def NameByte (c : UInt8) : Prop := (97 ≤ c.toNat ∧ c.toNat ≤ 122) ∨ (48 ≤ c.toNat ∧ c.toNat ≤ 57) ∨ c.toNat = 45
def NameOk (s : ByteArray) : Prop := 1 ≤ s.size ∧ s.size ≤ 8 ∧ ∀ i (h : i < s.size), NameByte (s[i]'h)
def SLess (a b : ByteArray) : Prop := Op.bytesLess a.toList b.toList = true
def InR (n lo hi : Int) : Prop := lo ≤ n ∧ n ≤ hi

/-- Names ascend, and each is one. -/
def NamesOk (l : List ByteArray) : Prop := ∀ i (h : i < l.length), NameOk (l[i]'h) ∧ ∀ h0 : 0 < i, SLess (l[i - 1]'(by omega)) (l[i]'h)

def PointOk (W H : Int) (ps : List DSkyPoint) (i : Nat) (h : i < ps.length) : Prop :=
  NameOk (ps[i]'h).1 ∧ (∀ h0 : 0 < i, SLess (ps[i - 1]'(by omega)).1 (ps[i]'h).1) ∧ InR (ps[i]'h).2.1 0 (W - 1) ∧ InR (ps[i]'h).2.2 0 (H - 1) ∧ ∀ k (hk : k < i), ¬ ((ps[k]'(by omega)).2.1 = (ps[i]'h).2.1 ∧ (ps[k]'(by omega)).2.2 = (ps[i]'h).2.2)
def PointsOk (W H : Int) (ps : List DSkyPoint) : Prop := ps.length ≤ 16 ∧ ∀ i h, PointOk W H ps i h

def HasPoint (ps : List DSkyPoint) (n : ByteArray) : Prop := ∃ i, ∃ h : i < ps.length, (ps[i]'h).1 = n
def ChainOk (ps : List DSkyPoint) (c : List ByteArray) : Prop := 2 ≤ c.length ∧ c.length ≤ 8 ∧ ∀ k (h : k < c.length), HasPoint ps (c[k]'h) ∧ ∀ j (hj : j < k), (c[j]'(by omega)) ≠ c[k]'h
def AirwayOk (ps : List DSkyPoint) (aw : List DSkyAirway) (i : Nat) (h : i < aw.length) : Prop :=
  NameOk (aw[i]'h).1 ∧ (∀ h0 : 0 < i, SLess (aw[i - 1]'(by omega)).1 (aw[i]'h).1) ∧ ChainOk ps (aw[i]'h).2
def AirwaysOk (ps : List DSkyPoint) (aw : List DSkyAirway) : Prop := aw.length ≤ 8 ∧ ∀ i h, AirwayOk ps aw i h

/-- X0, Y0, X1, Y1, Low, High. -/
def BlockOk (W H L : Int) (b : DSkyBlock) : Prop := (0 ≤ b.1 ∧ b.1 ≤ b.2.2.1 ∧ b.2.2.1 < W) ∧ (0 ≤ b.2.1 ∧ b.2.1 ≤ b.2.2.2.1 ∧ b.2.2.2.1 < H) ∧ (1 ≤ b.2.2.2.2.1 ∧ b.2.2.2.2.1 ≤ b.2.2.2.2.2 ∧ b.2.2.2.2.2 ≤ L)
def BlockLess (a b : DSkyBlock) : Prop := a.1 < b.1 ∨ (a.1 = b.1 ∧ (a.2.1 < b.2.1 ∨ (a.2.1 = b.2.1 ∧ a.2.2.2.2.1 < b.2.2.2.2.1)))
def BlocksOk (W H L : Int) (bs : List DSkyBlock) : Prop := 1 ≤ bs.length ∧ bs.length ≤ 4 ∧ ∀ k (h : k < bs.length), BlockOk W H L (bs[k]'h) ∧ ∀ h0 : 0 < k, BlockLess (bs[k - 1]'(by omega)) (bs[k]'h)
def SectorOk (W H L : Int) (ss : List DSkySector) (i : Nat) (h : i < ss.length) : Prop :=
  NameOk (ss[i]'h).1 ∧ (∀ h0 : 0 < i, SLess (ss[i - 1]'(by omega)).1 (ss[i]'h).1) ∧ BlocksOk W H L (ss[i]'h).2
def SectorsOk (W H L : Int) (ss : List DSkySector) : Prop := ss.length ≤ 6 ∧ ∀ i h, SectorOk W H L ss i h

def allBlocks (ss : List DSkySector) : List DSkyBlock := ss.flatMap (·.2)
def Shares (a b : DSkyBlock) : Prop := a.1 ≤ b.2.2.1 ∧ b.1 ≤ a.2.2.1 ∧ a.2.1 ≤ b.2.2.2.1 ∧ b.2.1 ≤ a.2.2.2.1 ∧ a.2.2.2.2.1 ≤ b.2.2.2.2.2 ∧ b.2.2.2.2.1 ≤ a.2.2.2.2.2
def vol (b : DSkyBlock) : Int := (b.2.2.1 - b.1 + 1) * (b.2.2.2.1 - b.2.1 + 1) * (b.2.2.2.2.2 - b.2.2.2.2.1 + 1)
def Covers (W H L : Int) (bs : List DSkyBlock) : Prop := (∀ i (h : i < bs.length) k (hk : k < i), ¬ Shares (bs[k]'(by omega)) (bs[i]'h)) ∧ (bs.map vol).sum = W * H * L

def dxOf (t : Int) : Int := if t = 2 ∨ t = 3 ∨ t = 4 then 1 else if t = 6 ∨ t = 7 ∨ t = 8 then -1 else 0
def dyOf (t : Int) : Int := if t = 1 ∨ t = 2 ∨ t = 8 then 1 else if t = 4 ∨ t = 5 ∨ t = 6 then -1 else 0
/-- Name, X, Y, Turn. -/
def RunwayOk (W H : Int) (rs : List DSkyRunway) (i : Nat) (h : i < rs.length) : Prop :=
  NameOk (rs[i]'h).1 ∧ (∀ h0 : 0 < i, SLess (rs[i - 1]'(by omega)).1 (rs[i]'h).1) ∧ InR (rs[i]'h).2.1 0 (W - 1) ∧ InR (rs[i]'h).2.2.1 0 (H - 1) ∧ InR (rs[i]'h).2.2.2 1 8 ∧
  InR ((rs[i]'h).2.1 - dxOf (rs[i]'h).2.2.2) 0 (W - 1) ∧ InR ((rs[i]'h).2.2.1 - dyOf (rs[i]'h).2.2.2) 0 (H - 1) ∧ ∀ k (hk : k < i), ¬ ((rs[k]'(by omega)).2.1 = (rs[i]'h).2.1 ∧ (rs[k]'(by omega)).2.2.1 = (rs[i]'h).2.2.1)
def RunwaysOk (W H : Int) (rs : List DSkyRunway) : Prop := rs.length ≤ 4 ∧ ∀ i h, RunwayOk W H rs i h

def SizeOk (x : DSky) : Prop := InR x.1 1 16 ∧ InR x.2.1 1 16 ∧ InR x.2.2.1 1 6
def ValidSky (x : DSky) : Prop := SizeOk x ∧ PointsOk x.1 x.2.1 x.2.2.2.1 ∧ AirwaysOk x.2.2.2.1 x.2.2.2.2.1 ∧ SectorsOk x.1 x.2.1 x.2.2.1 x.2.2.2.2.2.1 ∧ Covers x.1 x.2.1 x.2.2.1 (allBlocks x.2.2.2.2.2.1) ∧ RunwaysOk x.1 x.2.1 x.2.2.2.2.2.2

end Go.Proofs.YthkpjljhjdjbfaaDoor
