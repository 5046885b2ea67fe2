/- DERIVED. Names, and numbers within bounds, on plain data. -/
import Derived.Test.YtpjacfnjjkoikaaKGWa
namespace Go.Proofs.Ytpjacfnjjkoikaa
open Go.RowKit
set_option linter.unusedSimpArgs false
set_option linter.unusedVariables false

def NameByte (c : UInt8) : Prop := (97 ≤ c.toNat ∧ c.toNat ≤ 122) ∨ (48 ≤ c.toNat ∧ c.toNat ≤ 57) ∨ c.toNat = 45
def NameOk (s : ByteArray) : Prop := 1 ≤ s.size ∧ s.size ≤ 8 ∧ ∀ i (h : i < s.size), NameByte (s[i]'h)
def SLess (a b : ByteArray) : Prop := Op.bytesLess a.toList b.toList = true
def InR (n lo hi : Int) : Prop := lo ≤ n ∧ n ≤ hi

end Go.Proofs.Ytpjacfnjjkoikaa
