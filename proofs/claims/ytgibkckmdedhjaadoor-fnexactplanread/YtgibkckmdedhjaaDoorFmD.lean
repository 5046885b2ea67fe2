/- DERIVED. The form of a change, on plain data. -/
import Derived.Test.YtgibkckmdedhjaaDoorPbD
import Derived.Test.YtgibkckmdedhjaaDoorPwD
import Derived.Lib.ItoaNum
import Derived.Lib.Join
import Derived.Lib.IndexLaws
import Derived.Lib.Bytealg
namespace Go.Proofs.YtgibkckmdedhjaaDoor
open Go.RowKit
set_option linter.unusedSimpArgs false
set_option linter.unusedVariables false

def whatL : List (List UInt8) := [[107, 105, 110, 100], [116, 105, 109, 101], [108, 101, 118, 101, 108], [114, 111, 117, 116, 101], [115, 116, 97, 116, 101]]
/-- The word of what a change is about. -/
def whatW (wh : Int) : List UInt8 := whatL.getD (wh - 1).toNat []
def NoNl (v : ByteArray) : Prop := ∀ j, j < v.size → ¬ bAt v j = 10
def FormOk (f : ByteArray) (wh n : Int) (v : ByteArray) : Prop := NameOk f ∧ InR n 1 1000000 ∧ InR wh 1 5 ∧ ¬ v = ByteArray.empty ∧ NoNl v
def formL (f : ByteArray) (wh n : Int) (v : ByteArray) : List UInt8 := [115, 101, 116, 32] ++ f.data.toList ++ [32] ++ whatW wh ++ [32] ++ Lib.decDigits n.toNat ++ [32] ++ v.data.toList
noncomputable def formOf (f : ByteArray) (wh n : Int) (v : ByteArray) : ByteArray := if pb (FormOk f wh n v) then ⟨(formL f wh n v).toArray⟩ else ByteArray.empty
theorem formOf_yes {f : ByteArray} {wh n : Int} {v : ByteArray} (h : FormOk f wh n v) : Hid (formOf f wh n v = ⟨(formL f wh n v).toArray⟩) := by show _ = _; unfold formOf; rw [pb_yes h]; rfl
theorem formOf_no {f : ByteArray} {wh n : Int} {v : ByteArray} (h : ¬ FormOk f wh n v) : Hid (formOf f wh n v = ByteArray.empty) := by show _ = _; unfold formOf; rw [pb_no h]; rfl

theorem whatW_len (wh : Int) : (whatW wh).length ≤ 5 := by
  unfold whatW whatL
  generalize (wh - 1).toNat = k
  match k with
  | 0 => decide
  | 1 => decide
  | 2 => decide
  | 3 => decide
  | 4 => decide
  | k + 5 => simp

theorem decDigits_len (u : Nat) : (Lib.decDigits u).length ≤ u + 1 := by
  induction u using Nat.strongRecOn with
  | _ u ih =>
    rw [Lib.decDigits]
    split
    · simp
    · have := ih (u / 10) (by omega)
      simp
      omega

/-- Whether a newline is in a text. -/
theorem nl_iff (v : ByteArray) : decide (0 ≤ Lib.indexByte v.data.toList 10) = !pb (NoNl v) := by
  have hget : ∀ k, k < v.size → v.data.toList[k]? = some 10 → bAt v k = 10 := fun k hk h => by
    rw [bAt_eq hk]
    rw [List.getElem?_eq_getElem (by simpa using hk)] at h
    have : v[k] = 10 := Option.some.inj h
    rw [this]; rfl
  have hput : ∀ k, k < v.size → bAt v k = 10 → v.data.toList[k]? = some 10 := fun k hk h => by
    rw [bAt_eq hk] at h
    rw [List.getElem?_eq_getElem (by simpa using hk)]
    have e : v[k] = 10 := UInt8.toNat_inj.1 (by rw [h]; rfl)
    exact congrArg some e
  have hge := Lib.indexByte_ge v.data.toList 10
  by_cases h : 0 ≤ Lib.indexByte v.data.toList 10
  · obtain ⟨o, ho⟩ := Int.eq_ofNat_of_zero_le h
    have h1 := (Lib.indexByte_some ho).1
    have hlt : o < v.size := by
      have := (List.getElem?_eq_some_iff.1 h1).1
      simpa using this
    rw [pb_no (fun h2 => h2 o hlt (hget o hlt h1))]
    simp [h]
  · have e : Lib.indexByte v.data.toList 10 = -1 := by omega
    have h1 := Lib.indexByte_none e
    rw [pb_yes (show NoNl v from fun j hj h2 => h1 j (hput j hj h2))]
    simp [h]

theorem empty_iff (v : ByteArray) : (v.toList == []) = pb (v = ByteArray.empty) := by
  by_cases h : v = ByteArray.empty
  · rw [pb_yes h, h, ByteArray.toList_eq]; rfl
  · rw [pb_no h]
    cases e : v.toList == []
    · rfl
    · exfalso
      apply h
      have h1 : v.toList = [] := by simpa using e
      rw [ByteArray.toList_eq] at h1
      exact ByteArray.ext (Array.ext' h1)

end Go.Proofs.YtgibkckmdedhjaaDoor
