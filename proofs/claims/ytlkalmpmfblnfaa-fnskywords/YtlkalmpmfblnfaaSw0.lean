/- DERIVED. What the small functions of layer 1 answer: their walks. -/
import Derived.Test.YtlkalmpmfblnfaaRows
import Derived.WalkKit
import Derived.WalkSpells
import Derived.WalkLawsBesides
namespace Go.Proofs.Ytlkalmpmfblnfaa
open Go.RowKit
set_option linter.unusedSimpArgs false
set_option linter.unusedVariables false

theorem wordRune_yes (r : Int) (w : World) (h1 : 33 ≤ r) (h2 : r ≤ 126) :
    Calls Try.prog 46 #[.int .i32 r] w fun e w' => e = .returned (.bool true) ∧ w' = w := by
  go_enter Try.func46, Try.ntmps46
  go_wp2
  go_ret
  exact ⟨by simp [h2], rfl⟩

theorem wordRune_no (r : Int) (w : World) (h : r < 33 ∨ 126 < r) :
    Calls Try.prog 46 #[.int .i32 r] w fun e w' => e = .returned (.bool false) ∧ w' = w := by
  rcases h with h | h
  · have h1 : ¬ 33 ≤ r := by omega
    go_enter Try.func46, Try.ntmps46
    go_wp2
    go_ret
    exact ⟨by simp [h], rfl⟩
  · have h1 : 33 ≤ r := by omega
    have h2 : ¬ r ≤ 126 := by omega
    go_enter Try.func46, Try.ntmps46
    go_wp2
    go_ret
    exact ⟨by simp [h1, h2], rfl⟩

theorem gapWords_any (ao : Option Addr) (n cap : Nat) (w : World) :
    Calls Try.prog 45 #[.agg #[.slice ao n cap]] w fun e w' => e = .returned (.slice ao n cap) ∧ Below w.heap.size w w' := by
  go_enter Try.func45, Try.ntmps45
  go_wp2
  go_ret
  exact ⟨rfl, (Below.refl _ _).alloc (Nat.le_refl _) _⟩

theorem gapRead_space (ao : Option Addr) (n cap : Nat) (w : World) :
    Calls Try.prog 44 #[.agg #[.slice ao n cap], .int .i32 32] w fun e w' => e = .returned (.iface 44 (.agg #[.slice ao n cap])) ∧ Below w.heap.size w w' := by
  go_enter Try.func44, Try.ntmps44
  go_wp2
  go_ret
  exact ⟨rfl, (Below.refl _ _).alloc (Nat.le_refl _) _⟩

theorem gapRead_bad (ao : Option Addr) (n cap : Nat) (r : Int) (w : World) (h0 : (r == 32) = false) (h : r < 33 ∨ 126 < r) :
    Calls Try.prog 44 #[.agg #[.slice ao n cap], .int .i32 r] w fun e w' => e = .returned .nilIface ∧ Below w.heap.size w w' := by
  go_enter Try.func44, Try.ntmps44
  go_wp2_with (go_at_call 46; refine (wordRune_no _ _ h).mono ?_; rintro e w' ⟨rfl, rfl⟩)
  go_ret
  exact ⟨rfl, (Below.refl _ _).alloc (Nat.le_refl _) _⟩

theorem gapRead_full (ao : Option Addr) (cap : Nat) (r : Int) (w : World) (h0 : (r == 32) = false) (h1 : 33 ≤ r) (h2 : r ≤ 126) :
    Calls Try.prog 44 #[.agg #[.slice ao 12 cap], .int .i32 r] w fun e w' => e = .returned .nilIface ∧ Below w.heap.size w w' := by
  go_enter Try.func44, Try.ntmps44
  go_wp2_with (go_at_call 46; refine (wordRune_yes _ _ h1 h2).mono ?_; rintro e w' ⟨rfl, rfl⟩)
  go_ret
  exact ⟨rfl, (Below.refl _ _).alloc (Nat.le_refl _) _⟩

theorem enc_byte (c : UInt8) (h : c.toNat ≤ 126) : Utf8.encode (c.toNat : Int) = ⟨#[c]⟩ := by
  have hv : Utf8.valid (c.toNat : Int) = true := by simp [Utf8.valid]; omega
  have h2 : c.toNat < 128 := by omega
  simp [Utf8.encode, hv, h2]

theorem add_byte (l : List UInt8) (c : UInt8) : ((⟨l.toArray⟩ : ByteArray) ++ (⟨#[c]⟩ : ByteArray)) = ⟨(l ++ [c]).toArray⟩ := by
  apply ByteArray.ext
  simp [ByteArray.data_append]

theorem gapRead_new (ao : Option Addr) (n cap : Nat) (c : UInt8) (w : World) (h1 : 33 ≤ c.toNat) (h2 : c.toNat ≤ 126) (hn : n < 12) :
    Calls Try.prog 44 #[.agg #[.slice ao n cap], .int .i32 c.toNat] w fun e w' => e = .returned (.iface 73 (.agg #[.slice ao n cap, .string ⟨#[c]⟩])) ∧ Below w.heap.size w w' := by
  have hne : ((n : Int) == 12) = false := by simp; omega
  have h0 : ((c.toNat : Int) == 32) = false := by simp; omega
  rw [← enc_byte c h2]
  go_enter Try.func44, Try.ntmps44
  go_wp2_with (go_at_call 46; refine (wordRune_yes _ _ (by omega) (by omega)).mono ?_; rintro e w' ⟨rfl, rfl⟩)
  go_ret
  exact ⟨rfl, (Below.refl _ _).alloc (Nat.le_refl _) _⟩

theorem Try.infoStr : (Try.prog.info? 9).map (fun i => (i.zero, i.size, i.bytes)) = some (some (.string ByteArray.empty), 1, 16) := by kernel_rfl

theorem owns_pos {w : World} {base : Nat} {e : TypeId} {size : Nat} {v : Value} {n : Nat} {xs : List Value} (h : w.ownsRow base e size v (n + 1) xs) : ∃ g cap, v = .slice (some ⟨g, 0, none⟩) (n + 1) cap := by
  rcases h.2 with ⟨_, h0⟩ | ⟨g, cap, cur, hv, _⟩
  · omega
  · exact ⟨g, cap, hv⟩

theorem own_ge {w : World} {base : Nat} {e : TypeId} {size : Nat} {v : Value} {n : Nat} {xs : List Value} (h : w.ownsRow base e size v n xs) : ∀ k, v.ownBlock = some k → base ≤ k := fun k hk => (h.lt k hk).1

/-- What is owned stays owned where nothing that was there has turned. -/
theorem owns_below {w w' : World} {base : Nat} {e : TypeId} {size : Nat} {v : Value} {n : Nat} {xs : List Value} (h : w.ownsRow base e size v n xs) (hb : Below w.heap.size w w') : w'.ownsRow base e size v n xs := by
  refine ⟨h.1, ?_⟩
  rcases h.2 with hn | ⟨g, cap, cur, hv, hg, hh, r⟩
  · exact .inl hn
  · exact .inr ⟨g, cap, cur, hv, hg, by rw [hb.block g (Array.getElem?_eq_some_iff.1 hh).1]; exact hh, r⟩

theorem wordWords_any (ao : Option Addr) (n cap : Nat) (s : ByteArray) (base : Nat) (xs : List Value) (w : World) (hn : n ≤ 100) (hb : base ≤ w.heap.size)
    (hown : w.ownsRow base 9 1 (.slice ao n cap) n xs) :
    Calls Try.prog 49 #[.agg #[.slice ao n cap, .string s]] w fun e w' => ∃ g cap', e = .returned (.slice (some ⟨g, 0, none⟩) (n + 1) cap') ∧ w'.ownsRow base 9 1 (.slice (some ⟨g, 0, none⟩) (n + 1) cap') (n + 1) (xs ++ [.string s]) ∧ Below base w w' := by
  obtain ⟨i0, hi, hz0, hz1, hz2⟩ := info_parts Try.infoStr
  go_enter Try.func49, Try.ntmps49
  go_wp2_with (at_builtin; refine wpList_append_own _ rfl _ _ 24 rfl base 9 i0 (.string ByteArray.empty) 1 16 Try.underlying24 hi hz0 hz1 hz2 rfl (by decide) _ _ _ rfl ((hown.alloc _).alloc _) ⟨w.heap.size + 1, 0, none⟩ 1 1 [.string s] rfl rfl ?c1 ?c2 ?c3 ?c4 ?c5 ?_)
  case c1 =>
    intro j u hj
    match j, hj with
    | 0, hj => simp at hj; subst hj; simp [Addr.add]
  case c2 => intro u hu; simp at hu; subst hu; rfl
  case c3 => unfold maxLen; omega
  case c4 => omega
  case c5 => simp; omega
  intro v' w1 hown' hgrow _
  obtain ⟨g, cap', rfl⟩ := owns_pos hown'
  have hbel : Below base w w1 := (((Below.refl base w).alloc hb _).alloc (by simp; omega) _).grown hgrow (by simp; omega) (own_ge hown)
  clear hgrow
  go_wp2
  go_ret
  exact ⟨g, cap', rfl, hown', hbel⟩

theorem wordRead_space (ao : Option Addr) (n cap : Nat) (s : ByteArray) (base : Nat) (xs : List Value) (w : World) (hn : n ≤ 100) (hb : base ≤ w.heap.size)
    (hown : w.ownsRow base 9 1 (.slice ao n cap) n xs) :
    Calls Try.prog 48 #[.agg #[.slice ao n cap, .string s], .int .i32 32] w fun e w' => ∃ g cap', e = .returned (.iface 44 (.agg #[.slice (some ⟨g, 0, none⟩) (n + 1) cap'])) ∧ w'.ownsRow base 9 1 (.slice (some ⟨g, 0, none⟩) (n + 1) cap') (n + 1) (xs ++ [.string s]) ∧ Below base w w' := by
  go_enter Try.func48, Try.ntmps48
  go_wp2_with fail
  refine (wordWords_any ao n cap s base xs _ hn (by simp; omega) (hown.alloc _)).mono ?_
  rintro e w1 ⟨g, cap', rfl, hown', hbel⟩
  have hbel' : Below base w w1 := ((Below.refl base w).alloc hb _).trans hbel
  clear hbel hown
  go_wp2
  go_ret
  exact ⟨g, cap', rfl, hown', hbel'⟩

theorem wordRead_bad (ao : Option Addr) (n cap : Nat) (s : ByteArray) (r : Int) (w : World) (h0 : (r == 32) = false) (h : r < 33 ∨ 126 < r) :
    Calls Try.prog 48 #[.agg #[.slice ao n cap, .string s], .int .i32 r] w fun e w' => e = .returned .nilIface ∧ Below w.heap.size w w' := by
  go_enter Try.func48, Try.ntmps48
  go_wp2_with (go_at_call 46; refine (wordRune_no _ _ h).mono ?_; rintro e w' ⟨rfl, rfl⟩)
  go_ret
  exact ⟨rfl, (Below.refl _ _).alloc (Nat.le_refl _) _⟩

theorem wordRead_full (ao : Option Addr) (n cap : Nat) (s : ByteArray) (r : Int) (w : World) (h0 : (r == 32) = false) (h1 : 33 ≤ r) (h2 : r ≤ 126) (hs : ((s.size : Int) == 24) = true) :
    Calls Try.prog 48 #[.agg #[.slice ao n cap, .string s], .int .i32 r] w fun e w' => e = .returned .nilIface ∧ Below w.heap.size w w' := by
  go_enter Try.func48, Try.ntmps48
  go_wp2_with (go_at_call 46; refine (wordRune_yes _ _ h1 h2).mono ?_; rintro e w' ⟨rfl, rfl⟩)
  go_ret
  exact ⟨rfl, (Below.refl _ _).alloc (Nat.le_refl _) _⟩

theorem wordRead_more (ao : Option Addr) (n cap : Nat) (s : ByteArray) (c : UInt8) (w : World) (h1 : 33 ≤ c.toNat) (h2 : c.toNat ≤ 126) (hs : s.size < 24) :
    Calls Try.prog 48 #[.agg #[.slice ao n cap, .string s], .int .i32 c.toNat] w fun e w' => e = .returned (.iface 73 (.agg #[.slice ao n cap, .string (s ++ ⟨#[c]⟩)])) ∧ Below w.heap.size w w' := by
  have hne : ((s.size : Int) == 24) = false := by simp; omega
  have h0 : ((c.toNat : Int) == 32) = false := by simp; omega
  have hel : (Utf8.encode (c.toNat : Int)).size = 1 := by rw [enc_byte c h2]; rfl
  rw [← enc_byte c h2]
  have hadd := fun W => run_string_add_sum (P := Try.prog) W s (Utf8.encode (c.toNat : Int)) (by omega)
  go_enter Try.func48, Try.ntmps48
  go_wp2_with (go_at_call 46; refine (wordRune_yes _ _ (by omega) (by omega)).mono ?_; rintro e w' ⟨rfl, rfl⟩)
  go_ret
  exact ⟨rfl, (Below.refl _ _).alloc (Nat.le_refl _) _⟩

end Go.Proofs.Ytlkalmpmfblnfaa
