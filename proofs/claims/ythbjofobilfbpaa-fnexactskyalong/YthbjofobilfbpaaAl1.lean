/- DERIVED. spec.l8Hop, spec.SkyAlong: their walks. -/
import Derived.Test.YthbjofobilfbpaaAl0
import Derived.Test.YthbjofobilfbpaaFi1
import Derived.Deep.QuietTactic
import Derived.BigQuiet
namespace Go.Proofs.Ythbjofobilfbpaa
open Go.RowKit
set_option linter.unusedSimpArgs false
set_option linter.unusedVariables false

def HopR (hs : List DSkyHop) (a t : ByteArray) (r : Int) : Prop := (r = -1 ∧ nextOf hs a t = none) ∨ ∃ (m : Nat) (h : m < hs.length), r = m ∧ nextOf hs a t = some (hs[m]'h).2.2.2

set_option maxRecDepth 100000 in
set_option maxHeartbeats 2000000 in
theorem sHop (hs : List DSkyHop) (ao0 : Option Addr) (n0 cap0 : Nat) (ao1 : Option Addr) (cap1 : Nat) (a t : ByteArray) (w : World) (h : SliceAt vSkyHop (old w) w ao1 cap1 hs) :
    Calls Try.prog 25 #[.agg #[.slice ao0 n0 cap0, .slice ao1 hs.length cap1], .string a, .string t] w fun e w' => ∃ r : Int, e = .returned (.int .i64 r) ∧ HopR hs a t r ∧ Below w.heap.size w w' := by
  have hlen : hs.length ≤ 9223372036854775807 := Nat.le_trans h.1 h.2.1
  have hb0 : Below w.heap.size w (w.alloc (.cells #[.slice ao0 n0 cap0, .slice ao1 hs.length cap1] 34)) := (Below.refl _ _).alloc (Nat.le_refl _) _
  have hx0 : IxC w.heap.size (.slice ao0 n0 cap0) (.slice ao1 hs.length cap1) (w.alloc (.cells #[.slice ao0 n0 cap0, .slice ao1 hs.length cap1] 34)) := ⟨by go_simp, by go_simp⟩
  go_enter Try.func25, Try.ntmps25
  go_wp2
  obtain ⟨w0, hw0⟩ : ∃ x, x = w.alloc (.cells #[.slice ao0 n0 cap0, .slice ao1 hs.length cap1] 34) := ⟨_, rfl⟩
  have hz0 : w.heap.size < w0.heap.size := by rw [hw0]; simp
  rw [← hw0] at hb0 hx0 ⊢
  clear hw0
  go_loopw [7] (fun i wr => ∃ k : Nat, k ≤ hs.length ∧ i = .int .i64 k ∧ Hid (NoHop hs a t k) ∧ ∃ n, wr = w0.drewN n) (fun i _ => hs.length - (intOf i).toNat)
  case atStart => exact ⟨0, Nat.zero_le _, rfl, fun j _ hj => by omega, 0, rfl⟩
  case round =>
    obtain ⟨k, hk, rfl, hno, n, rfl⟩ := hrel
    obtain ⟨v0, v1⟩ := hx0
    have hd : ∀ n, Below w.heap.size w (w0.drewN n) := fun n => below_drewN hb0 n
    by_cases hlt : k < hs.length
    · obtain ⟨b1, off, rfl, hok, c0, c1, c2, c3, q0, q1, q2, q3⟩ := elem_SkyHop h hlt
      have f0 := (hb0.cell (p := ⟨b1, off + k * 4, none⟩) hok).trans c0
      have f1 := (hb0.cell (p := ⟨b1, off + k * 4 + 1, none⟩) hok).trans c1
      have hkI : (k : Int) < (hs.length : Int) := by omega
      have HH : Hid (hopB a t (hs[k]'hlt) = true → HopR hs a t k) := fun ht => .inr ⟨k, hlt, rfl, next_some hlt hno.out ht⟩
      have HN : Hid (hopB a t (hs[k]'hlt) = false → NoHop hs a t (k + 1)) := fun hf j hj h2 => by
        by_cases e : j = k
        · subst e; exact hf
        · exact hno.out j hj (by omega)
      generalize hs[k]'hlt = hk1 at *
      obtain ⟨ha, ht, hf, hn⟩ := hk1
      simp only [hopB] at f0 f1 HH HN
      clear c0 c1 c2 c3 q0 q1 q2 q3 hno
      by_cases e1 : ha = a
      · by_cases e2 : ht = t
        · have HR : Hid (HopR hs a t k) := HH.out (by simp [e1, e2])
          clear HH HN
          subst e1 e2
          go_wp2
          go_ret
          exact ⟨k, rfl, HR.out, hd _⟩
        · have HR : Hid (NoHop hs a t (k + 1)) := HN.out (by simp [e2])
          have e2' := lst_no e2
          clear HH HN
          subst e1
          go_wp2
          go_roundw
          case rel => exact ⟨k + 1, by omega, by go_num, HR, _, rfl⟩
          case measure => simp [intOf]; omega
      · have HR : Hid (NoHop hs a t (k + 1)) := HN.out (by simp [e1])
        have e1' := lst_no e1
        clear HH HN
        go_wp2
        go_roundw
        case rel => exact ⟨k + 1, by omega, by go_num, HR, _, rfl⟩
        case measure => simp [intOf]; omega
    · have hke : k = hs.length := by omega
      subst hke
      have HE : Hid (HopR hs a t (-1)) := .inl ⟨rfl, next_none hno.out⟩
      clear hno
      go_wp2
      go_ret
      exact ⟨-1, rfl, HE.out, hd _⟩

set_option maxRecDepth 100000 in
set_option maxHeartbeats 2000000 in
theorem sAlong (hs : List DSkyHop) (ao0 : Option Addr) (n0 cap0 : Nat) (ao1 : Option Addr) (cap1 : Nat) (a t : ByteArray) (w : World) (h : SliceAt vSkyHop (old w) w ao1 cap1 hs) :
    Calls Try.prog 11 #[.agg #[.slice ao0 n0 cap0, .slice ao1 hs.length cap1], .string a, .string t] w fun e w' => ∃ ao cap, e = .returned (.slice ao (alongF hs t 15 a [a]).length cap) ∧ w'.ownsRow w.heap.size 9 1 (.slice ao (alongF hs t 15 a [a]).length cap) (alongF hs t 15 a [a]).length (strB (alongF hs t 15 a [a])) ∧ Below w.heap.size w w' := by
  obtain ⟨i0, hi, hz0, hz1, hz2⟩ := info_parts Try.infoStr
  obtain ⟨R, hR⟩ : ∃ R, R = alongF hs t 15 a [a] := ⟨_, rfl⟩
  rw [← hR]
  have HR : Hid (R = alongF hs t 15 a [a]) := hR
  have hlen : hs.length ≤ 9223372036854775807 := Nat.le_trans h.1 h.2.1
  clear hR
  have hb0 : Below w.heap.size w ((w.alloc (.cells #[.slice ao0 n0 cap0, .slice ao1 hs.length cap1] 34)).alloc (.cells #[.string a] 9)) := ((Below.refl _ _).alloc (Nat.le_refl _) _).alloc (by simp) _
  have hown0 : ((w.alloc (.cells #[.slice ao0 n0 cap0, .slice ao1 hs.length cap1] 34)).alloc (.cells #[.string a] 9)).ownsRow (w.heap.size + 1) 9 1 (.slice (some ⟨w.heap.size + 1, 0, none⟩) 1 1) 1 (strB [a]) := by
    have := owns_lit (w.alloc (.cells #[.slice ao0 n0 cap0, .slice ao1 hs.length cap1] 34)) (w.heap.size + 1) 9 (.string a) (by simp)
    rwa [World.size_alloc] at this
  go_enter Try.func11, Try.ntmps11
  go_wp2
  go_loopw [1, 7] (fun u v wr => ∃ (acc : List ByteArray) (x : ByteArray) (f : Nat) (ao : Option Addr) (cap : Nat), v = .slice ao acc.length cap ∧ u = .string x ∧ Hid (R = alongF hs t f x acc) ∧ acc.length + f = 16 ∧ wr.ownsRow (w.heap.size + 1) 9 1 (.slice ao acc.length cap) acc.length (strB acc) ∧ Below w.heap.size w wr ∧ IxC w.heap.size (.slice ao0 n0 cap0) (.slice ao1 hs.length cap1) wr ∧ w.heap.size < wr.heap.size) (fun _ v _ => 17 - (match v with | .slice _ n _ => n | _ => 0))
  case atStart => exact ⟨[a], a, 15, _, _, rfl, rfl, HR, rfl, hown0, hb0, ⟨by go_simp, by go_simp⟩, by simp; omega⟩
  case round =>
    obtain ⟨acc, x, f, ao, cap, rfl, rfl, hr, hlf, hown, hB, hx, hws⟩ := hrel
    clear hb0 hown0 HR
    by_cases hxt : x = t
    · have HE : Hid (R = acc) := by rw [show Hid (R = acc) = (R = acc) from rfl, hr.out]; exact along_here hxt
      subst hxt
      clear hr
      have hO : wr.ownsRow w.heap.size 9 1 (.slice ao acc.length cap) acc.length (strB acc) := by
        refine ⟨hown.1, ?_⟩
        rcases hown.2 with hn | ⟨g, cap, cur, hv, hg, r⟩
        · exact .inl hn
        · exact .inr ⟨g, cap, cur, hv, by omega, r⟩
      clear hown
      go_wp2
      go_ret
      exact ⟨ao, cap, by rw [HE.out]; rfl, by rw [HE.out]; exact hO, hB⟩
    · have hx' := lst_no hxt
      have hA := h.later hB
      have HNX := sHop hs ao0 n0 cap0 ao1 cap1 x t wr hA
      obtain ⟨v0, v1⟩ := hx
      go_wp2_with fail
      refine HNX.mono ?_
      rintro e w1 ⟨r, rfl, hhr, hb1⟩
      clear HNX
      have hB1 := hB.trans (hb1.mono hB.size)
      have hown1 := owns_below hown hb1
      have hc0 := (hb1.cell (p := ⟨w.heap.size, 0, none⟩) hws).trans v0
      have hc1 := (hb1.cell (p := ⟨w.heap.size, 1, none⟩) hws).trans v1
      have hws1 : w.heap.size < w1.heap.size := by have := hb1.size; omega
      have hsz1 := hB1.size
      have hA1 := h.later hB1
      clear hb1 hown hB v0 v1 hA
      rcases hhr with ⟨rfl, hnx⟩ | ⟨m, hm, rfl, hnx⟩
      · have HE : Hid (R = []) := by rw [show Hid (R = []) = (R = []) from rfl, hr.out]; exact along_no hxt hnx
        clear hr hnx
        go_wp2
        go_ret
        exact ⟨some ⟨w1.heap.size, 0, none⟩, 0, by rw [HE.out]; rfl, by rw [HE.out]; exact ⟨rfl, .inr ⟨w1.heap.size, 0, #[], rfl, hsz1, heap_alloc_new w1 _, Nat.le_refl _, by decide, rfl, rfl⟩⟩, hB1.alloc hsz1 _⟩
      · by_cases hfull : acc.length = 16
        · have HE : Hid (R = []) := by
            have : f = 0 := by omega
            subst this
            rw [show Hid (R = []) = (R = []) from rfl, hr.out]; exact along_full hxt
          have hfI : (16 : Int) ≤ (acc.length : Int) := by omega
          clear hr hnx
          go_wp2
          go_ret
          exact ⟨some ⟨w1.heap.size, 0, none⟩, 0, by rw [HE.out]; rfl, by rw [HE.out]; exact ⟨rfl, .inr ⟨w1.heap.size, 0, #[], rfl, hsz1, heap_alloc_new w1 _, Nat.le_refl _, by decide, rfl, rfl⟩⟩, hB1.alloc hsz1 _⟩
        · obtain ⟨f', rfl⟩ : ∃ f', f = f' + 1 := ⟨f - 1, by omega⟩
          obtain ⟨b1, off, rfl, hok, c0, c1, c2, c3, q0, q1, q2, q3⟩ := elem_SkyHop hA1 hm
          have HE : Hid (R = alongF hs t f' (hs[m]'hm).2.2.2 (acc ++ [(hs[m]'hm).2.2.2])) := by rw [show Hid (R = alongF hs t f' (hs[m]'hm).2.2.2 (acc ++ [(hs[m]'hm).2.2.2])) = (R = alongF hs t f' (hs[m]'hm).2.2.2 (acc ++ [(hs[m]'hm).2.2.2])) from rfl, hr.out]; exact along_on hxt hnx
          have hfI : (acc.length : Int) < 16 := by omega
          have hmI : (m : Int) < (hs.length : Int) := by omega
          generalize (hs[m]'hm).2.2.2 = nm at *
          clear hr hnx c0 c1 c2 q0 q1 q2 q3
          go_wp2_with (at_builtin; refine wpList_append_own _ rfl _ _ 40 rfl (w.heap.size + 1) 9 i0 (.string ByteArray.empty) 1 16 Try.underlying40 hi hz0 hz1 hz2 rfl (by decide) _ _ _ rfl (hown1.alloc _) ⟨w1.heap.size, 0, none⟩ 1 1 [.string nm] rfl rfl ?c1 ?c2 ?c3 ?c4 ?c5 ?_)
          case c1 =>
            intro j u hj
            match j, hj with
            | 0, hj => simp at hj; subst hj; simp [Addr.add]
          case c2 => intro u hu; simp at hu; subst hu; rfl
          case c3 => unfold maxLen; omega
          case c4 => omega
          case c5 => simp; omega
          intro v' w2 hown' hgrow _
          obtain ⟨g, cap', rfl⟩ := owns_pos hown'
          have hB2 : Below w.heap.size w w2 := (hB1.alloc hsz1 _).grown hgrow (by simp; omega) (fun k hk => by have := own_ge hown1 k hk; omega)
          have hB3 : Below (w.heap.size + 1) w1 w2 := ((Below.refl (w.heap.size + 1) w1).alloc (by omega) _).grown hgrow (by simp; omega) (own_ge hown1)
          have hc2 := (hB3.cell (p := ⟨w.heap.size, 0, none⟩) (by show w.heap.size < _; omega)).trans hc0
          have hc3 := (hB3.cell (p := ⟨w.heap.size, 1, none⟩) (by show w.heap.size < _; omega)).trans hc1
          have hws2 : w.heap.size < w2.heap.size := by have := hB3.size; omega
          have hO : w2.ownsRow (w.heap.size + 1) 9 1 (.slice (some ⟨g, 0, none⟩) (acc ++ [nm]).length cap') (acc ++ [nm]).length (strB (acc ++ [nm])) := by rw [strB_snoc]; simpa using hown'
          clear hgrow hown' hown1 hB1 hB3 hc0 hc1 c3
          go_wp2
          go_roundw
          case rel => exact ⟨acc ++ [nm], nm, f', _, _, by simp, rfl, HE, by simp; omega, hO, hB2, ⟨hc2, hc3⟩, hws2⟩
          case measure => simp; omega

end Go.Proofs.Ythbjofobilfbpaa
