/- DERIVED. A way by an index, on plain data; impl.skyNextOf, impl.SkyAlong: their walks. -/
import Derived.Test.YthbjofobilfbpaaVSkyIndex
import Derived.Test.YthbjofobilfbpaaSt0
namespace Go.Proofs.Ythbjofobilfbpaa
open Go.RowKit
set_option linter.unusedSimpArgs false
set_option linter.unusedVariables false

theorem lst_inj {a b : ByteArray} (h : a.toList = b.toList) : a = b := by
  rw [ByteArray.toList_eq, ByteArray.toList_eq] at h
  exact ByteArray.ext (Array.toList_inj.1 h)
theorem lst_no {a b : ByteArray} (h : ¬ a = b) : (a.toList == b.toList) = false := by
  rw [beq_eq_false_iff_ne]; exact fun e => h (lst_inj e)
theorem owns_lit (w : World) (B : Nat) (e : TypeId) (v : Value) (hB : B ≤ w.heap.size) : (w.alloc (.cells #[v] e)).ownsRow B e 1 (.slice (some ⟨w.heap.size, 0, none⟩) 1 1) 1 [v] :=
  ⟨rfl, .inr ⟨w.heap.size, 1, #[v], rfl, hB, heap_alloc_new w _, Nat.le_refl _, by decide, rfl, rfl⟩⟩

def hopB (a t : ByteArray) (h : DSkyHop) : Bool := decide (h.1 = a) && decide (h.2.1 = t)
def nextOf (hs : List DSkyHop) (a t : ByteArray) : Option ByteArray := (hs.find? (hopB a t)).map fun h => h.2.2.2
/-- From a name on, with room for f names more. -/
def alongF (hs : List DSkyHop) (t : ByteArray) : Nat → ByteArray → List ByteArray → List ByteArray
  | 0, a, acc => if a = t then acc else []
  | f + 1, a, acc => if a = t then acc else match nextOf hs a t with
    | none => []
    | some n => alongF hs t f n (acc ++ [n])
def NoHop (hs : List DSkyHop) (a t : ByteArray) (k : Nat) : Prop := ∀ j (h : j < hs.length), j < k → hopB a t (hs[j]'h) = false
theorem next_none {hs : List DSkyHop} {a t : ByteArray} (h : NoHop hs a t hs.length) : nextOf hs a t = none := by
  unfold nextOf
  rw [List.find?_eq_none.2 ?_]
  · rfl
  · intro q hq
    obtain ⟨i, hi, rfl⟩ := List.getElem_of_mem hq
    rw [h i hi hi]
    simp
theorem next_some {hs : List DSkyHop} {a t : ByteArray} {m : Nat} (hm : m < hs.length) (hno : NoHop hs a t m) (h : hopB a t (hs[m]'hm) = true) : nextOf hs a t = some (hs[m]'hm).2.2.2 := by
  unfold nextOf
  rw [(List.find?_eq_some_iff_getElem (b := hs[m]'hm)).2 ?_]
  · rfl
  · refine ⟨h, m, hm, rfl, fun j hj => ?_⟩
    rw [hno j (by omega) hj]
    rfl
theorem alongF_len (hs : List DSkyHop) (t : ByteArray) : ∀ f a acc, (alongF hs t f a acc).length ≤ acc.length + f
  | 0, a, acc => by unfold alongF; split <;> simp
  | f + 1, a, acc => by
    unfold alongF
    split
    · omega
    · split
      · simp
      · rename_i n _
        have := alongF_len hs t f n (acc ++ [n])
        simp at this
        omega
theorem along_here {hs : List DSkyHop} {t a : ByteArray} {f : Nat} {acc : List ByteArray} (h : a = t) : alongF hs t f a acc = acc := by
  cases f <;> simp [alongF, h]
theorem along_no {hs : List DSkyHop} {t a : ByteArray} {f : Nat} {acc : List ByteArray} (h : ¬ a = t) (hn : nextOf hs a t = none) : alongF hs t f a acc = [] := by
  cases f <;> simp [alongF, h, hn]
theorem along_full {hs : List DSkyHop} {t a : ByteArray} {acc : List ByteArray} (h : ¬ a = t) : alongF hs t 0 a acc = [] := by
  simp [alongF, h]
theorem along_on {hs : List DSkyHop} {t a n : ByteArray} {f : Nat} {acc : List ByteArray} (h : ¬ a = t) (hn : nextOf hs a t = some n) : alongF hs t (f + 1) a acc = alongF hs t f n (acc ++ [n]) := by
  simp [alongF, h, hn]

def nextV : Option ByteArray → Value
  | none => .tuple #[.string ⟨#[]⟩, .bool false]
  | some n => .tuple #[.string n, .bool true]

set_option maxRecDepth 100000 in
set_option maxHeartbeats 2000000 in
theorem iNext (hs : List DSkyHop) (ao : Option Addr) (cap : Nat) (a t : ByteArray) (w : World) (h : SliceAt vSkyHop (old w) w ao cap hs) :
    Calls Try.prog 26 #[.slice ao hs.length cap, .string a, .string t] w fun e w' => e = .returned (nextV (nextOf hs a t)) ∧ Below w.heap.size w w' := by
  have hlen : hs.length ≤ 9223372036854775807 := Nat.le_trans h.1 h.2.1
  go_enter Try.func26, Try.ntmps26
  go_wp2
  go_loopw [12] (fun i wr => ∃ k : Nat, k ≤ hs.length ∧ i = .int .i64 k ∧ Hid (NoHop hs a t k) ∧ Below w.heap.size w wr) (fun i _ => hs.length - (intOf i).toNat)
  case atStart => exact ⟨0, Nat.zero_le _, rfl, fun j _ hj => by omega, Below.refl _ _⟩
  case round =>
    obtain ⟨k, hk, rfl, hno, hB⟩ := hrel
    have hwz := hB.size
    by_cases hlt : k < hs.length
    · obtain ⟨b1, off, rfl, hok, c0, c1, c2, c3, q0, q1, q2, q3⟩ := elem_SkyHop h hlt
      have f0 := (hB.cell (p := ⟨b1, off + k * 4, none⟩) hok).trans c0
      have f1 := (hB.cell (p := ⟨b1, off + k * 4 + 1, none⟩) hok).trans c1
      have f2 := (hB.cell (p := ⟨b1, off + k * 4 + 2, none⟩) hok).trans c2
      have f3 := (hB.cell (p := ⟨b1, off + k * 4 + 3, none⟩) hok).trans c3
      have hkI : (k : Int) < (hs.length : Int) := by omega
      have HH : Hid (hopB a t (hs[k]'hlt) = true → nextOf hs a t = some (hs[k]'hlt).2.2.2) := fun ht => next_some hlt hno.out ht
      have HN : Hid (hopB a t (hs[k]'hlt) = false → NoHop hs a t (k + 1)) := fun hf j hj h2 => by
        by_cases e : j = k
        · subst e; exact hf
        · exact hno.out j hj (by omega)
      generalize hs[k]'hlt = hk1 at *
      obtain ⟨ha, ht, hf, hn⟩ := hk1
      simp only [hopB] at f0 f1 f2 f3 HH HN
      have hB1 : Below w.heap.size w (wr.alloc (.cells #[.string ha, .string ht, .int .i64 hf, .string hn] 60)) := hB.alloc hwz _
      clear c0 c1 c2 c3 q0 q1 q2 q3 hno
      by_cases e1 : ha = a
      · by_cases e2 : ht = t
        · have HR : Hid (nextOf hs a t = some hn) := HH.out (by simp [e1, e2])
          clear HH HN
          subst e1 e2
          go_wp2
          exact bodyPost_ret (v := .tuple #[.string hn, .bool true]) (by simp [results, Try.results26, go_sem]) rfl ⟨by rw [HR.out]; rfl, hB1⟩
        · have HR : Hid (NoHop hs a t (k + 1)) := HN.out (by simp [e2])
          have e2' := lst_no e2
          clear HH HN
          subst e1
          go_wp2
          go_roundw
          case rel => exact ⟨k + 1, by omega, by go_num, HR, hB1⟩
          case measure => simp [intOf]; omega
      · have HR : Hid (NoHop hs a t (k + 1)) := HN.out (by simp [e1])
        have e1' := lst_no e1
        clear HH HN
        go_wp2
        go_roundw
        case rel => exact ⟨k + 1, by omega, by go_num, HR, hB1⟩
        case measure => simp [intOf]; omega
    · have hke : k = hs.length := by omega
      subst hke
      have HE : Hid (nextOf hs a t = none) := next_none hno.out
      clear hno
      go_wp2
      exact bodyPost_ret (v := .tuple #[.string ⟨#[]⟩, .bool false]) (by simp [results, Try.results26, go_sem]) rfl ⟨by rw [HE.out]; rfl, hB⟩

set_option maxRecDepth 100000 in
set_option maxHeartbeats 2000000 in
theorem iAlong (hs : List DSkyHop) (ao0 : Option Addr) (n0 cap0 : Nat) (ao1 : Option Addr) (cap1 : Nat) (a t : ByteArray) (w : World) (h : SliceAt vSkyHop (old w) w ao1 cap1 hs) :
    Calls Try.prog 12 #[.agg #[.slice ao0 n0 cap0, .slice ao1 hs.length cap1], .string a, .string t] w fun e w' => ∃ ao cap, e = .returned (.slice ao (alongF hs t 15 a [a]).length cap) ∧ w'.ownsRow w.heap.size 9 1 (.slice ao (alongF hs t 15 a [a]).length cap) (alongF hs t 15 a [a]).length (strB (alongF hs t 15 a [a])) ∧ Below w.heap.size w w' := by
  obtain ⟨i0, hi, hz0, hz1, hz2⟩ := info_parts Try.infoStr
  obtain ⟨R, hR⟩ : ∃ R, R = alongF hs t 15 a [a] := ⟨_, rfl⟩
  rw [← hR]
  have HR : Hid (R = alongF hs t 15 a [a]) := hR
  have hlen : hs.length ≤ 9223372036854775807 := Nat.le_trans h.1 h.2.1
  clear hR
  have hb0 : Below w.heap.size w ((w.alloc (.cells #[.slice ao0 n0 cap0, .slice ao1 hs.length cap1] 34)).alloc (.cells #[.string a] 9)) := ((Below.refl _ _).alloc (Nat.le_refl _) _).alloc (by simp) _
  have hown0 : ((w.alloc (.cells #[.slice ao0 n0 cap0, .slice ao1 hs.length cap1] 34)).alloc (.cells #[.string a] 9)).ownsRow (w.heap.size + 1) 9 1 (.slice (some ⟨w.heap.size + 1, 0, none⟩) 1 1) 1 (strB [a]) := by
    have := owns_lit (w.alloc (.cells #[.slice ao0 n0 cap0, .slice ao1 hs.length cap1] 34)) (w.heap.size + 1) 9 (.string a) (by simp)
    rwa [World.size_alloc] at this
  go_enter Try.func12, Try.ntmps12
  go_wp2
  go_loopw [7, 8] (fun v u wr => ∃ (acc : List ByteArray) (x : ByteArray) (f : Nat) (ao : Option Addr) (cap : Nat), v = .slice ao acc.length cap ∧ u = .string x ∧ Hid (R = alongF hs t f x acc) ∧ acc.length + f = 16 ∧ wr.ownsRow (w.heap.size + 1) 9 1 (.slice ao acc.length cap) acc.length (strB acc) ∧ Below w.heap.size w wr ∧ wr.cell? ⟨w.heap.size, 1, none⟩ = some (.slice ao1 hs.length cap1) ∧ w.heap.size < wr.heap.size) (fun v _ _ => 17 - (match v with | .slice _ n _ => n | _ => 0))
  case atStart => exact ⟨[a], a, 15, _, _, rfl, rfl, HR, rfl, hown0, hb0, by go_simp, by simp; omega⟩
  case round =>
    obtain ⟨acc, x, f, ao, cap, rfl, rfl, hr, hlf, hown, hB, hc1, hws⟩ := hrel
    clear hb0 hown0 HR
    by_cases hx : x = t
    · have HE : Hid (R = acc) := by rw [show Hid (R = acc) = (R = acc) from rfl, hr.out]; exact along_here hx
      subst hx
      clear hr
      have hO : wr.ownsRow w.heap.size 9 1 (.slice ao acc.length cap) acc.length (strB acc) := by
        refine ⟨hown.1, ?_⟩
        rcases hown.2 with hn | ⟨g, cap, cur, hv, hg, r⟩
        · exact .inl hn
        · exact .inr ⟨g, cap, cur, hv, by omega, r⟩
      clear hown
      go_wp2
      go_ret
      exact ⟨ao, cap, by rw [HE.out]; rfl, by rw [HE.out]; exact hO, hB⟩
    · have hxb : ¬ x = t := hx
      have hx' := lst_no hx
      have HNX := iNext hs ao1 cap1 x t wr (h.later hB)
      generalize hnx : nextOf hs x t = nx at *
      go_wp2_with fail
      refine HNX.mono ?_
      rintro e w1 ⟨rfl, hb1⟩
      clear HNX
      have hB1 := hB.trans (hb1.mono hB.size)
      have hown1 := owns_below hown hb1
      have hc2 := (hb1.cell (p := ⟨w.heap.size, 1, none⟩) hws).trans hc1
      have hws1 : w.heap.size < w1.heap.size := by have := hb1.size; omega
      have hsz1 := hB1.size
      clear hb1 hown hB hc1
      cases nx with
      | none =>
        have HE : Hid (R = []) := by rw [show Hid (R = []) = (R = []) from rfl, hr.out]; exact along_no hxb hnx
        clear hr hnx
        simp only [nextV]
        go_wp2
        go_ret
        exact ⟨none, 0, by rw [HE.out]; rfl, by rw [HE.out]; exact ⟨rfl, .inl ⟨rfl, rfl⟩⟩, hB1⟩
      | some nm =>
        simp only [nextV]
        by_cases hfull : acc.length = 16
        · have HE : Hid (R = []) := by
            have : f = 0 := by omega
            subst this
            rw [show Hid (R = []) = (R = []) from rfl, hr.out]; exact along_full hxb
          have hfI : ((acc.length : Int) == 16) = true := by simp; omega
          clear hr hnx
          go_wp2
          go_ret
          exact ⟨none, 0, by rw [HE.out]; rfl, by rw [HE.out]; exact ⟨rfl, .inl ⟨rfl, rfl⟩⟩, hB1⟩
        · obtain ⟨f', rfl⟩ : ∃ f', f = f' + 1 := ⟨f - 1, by omega⟩
          have HE : Hid (R = alongF hs t f' nm (acc ++ [nm])) := by rw [show Hid (R = alongF hs t f' nm (acc ++ [nm])) = (R = alongF hs t f' nm (acc ++ [nm])) from rfl, hr.out]; exact along_on hxb hnx
          have hfI : ((acc.length : Int) == 16) = false := by simp; omega
          clear hr hnx
          go_wp2_with (at_builtin; refine wpList_append_own _ rfl _ _ 40 rfl (w.heap.size + 1) 9 i0 (.string ByteArray.empty) 1 16 Try.underlying40 hi hz0 hz1 hz2 rfl (by decide) _ _ _ rfl (hown1.alloc _) ⟨w1.heap.size, 0, none⟩ 1 1 [.string nm] rfl rfl ?c1 ?c2 ?c3 ?c4 ?c5 ?_)
          case c1 =>
            intro j u hj
            match j, hj with
            | 0, hj => simp at hj; subst hj; simp [Addr.add]
          case c2 => intro u hu; simp at hu; subst hu; rfl
          case c3 => unfold maxLen; omega
          case c4 => omega
          case c5 => simp; omega
          intro v' w2 hown' hgrow _
          obtain ⟨g, cap', rfl⟩ := owns_pos hown'
          have hB2 : Below w.heap.size w w2 := (hB1.alloc hsz1 _).grown hgrow (by simp; omega) (fun k hk => by have := own_ge hown1 k hk; omega)
          have hB3 : Below (w.heap.size + 1) w1 w2 := ((Below.refl (w.heap.size + 1) w1).alloc (by omega) _).grown hgrow (by simp; omega) (own_ge hown1)
          have hc3 := (hB3.cell (p := ⟨w.heap.size, 1, none⟩) (by show w.heap.size < _; omega)).trans hc2
          have hws2 : w.heap.size < w2.heap.size := by have := hB3.size; omega
          have hO : w2.ownsRow (w.heap.size + 1) 9 1 (.slice (some ⟨g, 0, none⟩) (acc ++ [nm]).length cap') (acc ++ [nm]).length (strB (acc ++ [nm])) := by rw [strB_snoc]; simpa using hown'
          clear hgrow hown' hown1 hB1 hB3 hc2
          go_wp2
          go_roundw
          case rel => exact ⟨acc ++ [nm], nm, f', _, _, by simp, rfl, HE, by simp; omega, hO, hB2, hc3, hws2⟩
          case measure => simp; omega

end Go.Proofs.Ythbjofobilfbpaa
