/- DERIVED. spec.l21Max, l21Min; spec.FlySpans over what l24Spans gives. -/
import Derived.Test.YtpjacfnjjkoikaaKTsS1
import Derived.Test.YtpjacfnjjkoikaaKFyS1
namespace Go.Proofs.Ytpjacfnjjkoikaa
namespace Fly
open Go.RowKit
set_option linter.unusedSimpArgs false
set_option linter.unusedVariables false

theorem sMx (a b m : Int) (w : World) (h : fmx a b = m) :
    Calls Try.prog 73 #[.int .i64 a, .int .i64 b] w fun e w' => e = .returned (.int .i64 m) ∧ w = w' := by
  subst h
  rcases Int.lt_trichotomy a b with h1 | h1 | h1
  · rw [show fmx a b = b from if_pos h1]
    go_enter Try.func73, Try.ntmps73
    go_wp2
    go_ret
    exact ⟨rfl, rfl⟩
  · subst h1
    rw [show fmx a a = a by unfold fmx; split <;> rfl]
    go_enter Try.func73, Try.ntmps73
    go_wp2
    go_ret
    exact ⟨rfl, rfl⟩
  · rw [show fmx a b = a from if_neg (by omega)]
    go_enter Try.func73, Try.ntmps73
    go_wp2
    go_ret
    exact ⟨rfl, rfl⟩
theorem sMn (a b m : Int) (w : World) (h : fmn a b = m) :
    Calls Try.prog 74 #[.int .i64 a, .int .i64 b] w fun e w' => e = .returned (.int .i64 m) ∧ w = w' := by
  subst h
  rcases Int.lt_trichotomy a b with h1 | h1 | h1
  · rw [show fmn a b = a from if_pos h1]
    go_enter Try.func74, Try.ntmps74
    go_wp2
    go_ret
    exact ⟨rfl, rfl⟩
  · subst h1
    rw [show fmn a a = a by unfold fmn; split <;> rfl]
    go_enter Try.func74, Try.ntmps74
    go_wp2
    go_ret
    exact ⟨rfl, rfl⟩
  · rw [show fmn a b = b from if_neg (by omega)]
    go_enter Try.func74, Try.ntmps74
    go_wp2
    go_ret
    exact ⟨rfl, rfl⟩

theorem own_lo2' {W : World} {b b' : Nat} {e : TypeId} {size k : Nat} {v : Value} {xs : List Value} (h : W.ownsRow b e size v k xs) (hb : b' ≤ b) : W.ownsRow b' e size v k xs := by
  refine ⟨h.1, ?_⟩
  rcases h.2 with h1 | ⟨g, c, cur, h1, h2, h3⟩
  · exact .inl h1
  · exact .inr ⟨g, c, cur, h1, by omega, h3⟩
theorem emptyS (w : World) (e : TypeId) (B : Nat) (hB : B ≤ w.heap.size) : (w.alloc (.cells #[] e)).ownsRow B e 2 (.slice (some ⟨w.heap.size, 0, none⟩) 0 0) 0 [] :=
  World.ownsRow_made w #[] 0 hB (Nat.zero_le _) rfl

set_option maxHeartbeats 2000000 in
theorem sSpans (x : DFlyPath) (ao : Option Addr) (cap : Nat) (w : World) (h : PathAt w x ao cap)
    (HS : PathOk x → ∀ W, PathAt W x ao cap → Calls Try.prog 38 #[.agg #[.int .i64 x.1.1, .int .i64 x.1.2, .slice ao x.2.1.length cap, .int .i64 x.2.2.1, .int .i64 x.2.2.2]] W (GivesSp (spansF x).1 (spansF x).2 W)) :
    Calls Try.prog 10 #[.agg #[.int .i64 x.1.1, .int .i64 x.1.2, .slice ao x.2.1.length cap, .int .i64 x.2.2.1, .int .i64 x.2.2.2]] w (GivesSp (spansF x).1 (spansF x).2 w) := by
  obtain ⟨w0, hw0⟩ : ∃ w0 : World, w0 = w.alloc (.cells #[.int .i64 x.1.1, .int .i64 x.1.2, .slice ao x.2.1.length cap, .int .i64 x.2.2.1, .int .i64 x.2.2.2] 34) := ⟨_, rfl⟩
  have hb0 : Below w.heap.size w w0 := by rw [hw0]; exact (Below.refl _ _).alloc (Nat.le_refl _) _
  have HX0 : BxC w.heap.size #[.int .i64 x.1.1, .int .i64 x.1.2, .slice ao x.2.1.length cap, .int .i64 x.2.2.1, .int .i64 x.2.2.2] w0 := by rw [hw0]; exact BxC.new _ _ _
  have hz0 : w0.heap.size = w.heap.size + 1 := by rw [hw0]; simp
  have HT := sPathOk x ao cap w0 (h.later hb0)
  rw [hw0] at HT
  go_enter Try.func10, Try.ntmps10
  go_wp2_with fail
  refine HT.mono ?_
  rw [← hw0]
  rintro e w1 ⟨rfl, hb1⟩
  have hB1 := hb0.trans (hb1.mono (by omega))
  have HX1 := HX0.below hb1 (by omega)
  have hlt : w.heap.size < w1.heap.size := by have := hb1.size; omega
  clear HT hb0 hb1 HX0 hw0 hz0
  by_cases hp : PathOk x
  · rw [pb_yes hp]
    have c0 := HX1 0
    have c1 := HX1 1
    have c2 := HX1 2
    have c3 := HX1 3
    have c4 := HX1 4
    simp at c0 c1 c2 c3 c4
    have HT := HS hp w1 (h.later hB1)
    unfold GivesSp at HT ⊢
    generalize (spansF x).1 = L at *
    generalize (spansF x).2 = ok at *
    clear HS HX1 h
    go_wp2_with fail
    refine HT.mono ?_
    rintro e w2 ⟨so, sc, rfl, hO, hb2⟩
    have HO : Hid _ := own_lo2' hO (Nat.le_of_lt hlt)
    have HB := hB1.trans (hb2.mono (Nat.le_of_lt hlt))
    clear HT hO hb2 c0 c1 c2 c3 c4
    go_wp2
    refine bodyPost_ret (v := .tuple #[.slice so L.length sc, .bool ok]) (by simp [results, Try.results10, go_sem]) rfl ⟨so, sc, rfl, HO.out, HB⟩
  · rw [pb_no hp]
    have HF : Hid (spansF x = ([], false)) := spans_no fun h1 => hp h1.1
    unfold GivesSp
    clear HS HX1 h
    go_wp2
    refine bodyPost_ret (v := .tuple #[.slice (some ⟨w1.heap.size, 0, none⟩) 0 0, .bool false]) (by simp [results, Try.results10, go_sem]) rfl ?_
    rw [HF.out]
    exact ⟨some ⟨w1.heap.size, 0, none⟩, 0, rfl, emptyS w1 65 w.heap.size (Nat.le_of_lt hlt), hB1.alloc hB1.size _⟩

end Fly
end Go.Proofs.Ytpjacfnjjkoikaa
