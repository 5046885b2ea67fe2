/- DERIVED. impl.FlySmaller, impl.FlyWithin: their walks (written by wip/tools/mk_tb.py). -/
import Derived.Test.YtpjacfnjjkoikaaKTbM1
import Derived.Test.YtpjacfnjjkoikaaKTsS2
namespace Go.Proofs.Ytpjacfnjjkoikaa
namespace Fly
open Go.RowKit
set_option linter.unusedSimpArgs false
set_option linter.unusedVariables false


theorem own_slice {W : World} {b : Nat} {e : TypeId} {size k : Nat} {v : Value} {xs : List Value} (h : W.ownsRow b e size v k xs) : ∃ ao cap, v = .slice ao k cap := by
  rcases h.2 with ⟨h1, h0⟩ | ⟨g, c3, _, h1, _⟩
  · subst h0; exact ⟨none, 0, h1⟩
  · exact ⟨_, _, h1⟩
theorem into_iff {r : DFlyBox} {m : List DFlyBox} (h : ¬ NoneB r) : InTo r m m.length ↔ HasIn (roomsOf m m.length (r.1, r.2.1)) r := by
  unfold roomsOf HasIn InTo
  rw [List.take_length]
  constructor
  · rintro (h1 | ⟨i, h1, _, h2⟩)
    · exact absurd h1 h
    · obtain ⟨⟨e1, e2⟩, h3⟩ := (cov_iff h).1 h2
      have hm : m[i] ∈ m.filter fun q => decide (q.1 = (r.1, r.2.1).1 ∧ q.2.1 = (r.1, r.2.1).2) := List.mem_filter.2 ⟨List.getElem_mem h1, by simpa using ⟨e1, e2⟩⟩
      obtain ⟨j, hj, e⟩ := List.mem_iff_getElem.1 hm
      exact ⟨j, hj, by rw [e]; exact h3⟩
  · rintro ⟨k, hk, h1⟩
    have hm := List.mem_filter.1 (List.getElem_mem hk)
    obtain ⟨i, hi, e⟩ := List.mem_iff_getElem.1 hm.1
    have h2 := hm.2
    simp only [decide_eq_true_eq] at h2
    rw [← e] at h1 h2
    exact .inr ⟨i, hi, hi, (cov_iff h).2 ⟨h2, h1⟩⟩
theorem within_iff (l : List DFlyBox) (x y lv t : Int) : Smaller [(x, y, lv, lv, t, t)] l ↔ Within l x y lv t := by
  unfold Smaller Within
  constructor
  · intro h
    rcases h 0 (by simp) with h1 | ⟨i, hi, _, h2⟩
    · unfold NoneB at h1; simp at h1
    · refine ⟨i, hi, ?_⟩
      unfold CovB at h2
      unfold HasB InR
      simp at h2
      obtain ⟨q1, q2, q3, q4, q5, q6⟩ := h2
      exact ⟨q1.symm, q2.symm, ⟨q3, q4⟩, q5, q6⟩
  · rintro ⟨i, hi, h1⟩ j hj
    obtain rfl : j = 0 := by simp at hj; exact hj
    refine .inr ⟨i, hi, hi, ?_⟩
    unfold HasB InR at h1
    unfold CovB
    simp
    obtain ⟨q1, q2, ⟨q3, q4⟩, q5, q6⟩ := h1
    exact ⟨q1.symm, q2.symm, q3, q4, q5, q6⟩

set_option maxRecDepth 100000 in
set_option maxHeartbeats 16000000 in
theorem iSmaller (l m : List DFlyBox) (bo : Option Addr) (cap : Nat) (mo : Option Addr) (mc : Nat) (w : World) (h : SliceAt vFlyBox (old w) w bo cap l) (hm : SliceAt vFlyBox (old w) w mo mc m) (hml : m.length ≤ 1099511627776) :
    Calls Try.prog 35 #[.slice bo l.length cap, .slice mo m.length mc] w fun e w' => e = .returned (.bool (pb (Smaller l m))) ∧ Below w.heap.size w w' := by
  have hcl := h.1
  have hcm : cap ≤ 9223372036854775807 := h.2.1
  have hmf : ∀ (fn : Fn) (first cap : Array Value) (w : World), (Instr.makeFunc fn first cap).run Try.prog w = .ok (.func fn first cap) w := fun _ _ _ _ => rfl
  have HRO := iRoomsOf m mo mc w hm hml
  go_enter Try.func35, Try.ntmps35
  go_wp2_with fail
  refine HRO.mono ?_
  rintro e w1 ⟨B, rfl, hR, hb1⟩
  have HR := hid hR
  have HB1 := hid hb1
  have HLN0 := fun c => Nat.le_trans (roomsOf_len m m.length c (Nat.le_refl _)) (Nat.le_trans hml (by omega : (1099511627776 : Nat) ≤ 9223372036854775807))
  clear HRO hR hm
  go_wp2
  go_loopw [13] (fun i wr => ∃ k : Nat, k ≤ l.length ∧ i = .int .i64 k ∧ Hid (∀ j (h : j < l.length), j < k → InTo (l[j]'h) m m.length) ∧ Below w1.heap.size w1 wr) (fun i _ => l.length - (intOf i).toNat)
  case atStart => exact ⟨0, Nat.zero_le _, rfl, fun j _ hj => by omega, Below.refl _ _⟩
  case round =>
    clear hb1
    obtain ⟨k, hk, rfl, hpre, hB⟩ := hrel
    by_cases hlt1 : k < l.length
    · obtain ⟨b, off, rfl, hok, c0, c1, c2, c3, c4, c5, p0, p1, p2, p3, p4, p5⟩ := elem_FlyBox h hlt1
      have hkI : (k : Int) < (l.length : Int) := by omega
      have hbw := fun o => (hB.cell (p := ⟨b, o, none⟩) (Nat.lt_of_lt_of_le hok HB1.out.size)).trans (HB1.out.cell (p := ⟨b, o, none⟩) hok)
      have d0 := (hbw _).trans c0
      have d1 := (hbw _).trans c1
      have d2 := (hbw _).trans c2
      have d3 := (hbw _).trans c3
      have d4 := (hbw _).trans c4
      have d5 := (hbw _).trans c5
      have HCC := hid (⟨p0, p1⟩ : InC ((l[k]'hlt1).1, (l[k]'hlt1).2.1))
      have HNO := hid (fun h1 : ¬ InTo (l[k]'hlt1) m m.length => (pb_no fun h2 => h1 (h2 k hlt1) : pb (Smaller l m) = false))
      have HYES := hid (fun (h1 : InTo (l[k]'hlt1) m m.length) => (fun j hj hjk => by
        by_cases e : j = k
        · subst e; exact h1
        · exact hpre.out j hj (by omega) : ∀ j (h : j < l.length), j < k + 1 → InTo (l[j]'h) m m.length))
      have HEM := fun W => iRoomEmpty (l[k]'hlt1) W
      have HIR := fun W => iRoom (l[k]'hlt1) W
      have HINT := hid (fun h1 => into_iff (r := l[k]'hlt1) (m := m) h1)
      have HLN := hid (HLN0 ((l[k]'hlt1).1, (l[k]'hlt1).2.1))
      have hB_ := hid hB
      generalize l[k]'hlt1 = r at *
      clear c0 c1 c2 c3 c4 c5 p0 p1 p2 p3 p4 p5 hbw hpre hB h HLN0
      obtain ⟨rx, ry, rl, rh, ri, ro⟩ := r
      simp only at d0 d1 d2 d3 d4 d5 HEM HIR HCC HLN HINT
      have hba : Below wr.heap.size wr (wr.alloc (.cells #[.int .i64 rx, .int .i64 ry, .int .i64 rl, .int .i64 rh, .int .i64 ri, .int .i64 ro] 78)) := (Below.refl _ _).alloc (Nat.le_refl _) _
      go_wp2_with fail
      refine (HIR _).mono ?_
      rintro e w9 ⟨rfl, hb9⟩
      have hB9 := hB_.out.trans ((hba.trans (hb9.mono hba.size)).mono hB_.out.size)
      clear hb9 hba HIR d0 d1 d2 d3 d4 d5 hB_
      obtain ⟨wa, hwa⟩ : ∃ wa : World, wa = w9.alloc (.cells #[.int .i64 rx, .int .i64 ry, .int .i64 rl, .int .i64 rh, .int .i64 ri, .int .i64 ro] 89) := ⟨_, rfl⟩
      have hba2 : Below w9.heap.size w9 wa := by rw [hwa]; exact (Below.refl _ _).alloc (Nat.le_refl _) _
      have hbx : BoxAt w9.heap.size #[.int .i64 rx, .int .i64 ry, .int .i64 rl, .int .i64 rh, .int .i64 ri, .int .i64 ro] 89 wa := by rw [hwa]; exact BoxAt.new _ _ _
      have hBa := hB9.trans (hba2.mono hB9.size)
      cases hem : pb (NoneB (rx, ry, rl, rh, ri, ro))
      · rw [hem] at HEM
        have hnn : ¬ NoneB (rx, ry, rl, rh, ri, ro) := fun h1 => by rw [pb_yes h1] at hem; cases hem
        have HIF := hid (HINT.out hnn)
        clear hem HINT hnn
        cases hin : pb (HasIn (roomsOf m m.length (rx, ry)) (rx, ry, rl, rh, ri, ro))
        · have HPB := hid hin
          have HX := hid (HNO.out (fun h1 => by have := pb_yes (HIF.out.1 h1); rw [this] at hin; cases hin))
          clear hin HNO HYES HIF
          go_wp2_with fail
          rw [← hwa]
          have z0 := hbx.cell 0
          have z1 := hbx.cell 1
          have z2 := hbx.cell 2
          have z3 := hbx.cell 3
          have z4 := hbx.cell 4
          have z5 := hbx.cell 5
          simp at z0 z1 z2 z3 z4 z5
          have HC : CL [(⟨w9.heap.size, 0, none⟩, .int .i64 rx), (⟨w9.heap.size, 1, none⟩, .int .i64 ry), (⟨w9.heap.size, 2, none⟩, .int .i64 rl), (⟨w9.heap.size, 3, none⟩, .int .i64 rh), (⟨w9.heap.size, 4, none⟩, .int .i64 ri), (⟨w9.heap.size, 5, none⟩, .int .i64 ro)] wa.drew := ⟨z0, z1, z2, z3, z4, z5, trivial⟩
          have hxl := hbx.lt
          have hlt : CLlt wa.drew.heap.size [(⟨w9.heap.size, 0, none⟩, .int .i64 rx), (⟨w9.heap.size, 1, none⟩, .int .i64 ry), (⟨w9.heap.size, 2, none⟩, .int .i64 rl), (⟨w9.heap.size, 3, none⟩, .int .i64 rh), (⟨w9.heap.size, 4, none⟩, .int .i64 ri), (⟨w9.heap.size, 5, none⟩, .int .i64 ro)] := ⟨hxl, hxl, hxl, hxl, hxl, hxl, trivial⟩
          have hb := hBa.drew
          refine wp_region_RD (CL [(⟨w9.heap.size, 0, none⟩, .int .i64 rx), (⟨w9.heap.size, 1, none⟩, .int .i64 ry), (⟨w9.heap.size, 2, none⟩, .int .i64 rl), (⟨w9.heap.size, 3, none⟩, .int .i64 rh), (⟨w9.heap.size, 4, none⟩, .int .i64 ri), (⟨w9.heap.size, 5, none⟩, .int .i64 ro)]) [] mixedT ?_
          clear hwa hba2 hbx hxl z0 z1 z2 z3 z4 z5 hBa hB9
          generalize w9.heap.size = rb at *
          generalize wa.drew = wd at *
          refine RD.take (i := 0) (v := .agg #[.int .i64 rx, .int .i64 ry, .int .i64 rl, .int .i64 rh, .int .i64 ri, .int .i64 ro]) rfl (by kernel_rfl) (by kernel_rfl) (by kernel_rfl) (by kernel_rfl) (fun _ _ _ h => h) HC (by kernel_rfl) ?y1 ?r1
          case y1 => (intro W hW; obtain ⟨u0, u1, u2, u3, u4, u5, _⟩ := hW; clear HC hb; go_simp)
          refine RD.want (i := 1) (by kernel_rfl) rfl (by kernel_rfl) (fun K hK => ?_)
          go_simp
          refine (HEM _).mono ?_
          rintro e wq2 ⟨rfl, hq⟩
          simp only
          have HC1 := HC.later hq hlt
          have hlt1 := hlt.mono hq.size
          have hb1 := hb.trans (hq.mono hb.size)
          refine hK _ _ (fun _ => HC1) ?_
          clear hK K hq HC hlt hb
          have HC := HC1
          clear HC1
          have hlt := hlt1
          clear hlt1
          have hb := hb1
          clear hb1
          refine RD.pure (i := 2) (v := .bool true) rfl (by kernel_rfl) (by kernel_rfl) (by kernel_rfl) (by decide) (fun _ _ _ h => h) (fun _ => HC) (by kernel_rfl) ?y3 ?r3
          case y3 => (intro W; clear HC hb; go_simp)
          refine RD.pure (i := 3) (v := .bool true) rfl (by kernel_rfl) (by kernel_rfl) (by kernel_rfl) (by decide) (fun _ _ _ h => h) (fun _ => HC) (by kernel_rfl) ?y4 ?r4
          case y4 => (intro W; clear HC hb; go_simp)
          refine RD.pure (i := 4) (v := .map (some B)) rfl (by kernel_rfl) (by kernel_rfl) (by kernel_rfl) (by decide) (fun _ _ _ h => h) (fun _ => HC) (by kernel_rfl) ?y5 ?r5
          case y5 => (intro W; clear HC hb; go_simp)
          refine RD.pure (i := 5) (v := .pointer (some ⟨rb, 0, none⟩)) rfl (by kernel_rfl) (by kernel_rfl) (by kernel_rfl) (by decide) (fun _ _ _ h => h) (fun _ => HC) (by kernel_rfl) ?y6 ?r6
          case y6 => (intro W; clear HC hb; go_simp)
          refine RD.take (i := 6) (v := .agg #[.int .i64 rx, .int .i64 ry]) rfl (by kernel_rfl) (by kernel_rfl) (by kernel_rfl) (by kernel_rfl) (fun _ _ _ h => h) HC (by kernel_rfl) ?y7 ?r7
          case y7 => (intro W hW; obtain ⟨u0, u1, u2, u3, u4, u5, _⟩ := hW; clear HC hb; go_simp)
          refine RD.take (i := 8) (v := .agg #[.int .i64 rx, .int .i64 ry, .int .i64 rl, .int .i64 rh, .int .i64 ri, .int .i64 ro]) rfl (by kernel_rfl) (by kernel_rfl) (by kernel_rfl) (by kernel_rfl) (fun _ _ _ h => h) HC (by kernel_rfl) ?y8 ?r8
          case y8 => (intro W hW; obtain ⟨u0, u1, u2, u3, u4, u5, _⟩ := hW; clear HC hb; go_simp)
          refine RD.pure (i := 9) (v := .func (.func 66) #[.agg #[.int .i64 rx, .int .i64 ry, .int .i64 rl, .int .i64 rh, .int .i64 ri, .int .i64 ro]] #[]) rfl (by kernel_rfl) (by kernel_rfl) (by kernel_rfl) (by decide) (fun _ _ _ h => h) (fun _ => HC) (by kernel_rfl) ?y9 ?r9
          case y9 => (intro W; clear HC hb; go_simp)
          have HRW := HR.out.next hb
          obtain ⟨v, hlk, hrow⟩ := HRW.look (rx, ry) HCC.out
          obtain ⟨ao', cap', rfl⟩ := own_slice hrow
          refine RD.want (i := 7) (by kernel_rfl) rfl (by kernel_rfl) (fun K hK => ?_)
          go_simp
          refine hK _ _ (fun _ => HC) ?_
          have HROW := hid hrow
          clear hK K hlk hrow HRW
          have HCT := iHasRoom (rx, ry, rl, rh, ri, ro) (roomsOf m m.length (rx, ry)) ao' cap' (B + 1) _ HROW.out HLN.out
          rw [HPB.out] at HCT
          refine RD.want (i := 10) (by kernel_rfl) rfl (by kernel_rfl) (fun K hK => ?_)
          go_simp
          refine HCT.mono ?_
          rintro e wq10 ⟨rfl, hq⟩
          simp only
          have HC1 := HC.later hq hlt
          have hb1 := hb.trans (hq.mono hb.size)
          refine hK _ _ (fun _ => HC1) ?_
          clear hK K hq hb HC hlt HCT
          have HC := HC1
          have hb := hb1
          clear HC1 hb1
          refine RD.pure (i := 11) (v := .bool true) rfl (by kernel_rfl) (by kernel_rfl) (by kernel_rfl) (by decide) (fun _ _ _ h => h) (fun _ => HC) (by kernel_rfl) ?y11 ?r11
          case y11 => (intro W; clear HC hb; go_simp)
          refine RD.pure (i := 12) (v := .bool true) rfl (by kernel_rfl) (by kernel_rfl) (by kernel_rfl) (by decide) (fun _ _ _ h => h) (fun _ => HC) (by kernel_rfl) ?y12 ?r12
          case y12 => (intro W; clear HC hb; go_simp)
          refine RD.done (by kernel_rfl) ?_
          try go_simp
          have HB := hid (HB1.out.trans (hb.mono HB1.out.size))
          clear HC hb
          go_wp2
          go_ret
          exact ⟨by rw [HX.out]; rfl, HB.out⟩
        · have HPB := hid hin
          have HX := hid (HYES.out (HIF.out.2 (Classical.byContradiction fun h1 => by rw [pb_no h1] at hin; cases hin)))
          clear hin HNO HYES HIF
          go_wp2_with fail
          rw [← hwa]
          have z0 := hbx.cell 0
          have z1 := hbx.cell 1
          have z2 := hbx.cell 2
          have z3 := hbx.cell 3
          have z4 := hbx.cell 4
          have z5 := hbx.cell 5
          simp at z0 z1 z2 z3 z4 z5
          have HC : CL [(⟨w9.heap.size, 0, none⟩, .int .i64 rx), (⟨w9.heap.size, 1, none⟩, .int .i64 ry), (⟨w9.heap.size, 2, none⟩, .int .i64 rl), (⟨w9.heap.size, 3, none⟩, .int .i64 rh), (⟨w9.heap.size, 4, none⟩, .int .i64 ri), (⟨w9.heap.size, 5, none⟩, .int .i64 ro)] wa.drew := ⟨z0, z1, z2, z3, z4, z5, trivial⟩
          have hxl := hbx.lt
          have hlt : CLlt wa.drew.heap.size [(⟨w9.heap.size, 0, none⟩, .int .i64 rx), (⟨w9.heap.size, 1, none⟩, .int .i64 ry), (⟨w9.heap.size, 2, none⟩, .int .i64 rl), (⟨w9.heap.size, 3, none⟩, .int .i64 rh), (⟨w9.heap.size, 4, none⟩, .int .i64 ri), (⟨w9.heap.size, 5, none⟩, .int .i64 ro)] := ⟨hxl, hxl, hxl, hxl, hxl, hxl, trivial⟩
          have hb := hBa.drew
          refine wp_region_RD (CL [(⟨w9.heap.size, 0, none⟩, .int .i64 rx), (⟨w9.heap.size, 1, none⟩, .int .i64 ry), (⟨w9.heap.size, 2, none⟩, .int .i64 rl), (⟨w9.heap.size, 3, none⟩, .int .i64 rh), (⟨w9.heap.size, 4, none⟩, .int .i64 ri), (⟨w9.heap.size, 5, none⟩, .int .i64 ro)]) [] mixedT ?_
          clear hwa hba2 hbx hxl z0 z1 z2 z3 z4 z5 hBa hB9
          generalize w9.heap.size = rb at *
          generalize wa.drew = wd at *
          refine RD.take (i := 0) (v := .agg #[.int .i64 rx, .int .i64 ry, .int .i64 rl, .int .i64 rh, .int .i64 ri, .int .i64 ro]) rfl (by kernel_rfl) (by kernel_rfl) (by kernel_rfl) (by kernel_rfl) (fun _ _ _ h => h) HC (by kernel_rfl) ?y13 ?r13
          case y13 => (intro W hW; obtain ⟨u0, u1, u2, u3, u4, u5, _⟩ := hW; clear HC hb; go_simp)
          refine RD.want (i := 1) (by kernel_rfl) rfl (by kernel_rfl) (fun K hK => ?_)
          go_simp
          refine (HEM _).mono ?_
          rintro e wq14 ⟨rfl, hq⟩
          simp only
          have HC1 := HC.later hq hlt
          have hlt1 := hlt.mono hq.size
          have hb1 := hb.trans (hq.mono hb.size)
          refine hK _ _ (fun _ => HC1) ?_
          clear hK K hq HC hlt hb
          have HC := HC1
          clear HC1
          have hlt := hlt1
          clear hlt1
          have hb := hb1
          clear hb1
          refine RD.pure (i := 2) (v := .bool true) rfl (by kernel_rfl) (by kernel_rfl) (by kernel_rfl) (by decide) (fun _ _ _ h => h) (fun _ => HC) (by kernel_rfl) ?y15 ?r15
          case y15 => (intro W; clear HC hb; go_simp)
          refine RD.pure (i := 3) (v := .bool true) rfl (by kernel_rfl) (by kernel_rfl) (by kernel_rfl) (by decide) (fun _ _ _ h => h) (fun _ => HC) (by kernel_rfl) ?y16 ?r16
          case y16 => (intro W; clear HC hb; go_simp)
          refine RD.pure (i := 4) (v := .map (some B)) rfl (by kernel_rfl) (by kernel_rfl) (by kernel_rfl) (by decide) (fun _ _ _ h => h) (fun _ => HC) (by kernel_rfl) ?y17 ?r17
          case y17 => (intro W; clear HC hb; go_simp)
          refine RD.pure (i := 5) (v := .pointer (some ⟨rb, 0, none⟩)) rfl (by kernel_rfl) (by kernel_rfl) (by kernel_rfl) (by decide) (fun _ _ _ h => h) (fun _ => HC) (by kernel_rfl) ?y18 ?r18
          case y18 => (intro W; clear HC hb; go_simp)
          refine RD.take (i := 6) (v := .agg #[.int .i64 rx, .int .i64 ry]) rfl (by kernel_rfl) (by kernel_rfl) (by kernel_rfl) (by kernel_rfl) (fun _ _ _ h => h) HC (by kernel_rfl) ?y19 ?r19
          case y19 => (intro W hW; obtain ⟨u0, u1, u2, u3, u4, u5, _⟩ := hW; clear HC hb; go_simp)
          refine RD.take (i := 8) (v := .agg #[.int .i64 rx, .int .i64 ry, .int .i64 rl, .int .i64 rh, .int .i64 ri, .int .i64 ro]) rfl (by kernel_rfl) (by kernel_rfl) (by kernel_rfl) (by kernel_rfl) (fun _ _ _ h => h) HC (by kernel_rfl) ?y20 ?r20
          case y20 => (intro W hW; obtain ⟨u0, u1, u2, u3, u4, u5, _⟩ := hW; clear HC hb; go_simp)
          refine RD.pure (i := 9) (v := .func (.func 66) #[.agg #[.int .i64 rx, .int .i64 ry, .int .i64 rl, .int .i64 rh, .int .i64 ri, .int .i64 ro]] #[]) rfl (by kernel_rfl) (by kernel_rfl) (by kernel_rfl) (by decide) (fun _ _ _ h => h) (fun _ => HC) (by kernel_rfl) ?y21 ?r21
          case y21 => (intro W; clear HC hb; go_simp)
          have HRW := HR.out.next hb
          obtain ⟨v, hlk, hrow⟩ := HRW.look (rx, ry) HCC.out
          obtain ⟨ao', cap', rfl⟩ := own_slice hrow
          refine RD.want (i := 7) (by kernel_rfl) rfl (by kernel_rfl) (fun K hK => ?_)
          go_simp
          refine hK _ _ (fun _ => HC) ?_
          have HROW := hid hrow
          clear hK K hlk hrow HRW
          have HCT := iHasRoom (rx, ry, rl, rh, ri, ro) (roomsOf m m.length (rx, ry)) ao' cap' (B + 1) _ HROW.out HLN.out
          rw [HPB.out] at HCT
          refine RD.want (i := 10) (by kernel_rfl) rfl (by kernel_rfl) (fun K hK => ?_)
          go_simp
          refine HCT.mono ?_
          rintro e wq22 ⟨rfl, hq⟩
          simp only
          have HC1 := HC.later hq hlt
          have hb1 := hb.trans (hq.mono hb.size)
          refine hK _ _ (fun _ => HC1) ?_
          clear hK K hq hb HC hlt HCT
          have HC := HC1
          have hb := hb1
          clear HC1 hb1
          refine RD.pure (i := 11) (v := .bool false) rfl (by kernel_rfl) (by kernel_rfl) (by kernel_rfl) (by decide) (fun _ _ _ h => h) (fun _ => HC) (by kernel_rfl) ?y23 ?r23
          case y23 => (intro W; clear HC hb; go_simp)
          refine RD.pure (i := 12) (v := .bool false) rfl (by kernel_rfl) (by kernel_rfl) (by kernel_rfl) (by decide) (fun _ _ _ h => h) (fun _ => HC) (by kernel_rfl) ?y24 ?r24
          case y24 => (intro W; clear HC hb; go_simp)
          refine RD.done (by kernel_rfl) ?_
          try go_simp
          have HB := hid hb
          clear HC hb
          go_wp2
          go_roundw
          case rel => exact ⟨k + 1, by omega, by go_num, HX, HB.out⟩
          case measure => simp [intOf]; omega
      · rw [hem] at HEM
        have hnn : NoneB (rx, ry, rl, rh, ri, ro) := Classical.byContradiction fun h1 => by rw [pb_no h1] at hem; cases hem
        have HX := hid (HYES.out (.inl hnn))
        clear hem HINT hnn HNO HYES
        go_wp2_with fail
        rw [← hwa]
        have z0 := hbx.cell 0
        have z1 := hbx.cell 1
        have z2 := hbx.cell 2
        have z3 := hbx.cell 3
        have z4 := hbx.cell 4
        have z5 := hbx.cell 5
        simp at z0 z1 z2 z3 z4 z5
        have HC : CL [(⟨w9.heap.size, 0, none⟩, .int .i64 rx), (⟨w9.heap.size, 1, none⟩, .int .i64 ry), (⟨w9.heap.size, 2, none⟩, .int .i64 rl), (⟨w9.heap.size, 3, none⟩, .int .i64 rh), (⟨w9.heap.size, 4, none⟩, .int .i64 ri), (⟨w9.heap.size, 5, none⟩, .int .i64 ro)] wa.drew := ⟨z0, z1, z2, z3, z4, z5, trivial⟩
        have hxl := hbx.lt
        have hlt : CLlt wa.drew.heap.size [(⟨w9.heap.size, 0, none⟩, .int .i64 rx), (⟨w9.heap.size, 1, none⟩, .int .i64 ry), (⟨w9.heap.size, 2, none⟩, .int .i64 rl), (⟨w9.heap.size, 3, none⟩, .int .i64 rh), (⟨w9.heap.size, 4, none⟩, .int .i64 ri), (⟨w9.heap.size, 5, none⟩, .int .i64 ro)] := ⟨hxl, hxl, hxl, hxl, hxl, hxl, trivial⟩
        have hb := hBa.drew
        refine wp_region_RD (CL [(⟨w9.heap.size, 0, none⟩, .int .i64 rx), (⟨w9.heap.size, 1, none⟩, .int .i64 ry), (⟨w9.heap.size, 2, none⟩, .int .i64 rl), (⟨w9.heap.size, 3, none⟩, .int .i64 rh), (⟨w9.heap.size, 4, none⟩, .int .i64 ri), (⟨w9.heap.size, 5, none⟩, .int .i64 ro)]) [] mixedT ?_
        clear hwa hba2 hbx hxl z0 z1 z2 z3 z4 z5 hBa hB9
        generalize w9.heap.size = rb at *
        generalize wa.drew = wd at *
        refine RD.take (i := 0) (v := .agg #[.int .i64 rx, .int .i64 ry, .int .i64 rl, .int .i64 rh, .int .i64 ri, .int .i64 ro]) rfl (by kernel_rfl) (by kernel_rfl) (by kernel_rfl) (by kernel_rfl) (fun _ _ _ h => h) HC (by kernel_rfl) ?y25 ?r25
        case y25 => (intro W hW; obtain ⟨u0, u1, u2, u3, u4, u5, _⟩ := hW; clear HC hb; go_simp)
        refine RD.want (i := 1) (by kernel_rfl) rfl (by kernel_rfl) (fun K hK => ?_)
        go_simp
        refine (HEM _).mono ?_
        rintro e wq26 ⟨rfl, hq⟩
        simp only
        have HC1 := HC.later hq hlt
        have hlt1 := hlt.mono hq.size
        have hb1 := hb.trans (hq.mono hb.size)
        refine hK _ _ (fun _ => HC1) ?_
        clear hK K hq HC hlt hb
        have HC := HC1
        clear HC1
        have hlt := hlt1
        clear hlt1
        have hb := hb1
        clear hb1
        refine RD.pure (i := 2) (v := .bool false) rfl (by kernel_rfl) (by kernel_rfl) (by kernel_rfl) (by decide) (fun _ _ _ h => h) (fun _ => HC) (by kernel_rfl) ?y27 ?r27
        case y27 => (intro W; clear HC hb; go_simp)
        refine RD.pure (i := 3) (v := .bool false) rfl (by kernel_rfl) (by kernel_rfl) (by kernel_rfl) (by decide) (fun _ _ _ h => h) (fun _ => HC) (by kernel_rfl) ?y28 ?r28
        case y28 => (intro W; clear HC hb; go_simp)
        refine RD.skip (i := 4) rfl (by kernel_rfl) (by kernel_rfl) (by kernel_rfl) (by decide) (fun _ _ _ h => h) (fun _ => HC) (by kernel_rfl) ?_
        refine RD.skip (i := 5) rfl (by kernel_rfl) (by kernel_rfl) (by kernel_rfl) (by decide) (fun _ _ _ h => h) (fun _ => HC) (by kernel_rfl) ?_
        refine RD.skip (i := 6) rfl (by kernel_rfl) (by kernel_rfl) (by kernel_rfl) (by decide) (fun _ _ _ h => h) (fun _ => HC) (by kernel_rfl) ?_
        refine RD.skip (i := 7) rfl (by kernel_rfl) (by kernel_rfl) (by kernel_rfl) (by decide) (fun _ _ _ h => h) (fun _ => HC) (by kernel_rfl) ?_
        refine RD.skip (i := 8) rfl (by kernel_rfl) (by kernel_rfl) (by kernel_rfl) (by decide) (fun _ _ _ h => h) (fun _ => HC) (by kernel_rfl) ?_
        refine RD.skip (i := 9) rfl (by kernel_rfl) (by kernel_rfl) (by kernel_rfl) (by decide) (fun _ _ _ h => h) (fun _ => HC) (by kernel_rfl) ?_
        refine RD.skip (i := 10) rfl (by kernel_rfl) (by kernel_rfl) (by kernel_rfl) (by decide) (fun _ _ _ h => h) (fun _ => HC) (by kernel_rfl) ?_
        refine RD.skip (i := 11) rfl (by kernel_rfl) (by kernel_rfl) (by kernel_rfl) (by decide) (fun _ _ _ h => h) (fun _ => HC) (by kernel_rfl) ?_
        refine RD.pure (i := 12) (v := .bool false) rfl (by kernel_rfl) (by kernel_rfl) (by kernel_rfl) (by decide) (fun _ _ _ h => h) (fun _ => HC) (by kernel_rfl) ?y29 ?r29
        case y29 => (intro W; clear HC hb; go_simp)
        refine RD.done (by kernel_rfl) ?_
        try go_simp
        have HB := hid hb
        clear HC hb
        go_wp2
        go_roundw
        case rel => exact ⟨k + 1, by omega, by go_num, HX, HB.out⟩
        case measure => simp [intOf]; omega
    · have hke : k = l.length := by omega
      subst hke
      have HT : Hid (pb (Smaller l m) = true) := pb_yes (fun j hj => hpre.out j hj hj)
      have HB := hid (HB1.out.trans (hB.mono HB1.out.size))
      clear hpre hB h
      go_wp2
      go_ret
      exact ⟨by rw [HT.out]; rfl, HB.out⟩

theorem box_slice (w : World) (x y lv t : Int) (t0 : TypeId) (hx : In64 x) (hy : In64 y) (hl : In64 lv) (ht : In64 t) :
    SliceAt vFlyBox (old (w.alloc (.cells #[.int .i64 x, .int .i64 y, .int .i64 lv, .int .i64 lv, .int .i64 t, .int .i64 t] t0))) (w.alloc (.cells #[.int .i64 x, .int .i64 y, .int .i64 lv, .int .i64 lv, .int .i64 t, .int .i64 t] t0)) (some ⟨w.heap.size, 0, none⟩) 1 [(x, y, lv, lv, t, t)] := by
  refine ⟨by simp, by unfold maxLen; omega, .inr ⟨w.heap.size, 0, rfl, by show w.heap.size < _; simp, fun i hi => ?_⟩⟩
  obtain rfl : i = 0 := by simp at hi; exact hi
  refine ⟨_, mk_FlyBox (x := (x, y, lv, lv, t, t)) hx hy hl hl ht ht, fun j hj => ?_⟩
  have hc := (BoxAt.new w #[.int .i64 x, .int .i64 y, .int .i64 lv, .int .i64 lv, .int .i64 t, .int .i64 t] t0).cell j
  rw [show 0 + 0 * vFlyBox.size + j = j by omega, hc]
  simp
set_option maxHeartbeats 1000000 in
theorem iWithin (l : List DFlyBox) (x y lv t : Int) (ao : Option Addr) (cap : Nat) (w : World) (h : SliceAt vFlyBox (old w) w ao cap l) (hl : l.length ≤ 1099511627776) (hx : In64 x) (hy : In64 y) (hv : In64 lv) (ht : In64 t) :
    Calls Try.prog 33 #[.slice ao l.length cap, .int .i64 x, .int .i64 y, .int .i64 lv, .int .i64 t] w fun e w' => e = .returned (.bool (pb (Within l x y lv t))) ∧ Below w.heap.size w w' := by
  have HB0 : Below w.heap.size w (w.alloc (.cells #[.int .i64 x, .int .i64 y, .int .i64 lv, .int .i64 lv, .int .i64 t, .int .i64 t] 78)) := (Below.refl _ _).alloc (Nat.le_refl _) _
  have HS := iSmaller [(x, y, lv, lv, t, t)] l (some ⟨w.heap.size, 0, none⟩) 1 ao cap _ (box_slice w x y lv t 78 hx hy hv ht) (h.later HB0) hl
  rw [pb_iff (within_iff l x y lv t)] at HS
  have HB0_ := hid HB0
  clear h HB0
  simp only [List.length_singleton] at HS
  go_enter Try.func33, Try.ntmps33
  go_wp2_with fail
  refine HS.mono ?_
  rintro e w1 ⟨rfl, hb⟩
  have HB := hid (HB0_.out.trans (hb.mono HB0_.out.size))
  clear hb HS
  go_wp2
  go_ret
  exact ⟨rfl, HB.out⟩

end Fly
end Go.Proofs.Ytpjacfnjjkoikaa
