/- DERIVED. spec.l24Spans: its walk (written by wip/tools/mk_s24.py). -/
import Derived.Test.YtpjacfnjjkoikaaKS24D
import Derived.Test.YtpjacfnjjkoikaaKApp0
import Derived.Test.YtpjacfnjjkoikaaKFlS0
import Derived.Test.YtpjacfnjjkoikaaKTsS3
import Derived.Test.YtpjacfnjjkoikaaKTsS2
import Derived.OneCell
import Derived.Maps.AppendAt
namespace Go.Proofs.Ytpjacfnjjkoikaa
namespace Fly
open Go.RowKit
set_option linter.unusedSimpArgs false
set_option linter.unusedVariables false


theorem infoS24 : (Try.prog.info? 65).map (fun i => (i.zero, i.size, i.bytes)) = some (some (.agg #[.int .i64 0, .int .i64 0]), 2, 16) := by kernel_rfl
theorem _root_.Go.Proofs.Ytpjacfnjjkoikaa.BoxAt.next6 {b : Nat} {cs : Array Value} {t : TypeId} {W W' : World} (h : BoxAt b cs t W) (hb : Below W.heap.size W W') : BoxAt b cs t W' := h.next hb

set_option maxRecDepth 100000 in
set_option maxHeartbeats 32000000 in
theorem sSpans24 (x : DFlyPath) (ao : Option Addr) (cap : Nat) (w : World) (h : PathAt w x ao cap) (hnar : Narrow x) (hkd : KindOk x.1) (hn : x.2.1.length ≤ 40) :
    Calls Try.prog 38 #[.agg #[.int .i64 x.1.1, .int .i64 x.1.2, .slice ao x.2.1.length cap, .int .i64 x.2.2.1, .int .i64 x.2.2.2]] w (GivesSp (spG x).1 (spG x).2 w) := by
  obtain ⟨i0, hi0, hz0, hz1, hz2⟩ := info_parts infoS24
  have HNAR := hid hnar
  have HKIND := hid hkd
  have hcl := h.1
  have hcm : cap ≤ 9223372036854775807 := h.2.1
  obtain ⟨w0, hw0⟩ : ∃ w0 : World, w0 = (w.alloc (.cells #[.int .i64 x.1.1, .int .i64 x.1.2, .slice ao x.2.1.length cap, .int .i64 x.2.2.1, .int .i64 x.2.2.2] 34)).alloc (.cells #[] 65) := ⟨_, rfl⟩
  have hb0 : Below w.heap.size w w0 := by rw [hw0]; exact ((Below.refl _ _).alloc (Nat.le_refl _) _).alloc (by simp) _
  have HX0 : BoxAt w.heap.size #[.int .i64 x.1.1, .int .i64 x.1.2, .slice ao x.2.1.length cap, .int .i64 x.2.2.1, .int .i64 x.2.2.2] 34 w0 := by rw [hw0]; exact (BoxAt.new w _ _).next ((Below.refl _ _).alloc (Nat.le_refl _) _)
  have hz0' : w.heap.size + 2 ≤ w0.heap.size := by rw [hw0]; simp
  have hO0 : w0.ownsRow (w.heap.size + 1) 65 2 (.slice (some ⟨w.heap.size + 1, 0, none⟩) 0 0) 0 [] := by
    rw [hw0]
    have hx := emptyS (w.alloc (.cells #[.int .i64 x.1.1, .int .i64 x.1.2, .slice ao x.2.1.length cap, .int .i64 x.2.2.1, .int .i64 x.2.2.2] 34)) 65 (w.heap.size + 1) (by simp)
    simpa using hx
  clear hnar hkd
  unfold GivesSp
  go_enter Try.func38, Try.ntmps38
  go_wp2
  rw [← hw0]
  clear hw0
  go_loopw [4, 6] (fun v i wr => ∃ (k : Nat) (bo : Option Addr) (bc : Nat), k ≤ x.2.1.length + 1 ∧ i = .int .i64 k ∧ v = .slice bo k bc ∧ wr.ownsRow (w.heap.size + 1) 65 2 (.slice bo k bc) k (valsFlySpan (spR (fw x) k)) ∧ Hid (∀ j, j < k → (fw x j).1 ≤ (fw x j).2) ∧ Below w.heap.size w wr ∧ w.heap.size + 2 ≤ wr.heap.size ∧ BoxAt w.heap.size #[.int .i64 x.1.1, .int .i64 x.1.2, .slice ao x.2.1.length cap, .int .i64 x.2.2.1, .int .i64 x.2.2.2] 34 wr) (fun _ i _ => x.2.1.length + 1 - (intOf i).toNat)
  case atStart => exact ⟨0, _, 0, Nat.zero_le _, rfl, rfl, hO0, fun j hj => by omega, hb0, hz0', HX0⟩
  case round =>
    clear hO0 hb0 HX0 hz0'
    obtain ⟨k, bo, bc, hk, rfl, rfl, hO, HF, hB, hzr, HX⟩ := hrel
    by_cases hlt1 : k ≤ x.2.1.length
    · have hkI : (k : Int) ≤ (x.2.1.length : Int) := by omega
      obtain ⟨lo, hlo⟩ : ∃ lo, lo = lowAt x k := ⟨_, rfl⟩
      obtain ⟨hi, hhi⟩ : ∃ hi, hi = highAt x k := ⟨_, rfl⟩
      have HLO := fun W hW => sLow x ao cap k W hW
      have HHI := fun W hW => sHigh x ao cap k W hW
      simp only [← hlo] at HLO
      simp only [← hhi] at HHI
      have HLE := hid hlo
      have HHE := hid hhi
      clear hlo hhi
      have b0 := HX.cell 0
      have b1 := HX.cell 1
      have b2 := HX.cell 2
      have b3 := HX.cell 3
      have b4 := HX.cell 4
      simp at b0 b1 b2 b3 b4
      go_wp2_with fail
      refine wp_cutR (fun a0 a' W' => ∃ sb, a' = ((((((((a0.put (some 18) (.agg #[.int .i64 x.1.1, .int .i64 x.1.2, .slice ao x.2.1.length cap, .int .i64 x.2.2.1, .int .i64 x.2.2.2])).put (some 19) (.int .i64 (k : Int))).put (some 20) (.int .i64 lo)).put (some 21) (.agg #[.int .i64 x.1.1, .int .i64 x.1.2, .slice ao x.2.1.length cap, .int .i64 x.2.2.1, .int .i64 x.2.2.2])).put (some 22) (.int .i64 (k : Int))).put (some 23) (.int .i64 hi)).put (some 24) (.agg #[.int .i64 lo, .int .i64 hi])).put (some 7) (.pointer (some ⟨sb, 0, none⟩))) ∧ BoxAt sb #[.int .i64 lo, .int .i64 hi] 65 W' ∧ Below wr.heap.size wr W' ∧ wr.heap.size ≤ sb) ?_ ?_
      · have HC : CL [(⟨w.heap.size, 0, none⟩, .int .i64 (x.1.1)), (⟨w.heap.size, 1, none⟩, .int .i64 (x.1.2)), (⟨w.heap.size, 2, none⟩, .slice ao x.2.1.length cap), (⟨w.heap.size, 3, none⟩, .int .i64 (x.2.2.1)), (⟨w.heap.size, 4, none⟩, .int .i64 (x.2.2.2))] wr.drew := ⟨b0, b1, b2, b3, b4, trivial⟩
        have hltw : CLlt wr.heap.size [(⟨w.heap.size, 0, none⟩, .int .i64 (x.1.1)), (⟨w.heap.size, 1, none⟩, .int .i64 (x.1.2)), (⟨w.heap.size, 2, none⟩, .slice ao x.2.1.length cap), (⟨w.heap.size, 3, none⟩, .int .i64 (x.2.2.1)), (⟨w.heap.size, 4, none⟩, .int .i64 (x.2.2.2))] := ⟨HX.lt, HX.lt, HX.lt, HX.lt, HX.lt, trivial⟩
        have hlt : CLlt wr.drew.heap.size [(⟨w.heap.size, 0, none⟩, .int .i64 (x.1.1)), (⟨w.heap.size, 1, none⟩, .int .i64 (x.1.2)), (⟨w.heap.size, 2, none⟩, .slice ao x.2.1.length cap), (⟨w.heap.size, 3, none⟩, .int .i64 (x.2.2.1)), (⟨w.heap.size, 4, none⟩, .int .i64 (x.2.2.2))] := hltw
        have hbb : Below wr.heap.size wr wr.drew := (Below.refl _ _).drew
        refine wp_region_RD (CL [(⟨w.heap.size, 0, none⟩, .int .i64 (x.1.1)), (⟨w.heap.size, 1, none⟩, .int .i64 (x.1.2)), (⟨w.heap.size, 2, none⟩, .slice ao x.2.1.length cap), (⟨w.heap.size, 3, none⟩, .int .i64 (x.2.2.1)), (⟨w.heap.size, 4, none⟩, .int .i64 (x.2.2.2))]) [] mixedT ?_
        generalize wr.drew = wd at *
        clear b0 b1 b2 b3 b4
        refine RD.take (i := 0) (v := .agg #[.int .i64 (x.1.1), .int .i64 (x.1.2), .slice ao x.2.1.length cap, .int .i64 (x.2.2.1), .int .i64 (x.2.2.2)]) rfl (by kernel_rfl) (by kernel_rfl) (by kernel_rfl) (by kernel_rfl) (fun _ _ _ h => h) HC (by kernel_rfl) ?y1 ?r1
        case y1 => (intro W hW; obtain ⟨u0, u1, u2, u3, u4, _⟩ := hW; clear HC hbb hB hO HX h; go_simp)
        refine RD.pure (i := 1) (v := .int .i64 (k : Int)) rfl (by kernel_rfl) (by kernel_rfl) (by kernel_rfl) (by decide) (fun _ _ _ h => h) (fun _ => HC) (by kernel_rfl) ?y2 ?r2
        case y2 => (intro W; clear HC hbb hB hO HX h; go_simp)
        refine RD.take (i := 3) (v := .agg #[.int .i64 (x.1.1), .int .i64 (x.1.2), .slice ao x.2.1.length cap, .int .i64 (x.2.2.1), .int .i64 (x.2.2.2)]) rfl (by kernel_rfl) (by kernel_rfl) (by kernel_rfl) (by kernel_rfl) (fun _ _ _ h => h) HC (by kernel_rfl) ?y3 ?r3
        case y3 => (intro W hW; obtain ⟨u0, u1, u2, u3, u4, _⟩ := hW; clear HC hbb hB hO HX h; go_simp)
        refine RD.pure (i := 4) (v := .int .i64 (k : Int)) rfl (by kernel_rfl) (by kernel_rfl) (by kernel_rfl) (by decide) (fun _ _ _ h => h) (fun _ => HC) (by kernel_rfl) ?y4 ?r4
        case y4 => (intro W; clear HC hbb hB hO HX h; go_simp)
        refine RD.two (i := 2) (k := 7) (by kernel_rfl) rfl rfl (fun K hK => ?_) (fun K hK => ?_) 
        · rw [if_pos (by kernel_rfl)]
          go_simp
          refine (HLO _ (h.later (hB.trans (hbb.mono hB.size)))).mono ?_
          rintro e wq5 ⟨rfl, hq⟩
          simp only
          have HC1 := HC.later hq hlt
          have hlt1 := hlt.mono hq.size
          have hbb1 := hbb.trans (hq.mono hbb.size)
          refine hK _ _ (fun _ => HC1) ?_
          clear hK K hq HC hlt hbb
          have HC := HC1
          clear HC1
          have hlt := hlt1
          clear hlt1
          have hbb := hbb1
          clear hbb1
          refine RD.two (i := 5) (k := 7) (by kernel_rfl) rfl rfl (fun K hK => ?_) (fun K hK => ?_) 
          · rw [if_pos (by kernel_rfl)]
            go_simp
            refine (HHI _ (h.later (hB.trans (hbb.mono hB.size)))).mono ?_
            rintro e wq6 ⟨rfl, hq⟩
            simp only
            have HC1 := HC.later hq hlt
            have hlt1 := hlt.mono hq.size
            have hbb1 := hbb.trans (hq.mono hbb.size)
            refine hK _ _ (fun _ => HC1) ?_
            clear hK K hq HC hlt hbb
            have HC := HC1
            clear HC1
            have hlt := hlt1
            clear hlt1
            have hbb := hbb1
            clear hbb1
            refine RD.pure (i := 6) (v := .agg #[.int .i64 lo, .int .i64 hi]) rfl (by kernel_rfl) (by kernel_rfl) (by kernel_rfl) (by decide) (fun _ _ _ h => h) (fun _ => HC) (by kernel_rfl) ?y7 ?r7
            case y7 => (intro W; clear HC hbb hB hO HX h; go_simp)
            refine RD.want (i := 7) (by kernel_rfl) rfl (by kernel_rfl) (fun K hK => ?_)
            go_simp
            obtain ⟨wq8, hwz⟩ : ∃ wz : World, wz = wq6.alloc (.cells #[.int .i64 0, .int .i64 0] 65) := ⟨_, rfl⟩
            have hq : Below wq6.heap.size wq6 wq8 := by rw [hwz]; exact (Below.refl _ _).alloc (Nat.le_refl _) _
            have HZ : BoxAt wq6.heap.size #[.int .i64 0, .int .i64 0] 65 wq8 := by rw [hwz]; exact BoxAt.new _ _ _
            rw [← hwz]
            have HC1 := HC.later hq hlt
            have hlt1 := hlt.mono hq.size
            have hbb1 := hbb.trans (hq.mono hbb.size)
            obtain ⟨sb, hgn⟩ : ∃ sb, sb = wq6.heap.size := ⟨_, rfl⟩
            refine hK _ _ (fun _ => HC1) ?_
            rw [← hgn] at HZ ⊢
            have sbge : wq6.heap.size ≤ sb := by omega
            have hsbr : wr.heap.size ≤ sb := Nat.le_trans hbb.size sbge
            clear hK K hq hwz hgn HC hlt hbb
            have HC := HC1
            clear HC1
            have hlt := hlt1
            clear hlt1
            have hbb := hbb1
            clear hbb1
            refine RD.want (i := 8) (by kernel_rfl) rfl (by kernel_rfl) (fun K hK => ?_)
            have z0 := HZ.cell 0
            have z1 := HZ.cell 1
            simp at z0 z1
            have y0 := HZ.soft 0
            have y1 := HZ.soft 1
            go_simp
            have HZ2 := hid ((HZ.set 0 (.int .i64 lo)).set 1 (.int .i64 hi))
            have hbb2 := hid ((hbb.setCell (p := ⟨sb, 0, none⟩) hsbr (.int .i64 lo)).setCell (p := ⟨sb, 1, none⟩) hsbr (.int .i64 hi))
            refine hK _ _ (fun _ => (HC.put hltw hsbr 0 (.int .i64 lo)).put hltw hsbr 1 (.int .i64 hi)) ?_
            clear hK K HC z0 z1 y0 y1 HZ hbb
            refine RD.done (by kernel_rfl) ?_
            refine ⟨sb, ?_, HZ2.out, hbb2.out, hsbr⟩
            kernel_rfl
          · rw [if_pos (by kernel_rfl)]
            go_simp
            obtain ⟨wq9, hwz⟩ : ∃ wz : World, wz = wq5.alloc (.cells #[.int .i64 0, .int .i64 0] 65) := ⟨_, rfl⟩
            have hq : Below wq5.heap.size wq5 wq9 := by rw [hwz]; exact (Below.refl _ _).alloc (Nat.le_refl _) _
            have HZ : BoxAt wq5.heap.size #[.int .i64 0, .int .i64 0] 65 wq9 := by rw [hwz]; exact BoxAt.new _ _ _
            rw [← hwz]
            have HC1 := HC.later hq hlt
            have hlt1 := hlt.mono hq.size
            have hbb1 := hbb.trans (hq.mono hbb.size)
            obtain ⟨sb, hgn⟩ : ∃ sb, sb = wq5.heap.size := ⟨_, rfl⟩
            refine hK _ _ (fun _ => HC1) ?_
            rw [← hgn] at HZ ⊢
            have sbge : wq5.heap.size ≤ sb := by omega
            have hsbr : wr.heap.size ≤ sb := Nat.le_trans hbb.size sbge
            clear hK K hq hwz hgn HC hlt hbb
            have HC := HC1
            clear HC1
            have hlt := hlt1
            clear hlt1
            have hbb := hbb1
            clear hbb1
            refine RD.want (i := 5) (by kernel_rfl) rfl (by kernel_rfl) (fun K hK => ?_)
            go_simp
            refine (HHI _ (h.later (hB.trans (hbb.mono hB.size)))).mono ?_
            rintro e wq10 ⟨rfl, hq⟩
            simp only
            have HC1 := HC.later hq hlt
            have hlt1 := hlt.mono hq.size
            have hbb1 := hbb.trans (hq.mono hbb.size)
            have HZ1 := HZ.next hq
            refine hK _ _ (fun _ => HC1) ?_
            clear hK K hq HC hlt hbb HZ
            have HC := HC1
            clear HC1
            have hlt := hlt1
            clear hlt1
            have hbb := hbb1
            clear hbb1
            have HZ := HZ1
            clear HZ1
            refine RD.pure (i := 6) (v := .agg #[.int .i64 lo, .int .i64 hi]) rfl (by kernel_rfl) (by kernel_rfl) (by kernel_rfl) (by decide) (fun _ _ _ h => h) (fun _ => HC) (by kernel_rfl) ?y11 ?r11
            case y11 => (intro W; clear HC hbb hB hO HX h; go_simp)
            refine RD.want (i := 8) (by kernel_rfl) rfl (by kernel_rfl) (fun K hK => ?_)
            have z0 := HZ.cell 0
            have z1 := HZ.cell 1
            simp at z0 z1
            have y0 := HZ.soft 0
            have y1 := HZ.soft 1
            go_simp
            have HZ2 := hid ((HZ.set 0 (.int .i64 lo)).set 1 (.int .i64 hi))
            have hbb2 := hid ((hbb.setCell (p := ⟨sb, 0, none⟩) hsbr (.int .i64 lo)).setCell (p := ⟨sb, 1, none⟩) hsbr (.int .i64 hi))
            refine hK _ _ (fun _ => (HC.put hltw hsbr 0 (.int .i64 lo)).put hltw hsbr 1 (.int .i64 hi)) ?_
            clear hK K HC z0 z1 y0 y1 HZ hbb
            refine RD.done (by kernel_rfl) ?_
            refine ⟨sb, ?_, HZ2.out, hbb2.out, hsbr⟩
            kernel_rfl
        · rw [if_pos (by kernel_rfl)]
          go_simp
          obtain ⟨wq12, hwz⟩ : ∃ wz : World, wz = wd.alloc (.cells #[.int .i64 0, .int .i64 0] 65) := ⟨_, rfl⟩
          have hq : Below wd.heap.size wd wq12 := by rw [hwz]; exact (Below.refl _ _).alloc (Nat.le_refl _) _
          have HZ : BoxAt wd.heap.size #[.int .i64 0, .int .i64 0] 65 wq12 := by rw [hwz]; exact BoxAt.new _ _ _
          rw [← hwz]
          have HC1 := HC.later hq hlt
          have hlt1 := hlt.mono hq.size
          have hbb1 := hbb.trans (hq.mono hbb.size)
          obtain ⟨sb, hgn⟩ : ∃ sb, sb = wd.heap.size := ⟨_, rfl⟩
          refine hK _ _ (fun _ => HC1) ?_
          rw [← hgn] at HZ ⊢
          have sbge : wd.heap.size ≤ sb := by omega
          have hsbr : wr.heap.size ≤ sb := Nat.le_trans hbb.size sbge
          clear hK K hq hwz hgn HC hlt hbb
          have HC := HC1
          clear HC1
          have hlt := hlt1
          clear hlt1
          have hbb := hbb1
          clear hbb1
          refine RD.want (i := 2) (by kernel_rfl) rfl (by kernel_rfl) (fun K hK => ?_)
          go_simp
          refine (HLO _ (h.later (hB.trans (hbb.mono hB.size)))).mono ?_
          rintro e wq13 ⟨rfl, hq⟩
          simp only
          have HC1 := HC.later hq hlt
          have hlt1 := hlt.mono hq.size
          have hbb1 := hbb.trans (hq.mono hbb.size)
          have HZ1 := HZ.next hq
          refine hK _ _ (fun _ => HC1) ?_
          clear hK K hq HC hlt hbb HZ
          have HC := HC1
          clear HC1
          have hlt := hlt1
          clear hlt1
          have hbb := hbb1
          clear hbb1
          have HZ := HZ1
          clear HZ1
          refine RD.want (i := 5) (by kernel_rfl) rfl (by kernel_rfl) (fun K hK => ?_)
          go_simp
          refine (HHI _ (h.later (hB.trans (hbb.mono hB.size)))).mono ?_
          rintro e wq14 ⟨rfl, hq⟩
          simp only
          have HC1 := HC.later hq hlt
          have hlt1 := hlt.mono hq.size
          have hbb1 := hbb.trans (hq.mono hbb.size)
          have HZ1 := HZ.next hq
          refine hK _ _ (fun _ => HC1) ?_
          clear hK K hq HC hlt hbb HZ
          have HC := HC1
          clear HC1
          have hlt := hlt1
          clear hlt1
          have hbb := hbb1
          clear hbb1
          have HZ := HZ1
          clear HZ1
          refine RD.pure (i := 6) (v := .agg #[.int .i64 lo, .int .i64 hi]) rfl (by kernel_rfl) (by kernel_rfl) (by kernel_rfl) (by decide) (fun _ _ _ h => h) (fun _ => HC) (by kernel_rfl) ?y15 ?r15
          case y15 => (intro W; clear HC hbb hB hO HX h; go_simp)
          refine RD.want (i := 8) (by kernel_rfl) rfl (by kernel_rfl) (fun K hK => ?_)
          have z0 := HZ.cell 0
          have z1 := HZ.cell 1
          simp at z0 z1
          have y0 := HZ.soft 0
          have y1 := HZ.soft 1
          go_simp
          have HZ2 := hid ((HZ.set 0 (.int .i64 lo)).set 1 (.int .i64 hi))
          have hbb2 := hid ((hbb.setCell (p := ⟨sb, 0, none⟩) hsbr (.int .i64 lo)).setCell (p := ⟨sb, 1, none⟩) hsbr (.int .i64 hi))
          refine hK _ _ (fun _ => (HC.put hltw hsbr 0 (.int .i64 lo)).put hltw hsbr 1 (.int .i64 hi)) ?_
          clear hK K HC z0 z1 y0 y1 HZ hbb
          refine RD.done (by kernel_rfl) ?_
          refine ⟨sb, ?_, HZ2.out, hbb2.out, hsbr⟩
          kernel_rfl
      · rintro a' w6 ⟨sb, rfl, HZ, hbb, hsb⟩
        clear b0 b1 b2 b3 b4
        go_simp
        have hzw : w.heap.size + 2 ≤ w6.heap.size := Nat.le_trans hzr hbb.size
        have hwsb : w.heap.size ≠ sb := by omega
        have hsbw : w.heap.size ≤ sb := by omega
        have hO6 := owns_below hO hbb
        have HX6 := HX.next6 hbb
        have hB6 := hB.trans (hbb.mono hB.size)
        clear hbb HLO HHI
        by_cases hk0 : k = 0
        · have HFW : Hid (fw x k = (lo, hi)) := by show _ = _; rw [HLE.out, HHE.out, hk0]; rfl
          have hkz : ¬ (0 : Int) < (k : Int) := by omega
          have HK0 := hid hk0
          clear hk0 hO HX hB
          have hO := hO6
          have HX := HX6
          have hB := hB6
          clear hO6 HX6 hB6
          have z0 := HZ.cell 0
          have z1 := HZ.cell 1
          simp at z0 z1
          have HO_ := hid hO
          have HX_ := hid HX
          have HB_ := hid hB
          by_cases he : hi < lo
          · have HNO := hid (spG_no (x := x) fun h1 => by have := h1.1 k hlt1; rw [HFW.out] at this; simp only at this; omega)
            have hbw := HB_.out.size
            clear hO HX hB h HZ
            go_wp2
            refine bodyPost_ret (v := .tuple #[.slice (some ⟨w6.heap.size, 0, none⟩) 0 0, .bool false]) (by simp [results, Try.results38, go_sem]) rfl ?_
            rw [HNO.out]
            exact ⟨some ⟨w6.heap.size, 0, none⟩, 0, rfl, emptyS w6 65 w.heap.size hbw, HB_.out.alloc hbw _⟩
          · have hsn := spR_snoc (fw x) k
            have HNE := hid (fun j (hj : j < k + 1) => (by
              by_cases e : j = k
              · subst e; have := HFW.out; rw [this]; simp only; omega
              · exact HF.out j (by omega) : (fw x j).1 ≤ (fw x j).2))
            rw [HFW.out] at hsn
            simp only at hsn
            obtain ⟨V1, hV1e⟩ : ∃ V1, valsFlySpan (spR (fw x) (k + 1)) = V1 := ⟨_, rfl⟩
            rw [hV1e] at hsn
            have HV1 := hid hV1e
            have HSN := hid hsn
            have hbw := HB_.out.size
            have hzl := HZ.lt
            clear hV1e hsn hO HX hB h HZ
            generalize valsFlySpan (spR (fw x) k) = V0 at *
            go_wp2_with (at_builtin; refine wpList_append_own_at _ rfl _ _ 28 rfl (w.heap.size + 1) 65 i0 (.agg #[.int .i64 0, .int .i64 0]) 2 16 Try.underlying28 hi0 hz0 hz1 hz2 rfl (by decide) _ _ _ rfl (HO_.out.alloc _) ⟨w6.heap.size, 0, none⟩ 1 1 [.int .i64 lo, .int .i64 hi] rfl rfl (newRow _ _ _) (ones rfl) (by unfold maxLen; omega) (by omega) (by simp; omega) ?_)
            intro v' w9 hown hgrow _ hpos
            obtain ⟨g9, c9, rfl⟩ := owns_pos hown
            have HB9 := hid ((HB_.out.alloc hbw _).grown hgrow (by simp; omega) (fun j hj => by have := (HO_.out.lt j hj).1; omega))
            have HO9 := hid (HSN.out ▸ hown)
            have hz9 : w.heap.size + 2 ≤ w9.heap.size := by have := hgrow.size; simp at this; omega
            have HX9 := hid ((HX_.out.next ((Below.refl _ _).alloc (Nat.le_refl _) (.cells #[.int .i64 lo, .int .i64 hi] 65))).kept (hgrow.block w.heap.size (by have := HX_.out.lt; simp; omega) (fun e => by have := (HO_.out.lt w.heap.size e.symm).1; omega)))
            clear hown hgrow HO_ HX_ HB_ HSN
            go_wp2
            go_roundw
            case rel => exact ⟨k + 1, _, _, by omega, by go_num, rfl, by rw [HV1.out]; exact HO9.out, HNE, HB9.out, hz9, HX9.out⟩
            case measure => simp [intOf]; omega
        · obtain ⟨j, hj⟩ : ∃ j, k = j + 1 := ⟨k - 1, by omega⟩
          have hjn : j < x.2.1.length := by omega
          have hkz : (0 : Int) < (k : Int) := by omega
          have hkj : (k : Int) - 1 = (j : Int) := by omega
          have hjw : IntKind.i64.wrap (j : Int) = (j : Int) := by rw [IntKind.wrap_i64] <;> omega
          have hjk : (j : Int) < (k : Int) := by omega
          obtain ⟨g, rfl⟩ := own_some hO (by omega)
          have hgr := (hO.lt g rfl).2
          have hgsb : g ≠ sb := by omega
          have hbc := (own_caps hO).2
          obtain ⟨r0, hr0⟩ : ∃ r, fmx lo ((fw x j).1 + x.1.1) = r := ⟨_, rfl⟩
          obtain ⟨r1, hr1⟩ : ∃ r, fmn hi ((fw x j).2 + mostAt x j) = r := ⟨_, rfl⟩
          have HFW : Hid (fw x k = (r0, r1)) := by show _ = _; rw [hj, fw_next, ← hj, ← HLE.out, ← HHE.out, hr0, hr1]
          have hfr := fw_rng HNAR.out j (HF.out j (by omega))
          have hmr := most_rangeK HKIND.out j
          have hkr := HKIND.out
          obtain ⟨hkr1, hkr2, hkr3⟩ := hkr
          have g0 := (hO6.cellAt (j * 2) (by omega)).trans (valsFlySpan_at0 (spR (fw x) k) j (by rw [spR_len]; omega))
          have g1 := (hO6.cellAt (j * 2 + 1) (by omega)).trans (valsFlySpan_at1 (spR (fw x) k) j (by rw [spR_len]; omega))
          rw [spR_get] at g0 g1
          have HJ := hid hj
          clear hj hk0 hO HX hB
          have hO := hO6
          have HX := HX6
          have hB := hB6
          clear hO6 HX6 hB6
          generalize hf0 : (fw x j).1 = f0 at *
          generalize hf1 : (fw x j).2 = f1 at *
          have hw1 : IntKind.i64.wrap (f0 + x.1.1) = f0 + x.1.1 := by rw [IntKind.wrap_i64] <;> omega
          have hw2 : IntKind.i64.wrap (f1 + mostAt x j) = f1 + mostAt x j := by rw [IntKind.wrap_i64] <;> omega
          have hf1e := hf1
          clear hf0 hf1
          have z0 := HZ.cell 0
          have z1 := HZ.cell 1
          have b0 := HX.cell 0
          have b1 := HX.cell 1
          have b2 := HX.cell 2
          have b3 := HX.cell 3
          have b4 := HX.cell 4
          simp at z0 z1 b0 b1 b2 b3 b4
          go_wp2_with fail
          have HC : CL [(⟨sb, 0, none⟩, .int .i64 lo), (⟨g, j * 2, none⟩, .int .i64 f0), (⟨w.heap.size, 0, none⟩, .int .i64 (x.1.1))] w6.drew := ⟨z0, g0, b0, trivial⟩
          have hlt : CLlt w6.drew.heap.size [(⟨sb, 0, none⟩, .int .i64 lo), (⟨g, j * 2, none⟩, .int .i64 f0), (⟨w.heap.size, 0, none⟩, .int .i64 (x.1.1))] := ⟨HZ.lt, (hO.lt g rfl).2, HX.lt, trivial⟩
          have hO := hO.drew
          have HX : BoxAt w.heap.size #[.int .i64 x.1.1, .int .i64 x.1.2, .slice ao x.2.1.length cap, .int .i64 x.2.2.1, .int .i64 x.2.2.2] 34 w6.drew := HX
          have HZ : BoxAt sb #[.int .i64 lo, .int .i64 hi] 65 w6.drew := HZ
          have hB := hB.drew
          refine wp_region_RD (CL [(⟨sb, 0, none⟩, .int .i64 lo), (⟨g, j * 2, none⟩, .int .i64 f0), (⟨w.heap.size, 0, none⟩, .int .i64 (x.1.1))]) [14] mixedT ?_
          generalize w6.drew = wd at *
          clear z0 z1 g0 g1 b0 b1 b2 b3 b4
          refine RD.pure (i := 0) (v := .pointer (some ⟨sb, 0, none⟩)) rfl (by kernel_rfl) (by kernel_rfl) (by kernel_rfl) (by decide) (fun _ _ _ h => h) (fun _ => HC) (by kernel_rfl) ?y16 ?r16
          case y16 => (intro W; clear HC hB hO HX HZ h hr1; go_simp)
          refine RD.take (i := 1) (v := .int .i64 lo) rfl (by kernel_rfl) (by kernel_rfl) (by kernel_rfl) (by kernel_rfl) (fun _ _ _ h => h) HC (by kernel_rfl) ?y17 ?r17
          case y17 => (intro W hW; obtain ⟨u0, u1, u2, _⟩ := hW; clear HC hB hO HX HZ h hr1; go_simp)
          refine RD.pure (i := 2) (v := .slice (some ⟨g, 0, none⟩) k bc) rfl (by kernel_rfl) (by kernel_rfl) (by kernel_rfl) (by decide) (fun _ _ _ h => h) (fun _ => HC) (by kernel_rfl) ?y18 ?r18
          case y18 => (intro W; clear HC hB hO HX HZ h hr1; go_simp)
          refine RD.pure (i := 3) (v := .int .i64 (k : Int)) rfl (by kernel_rfl) (by kernel_rfl) (by kernel_rfl) (by decide) (fun _ _ _ h => h) (fun _ => HC) (by kernel_rfl) ?y19 ?r19
          case y19 => (intro W; clear HC hB hO HX HZ h hr1; go_simp)
          refine RD.pure (i := 4) (v := .int .i64 (j : Int)) rfl (by kernel_rfl) (by kernel_rfl) (by kernel_rfl) (by decide) (fun _ _ _ h => h) (fun _ => HC) (by kernel_rfl) ?y20 ?r20
          case y20 => (intro W; clear HC hB hO HX HZ h hr1; go_simp)
          refine RD.pure (i := 5) (v := .pointer (some ⟨g, j * 2, none⟩)) rfl (by kernel_rfl) (by kernel_rfl) (by kernel_rfl) (by decide) (fun _ _ _ h => h) (fun _ => HC) (by kernel_rfl) ?y21 ?r21
          case y21 => (intro W; clear HC hB hO HX HZ h hr1; go_simp)
          refine RD.pure (i := 6) (v := .pointer (some ⟨g, j * 2, none⟩)) rfl (by kernel_rfl) (by kernel_rfl) (by kernel_rfl) (by decide) (fun _ _ _ h => h) (fun _ => HC) (by kernel_rfl) ?y22 ?r22
          case y22 => (intro W; clear HC hB hO HX HZ h hr1; go_simp)
          refine RD.take (i := 7) (v := .int .i64 f0) rfl (by kernel_rfl) (by kernel_rfl) (by kernel_rfl) (by kernel_rfl) (fun _ _ _ h => h) HC (by kernel_rfl) ?y23 ?r23
          case y23 => (intro W hW; obtain ⟨u0, u1, u2, _⟩ := hW; clear HC hB hO HX HZ h hr1; go_simp)
          refine RD.pure (i := 8) (v := .pointer (some ⟨w.heap.size, 0, none⟩)) rfl (by kernel_rfl) (by kernel_rfl) (by kernel_rfl) (by decide) (fun _ _ _ h => h) (fun _ => HC) (by kernel_rfl) ?y24 ?r24
          case y24 => (intro W; clear HC hB hO HX HZ h hr1; go_simp)
          refine RD.pure (i := 9) (v := .pointer (some ⟨w.heap.size, 0, none⟩)) rfl (by kernel_rfl) (by kernel_rfl) (by kernel_rfl) (by decide) (fun _ _ _ h => h) (fun _ => HC) (by kernel_rfl) ?y25 ?r25
          case y25 => (intro W; clear HC hB hO HX HZ h hr1; go_simp)
          refine RD.take (i := 10) (v := .int .i64 (x.1.1)) rfl (by kernel_rfl) (by kernel_rfl) (by kernel_rfl) (by kernel_rfl) (fun _ _ _ h => h) HC (by kernel_rfl) ?y26 ?r26
          case y26 => (intro W hW; obtain ⟨u0, u1, u2, _⟩ := hW; clear HC hB hO HX HZ h hr1; go_simp)
          refine RD.pure (i := 11) (v := .int .i64 (f0 + (x.1.1))) rfl (by kernel_rfl) (by kernel_rfl) (by kernel_rfl) (by decide) (fun _ _ _ h => h) (fun _ => HC) (by kernel_rfl) ?y27 ?r27
          case y27 => (intro W; clear HC hB hO HX HZ h hr1; go_simp)
          refine RD.want (i := 12) (by kernel_rfl) rfl (by kernel_rfl) (fun K hK => ?_)
          go_simp
          refine (sMxB lo (f0 + x.1.1) r0 _ hr0).mono ?_
          rintro e wq28 ⟨rfl, hq⟩
          simp only
          have HC1 := HC.later hq hlt
          have hlt1 := hlt.mono hq.size
          have hB1 := hB.trans (hq.mono hB.size)
          have HX1 := HX.next hq
          have hO1 := owns_below hO hq
          have HZ1 := HZ.next hq
          refine hK _ _ (fun _ => HC1) ?_
          clear hK K hq HC hlt hB HX hO HZ
          have HC := HC1
          clear HC1
          have hlt := hlt1
          clear hlt1
          have hB := hB1
          clear hB1
          have HX := HX1
          clear HX1
          have hO := hO1
          clear hO1
          have HZ := HZ1
          clear HZ1
          refine RD.pure (i := 13) (v := .pointer (some ⟨sb, 0, none⟩)) rfl (by kernel_rfl) (by kernel_rfl) (by kernel_rfl) (by decide) (fun _ _ _ h => h) (fun _ => HC) (by kernel_rfl) ?y29 ?r29
          case y29 => (intro W; clear HC hB hO HX HZ h hr1; go_simp)
          refine RD.want (i := 14) (by kernel_rfl) rfl (by kernel_rfl) (fun K hK => ?_)
          have z0 := HZ.cell 0
          simp at z0
          have y0 := HZ.soft 0
          go_simp
          have HZ2 := HZ.set 0 (.int .i64 r0)
          have HZ3 : BoxAt sb #[.int .i64 r0, .int .i64 hi] 65 _ := HZ2
          have hB2 := hB.setCell (p := ⟨sb, 0, none⟩) hsbw (.int .i64 r0)
          have HX2 := HX.other hwsb 0 (.int .i64 r0)
          have hO2 := ownsRow_setCell_other hO (a := ⟨sb, 0, none⟩) (by simpa [Value.ownBlock] using hgsb) (.int .i64 r0)
          refine hK _ _ (not_clean (by kernel_rfl)) ?_
          clear hK K HC z0 y0 HZ HZ2 hB HX hO hlt
          have HZ := HZ3
          have hB := hB2
          have HX := HX2
          have hO := hO2
          clear HZ3 hB2 HX2 hO2
          generalize World.setCell _ ⟨sb, 0, none⟩ (.int .i64 r0) = ws0 at *
          refine RD.done (by kernel_rfl) ?_
          try go_simp
          have z0 := HZ.cell 0
          have z1 := HZ.cell 1
          have b0 := HX.cell 0
          have b1 := HX.cell 1
          have b2 := HX.cell 2
          have b3 := HX.cell 3
          have b4 := HX.cell 4
          simp at z0 z1 b0 b1 b2 b3 b4
          have g1 := (hO.cellAt (j * 2 + 1) (by omega)).trans (valsFlySpan_at1 (spR (fw x) k) j (by rw [spR_len]; omega))
          rw [spR_get, hf1e] at g1
          go_wp2_with fail
          have HC : CL [(⟨sb, 1, none⟩, .int .i64 hi), (⟨g, j * 2 + 1, none⟩, .int .i64 f1), (⟨w.heap.size, 0, none⟩, .int .i64 (x.1.1)), (⟨w.heap.size, 1, none⟩, .int .i64 (x.1.2)), (⟨w.heap.size, 2, none⟩, .slice ao x.2.1.length cap), (⟨w.heap.size, 3, none⟩, .int .i64 (x.2.2.1)), (⟨w.heap.size, 4, none⟩, .int .i64 (x.2.2.2))] ws0.drew := ⟨z1, g1, b0, b1, b2, b3, b4, trivial⟩
          have hlt : CLlt ws0.drew.heap.size [(⟨sb, 1, none⟩, .int .i64 hi), (⟨g, j * 2 + 1, none⟩, .int .i64 f1), (⟨w.heap.size, 0, none⟩, .int .i64 (x.1.1)), (⟨w.heap.size, 1, none⟩, .int .i64 (x.1.2)), (⟨w.heap.size, 2, none⟩, .slice ao x.2.1.length cap), (⟨w.heap.size, 3, none⟩, .int .i64 (x.2.2.1)), (⟨w.heap.size, 4, none⟩, .int .i64 (x.2.2.2))] := ⟨HZ.lt, (hO.lt g rfl).2, HX.lt, HX.lt, HX.lt, HX.lt, HX.lt, trivial⟩
          have hO := hO.drew
          have HX : BoxAt w.heap.size #[.int .i64 x.1.1, .int .i64 x.1.2, .slice ao x.2.1.length cap, .int .i64 x.2.2.1, .int .i64 x.2.2.2] 34 ws0.drew := HX
          have HZ : BoxAt sb #[.int .i64 r0, .int .i64 hi] 65 ws0.drew := HZ
          have hB := hB.drew
          refine wp_region_RD (CL [(⟨sb, 1, none⟩, .int .i64 hi), (⟨g, j * 2 + 1, none⟩, .int .i64 f1), (⟨w.heap.size, 0, none⟩, .int .i64 (x.1.1)), (⟨w.heap.size, 1, none⟩, .int .i64 (x.1.2)), (⟨w.heap.size, 2, none⟩, .slice ao x.2.1.length cap), (⟨w.heap.size, 3, none⟩, .int .i64 (x.2.2.1)), (⟨w.heap.size, 4, none⟩, .int .i64 (x.2.2.2))]) [15] mixedT ?_
          generalize ws0.drew = we at *
          clear z0 z1 g1 b0 b1 b2 b3 b4
          refine RD.pure (i := 0) (v := .pointer (some ⟨sb, 1, none⟩)) rfl (by kernel_rfl) (by kernel_rfl) (by kernel_rfl) (by decide) (fun _ _ _ h => h) (fun _ => HC) (by kernel_rfl) ?y30 ?r30
          case y30 => (intro W; clear HC hB hO HX HZ h; go_simp)
          refine RD.take (i := 1) (v := .int .i64 hi) rfl (by kernel_rfl) (by kernel_rfl) (by kernel_rfl) (by kernel_rfl) (fun _ _ _ h => h) HC (by kernel_rfl) ?y31 ?r31
          case y31 => (intro W hW; obtain ⟨u0, u1, u2, u3, u4, u5, u6, _⟩ := hW; clear HC hB hO HX HZ h; go_simp)
          refine RD.pure (i := 2) (v := .slice (some ⟨g, 0, none⟩) k bc) rfl (by kernel_rfl) (by kernel_rfl) (by kernel_rfl) (by decide) (fun _ _ _ h => h) (fun _ => HC) (by kernel_rfl) ?y32 ?r32
          case y32 => (intro W; clear HC hB hO HX HZ h; go_simp)
          refine RD.pure (i := 3) (v := .int .i64 (k : Int)) rfl (by kernel_rfl) (by kernel_rfl) (by kernel_rfl) (by decide) (fun _ _ _ h => h) (fun _ => HC) (by kernel_rfl) ?y33 ?r33
          case y33 => (intro W; clear HC hB hO HX HZ h; go_simp)
          refine RD.pure (i := 4) (v := .int .i64 (j : Int)) rfl (by kernel_rfl) (by kernel_rfl) (by kernel_rfl) (by decide) (fun _ _ _ h => h) (fun _ => HC) (by kernel_rfl) ?y34 ?r34
          case y34 => (intro W; clear HC hB hO HX HZ h; go_simp)
          refine RD.pure (i := 5) (v := .pointer (some ⟨g, j * 2, none⟩)) rfl (by kernel_rfl) (by kernel_rfl) (by kernel_rfl) (by decide) (fun _ _ _ h => h) (fun _ => HC) (by kernel_rfl) ?y35 ?r35
          case y35 => (intro W; clear HC hB hO HX HZ h; go_simp)
          refine RD.pure (i := 6) (v := .pointer (some ⟨g, j * 2 + 1, none⟩)) rfl (by kernel_rfl) (by kernel_rfl) (by kernel_rfl) (by decide) (fun _ _ _ h => h) (fun _ => HC) (by kernel_rfl) ?y36 ?r36
          case y36 => (intro W; clear HC hB hO HX HZ h; go_simp)
          refine RD.take (i := 7) (v := .int .i64 f1) rfl (by kernel_rfl) (by kernel_rfl) (by kernel_rfl) (by kernel_rfl) (fun _ _ _ h => h) HC (by kernel_rfl) ?y37 ?r37
          case y37 => (intro W hW; obtain ⟨u0, u1, u2, u3, u4, u5, u6, _⟩ := hW; clear HC hB hO HX HZ h; go_simp)
          refine RD.take (i := 8) (v := .agg #[.int .i64 (x.1.1), .int .i64 (x.1.2), .slice ao x.2.1.length cap, .int .i64 (x.2.2.1), .int .i64 (x.2.2.2)]) rfl (by kernel_rfl) (by kernel_rfl) (by kernel_rfl) (by kernel_rfl) (fun _ _ _ h => h) HC (by kernel_rfl) ?y38 ?r38
          case y38 => (intro W hW; obtain ⟨u0, u1, u2, u3, u4, u5, u6, _⟩ := hW; clear HC hB hO HX HZ h; go_simp)
          refine RD.pure (i := 9) (v := .int .i64 (k : Int)) rfl (by kernel_rfl) (by kernel_rfl) (by kernel_rfl) (by decide) (fun _ _ _ h => h) (fun _ => HC) (by kernel_rfl) ?y39 ?r39
          case y39 => (intro W; clear HC hB hO HX HZ h; go_simp)
          refine RD.pure (i := 10) (v := .int .i64 (j : Int)) rfl (by kernel_rfl) (by kernel_rfl) (by kernel_rfl) (by decide) (fun _ _ _ h => h) (fun _ => HC) (by kernel_rfl) ?y40 ?r40
          case y40 => (intro W; clear HC hB hO HX HZ h; go_simp)
          refine RD.want (i := 11) (by kernel_rfl) rfl (by kernel_rfl) (fun K hK => ?_)
          go_simp
          refine (sMost x ao cap j _ (h.later hB) hjn).mono ?_
          rintro e wq41 ⟨rfl, hq⟩
          simp only
          have HC1 := HC.later hq hlt
          have hlt1 := hlt.mono hq.size
          have hB1 := hB.trans (hq.mono hB.size)
          have HX1 := HX.next hq
          have hO1 := owns_below hO hq
          have HZ1 := HZ.next hq
          refine hK _ _ (fun _ => HC1) ?_
          clear hK K hq HC hlt hB HX hO HZ
          have HC := HC1
          clear HC1
          have hlt := hlt1
          clear hlt1
          have hB := hB1
          clear hB1
          have HX := HX1
          clear HX1
          have hO := hO1
          clear hO1
          have HZ := HZ1
          clear HZ1
          refine RD.pure (i := 12) (v := .int .i64 (f1 + (mostAt x j))) rfl (by kernel_rfl) (by kernel_rfl) (by kernel_rfl) (by decide) (fun _ _ _ h => h) (fun _ => HC) (by kernel_rfl) ?y42 ?r42
          case y42 => (intro W; clear HC hB hO HX HZ h; go_simp)
          refine RD.want (i := 13) (by kernel_rfl) rfl (by kernel_rfl) (fun K hK => ?_)
          go_simp
          refine (sMnB hi (f1 + mostAt x j) r1 _ hr1).mono ?_
          rintro e wq43 ⟨rfl, hq⟩
          simp only
          have HC1 := HC.later hq hlt
          have hlt1 := hlt.mono hq.size
          have hB1 := hB.trans (hq.mono hB.size)
          have HX1 := HX.next hq
          have hO1 := owns_below hO hq
          have HZ1 := HZ.next hq
          refine hK _ _ (fun _ => HC1) ?_
          clear hK K hq HC hlt hB HX hO HZ
          have HC := HC1
          clear HC1
          have hlt := hlt1
          clear hlt1
          have hB := hB1
          clear hB1
          have HX := HX1
          clear HX1
          have hO := hO1
          clear hO1
          have HZ := HZ1
          clear HZ1
          refine RD.pure (i := 14) (v := .pointer (some ⟨sb, 1, none⟩)) rfl (by kernel_rfl) (by kernel_rfl) (by kernel_rfl) (by decide) (fun _ _ _ h => h) (fun _ => HC) (by kernel_rfl) ?y44 ?r44
          case y44 => (intro W; clear HC hB hO HX HZ h; go_simp)
          refine RD.want (i := 15) (by kernel_rfl) rfl (by kernel_rfl) (fun K hK => ?_)
          have z0 := HZ.cell 1
          simp at z0
          have y0 := HZ.soft 1
          go_simp
          have HZ2 := HZ.set 1 (.int .i64 r1)
          have HZ3 : BoxAt sb #[.int .i64 r0, .int .i64 r1] 65 _ := HZ2
          have hB2 := hB.setCell (p := ⟨sb, 1, none⟩) hsbw (.int .i64 r1)
          have HX2 := HX.other hwsb 1 (.int .i64 r1)
          have hO2 := ownsRow_setCell_other hO (a := ⟨sb, 1, none⟩) (by simpa [Value.ownBlock] using hgsb) (.int .i64 r1)
          refine hK _ _ (not_clean (by kernel_rfl)) ?_
          clear hK K HC z0 y0 HZ HZ2 hB HX hO hlt
          have HZ := HZ3
          have hB := hB2
          have HX := HX2
          have hO := hO2
          clear HZ3 hB2 HX2 hO2
          generalize World.setCell _ ⟨sb, 1, none⟩ (.int .i64 r1) = ws1 at *
          refine RD.done (by kernel_rfl) ?_
          try go_simp
          have z0 := HZ.cell 0
          have z1 := HZ.cell 1
          simp at z0 z1
          have HO_ := hid hO
          have HX_ := hid HX
          have HB_ := hid hB
          by_cases he : r1 < r0
          · have HNO := hid (spG_no (x := x) fun h1 => by have := h1.1 k hlt1; rw [HFW.out] at this; simp only at this; omega)
            have hbw := HB_.out.size
            clear hO HX hB h HZ
            go_wp2
            refine bodyPost_ret (v := .tuple #[.slice (some ⟨ws1.heap.size, 0, none⟩) 0 0, .bool false]) (by simp [results, Try.results38, go_sem]) rfl ?_
            rw [HNO.out]
            exact ⟨some ⟨ws1.heap.size, 0, none⟩, 0, rfl, emptyS ws1 65 w.heap.size hbw, HB_.out.alloc hbw _⟩
          · have hsn := spR_snoc (fw x) k
            have HNE := hid (fun j (hj : j < k + 1) => (by
              by_cases e : j = k
              · subst e; have := HFW.out; rw [this]; simp only; omega
              · exact HF.out j (by omega) : (fw x j).1 ≤ (fw x j).2))
            rw [HFW.out] at hsn
            simp only at hsn
            obtain ⟨V1, hV1e⟩ : ∃ V1, valsFlySpan (spR (fw x) (k + 1)) = V1 := ⟨_, rfl⟩
            rw [hV1e] at hsn
            have HV1 := hid hV1e
            have HSN := hid hsn
            have hbw := HB_.out.size
            have hzl := HZ.lt
            clear hV1e hsn hO HX hB h HZ
            generalize valsFlySpan (spR (fw x) k) = V0 at *
            go_wp2_with (at_builtin; refine wpList_append_own_at _ rfl _ _ 28 rfl (w.heap.size + 1) 65 i0 (.agg #[.int .i64 0, .int .i64 0]) 2 16 Try.underlying28 hi0 hz0 hz1 hz2 rfl (by decide) _ _ _ rfl (HO_.out.alloc _) ⟨ws1.heap.size, 0, none⟩ 1 1 [.int .i64 r0, .int .i64 r1] rfl rfl (newRow _ _ _) (ones rfl) (by unfold maxLen; omega) (by omega) (by simp; omega) ?_)
            intro v' w9 hown hgrow _ hpos
            obtain ⟨g9, c9, rfl⟩ := owns_pos hown
            have HB9 := hid ((HB_.out.alloc hbw _).grown hgrow (by simp; omega) (fun j hj => by have := (HO_.out.lt j hj).1; omega))
            have HO9 := hid (HSN.out ▸ hown)
            have hz9 : w.heap.size + 2 ≤ w9.heap.size := by have := hgrow.size; simp at this; omega
            have HX9 := hid ((HX_.out.next ((Below.refl _ _).alloc (Nat.le_refl _) (.cells #[.int .i64 r0, .int .i64 r1] 65))).kept (hgrow.block w.heap.size (by have := HX_.out.lt; simp; omega) (fun e => by have := (HO_.out.lt w.heap.size e.symm).1; omega)))
            clear hown hgrow HO_ HX_ HB_ HSN
            go_wp2
            go_roundw
            case rel => exact ⟨k + 1, _, _, by omega, by go_num, rfl, by rw [HV1.out]; exact HO9.out, HNE, HB9.out, hz9, HX9.out⟩
            case measure => simp [intOf]; omega
    · have hke : k = x.2.1.length + 1 := by omega
      subst hke
      have HFO := hid (fun j hj => HF.out j (by omega) : FwOk x)
      have hkI : ¬ ((x.2.1.length + 1 : Nat) : Int) ≤ (x.2.1.length : Int) := by omega
      have hkI2 : ¬ (x.2.1.length : Int) + 1 ≤ (x.2.1.length : Int) := by omega
      obtain ⟨g, rfl⟩ := own_some hO (by omega)
      have hbc := (own_caps hO).2
      have hO1 : wr.ownsRow (w.heap.size + 1) 65 2 (.slice (some ⟨g, 0, none⟩) (x.2.1.length + 1) bc) (x.2.1.length + 1) (valsFlySpan (spL (bkS x 0) x.2.1.length)) := by
        have e : spL (bkS x 0) x.2.1.length = spR (fw x) (x.2.1.length + 1) := by
          unfold spL spR
          exact List.map_congr_left fun k hk => bkS_begin x k (by have := List.mem_range.1 hk; omega)
        rw [e]; exact hO
      have HF0 := hid (fun e (he : e ≤ 0) => (by
        obtain rfl : e = 0 := by omega
        exact HFO.out x.2.1.length (Nat.le_refl _) : (bk x e).1 ≤ (bk x e).2))
      have hgB := (hO.lt g rfl).1
      have hwl : IntKind.i64.wrap ((x.2.1.length : Int) - 1) = (x.2.1.length : Int) - 1 := by rw [IntKind.wrap_i64] <;> omega
      obtain ⟨wo, hwo⟩ : ∃ x, x = wr := ⟨_, rfl⟩
      subst hwo
      have HO1 := hid hO1
      have HB1 := hid hB
      have HX1 := hid HX
      clear hO HF hO1 hB
      have b2 := HX.cell 2
      simp at b2
      clear HX
      go_wp2
      go_loopw [8] (fun i ws => ∃ d : Nat, d ≤ x.2.1.length ∧ i = .int .i64 ((x.2.1.length : Int) - 1 - (d : Int)) ∧ ws.ownsRow (w.heap.size + 1) 65 2 (.slice (some ⟨g, 0, none⟩) (x.2.1.length + 1) bc) (x.2.1.length + 1) (valsFlySpan (spL (bkS x d) x.2.1.length)) ∧ Hid (∀ e, e ≤ d → (bk x e).1 ≤ (bk x e).2) ∧ Below w.heap.size w ws ∧ BoxAt w.heap.size #[.int .i64 x.1.1, .int .i64 x.1.2, .slice ao x.2.1.length cap, .int .i64 x.2.2.1, .int .i64 x.2.2.2] 34 ws) (fun i _ => (intOf i + 1).toNat)
      case atStart => exact ⟨0, Nat.zero_le _, by simp, HO1.out, HF0, HB1.out, HX1.out⟩
      case round =>
        clear HO1 HF0 HB1 HX1 b2
        obtain ⟨d, hd, hiv, hO, HF, hB, HX⟩ := hrel
        by_cases hlt2 : d < x.2.1.length
        · obtain ⟨p, hp⟩ : ∃ p, p + d + 1 = x.2.1.length := ⟨x.2.1.length - d - 1, by omega⟩
          have hpI : (x.2.1.length : Int) - 1 - (d : Int) = (p : Int) := by omega
          rw [hpI] at hiv
          subst hiv
          have HPI := hid hpI
          have hpn : p < x.2.1.length := by omega
          have hp0 : (0 : Int) ≤ (p : Int) := by omega
          have hpI1 : (p : Int) < (x.2.1.length : Int) + 1 := by omega
          have hpI2 : (p : Int) + 1 < (x.2.1.length : Int) + 1 := by omega
          have hpw : IntKind.i64.wrap ((p : Int) + 1) = (p : Int) + 1 := by rw [IntKind.wrap_i64] <;> omega
          have hp1N : ((p : Int) + 1).toNat = p + 1 := by omega
          have hp1p : ¬ (p : Int) + 1 < 0 := by omega
          have eA : bkS x d p = fw x p := by unfold bkS; rw [if_neg (by omega)]
          have eB : bkS x d (p + 1) = bk x d := by unfold bkS; rw [if_pos (by omega)]; congr 1; omega
          have eN : bk x (d + 1) = (fmx (fw x p).1 ((bk x d).1 - mostAt x p), fmn (fw x p).2 ((bk x d).2 - x.1.1)) := by
            have e : x.2.1.length - (d + 1) = p := by omega
            show (fmx (fw x (x.2.1.length - (d + 1))).1 ((bk x d).1 - mostAt x (x.2.1.length - (d + 1))), fmn (fw x (x.2.1.length - (d + 1))).2 ((bk x d).2 - x.1.1)) = _
            rw [e]
          have hV := spL_set (bkS x d) (bkS x (d + 1)) x.2.1.length p (by omega) (fun i hi => by
            have h1 := bkS_fin x d i hlt2 hi
            have h2 := bkS_fin x d p hlt2 (by omega)
            rw [if_pos (by omega)] at h2
            rw [h2, h1]
            by_cases e : i = p
            · rw [if_pos e, if_pos (by omega)]
            · rw [if_neg e, if_neg (by omega)])
          have eP : bkS x (d + 1) p = bk x (d + 1) := by unfold bkS; rw [if_pos (by omega)]; congr 1; omega
          rw [eP] at hV
          have hfr := bk_rng HNAR.out d hd (HF.out d (Nat.le_refl _))
          have hfp := fw_rng HNAR.out p (HFO.out p (by omega))
          have hmr := most_rangeK HKIND.out p
          obtain ⟨hkr1, hkr2, hkr3⟩ := HKIND.out
          obtain ⟨r0, hr0⟩ : ∃ r, fmx (fw x p).1 ((bk x d).1 - mostAt x p) = r := ⟨_, rfl⟩
          obtain ⟨r1, hr1⟩ : ∃ r, fmn (fw x p).2 ((bk x d).2 - x.1.1) = r := ⟨_, rfl⟩
          rw [hr0, hr1] at eN
          rw [eN] at hV
          simp only at hV
          have HEN := hid eN
          have hcA : (valsFlySpan (spL (bkS x d) x.2.1.length))[p * 2]? = _ := valsFlySpan_at0 _ p (by rw [spL_len]; omega)
          have hcB : (valsFlySpan (spL (bkS x d) x.2.1.length))[p * 2 + 1]? = _ := valsFlySpan_at1 _ p (by rw [spL_len]; omega)
          have hcC : (valsFlySpan (spL (bkS x d) x.2.1.length))[(p + 1) * 2]? = _ := valsFlySpan_at0 _ (p + 1) (by rw [spL_len]; omega)
          have hcD : (valsFlySpan (spL (bkS x d) x.2.1.length))[(p + 1) * 2 + 1]? = _ := valsFlySpan_at1 _ (p + 1) (by rw [spL_len]; omega)
          simp only [spL_get, eA, eB] at hcA hcB hcC hcD
          obtain ⟨V1, hV1e⟩ : ∃ V1, valsFlySpan (spL (bkS x (d + 1)) x.2.1.length) = V1 := ⟨_, rfl⟩
          rw [hV1e] at hV
          have HV1 := hid hV1e
          have HV := hid hV
          have HP := hid hp
          clear hV1e hV eN eP eA eB hpI hp
          generalize valsFlySpan (spL (bkS x d) x.2.1.length) = V0 at *
          generalize (fw x p).1 = a0 at *
          generalize (fw x p).2 = a1 at *
          generalize (bk x d).1 = b0 at *
          generalize (bk x d).2 = b1 at *
          have hw1 : IntKind.i64.wrap (b0 - mostAt x p) = b0 - mostAt x p := by rw [IntKind.wrap_i64] <;> omega
          have hw2 : IntKind.i64.wrap (b1 - x.1.1) = b1 - x.1.1 := by rw [IntKind.wrap_i64] <;> omega
          have c0 := HX.cell 0
          have c1 := HX.cell 1
          have c2 := HX.cell 2
          have c3 := HX.cell 3
          have c4 := HX.cell 4
          simp at c0 c1 c2 c3 c4
          have g0 := (hO.cellAt (p * 2) (by omega)).trans hcA
          have g2 := (hO.cellAt ((p + 1) * 2) (by omega)).trans hcC
          have HO_ := hid hO
          have HB_ := hid hB
          have HX_ := hid HX
          clear hO hB HX
          go_wp2_with fail
          have hO := HO_.out.drew
          have hB := HB_.out.drew
          have HX : BoxAt w.heap.size #[.int .i64 x.1.1, .int .i64 x.1.2, .slice ao x.2.1.length cap, .int .i64 x.2.2.1, .int .i64 x.2.2.2] 34 wr.drew := HX_.out
          have HC : CL [(⟨g, p * 2, none⟩, .int .i64 a0), (⟨g, (p + 1) * 2, none⟩, .int .i64 b0), (⟨w.heap.size, 0, none⟩, .int .i64 (x.1.1)), (⟨w.heap.size, 1, none⟩, .int .i64 (x.1.2)), (⟨w.heap.size, 2, none⟩, .slice ao x.2.1.length cap), (⟨w.heap.size, 3, none⟩, .int .i64 (x.2.2.1)), (⟨w.heap.size, 4, none⟩, .int .i64 (x.2.2.2))] wr.drew := ⟨g0, g2, c0, c1, c2, c3, c4, trivial⟩
          have hgl := (hO.lt g rfl).2
          have hxl := HX.lt
          have hlt : CLlt wr.drew.heap.size [(⟨g, p * 2, none⟩, .int .i64 a0), (⟨g, (p + 1) * 2, none⟩, .int .i64 b0), (⟨w.heap.size, 0, none⟩, .int .i64 (x.1.1)), (⟨w.heap.size, 1, none⟩, .int .i64 (x.1.2)), (⟨w.heap.size, 2, none⟩, .slice ao x.2.1.length cap), (⟨w.heap.size, 3, none⟩, .int .i64 (x.2.2.1)), (⟨w.heap.size, 4, none⟩, .int .i64 (x.2.2.2))] := ⟨hgl, hgl, hxl, hxl, hxl, hxl, hxl, trivial⟩
          refine wp_region_RD (CL [(⟨g, p * 2, none⟩, .int .i64 a0), (⟨g, (p + 1) * 2, none⟩, .int .i64 b0), (⟨w.heap.size, 0, none⟩, .int .i64 (x.1.1)), (⟨w.heap.size, 1, none⟩, .int .i64 (x.1.2)), (⟨w.heap.size, 2, none⟩, .slice ao x.2.1.length cap), (⟨w.heap.size, 3, none⟩, .int .i64 (x.2.2.1)), (⟨w.heap.size, 4, none⟩, .int .i64 (x.2.2.2))]) [20] mixedT ?_
          generalize wr.drew = wd at *
          clear c0 c1 c2 c3 c4 g0 g2 HO_ HB_ HX_ hgl hxl
          refine RD.pure (i := 0) (v := .slice (some ⟨g, 0, none⟩) (x.2.1.length + 1) bc) rfl (by kernel_rfl) (by kernel_rfl) (by kernel_rfl) (by decide) (fun _ _ _ h => h) (fun _ => HC) (by kernel_rfl) ?y45 ?r45
          case y45 => (intro W; clear HC hB hO HX h HV HV1 hr1; go_simp)
          refine RD.pure (i := 1) (v := .int .i64 (p : Int)) rfl (by kernel_rfl) (by kernel_rfl) (by kernel_rfl) (by decide) (fun _ _ _ h => h) (fun _ => HC) (by kernel_rfl) ?y46 ?r46
          case y46 => (intro W; clear HC hB hO HX h HV HV1 hr1; go_simp)
          refine RD.pure (i := 2) (v := .slice (some ⟨g, 0, none⟩) (x.2.1.length + 1) bc) rfl (by kernel_rfl) (by kernel_rfl) (by kernel_rfl) (by decide) (fun _ _ _ h => h) (fun _ => HC) (by kernel_rfl) ?y47 ?r47
          case y47 => (intro W; clear HC hB hO HX h HV HV1 hr1; go_simp)
          refine RD.pure (i := 3) (v := .int .i64 (p : Int)) rfl (by kernel_rfl) (by kernel_rfl) (by kernel_rfl) (by decide) (fun _ _ _ h => h) (fun _ => HC) (by kernel_rfl) ?y48 ?r48
          case y48 => (intro W; clear HC hB hO HX h HV HV1 hr1; go_simp)
          refine RD.pure (i := 4) (v := .pointer (some ⟨g, p * 2, none⟩)) rfl (by kernel_rfl) (by kernel_rfl) (by kernel_rfl) (by decide) (fun _ _ _ h => h) (fun _ => HC) (by kernel_rfl) ?y49 ?r49
          case y49 => (intro W; clear HC hB hO HX h HV HV1 hr1; go_simp)
          refine RD.pure (i := 5) (v := .pointer (some ⟨g, p * 2, none⟩)) rfl (by kernel_rfl) (by kernel_rfl) (by kernel_rfl) (by decide) (fun _ _ _ h => h) (fun _ => HC) (by kernel_rfl) ?y50 ?r50
          case y50 => (intro W; clear HC hB hO HX h HV HV1 hr1; go_simp)
          refine RD.take (i := 6) (v := .int .i64 a0) rfl (by kernel_rfl) (by kernel_rfl) (by kernel_rfl) (by kernel_rfl) (fun _ _ _ h => h) HC (by kernel_rfl) ?y51 ?r51
          case y51 => (intro W hW; obtain ⟨u0, u1, u2, u3, u4, u5, u6, _⟩ := hW; clear HC hB hO HX h HV HV1 hr1; go_simp)
          refine RD.pure (i := 7) (v := .slice (some ⟨g, 0, none⟩) (x.2.1.length + 1) bc) rfl (by kernel_rfl) (by kernel_rfl) (by kernel_rfl) (by decide) (fun _ _ _ h => h) (fun _ => HC) (by kernel_rfl) ?y52 ?r52
          case y52 => (intro W; clear HC hB hO HX h HV HV1 hr1; go_simp)
          refine RD.pure (i := 8) (v := .int .i64 (p : Int)) rfl (by kernel_rfl) (by kernel_rfl) (by kernel_rfl) (by decide) (fun _ _ _ h => h) (fun _ => HC) (by kernel_rfl) ?y53 ?r53
          case y53 => (intro W; clear HC hB hO HX h HV HV1 hr1; go_simp)
          refine RD.pure (i := 9) (v := .int .i64 ((p : Int) + 1)) rfl (by kernel_rfl) (by kernel_rfl) (by kernel_rfl) (by decide) (fun _ _ _ h => h) (fun _ => HC) (by kernel_rfl) ?y54 ?r54
          case y54 => (intro W; clear HC hB hO HX h HV HV1 hr1; go_simp)
          refine RD.pure (i := 10) (v := .pointer (some ⟨g, (p + 1) * 2, none⟩)) rfl (by kernel_rfl) (by kernel_rfl) (by kernel_rfl) (by decide) (fun _ _ _ h => h) (fun _ => HC) (by kernel_rfl) ?y55 ?r55
          case y55 => (intro W; clear HC hB hO HX h HV HV1 hr1; go_simp)
          refine RD.pure (i := 11) (v := .pointer (some ⟨g, (p + 1) * 2, none⟩)) rfl (by kernel_rfl) (by kernel_rfl) (by kernel_rfl) (by decide) (fun _ _ _ h => h) (fun _ => HC) (by kernel_rfl) ?y56 ?r56
          case y56 => (intro W; clear HC hB hO HX h HV HV1 hr1; go_simp)
          refine RD.take (i := 12) (v := .int .i64 b0) rfl (by kernel_rfl) (by kernel_rfl) (by kernel_rfl) (by kernel_rfl) (fun _ _ _ h => h) HC (by kernel_rfl) ?y57 ?r57
          case y57 => (intro W hW; obtain ⟨u0, u1, u2, u3, u4, u5, u6, _⟩ := hW; clear HC hB hO HX h HV HV1 hr1; go_simp)
          refine RD.take (i := 13) (v := .agg #[.int .i64 (x.1.1), .int .i64 (x.1.2), .slice ao x.2.1.length cap, .int .i64 (x.2.2.1), .int .i64 (x.2.2.2)]) rfl (by kernel_rfl) (by kernel_rfl) (by kernel_rfl) (by kernel_rfl) (fun _ _ _ h => h) HC (by kernel_rfl) ?y58 ?r58
          case y58 => (intro W hW; obtain ⟨u0, u1, u2, u3, u4, u5, u6, _⟩ := hW; clear HC hB hO HX h HV HV1 hr1; go_simp)
          refine RD.pure (i := 14) (v := .int .i64 (p : Int)) rfl (by kernel_rfl) (by kernel_rfl) (by kernel_rfl) (by decide) (fun _ _ _ h => h) (fun _ => HC) (by kernel_rfl) ?y59 ?r59
          case y59 => (intro W; clear HC hB hO HX h HV HV1 hr1; go_simp)
          refine RD.want (i := 15) (by kernel_rfl) rfl (by kernel_rfl) (fun K hK => ?_)
          go_simp
          refine (sMost x ao cap p _ (h.later hB) hpn).mono ?_
          rintro e wq60 ⟨rfl, hq⟩
          simp only
          have HC1 := HC.later hq hlt
          have hlt1 := hlt.mono hq.size
          have hB1 := hB.trans (hq.mono hB.size)
          have HX1 := HX.next hq
          have hO1 := owns_below hO hq
          refine hK _ _ (fun _ => HC1) ?_
          clear hK K hq HC hlt hB HX hO
          have HC := HC1
          clear HC1
          have hlt := hlt1
          clear hlt1
          have hB := hB1
          clear hB1
          have HX := HX1
          clear HX1
          have hO := hO1
          clear hO1
          refine RD.pure (i := 16) (v := .int .i64 (b0 - (mostAt x p))) rfl (by kernel_rfl) (by kernel_rfl) (by kernel_rfl) (by decide) (fun _ _ _ h => h) (fun _ => HC) (by kernel_rfl) ?y61 ?r61
          case y61 => (intro W; clear HC hB hO HX h HV HV1 hr1; go_simp)
          refine RD.want (i := 17) (by kernel_rfl) rfl (by kernel_rfl) (fun K hK => ?_)
          go_simp
          refine (sMxB a0 (b0 - mostAt x p) r0 _ hr0).mono ?_
          rintro e wq62 ⟨rfl, hq⟩
          simp only
          have HC1 := HC.later hq hlt
          have hlt1 := hlt.mono hq.size
          have hB1 := hB.trans (hq.mono hB.size)
          have HX1 := HX.next hq
          have hO1 := owns_below hO hq
          refine hK _ _ (fun _ => HC1) ?_
          clear hK K hq HC hlt hB HX hO
          have HC := HC1
          clear HC1
          have hlt := hlt1
          clear hlt1
          have hB := hB1
          clear hB1
          have HX := HX1
          clear HX1
          have hO := hO1
          clear hO1
          refine RD.pure (i := 18) (v := .pointer (some ⟨g, p * 2, none⟩)) rfl (by kernel_rfl) (by kernel_rfl) (by kernel_rfl) (by decide) (fun _ _ _ h => h) (fun _ => HC) (by kernel_rfl) ?y63 ?r63
          case y63 => (intro W; clear HC hB hO HX h HV HV1 hr1; go_simp)
          refine RD.pure (i := 19) (v := .pointer (some ⟨g, p * 2, none⟩)) rfl (by kernel_rfl) (by kernel_rfl) (by kernel_rfl) (by decide) (fun _ _ _ h => h) (fun _ => HC) (by kernel_rfl) ?y64 ?r64
          case y64 => (intro W; clear HC hB hO HX h HV HV1 hr1; go_simp)
          refine RD.want (i := 20) (by kernel_rfl) rfl (by kernel_rfl) (fun K hK => ?_)
          have v0 := HC.1
          have f0 := hO.frozenAt (p * 2)
          go_simp
          have hO2 := (hO.stored (p * 2) (.int .i64 r0)).1
          have hB2 := hB.setCell (p := ⟨g, p * 2, none⟩) (show w.heap.size ≤ g by omega) (.int .i64 r0)
          have HX2 := HX.other (show w.heap.size ≠ g by omega) (p * 2) (.int .i64 r0)
          refine hK _ _ (not_clean (by kernel_rfl)) ?_
          clear hK K v0 f0 HC hlt hO hB HX
          have hO := hO2
          have hB := hB2
          have HX := HX2
          clear hO2 hB2 HX2
          generalize World.setCell _ ⟨g, p * 2, none⟩ (.int .i64 r0) = wsa at *
          refine RD.done (by kernel_rfl) ?_
          try go_simp
          have g1 := (hO.cellAt (p * 2 + 1) (by omega)).trans ((List.getElem?_set_ne (show p * 2 ≠ p * 2 + 1 by omega)).trans hcB)
          have g3 := (hO.cellAt ((p + 1) * 2 + 1) (by omega)).trans ((List.getElem?_set_ne (show p * 2 ≠ (p + 1) * 2 + 1 by omega)).trans hcD)
          have c0 := HX.cell 0
          simp at c0
          clear hr0
          go_wp2_with fail
          have hO := hO.drew
          have hB := hB.drew
          have HX : BoxAt w.heap.size #[.int .i64 x.1.1, .int .i64 x.1.2, .slice ao x.2.1.length cap, .int .i64 x.2.2.1, .int .i64 x.2.2.2] 34 wsa.drew := HX
          have HC : CL [(⟨g, p * 2 + 1, none⟩, .int .i64 a1), (⟨g, (p + 1) * 2 + 1, none⟩, .int .i64 b1), (⟨w.heap.size, 0, none⟩, .int .i64 (x.1.1))] wsa.drew := ⟨g1, g3, c0, trivial⟩
          have hgl := (hO.lt g rfl).2
          have hlt : CLlt wsa.drew.heap.size [(⟨g, p * 2 + 1, none⟩, .int .i64 a1), (⟨g, (p + 1) * 2 + 1, none⟩, .int .i64 b1), (⟨w.heap.size, 0, none⟩, .int .i64 (x.1.1))] := ⟨hgl, hgl, HX.lt, trivial⟩
          refine wp_region_RD (CL [(⟨g, p * 2 + 1, none⟩, .int .i64 a1), (⟨g, (p + 1) * 2 + 1, none⟩, .int .i64 b1), (⟨w.heap.size, 0, none⟩, .int .i64 (x.1.1))]) [20] mixedT ?_
          generalize wsa.drew = we at *
          clear c0 g1 g3 hgl
          refine RD.pure (i := 0) (v := .slice (some ⟨g, 0, none⟩) (x.2.1.length + 1) bc) rfl (by kernel_rfl) (by kernel_rfl) (by kernel_rfl) (by decide) (fun _ _ _ h => h) (fun _ => HC) (by kernel_rfl) ?y65 ?r65
          case y65 => (intro W; clear HC hB hO HX h HV HV1; go_simp)
          refine RD.pure (i := 1) (v := .int .i64 (p : Int)) rfl (by kernel_rfl) (by kernel_rfl) (by kernel_rfl) (by decide) (fun _ _ _ h => h) (fun _ => HC) (by kernel_rfl) ?y66 ?r66
          case y66 => (intro W; clear HC hB hO HX h HV HV1; go_simp)
          refine RD.pure (i := 2) (v := .slice (some ⟨g, 0, none⟩) (x.2.1.length + 1) bc) rfl (by kernel_rfl) (by kernel_rfl) (by kernel_rfl) (by decide) (fun _ _ _ h => h) (fun _ => HC) (by kernel_rfl) ?y67 ?r67
          case y67 => (intro W; clear HC hB hO HX h HV HV1; go_simp)
          refine RD.pure (i := 3) (v := .int .i64 (p : Int)) rfl (by kernel_rfl) (by kernel_rfl) (by kernel_rfl) (by decide) (fun _ _ _ h => h) (fun _ => HC) (by kernel_rfl) ?y68 ?r68
          case y68 => (intro W; clear HC hB hO HX h HV HV1; go_simp)
          refine RD.pure (i := 4) (v := .pointer (some ⟨g, p * 2, none⟩)) rfl (by kernel_rfl) (by kernel_rfl) (by kernel_rfl) (by decide) (fun _ _ _ h => h) (fun _ => HC) (by kernel_rfl) ?y69 ?r69
          case y69 => (intro W; clear HC hB hO HX h HV HV1; go_simp)
          refine RD.pure (i := 5) (v := .pointer (some ⟨g, p * 2 + 1, none⟩)) rfl (by kernel_rfl) (by kernel_rfl) (by kernel_rfl) (by decide) (fun _ _ _ h => h) (fun _ => HC) (by kernel_rfl) ?y70 ?r70
          case y70 => (intro W; clear HC hB hO HX h HV HV1; go_simp)
          refine RD.take (i := 6) (v := .int .i64 a1) rfl (by kernel_rfl) (by kernel_rfl) (by kernel_rfl) (by kernel_rfl) (fun _ _ _ h => h) HC (by kernel_rfl) ?y71 ?r71
          case y71 => (intro W hW; obtain ⟨u0, u1, u2, _⟩ := hW; clear HC hB hO HX h HV HV1; go_simp)
          refine RD.pure (i := 7) (v := .slice (some ⟨g, 0, none⟩) (x.2.1.length + 1) bc) rfl (by kernel_rfl) (by kernel_rfl) (by kernel_rfl) (by decide) (fun _ _ _ h => h) (fun _ => HC) (by kernel_rfl) ?y72 ?r72
          case y72 => (intro W; clear HC hB hO HX h HV HV1; go_simp)
          refine RD.pure (i := 8) (v := .int .i64 (p : Int)) rfl (by kernel_rfl) (by kernel_rfl) (by kernel_rfl) (by decide) (fun _ _ _ h => h) (fun _ => HC) (by kernel_rfl) ?y73 ?r73
          case y73 => (intro W; clear HC hB hO HX h HV HV1; go_simp)
          refine RD.pure (i := 9) (v := .int .i64 ((p : Int) + 1)) rfl (by kernel_rfl) (by kernel_rfl) (by kernel_rfl) (by decide) (fun _ _ _ h => h) (fun _ => HC) (by kernel_rfl) ?y74 ?r74
          case y74 => (intro W; clear HC hB hO HX h HV HV1; go_simp)
          refine RD.pure (i := 10) (v := .pointer (some ⟨g, (p + 1) * 2, none⟩)) rfl (by kernel_rfl) (by kernel_rfl) (by kernel_rfl) (by decide) (fun _ _ _ h => h) (fun _ => HC) (by kernel_rfl) ?y75 ?r75
          case y75 => (intro W; clear HC hB hO HX h HV HV1; go_simp)
          refine RD.pure (i := 11) (v := .pointer (some ⟨g, (p + 1) * 2 + 1, none⟩)) rfl (by kernel_rfl) (by kernel_rfl) (by kernel_rfl) (by decide) (fun _ _ _ h => h) (fun _ => HC) (by kernel_rfl) ?y76 ?r76
          case y76 => (intro W; clear HC hB hO HX h HV HV1; go_simp)
          refine RD.take (i := 12) (v := .int .i64 b1) rfl (by kernel_rfl) (by kernel_rfl) (by kernel_rfl) (by kernel_rfl) (fun _ _ _ h => h) HC (by kernel_rfl) ?y77 ?r77
          case y77 => (intro W hW; obtain ⟨u0, u1, u2, _⟩ := hW; clear HC hB hO HX h HV HV1; go_simp)
          refine RD.pure (i := 13) (v := .pointer (some ⟨w.heap.size, 0, none⟩)) rfl (by kernel_rfl) (by kernel_rfl) (by kernel_rfl) (by decide) (fun _ _ _ h => h) (fun _ => HC) (by kernel_rfl) ?y78 ?r78
          case y78 => (intro W; clear HC hB hO HX h HV HV1; go_simp)
          refine RD.pure (i := 14) (v := .pointer (some ⟨w.heap.size, 0, none⟩)) rfl (by kernel_rfl) (by kernel_rfl) (by kernel_rfl) (by decide) (fun _ _ _ h => h) (fun _ => HC) (by kernel_rfl) ?y79 ?r79
          case y79 => (intro W; clear HC hB hO HX h HV HV1; go_simp)
          refine RD.take (i := 15) (v := .int .i64 (x.1.1)) rfl (by kernel_rfl) (by kernel_rfl) (by kernel_rfl) (by kernel_rfl) (fun _ _ _ h => h) HC (by kernel_rfl) ?y80 ?r80
          case y80 => (intro W hW; obtain ⟨u0, u1, u2, _⟩ := hW; clear HC hB hO HX h HV HV1; go_simp)
          refine RD.pure (i := 16) (v := .int .i64 (b1 - (x.1.1))) rfl (by kernel_rfl) (by kernel_rfl) (by kernel_rfl) (by decide) (fun _ _ _ h => h) (fun _ => HC) (by kernel_rfl) ?y81 ?r81
          case y81 => (intro W; clear HC hB hO HX h HV HV1; go_simp)
          refine RD.want (i := 17) (by kernel_rfl) rfl (by kernel_rfl) (fun K hK => ?_)
          go_simp
          refine (sMnB a1 (b1 - x.1.1) r1 _ hr1).mono ?_
          rintro e wq82 ⟨rfl, hq⟩
          simp only
          have HC1 := HC.later hq hlt
          have hlt1 := hlt.mono hq.size
          have hB1 := hB.trans (hq.mono hB.size)
          have HX1 := HX.next hq
          have hO1 := owns_below hO hq
          refine hK _ _ (fun _ => HC1) ?_
          clear hK K hq HC hlt hB HX hO
          have HC := HC1
          clear HC1
          have hlt := hlt1
          clear hlt1
          have hB := hB1
          clear hB1
          have HX := HX1
          clear HX1
          have hO := hO1
          clear hO1
          refine RD.pure (i := 18) (v := .pointer (some ⟨g, p * 2, none⟩)) rfl (by kernel_rfl) (by kernel_rfl) (by kernel_rfl) (by decide) (fun _ _ _ h => h) (fun _ => HC) (by kernel_rfl) ?y83 ?r83
          case y83 => (intro W; clear HC hB hO HX h HV HV1; go_simp)
          refine RD.pure (i := 19) (v := .pointer (some ⟨g, p * 2 + 1, none⟩)) rfl (by kernel_rfl) (by kernel_rfl) (by kernel_rfl) (by decide) (fun _ _ _ h => h) (fun _ => HC) (by kernel_rfl) ?y84 ?r84
          case y84 => (intro W; clear HC hB hO HX h HV HV1; go_simp)
          refine RD.want (i := 20) (by kernel_rfl) rfl (by kernel_rfl) (fun K hK => ?_)
          have v0 := HC.1
          have f0 := hO.frozenAt (p * 2 + 1)
          go_simp
          have hO2 := (hO.stored (p * 2 + 1) (.int .i64 r1)).1
          have hB2 := hB.setCell (p := ⟨g, p * 2 + 1, none⟩) (show w.heap.size ≤ g by omega) (.int .i64 r1)
          have HX2 := HX.other (show w.heap.size ≠ g by omega) (p * 2 + 1) (.int .i64 r1)
          refine hK _ _ (not_clean (by kernel_rfl)) ?_
          clear hK K v0 f0 HC hlt hO hB HX
          have hO := hO2
          have hB := hB2
          have HX := HX2
          clear hO2 hB2 HX2
          generalize World.setCell _ ⟨g, p * 2 + 1, none⟩ (.int .i64 r1) = wsb at *
          refine RD.done (by kernel_rfl) ?_
          try go_simp
          rw [HV.out] at hO
          have g0 := hO.cellAt (p * 2) (by omega)
          have g1 := hO.cellAt (p * 2 + 1) (by omega)
          have eP : bkS x (d + 1) p = bk x (d + 1) := by have := HP.out; unfold bkS; rw [if_pos (by omega)]; congr 1; omega
          have q0 : V1[p * 2]? = some (.int .i64 r0) := by
            rw [← HV1.out, valsFlySpan_at0 _ p (by rw [spL_len]; omega), spL_get, eP, HEN.out]
          have q1 : V1[p * 2 + 1]? = some (.int .i64 r1) := by
            rw [← HV1.out, valsFlySpan_at1 _ p (by rw [spL_len]; omega), spL_get, eP, HEN.out]
          rw [q0] at g0
          rw [q1] at g1
          clear eP q0 q1 hr1
          by_cases he : r1 < r0
          · have hng : decide (r1 < r0) = true := by simpa using he
            have HNO := hid (spG_no (x := x) fun h1 => by have := h1.2 (d + 1) (by omega); rw [HEN.out] at this; simp only at this; omega)
            go_wp2_with fail
            have hB := hB.drew
            have HC : CL [(⟨g, p * 2, none⟩, .int .i64 r0), (⟨g, p * 2 + 1, none⟩, .int .i64 r1)] wsb.drew := ⟨g0, g1, trivial⟩
            have hO := hO.drew
            have HX : BoxAt w.heap.size #[.int .i64 x.1.1, .int .i64 x.1.2, .slice ao x.2.1.length cap, .int .i64 x.2.2.1, .int .i64 x.2.2.2] 34 wsb.drew := HX
            refine wp_region_RD (CL [(⟨g, p * 2, none⟩, .int .i64 r0), (⟨g, p * 2 + 1, none⟩, .int .i64 r1)]) [] mixedT ?_
            generalize wsb.drew = wf at *
            clear g0 g1
            refine RD.pure (i := 0) (v := .slice (some ⟨g, 0, none⟩) (x.2.1.length + 1) bc) rfl (by kernel_rfl) (by kernel_rfl) (by kernel_rfl) (by decide) (fun _ _ _ h => h) (fun _ => HC) (by kernel_rfl) ?y85 ?r85
            case y85 => (intro W; clear HC hB hO HX h HV1; go_simp)
            refine RD.pure (i := 1) (v := .int .i64 (p : Int)) rfl (by kernel_rfl) (by kernel_rfl) (by kernel_rfl) (by decide) (fun _ _ _ h => h) (fun _ => HC) (by kernel_rfl) ?y86 ?r86
            case y86 => (intro W; clear HC hB hO HX h HV1; go_simp)
            refine RD.pure (i := 2) (v := .pointer (some ⟨g, p * 2, none⟩)) rfl (by kernel_rfl) (by kernel_rfl) (by kernel_rfl) (by decide) (fun _ _ _ h => h) (fun _ => HC) (by kernel_rfl) ?y87 ?r87
            case y87 => (intro W; clear HC hB hO HX h HV1; go_simp)
            refine RD.pure (i := 3) (v := .pointer (some ⟨g, p * 2, none⟩)) rfl (by kernel_rfl) (by kernel_rfl) (by kernel_rfl) (by decide) (fun _ _ _ h => h) (fun _ => HC) (by kernel_rfl) ?y88 ?r88
            case y88 => (intro W; clear HC hB hO HX h HV1; go_simp)
            refine RD.take (i := 4) (v := .int .i64 r0) rfl (by kernel_rfl) (by kernel_rfl) (by kernel_rfl) (by kernel_rfl) (fun _ _ _ h => h) HC (by kernel_rfl) ?y89 ?r89
            case y89 => (intro W hW; obtain ⟨u0, u1, _⟩ := hW; clear HC hB hO HX h HV1; go_simp)
            refine RD.pure (i := 5) (v := .slice (some ⟨g, 0, none⟩) (x.2.1.length + 1) bc) rfl (by kernel_rfl) (by kernel_rfl) (by kernel_rfl) (by decide) (fun _ _ _ h => h) (fun _ => HC) (by kernel_rfl) ?y90 ?r90
            case y90 => (intro W; clear HC hB hO HX h HV1; go_simp)
            refine RD.pure (i := 6) (v := .int .i64 (p : Int)) rfl (by kernel_rfl) (by kernel_rfl) (by kernel_rfl) (by decide) (fun _ _ _ h => h) (fun _ => HC) (by kernel_rfl) ?y91 ?r91
            case y91 => (intro W; clear HC hB hO HX h HV1; go_simp)
            refine RD.pure (i := 7) (v := .pointer (some ⟨g, p * 2, none⟩)) rfl (by kernel_rfl) (by kernel_rfl) (by kernel_rfl) (by decide) (fun _ _ _ h => h) (fun _ => HC) (by kernel_rfl) ?y92 ?r92
            case y92 => (intro W; clear HC hB hO HX h HV1; go_simp)
            refine RD.pure (i := 8) (v := .pointer (some ⟨g, p * 2 + 1, none⟩)) rfl (by kernel_rfl) (by kernel_rfl) (by kernel_rfl) (by decide) (fun _ _ _ h => h) (fun _ => HC) (by kernel_rfl) ?y93 ?r93
            case y93 => (intro W; clear HC hB hO HX h HV1; go_simp)
            refine RD.take (i := 9) (v := .int .i64 r1) rfl (by kernel_rfl) (by kernel_rfl) (by kernel_rfl) (by kernel_rfl) (fun _ _ _ h => h) HC (by kernel_rfl) ?y94 ?r94
            case y94 => (intro W hW; obtain ⟨u0, u1, _⟩ := hW; clear HC hB hO HX h HV1; go_simp)
            refine RD.pure (i := 10) (v := .bool true) rfl (by kernel_rfl) (by kernel_rfl) (by kernel_rfl) (by decide) (fun _ _ _ h => h) (fun _ => HC) (by kernel_rfl) ?y95 ?r95
            case y95 => (intro W; clear HC hB hO HX h HV1; go_simp)
            refine RD.done (by kernel_rfl) ?_
            try go_simp
            have HB_ := hid hB
            have hbw := hB.size
            clear HC hO hB HX h hcA hcB hcC hcD hw1 hw2 hfr hfp hmr hpw hp1N hp1p hpI1 hpI2 hng he
            go_wp2
            refine bodyPost_ret (v := .tuple #[.slice (some ⟨wf.heap.size, 0, none⟩) 0 0, .bool false]) (by simp [results, Try.results38, go_sem]) rfl ?_
            rw [HNO.out]
            exact ⟨some ⟨wf.heap.size, 0, none⟩, 0, rfl, emptyS wf 65 w.heap.size hbw, HB_.out.alloc hbw _⟩
          · have hng : decide (r1 < r0) = false := by simpa using he
            have HNE := hid (fun e (h1 : e ≤ d + 1) => (by
              by_cases e1 : e = d + 1
              · subst e1; rw [HEN.out]; simp only; omega
              · exact HF.out e (by omega) : (bk x e).1 ≤ (bk x e).2))
            go_wp2_with fail
            have hB := hB.drew
            have HC : CL [(⟨g, p * 2, none⟩, .int .i64 r0), (⟨g, p * 2 + 1, none⟩, .int .i64 r1)] wsb.drew := ⟨g0, g1, trivial⟩
            have hO := hO.drew
            have HX : BoxAt w.heap.size #[.int .i64 x.1.1, .int .i64 x.1.2, .slice ao x.2.1.length cap, .int .i64 x.2.2.1, .int .i64 x.2.2.2] 34 wsb.drew := HX
            refine wp_region_RD (CL [(⟨g, p * 2, none⟩, .int .i64 r0), (⟨g, p * 2 + 1, none⟩, .int .i64 r1)]) [] mixedT ?_
            generalize wsb.drew = wf at *
            clear g0 g1
            refine RD.pure (i := 0) (v := .slice (some ⟨g, 0, none⟩) (x.2.1.length + 1) bc) rfl (by kernel_rfl) (by kernel_rfl) (by kernel_rfl) (by decide) (fun _ _ _ h => h) (fun _ => HC) (by kernel_rfl) ?y96 ?r96
            case y96 => (intro W; clear HC hB hO HX h HV1; go_simp)
            refine RD.pure (i := 1) (v := .int .i64 (p : Int)) rfl (by kernel_rfl) (by kernel_rfl) (by kernel_rfl) (by decide) (fun _ _ _ h => h) (fun _ => HC) (by kernel_rfl) ?y97 ?r97
            case y97 => (intro W; clear HC hB hO HX h HV1; go_simp)
            refine RD.pure (i := 2) (v := .pointer (some ⟨g, p * 2, none⟩)) rfl (by kernel_rfl) (by kernel_rfl) (by kernel_rfl) (by decide) (fun _ _ _ h => h) (fun _ => HC) (by kernel_rfl) ?y98 ?r98
            case y98 => (intro W; clear HC hB hO HX h HV1; go_simp)
            refine RD.pure (i := 3) (v := .pointer (some ⟨g, p * 2, none⟩)) rfl (by kernel_rfl) (by kernel_rfl) (by kernel_rfl) (by decide) (fun _ _ _ h => h) (fun _ => HC) (by kernel_rfl) ?y99 ?r99
            case y99 => (intro W; clear HC hB hO HX h HV1; go_simp)
            refine RD.take (i := 4) (v := .int .i64 r0) rfl (by kernel_rfl) (by kernel_rfl) (by kernel_rfl) (by kernel_rfl) (fun _ _ _ h => h) HC (by kernel_rfl) ?y100 ?r100
            case y100 => (intro W hW; obtain ⟨u0, u1, _⟩ := hW; clear HC hB hO HX h HV1; go_simp)
            refine RD.pure (i := 5) (v := .slice (some ⟨g, 0, none⟩) (x.2.1.length + 1) bc) rfl (by kernel_rfl) (by kernel_rfl) (by kernel_rfl) (by decide) (fun _ _ _ h => h) (fun _ => HC) (by kernel_rfl) ?y101 ?r101
            case y101 => (intro W; clear HC hB hO HX h HV1; go_simp)
            refine RD.pure (i := 6) (v := .int .i64 (p : Int)) rfl (by kernel_rfl) (by kernel_rfl) (by kernel_rfl) (by decide) (fun _ _ _ h => h) (fun _ => HC) (by kernel_rfl) ?y102 ?r102
            case y102 => (intro W; clear HC hB hO HX h HV1; go_simp)
            refine RD.pure (i := 7) (v := .pointer (some ⟨g, p * 2, none⟩)) rfl (by kernel_rfl) (by kernel_rfl) (by kernel_rfl) (by decide) (fun _ _ _ h => h) (fun _ => HC) (by kernel_rfl) ?y103 ?r103
            case y103 => (intro W; clear HC hB hO HX h HV1; go_simp)
            refine RD.pure (i := 8) (v := .pointer (some ⟨g, p * 2 + 1, none⟩)) rfl (by kernel_rfl) (by kernel_rfl) (by kernel_rfl) (by decide) (fun _ _ _ h => h) (fun _ => HC) (by kernel_rfl) ?y104 ?r104
            case y104 => (intro W; clear HC hB hO HX h HV1; go_simp)
            refine RD.take (i := 9) (v := .int .i64 r1) rfl (by kernel_rfl) (by kernel_rfl) (by kernel_rfl) (by kernel_rfl) (fun _ _ _ h => h) HC (by kernel_rfl) ?y105 ?r105
            case y105 => (intro W hW; obtain ⟨u0, u1, _⟩ := hW; clear HC hB hO HX h HV1; go_simp)
            refine RD.pure (i := 10) (v := .bool false) rfl (by kernel_rfl) (by kernel_rfl) (by kernel_rfl) (by decide) (fun _ _ _ h => h) (fun _ => HC) (by kernel_rfl) ?y106 ?r106
            case y106 => (intro W; clear HC hB hO HX h HV1; go_simp)
            refine RD.done (by kernel_rfl) ?_
            try go_simp
            have HB_ := hid hB
            have HO_ := hid hO
            have HX_ := hid HX
            have hpm : IntKind.i64.wrap ((p : Int) - 1) = (p : Int) - 1 := by rw [IntKind.wrap_i64] <;> omega
            clear HC hO hB HX h
            go_wp2
            go_roundw
            case rel => exact ⟨d + 1, by omega, (by have h1 := HPI.out; rw [show (x.2.1.length : Int) - 1 - ((d + 1 : Nat) : Int) = (p : Int) - 1 by omega]), by rw [HV1.out]; exact HO_.out, HNE, HB_.out, HX_.out⟩
            case measure => simp [intOf] <;> omega
        · have hde : d = x.2.1.length := by omega
          have e1 : (x.2.1.length : Int) - 1 - (d : Int) = -1 := by omega
          rw [e1] at hiv
          subst hiv
          have HYES := hid (spG_yes HFO.out (fun e he => HF.out e (by omega)))
          have HO := hid hO
          have HB := hid hB
          have HDE := hid hde
          clear e1 hO hB HX hde
          go_wp2
          refine bodyPost_ret (v := .tuple #[.slice (some ⟨g, 0, none⟩) (x.2.1.length + 1) bc, .bool true]) (by simp [results, Try.results38, go_sem]) rfl ?_
          rw [HYES.out]
          refine ⟨some ⟨g, 0, none⟩, bc, by rw [spansL_len], ?_, HB.out⟩
          have h1 := own_base HO.out (Nat.le_succ w.heap.size)
          rw [HDE.out, spL_back24] at h1
          rw [spansL_len]
          exact h1

end Fly
end Go.Proofs.Ytpjacfnjjkoikaa
