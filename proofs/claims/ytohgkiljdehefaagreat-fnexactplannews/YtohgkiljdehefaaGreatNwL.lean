/- DERIVED. laws.FnExactPlanNews: its walk (written by wip/tools/mk_law3.py). -/
import Derived.Test.YtohgkiljdehefaaGreatGNd
import Derived.Test.YtohgkiljdehefaaGreatGMc
namespace Go.Proofs.YtohgkiljdehefaaGreat
open Go.RowKit
set_option linter.unusedSimpArgs false
set_option linter.unusedVariables false

theorem wp_cutP {P : Program} {c : Code} {Q : Exit → Act → World → Prop} {a : Act} {w : World} (R : Act → Act → World → Prop) (h : c.wp P (Exit.then (R a) (fun _ _ _ => False)) a w) (h' : ∀ a' w', R a a' w' → Q .normal a' w') : c.wp P Q a w := wp_cut (R a) h h'

/-- The law's two arguments lie in their boxes. -/
structure ArgsAt (w : World) (ca cb : Array Value) (W : World) : Prop where
  bel : Below w.heap.size w W
  pa : BxC w.heap.size ca W
  pb : BxC (w.heap.size + 1) cb W
  sz : w.heap.size + 2 ≤ W.heap.size
theorem ArgsAt.later {w W W' : World} {ca cb : Array Value} (h : ArgsAt w ca cb W) (hb : Below W.heap.size W W') : ArgsAt w ca cb W' :=
  ⟨h.bel.trans (hb.mono (by have := h.sz; omega)), h.pa.below hb (by have := h.sz; omega), h.pb.below hb (by have := h.sz; omega), Nat.le_trans h.sz hb.size⟩
/-- Behind a turn of blocks that lie above. -/
theorem ArgsAt.turned {w W W' : World} {ca cb : Array Value} (h : ArgsAt w ca cb W) {n : Nat} (hb : Below n W W') (hn : w.heap.size + 2 ≤ n) : ArgsAt w ca cb W' :=
  ⟨h.bel.trans (hb.mono (by omega)), h.pa.below hb (by omega), h.pb.below hb (by omega), Nat.le_trans h.sz hb.size⟩
/-- A copy of a book: how it lies, and its box. -/
structure CopyAt (lo hi X : Nat) (x : DPlanBook) (ao0 ao1 ao2 : Option Addr) (cs : Array Value) (W : World) : Prop where
  q0 : SlSh shPlanKind 109 (fun b => lo ≤ b ∧ b < hi) W ao0 x.1.1.length (cnPlanKindS x.1.1)
  q1 : SlSh shPlanPoint 111 (fun b => lo ≤ b ∧ b < hi) W ao1 x.1.2.length (cnPlanPointS x.1.2)
  q2 : SlSh shPlanEntry 50 (fun b => lo ≤ b ∧ b < hi) W ao2 x.2.length (cnPlanEntryS x.2)
  bx : BxC X cs W
  le : lo ≤ hi
  hx : hi ≤ X
  lt : X < W.heap.size
theorem CopyAt.stays {lo hi X : Nat} {x : DPlanBook} {ao0 ao1 ao2 : Option Addr} {cs : Array Value} {W W' : World} (h : CopyAt lo hi X x ao0 ao1 ao2 cs W) (hb : ∀ b, lo ≤ b → b ≤ X → W'.heap[b]? = W.heap[b]?) (hs : W.heap.size ≤ W'.heap.size) : CopyAt lo hi X x ao0 ao1 ao2 cs W' :=
  ⟨h.q0.stays (fun b k => hb b k.1 (by have := h.hx; have := k.2; omega)), h.q1.stays (fun b k => hb b k.1 (by have := h.hx; have := k.2; omega)), h.q2.stays (fun b k => hb b k.1 (by have := h.hx; have := k.2; omega)), fun i => (World.cell?_of_block (w := W) (a := ⟨X, i, none⟩) (hb X (Nat.le_trans h.le h.hx) (Nat.le_refl _))).trans (h.bx i), h.le, h.hx, Nat.lt_of_lt_of_le h.lt hs⟩
theorem CopyAt.later {lo hi X : Nat} {x : DPlanBook} {ao0 ao1 ao2 : Option Addr} {cs : Array Value} {W W' : World} (h : CopyAt lo hi X x ao0 ao1 ao2 cs W) (hb : Below W.heap.size W W') : CopyAt lo hi X x ao0 ao1 ao2 cs W' :=
  h.stays (fun b _ k => hb.block b (by have := h.lt; omega)) hb.size
theorem book_marks {x : DPlanBook} (h : wPlanBook x ≤ 1048576) : cnPlanKindS x.1.1 + cnPlanPointS x.1.2 + cnPlanEntryS x.2 ≤ 50331648 := by
  have h0 := cnPlanKindS_le x.1.1
  have h1 := cnPlanPointS_le x.1.2
  have h2 := cnPlanEntryS_le x.2
  unfold wPlanBook wPlanBase at h
  omega
theorem owns_kept2 {W W' : World} {base : Nat} {e : TypeId} {size k : Nat} {v : Value} {xs : List Value} (h : W.ownsRow base e size v k xs) (hb : ∀ g, base ≤ g → g < W.heap.size → W'.heap[g]? = W.heap[g]?) : W'.ownsRow base e size v k xs := by
  refine ⟨h.1, ?_⟩
  rcases h.2 with h1 | ⟨g, cap, cur, h1, h2, h3, h4⟩
  · exact .inl h1
  · exact .inr ⟨g, cap, cur, h1, h2, (hb g h2 (Array.getElem?_eq_some_iff.1 h3).1).trans h3, h4⟩

set_option maxRecDepth 100000 in
set_option maxHeartbeats 64000000 in
theorem newsLaw_small (a b : DPlanBook) (ao0 : Option Addr) (cap0 : Nat) (ao1 : Option Addr) (cap1 : Nat) (ao2 : Option Addr) (cap2 : Nat) (bo0 : Option Addr) (cbp0 : Nat) (bo1 : Option Addr) (cbp1 : Nat) (bo2 : Option Addr) (cbp2 : Nat) (w : World) (ha : BookAt w a ao0 cap0 ao1 cap1 ao2 cap2) (hb : BookAt w b bo0 cbp0 bo1 cbp1 bo2 cbp2) (hn : wPlanBook a + wPlanBook b ≤ 1048576) :
    Calls Tryz.prog 3 #[.agg #[.slice ao0 a.1.1.length cap0, .slice ao1 a.1.2.length cap1, .slice ao2 a.2.length cap2], .agg #[.slice bo0 b.1.1.length cbp0, .slice bo1 b.1.2.length cbp1, .slice bo2 b.2.length cbp2]] w fun e w' => e = .returned (.bool true) ∧ Below w.heap.size w w' := by
  have hna : wPlanBook a ≤ 1048576 := by omega
  have hnb : wPlanBook b ≤ 1048576 := by omega
  have hsa : wPlanEntryS a.2 ≤ 1048576 := by unfold wPlanBook at hna; omega
  have hsb : wPlanEntryS b.2 ≤ 1048576 := by unfold wPlanBook at hnb; omega
  have hsz : szR 1048576 (wPlanBook a) = 1048576 - (wPlanBook a : Int) := szR_yes (by omega)
  have hsz2 : szR (1048576 - (wPlanBook a : Int)) (wPlanBook b) = 1048576 - (wPlanBook a : Int) - (wPlanBook b : Int) := szR_yes (by omega)
  have hnn : decide ((1048576 - (wPlanBook a : Int)) < 0) = false := by simp; omega
  have hnn2 : decide ((1048576 - (wPlanBook a : Int) - (wPlanBook b : Int)) < 0) = false := by simp; omega
  have HTA := fun W (hh : BookAt W a ao0 cap0 ao1 cap1 ao2 cap2) => toPlanBook_any a ao0 cap0 ao1 cap1 ao2 cap2 W hh.p0 hh.p1 hh.p2 hna
  have HTB := fun W (hh : BookAt W b bo0 cbp0 bo1 cbp1 bo2 cbp2) => toPlanBook_any b bo0 cbp0 bo1 cbp1 bo2 cbp2 W hh.p0 hh.p1 hh.p2 hnb
  have HSA := fun W (hh : BookAt W a ao0 cap0 ao1 cap1 ao2 cap2) => toPlanBook_sh a ao0 cap0 ao1 cap1 ao2 cap2 W hh.p0 hh.p1 hh.p2 hna
  have HSB := fun W (hh : BookAt W b bo0 cbp0 bo1 cbp1 bo2 cbp2) => toPlanBook_sh b bo0 cbp0 bo1 cbp1 bo2 cbp2 W hh.p0 hh.p1 hh.p2 hnb
  have HSW := fun ao0 cap0 ao1 cap1 ao2 cap2 bo0 cbp0 bo1 cbp1 bo2 cbp2 W (hh : BookAt W a ao0 cap0 ao1 cap1 ao2 cap2) (hk : BookAt W b bo0 cbp0 bo1 cbp1 bo2 cbp2) => sNews a b ao0 cap0 ao1 cap1 ao2 cap2 bo0 cbp0 bo1 cbp1 bo2 cbp2 W hh hk hsa hsb
  have HIW := fun ao0 cap0 ao1 cap1 ao2 cap2 bo0 cbp0 bo1 cbp1 bo2 cbp2 W (hh : BookAt W a ao0 cap0 ao1 cap1 ao2 cap2) (hk : BookAt W b bo0 cbp0 bo1 cbp1 bo2 cbp2) => iNews a b ao0 cap0 ao1 cap1 ao2 cap2 bo0 cbp0 bo1 cbp1 bo2 cbp2 W hh hk hsa hsb
  have hR : (newsOf a b).length ≤ 1000000000 := by have := newsOf_len a b; omega
  have hcna := book_marks hna
  have hcnb := book_marks hnb
  obtain ⟨R, hRe⟩ : ∃ R, R = newsOf a b := ⟨_, rfl⟩
  simp only [← hRe] at HSW HIW hR
  clear hRe hsa hsb
  obtain ⟨w0, hw0⟩ : ∃ w0, w0 = (w.alloc (.cells #[.slice ao0 a.1.1.length cap0, .slice ao1 a.1.2.length cap1, .slice ao2 a.2.length cap2] 28)).alloc (.cells #[.slice bo0 b.1.1.length cbp0, .slice bo1 b.1.2.length cbp1, .slice bo2 b.2.length cbp2] 28) := ⟨_, rfl⟩
  have A0 : ArgsAt w #[.slice ao0 a.1.1.length cap0, .slice ao1 a.1.2.length cap1, .slice ao2 a.2.length cap2] #[.slice bo0 b.1.1.length cbp0, .slice bo1 b.1.2.length cbp1, .slice bo2 b.2.length cbp2] w0 := by
    rw [hw0]
    refine ⟨((Below.refl _ _).alloc (Nat.le_refl _) _).alloc (by simp) _, (BxC.new w _ _).below ((Below.refl (w.heap.size + 1) _).alloc (by simp) _) (by omega), ?_, by simp⟩
    have := BxC.new (w.alloc (.cells #[.slice ao0 a.1.1.length cap0, .slice ao1 a.1.2.length cap1, .slice ao2 a.2.length cap2] 28)) #[.slice bo0 b.1.1.length cbp0, .slice bo1 b.1.2.length cbp1, .slice bo2 b.2.length cbp2] 28
    rwa [World.size_alloc] at this
  have hI := ha.later A0.bel
  have HSZ := szPlanBook_any a ao0 cap0 ao1 cap1 ao2 cap2 1048576 w0 (by omega) (by omega) hI.p0 hI.p1 hI.p2
  rw [hw0, hsz] at HSZ
  clear hI
  go_enter Tryz.func3, Tryz.ntmps3
  go_wp2_with fail
  refine HSZ.mono ?_
  rw [← hw0]
  rintro e w1 ⟨rfl, hb1⟩
  clear hw0 HSZ hsz
  have A1 := A0.later hb1
  have hI := hb.later A1.bel
  have HSL := szPlanBook_any b bo0 cbp0 bo1 cbp1 bo2 cbp2 (1048576 - (wPlanBook a : Int)) w1 (by omega) (by omega) hI.p0 hI.p1 hI.p2
  rw [hsz2] at HSL
  have HH := A1.pb
  have hs := A1.sz
  have z0 := HH 0
  have z1 := HH 1
  have z2 := HH 2
  simp at z0 z1 z2
  clear hsz2 hb1 A0 hI HH
  go_wp2_with fail
  refine HSL.mono ?_
  rintro e w2 ⟨rfl, hb2⟩
  have A2 := A1.later hb2
  clear HSL hb2 A1 z0 z1 z2 hs
  generalize (1048576 - (wPlanBook a : Int)) = L1 at *
  generalize (L1 - (wPlanBook b : Int)) = L2 at *
  go_wp2_with fail
  refine wp_cutP (fun a0 a' W' => ∃ ao0p cap0p ao1p cap1p ao2p cap2p bo0p cbp0p bo1p cbp1p bo2p cbp2p wao wcap, a' = ((((((a0.put (some 24) (.agg #[.slice ao0 a.1.1.length cap0, .slice ao1 a.1.2.length cap1, .slice ao2 a.2.length cap2])).put (some 25) (.agg #[.slice ao0p a.1.1.length cap0p, .slice ao1p a.1.2.length cap1p, .slice ao2p a.2.length cap2p])).put (some 26) (.agg #[.slice bo0 b.1.1.length cbp0, .slice bo1 b.1.2.length cbp1, .slice bo2 b.2.length cbp2])).put (some 27) (.agg #[.slice bo0p b.1.1.length cbp0p, .slice bo1p b.1.2.length cbp1p, .slice bo2p b.2.length cbp2p])).put (some 28) (.slice wao R.length wcap)).put (some 6) (.slice wao R.length wcap)) ∧ W'.ownsRow w2.heap.size 55 4 (.slice wao R.length wcap) R.length (valsPlanChange R) ∧ Below w2.heap.size w2 W') ?_ ?_
  · refine wp_region_RC (fun _ => True) mixedF2 ?_
    have Z0 : Below w2.heap.size w2 w2.drew := (Below.refl _ _).drew
    have A0 := A2.later Z0
    clear A2
    generalize w2.drew = Y0 at *
    refine RC.two (i := 0) (k := 2) (by kernel_rfl) rfl rfl (fun K hK => ?_) (fun K hK => ?_) 
    · rw [if_pos (by kernel_rfl)]
      have HH := A0.pa
      have z0 := HH 0
      have z1 := HH 1
      have z2 := HH 2
      simp at z0 z1 z2
      clear HH
      go_simp
      refine hK _ _ trivial ?_
      clear hK K z0 z1 z2
      refine RC.two (i := 1) (k := 2) (by kernel_rfl) rfl rfl (fun K hK => ?_) (fun K hK => ?_) 
      · rw [if_pos (by kernel_rfl)]
        have HT := HTA Y0 (ha.later A0.bel)
        go_simp
        refine HT.mono ?_
        rintro e Y1 ⟨ao0p, cap0p, ao1p, cap1p, ao2p, cap2p, rfl, p0, p1, p2, hb1⟩
        have Ia1 := bookAt_of p0 p1 p2
        have A1 := A0.later hb1
        have Z1 := Z0.trans (hb1.mono Z0.size)
        simp only
        refine hK _ _ trivial ?_
        clear hK K HT hb1 p0 p1 p2
        refine RC.want (i := 2) (by kernel_rfl) rfl (by kernel_rfl) (fun K hK => ?_)
        have HH := A1.pb
        have z0 := HH 0
        have z1 := HH 1
        have z2 := HH 2
        simp at z0 z1 z2
        clear HH
        go_simp
        refine hK _ _ trivial ?_
        clear hK K z0 z1 z2
        refine RC.want (i := 3) (by kernel_rfl) rfl (by kernel_rfl) (fun K hK => ?_)
        have HT := HTB Y1 (hb.later A1.bel)
        go_simp
        refine HT.mono ?_
        rintro e Y2 ⟨bo0p, cbp0p, bo1p, cbp1p, bo2p, cbp2p, rfl, p0, p1, p2, hb2⟩
        have Ib2 := bookAt_of p0 p1 p2
        have Ia2 := Ia1.later hb2
        have A2 := A1.later hb2
        have Z2 := Z1.trans (hb2.mono Z1.size)
        simp only
        refine hK _ _ trivial ?_
        clear hK K HT hb2 p0 p1 p2
        refine RC.want (i := 4) (by kernel_rfl) rfl (by kernel_rfl) (fun K hK => ?_)
        have HT := HSW _ _ _ _ _ _ _ _ _ _ _ _  Y2 Ia2 Ib2
        go_simp
        refine HT.mono ?_
        rintro e Y3 ⟨hb3, v, rfl, hO⟩
        obtain ⟨vao, vcap, rfl⟩ := owned_slice hO
        have hO := owns_low hO Z2.size
        have Z3 := Z2.trans (hb3.mono Z2.size)
        have A3 := A2.later hb3
        simp only
        refine hK _ _ trivial ?_
        clear hK K HT hb3
        refine RC.want (i := 5) (by kernel_rfl) rfl (by kernel_rfl) (fun K hK => ?_)
        go_simp
        refine hK _ _ trivial ?_
        clear hK K
        refine RC.done (by kernel_rfl) ?_
        exact ⟨ao0p, cap0p, ao1p, cap1p, ao2p, cap2p, bo0p, cbp0p, bo1p, cbp1p, bo2p, cbp2p, vao, vcap, rfl, hO, Z3⟩
      · rw [if_pos (by kernel_rfl)]
        have HH := A0.pb
        have z0 := HH 0
        have z1 := HH 1
        have z2 := HH 2
        simp at z0 z1 z2
        clear HH
        go_simp
        refine hK _ _ trivial ?_
        clear hK K z0 z1 z2
        refine RC.want (i := 1) (by kernel_rfl) rfl (by kernel_rfl) (fun K hK => ?_)
        have HT := HTA Y0 (ha.later A0.bel)
        go_simp
        refine HT.mono ?_
        rintro e Y1 ⟨ao0p, cap0p, ao1p, cap1p, ao2p, cap2p, rfl, p0, p1, p2, hb1⟩
        have Ia1 := bookAt_of p0 p1 p2
        have A1 := A0.later hb1
        have Z1 := Z0.trans (hb1.mono Z0.size)
        simp only
        refine hK _ _ trivial ?_
        clear hK K HT hb1 p0 p1 p2
        refine RC.want (i := 3) (by kernel_rfl) rfl (by kernel_rfl) (fun K hK => ?_)
        have HT := HTB Y1 (hb.later A1.bel)
        go_simp
        refine HT.mono ?_
        rintro e Y2 ⟨bo0p, cbp0p, bo1p, cbp1p, bo2p, cbp2p, rfl, p0, p1, p2, hb2⟩
        have Ib2 := bookAt_of p0 p1 p2
        have Ia2 := Ia1.later hb2
        have A2 := A1.later hb2
        have Z2 := Z1.trans (hb2.mono Z1.size)
        simp only
        refine hK _ _ trivial ?_
        clear hK K HT hb2 p0 p1 p2
        refine RC.want (i := 4) (by kernel_rfl) rfl (by kernel_rfl) (fun K hK => ?_)
        have HT := HSW _ _ _ _ _ _ _ _ _ _ _ _  Y2 Ia2 Ib2
        go_simp
        refine HT.mono ?_
        rintro e Y3 ⟨hb3, v, rfl, hO⟩
        obtain ⟨vao, vcap, rfl⟩ := owned_slice hO
        have hO := owns_low hO Z2.size
        have Z3 := Z2.trans (hb3.mono Z2.size)
        have A3 := A2.later hb3
        simp only
        refine hK _ _ trivial ?_
        clear hK K HT hb3
        refine RC.want (i := 5) (by kernel_rfl) rfl (by kernel_rfl) (fun K hK => ?_)
        go_simp
        refine hK _ _ trivial ?_
        clear hK K
        refine RC.done (by kernel_rfl) ?_
        exact ⟨ao0p, cap0p, ao1p, cap1p, ao2p, cap2p, bo0p, cbp0p, bo1p, cbp1p, bo2p, cbp2p, vao, vcap, rfl, hO, Z3⟩
    · rw [if_pos (by kernel_rfl)]
      have HH := A0.pb
      have z0 := HH 0
      have z1 := HH 1
      have z2 := HH 2
      simp at z0 z1 z2
      clear HH
      go_simp
      refine hK _ _ trivial ?_
      clear hK K z0 z1 z2
      refine RC.want (i := 0) (by kernel_rfl) rfl (by kernel_rfl) (fun K hK => ?_)
      have HH := A0.pa
      have z0 := HH 0
      have z1 := HH 1
      have z2 := HH 2
      simp at z0 z1 z2
      clear HH
      go_simp
      refine hK _ _ trivial ?_
      clear hK K z0 z1 z2
      refine RC.want (i := 1) (by kernel_rfl) rfl (by kernel_rfl) (fun K hK => ?_)
      have HT := HTA Y0 (ha.later A0.bel)
      go_simp
      refine HT.mono ?_
      rintro e Y1 ⟨ao0p, cap0p, ao1p, cap1p, ao2p, cap2p, rfl, p0, p1, p2, hb1⟩
      have Ia1 := bookAt_of p0 p1 p2
      have A1 := A0.later hb1
      have Z1 := Z0.trans (hb1.mono Z0.size)
      simp only
      refine hK _ _ trivial ?_
      clear hK K HT hb1 p0 p1 p2
      refine RC.want (i := 3) (by kernel_rfl) rfl (by kernel_rfl) (fun K hK => ?_)
      have HT := HTB Y1 (hb.later A1.bel)
      go_simp
      refine HT.mono ?_
      rintro e Y2 ⟨bo0p, cbp0p, bo1p, cbp1p, bo2p, cbp2p, rfl, p0, p1, p2, hb2⟩
      have Ib2 := bookAt_of p0 p1 p2
      have Ia2 := Ia1.later hb2
      have A2 := A1.later hb2
      have Z2 := Z1.trans (hb2.mono Z1.size)
      simp only
      refine hK _ _ trivial ?_
      clear hK K HT hb2 p0 p1 p2
      refine RC.want (i := 4) (by kernel_rfl) rfl (by kernel_rfl) (fun K hK => ?_)
      have HT := HSW _ _ _ _ _ _ _ _ _ _ _ _  Y2 Ia2 Ib2
      go_simp
      refine HT.mono ?_
      rintro e Y3 ⟨hb3, v, rfl, hO⟩
      obtain ⟨vao, vcap, rfl⟩ := owned_slice hO
      have hO := owns_low hO Z2.size
      have Z3 := Z2.trans (hb3.mono Z2.size)
      have A3 := A2.later hb3
      simp only
      refine hK _ _ trivial ?_
      clear hK K HT hb3
      refine RC.want (i := 5) (by kernel_rfl) rfl (by kernel_rfl) (fun K hK => ?_)
      go_simp
      refine hK _ _ trivial ?_
      clear hK K
      refine RC.done (by kernel_rfl) ?_
      exact ⟨ao0p, cap0p, ao1p, cap1p, ao2p, cap2p, bo0p, cbp0p, bo1p, cbp1p, bo2p, cbp2p, vao, vcap, rfl, hO, Z3⟩
  · rintro a' w5 ⟨ao0p, cap0p, ao1p, cap1p, ao2p, cap2p, bo0p, cbp0p, bo1p, cbp1p, bo2p, cbp2p, wao, wcap, rfl, hWo, hz5⟩
    go_simp
    have A5 := A2.later hz5
    have hs5 := A5.sz
    have hWt := atPlanChange_owns hWo
    have hWin : ∀ g, wao = some ⟨g, 0, none⟩ → g < w5.heap.size := fun g hg => (hWo.lt g (by rw [hg]; rfl)).2
    have HT := HSA w5 (ha.later A5.bel)
    have HH := A5.pa
    have hs := A5.sz
    have z0 := HH 0
    have z1 := HH 1
    have z2 := HH 2
    simp at z0 z1 z2
  
    clear HH A2 hz5 hWo
    go_wp2_with fail
    refine HT.mono ?_
    rintro e w6 ⟨ao0q, cap0q, ao1q, cap1q, ao2q, cap2q, rfl, ⟨p0, s0⟩, ⟨p1, s1⟩, ⟨p2, s2⟩, hb6⟩
    obtain ⟨w7, hw7⟩ : ∃ w7, w7 = w6.alloc (.cells #[.slice ao0q a.1.1.length cap0q, .slice ao1q a.1.2.length cap1q, .slice ao2q a.2.length cap2q] 38) := ⟨_, rfl⟩
    have hb7 : Below w6.heap.size w6 w7 := by rw [hw7]; exact (Below.refl _ _).alloc (Nat.le_refl _) _
    have hX7 : BxC w6.heap.size #[.slice ao0q a.1.1.length cap0q, .slice ao1q a.1.2.length cap1q, .slice ao2q a.2.length cap2q] w7 := by rw [hw7]; exact BxC.new w6 _ _
    have hz7 : w7.heap.size = w6.heap.size + 1 := by rw [hw7]; simp
    have hz6 := hb6.size
    have hb67 := hb6.trans (hb7.mono hb6.size)
    have A7 := A5.later hb67
    have I7 := (bookAt_of p0 p1 p2).later hb7
    have C7 : CopyAt w5.heap.size w6.heap.size w6.heap.size a ao0q ao1q ao2q #[.slice ao0q a.1.1.length cap0q, .slice ao1q a.1.2.length cap1q, .slice ao2q a.2.length cap2q] w7 := ⟨s0.stays (fun b hb => hb7.block b hb.2), s1.stays (fun b hb => hb7.block b hb.2), s2.stays (fun b hb => hb7.block b hb.2), hX7, hz6, Nat.le_refl _, by omega⟩
    have hWt7 := hWt.later hb67
    have HT := HSB w7 (hb.later A7.bel)
    have A6 := A5.later hb6
    have HH := A6.pb
    have hs0 := A6.sz
    have hs : w.heap.size + 1 < w6.heap.size := by omega
    clear hs0
    rw [hw7] at HT
    clear p0 p1 p2 s0 s1 s2 hb6 hb7 hb67 A5 A6 hWt z0 z1 z2 hX7
    have z0 := HH 0
    have z1 := HH 1
    have z2 := HH 2
    simp at z0 z1 z2
  
    clear HH
    go_wp2_with fail
    refine HT.mono ?_
    rw [← hw7]
    rintro e w8 ⟨bo0q, cbp0q, bo1q, cbp1q, bo2q, cbp2q, rfl, ⟨p0, s0⟩, ⟨p1, s1⟩, ⟨p2, s2⟩, hb8⟩
    clear hw7
    obtain ⟨w9, hw9⟩ : ∃ w9, w9 = w8.alloc (.cells #[.slice bo0q b.1.1.length cbp0q, .slice bo1q b.1.2.length cbp1q, .slice bo2q b.2.length cbp2q] 38) := ⟨_, rfl⟩
    have hb9 : Below w8.heap.size w8 w9 := by rw [hw9]; exact (Below.refl _ _).alloc (Nat.le_refl _) _
    have hX9 : BxC w8.heap.size #[.slice bo0q b.1.1.length cbp0q, .slice bo1q b.1.2.length cbp1q, .slice bo2q b.2.length cbp2q] w9 := by rw [hw9]; exact BxC.new w8 _ _
    have hz9 : w9.heap.size = w8.heap.size + 1 := by rw [hw9]; simp
    have hz8 := hb8.size
    have hb89 := hb8.trans (hb9.mono hb8.size)
    have A9 := A7.later hb89
    have I9 := I7.later hb89
    have C9 := C7.later hb89
    have J9 := (bookAt_of p0 p1 p2).later hb9
    have D9 : CopyAt w7.heap.size w8.heap.size w8.heap.size b bo0q bo1q bo2q #[.slice bo0q b.1.1.length cbp0q, .slice bo1q b.1.2.length cbp1q, .slice bo2q b.2.length cbp2q] w9 := ⟨s0.stays (fun b hb => hb9.block b hb.2), s1.stays (fun b hb => hb9.block b hb.2), s2.stays (fun b hb => hb9.block b hb.2), hX9, hz8, Nat.le_refl _, by omega⟩
    have hWt9 := hWt7.later hb89
    have C8 := C7.later hb8
    clear p0 p1 p2 s0 s1 s2 hb8 hb9 hb89 A7 I7 C7 hWt7 z0 z1 z2 hX9
    have HT := HIW ao0q cap0q ao1q cap1q ao2q cap2q bo0q cbp0q bo1q cbp1q bo2q cbp2q w9 I9 J9
    have HH := C8.bx
    have hl7 := C8.lt
    rw [hw9] at HT
    clear C8
    have x0 := HH 0
    have x1 := HH 1
    have x2 := HH 2
    simp at x0 x1 x2
  
    clear HH
    go_wp2_with fail
    refine HT.mono ?_
    rw [← hw9]
    rintro e w10 ⟨hb10, v, rfl, hGo⟩
    obtain ⟨gao, gcap, rfl⟩ := owned_slice hGo
    clear x0 x1 x2 hl7 hw9 hs
    have A10 := A9.later hb10
    have I10 := I9.later hb10
    have J10 := J9.later hb10
    have C10 := C9.later hb10
    have D10 := D9.later hb10
    have hWt10 := hWt9.later hb10
    have hGt := atPlanChange_owns hGo
    clear HT hb10 A9 I9 J9 C9 D9 hWt9
    have HT := eqPlanChangeRS gao wao gcap wcap R w10 (by unfold maxLen; omega) hGt hWt10
    go_wp2_with fail
    refine HT.mono ?_
    rintro e w11 ⟨rfl, hb11⟩
    have A11 := A10.later hb11
    have I11 := I10.later hb11
    have J11 := J10.later hb11
    have C11 := C10.later hb11
    have D11 := D10.later hb11
    have hWt11 := hWt10.later hb11
    have hGo11 := owns_below hGo hb11
    clear HT hb11 A10 I10 J10 C10 D10 hWt10 hGo hGt
    go_wp2_with fail
    refine wp_cutP (fun a0 a' W' => ∃ ao0r cap0r ao1r cap1r ao2r cap2r , a' = (((((a0.put (some 40) (.agg #[.slice ao0q a.1.1.length cap0q, .slice ao1q a.1.2.length cap1q, .slice ao2q a.2.length cap2q])).put (some 41) (.agg #[.slice ao0 a.1.1.length cap0, .slice ao1 a.1.2.length cap1, .slice ao2 a.2.length cap2])).put (some 42) (.agg #[.slice ao0r a.1.1.length cap0r, .slice ao1r a.1.2.length cap1r, .slice ao2r a.2.length cap2r])).put (some 43) (.bool true)).put (some 44) (.bool false)) ∧ Below w11.heap.size w11 W') ?_ ?_
    · refine wp_region_RC (fun _ => True) mixedF2 ?_
      have Z0 : Below w11.heap.size w11 w11.drew := (Below.refl _ _).drew
      have A0 := A11.later Z0
      have I0 := I11.later Z0
      have C0 := C11.later Z0
      clear A11 I11 J11 C11 D11 hWt11 hGo11
      generalize w11.drew = Y0 at *
      refine RC.two (i := 0) (k := 1) (by kernel_rfl) rfl rfl (fun K hK => ?_) (fun K hK => ?_) 
      · rw [if_pos (by kernel_rfl)]
        have HH := C0.bx
        have z0 := HH 0
        have z1 := HH 1
        have z2 := HH 2
        simp at z0 z1 z2
        have hlt := C0.lt
        clear HH
        go_simp
        refine hK _ _ trivial ?_
        clear hK K z0 z1 z2 hlt
        refine RC.want (i := 1) (by kernel_rfl) rfl (by kernel_rfl) (fun K hK => ?_)
        have HH := A0.pa
        have z0 := HH 0
        have z1 := HH 1
        have z2 := HH 2
        simp at z0 z1 z2
        clear HH
        go_simp
        refine hK _ _ trivial ?_
        clear hK K z0 z1 z2
        refine RC.want (i := 2) (by kernel_rfl) rfl (by kernel_rfl) (fun K hK => ?_)
        have HT := HTA Y0 (ha.later A0.bel)
        go_simp
        refine HT.mono ?_
        rintro e Y1 ⟨ao0r, cap0r, ao1r, cap1r, ao2r, cap2r, rfl, p0, p1, p2, hb1⟩
        have IR := bookAt_of p0 p1 p2
        have I1 := I0.later hb1
        have C1 := C0.later hb1
        have A1 := A0.later hb1
        have Z1 := Z0.trans (hb1.mono Z0.size)
        simp only
        refine hK _ _ trivial ?_
        clear hK K HT hb1 p0 p1 p2
        refine RC.want (i := 3) (by kernel_rfl) rfl (by kernel_rfl) (fun K hK => ?_)
        have HT := eqPlanBook_any a ao0q cap0q ao1q cap1q ao2q cap2q ao0r cap0r ao1r cap1r ao2r cap2r Y1 I1.p0 IR.p0 I1.p1 IR.p1 I1.p2 IR.p2 hna
        go_simp
        refine HT.mono ?_
        rintro e Y2 ⟨rfl, hb2⟩
        have Z2 := Z1.trans (hb2.mono Z1.size)
        simp only
        refine hK _ _ trivial ?_
        clear hK K HT hb2
        refine RC.want (i := 4) (by kernel_rfl) rfl (by kernel_rfl) (fun K hK => ?_)
        go_simp
        refine hK _ _ trivial ?_
        clear hK K
        refine RC.done (by kernel_rfl) ?_
        exact ⟨ao0r, cap0r, ao1r, cap1r, ao2r, cap2r, rfl, Z2⟩
      · rw [if_pos (by kernel_rfl)]
        have HH := A0.pa
        have z0 := HH 0
        have z1 := HH 1
        have z2 := HH 2
        simp at z0 z1 z2
        clear HH
        go_simp
        refine hK _ _ trivial ?_
        clear hK K z0 z1 z2
        refine RC.two (i := 0) (k := 2) (by kernel_rfl) rfl rfl (fun K hK => ?_) (fun K hK => ?_) 
        · rw [if_pos (by kernel_rfl)]
          have HH := C0.bx
          have z0 := HH 0
          have z1 := HH 1
          have z2 := HH 2
          simp at z0 z1 z2
          have hlt := C0.lt
          clear HH
          go_simp
          refine hK _ _ trivial ?_
          clear hK K z0 z1 z2 hlt
          refine RC.want (i := 2) (by kernel_rfl) rfl (by kernel_rfl) (fun K hK => ?_)
          have HT := HTA Y0 (ha.later A0.bel)
          go_simp
          refine HT.mono ?_
          rintro e Y1 ⟨ao0r, cap0r, ao1r, cap1r, ao2r, cap2r, rfl, p0, p1, p2, hb1⟩
          have IR := bookAt_of p0 p1 p2
          have I1 := I0.later hb1
          have C1 := C0.later hb1
          have A1 := A0.later hb1
          have Z1 := Z0.trans (hb1.mono Z0.size)
          simp only
          refine hK _ _ trivial ?_
          clear hK K HT hb1 p0 p1 p2
          refine RC.want (i := 3) (by kernel_rfl) rfl (by kernel_rfl) (fun K hK => ?_)
          have HT := eqPlanBook_any a ao0q cap0q ao1q cap1q ao2q cap2q ao0r cap0r ao1r cap1r ao2r cap2r Y1 I1.p0 IR.p0 I1.p1 IR.p1 I1.p2 IR.p2 hna
          go_simp
          refine HT.mono ?_
          rintro e Y2 ⟨rfl, hb2⟩
          have Z2 := Z1.trans (hb2.mono Z1.size)
          simp only
          refine hK _ _ trivial ?_
          clear hK K HT hb2
          refine RC.want (i := 4) (by kernel_rfl) rfl (by kernel_rfl) (fun K hK => ?_)
          go_simp
          refine hK _ _ trivial ?_
          clear hK K
          refine RC.done (by kernel_rfl) ?_
          exact ⟨ao0r, cap0r, ao1r, cap1r, ao2r, cap2r, rfl, Z2⟩
        · rw [if_pos (by kernel_rfl)]
          have HT := HTA Y0 (ha.later A0.bel)
          go_simp
          refine HT.mono ?_
          rintro e Y1 ⟨ao0r, cap0r, ao1r, cap1r, ao2r, cap2r, rfl, p0, p1, p2, hb1⟩
          have IR := bookAt_of p0 p1 p2
          have I1 := I0.later hb1
          have C1 := C0.later hb1
          have A1 := A0.later hb1
          have Z1 := Z0.trans (hb1.mono Z0.size)
          simp only
          refine hK _ _ trivial ?_
          clear hK K HT hb1 p0 p1 p2
          refine RC.want (i := 0) (by kernel_rfl) rfl (by kernel_rfl) (fun K hK => ?_)
          have HH := C1.bx
          have z0 := HH 0
          have z1 := HH 1
          have z2 := HH 2
          simp at z0 z1 z2
          have hlt := C1.lt
          clear HH
          go_simp
          refine hK _ _ trivial ?_
          clear hK K z0 z1 z2 hlt
          refine RC.want (i := 3) (by kernel_rfl) rfl (by kernel_rfl) (fun K hK => ?_)
          have HT := eqPlanBook_any a ao0q cap0q ao1q cap1q ao2q cap2q ao0r cap0r ao1r cap1r ao2r cap2r Y1 I1.p0 IR.p0 I1.p1 IR.p1 I1.p2 IR.p2 hna
          go_simp
          refine HT.mono ?_
          rintro e Y2 ⟨rfl, hb2⟩
          have Z2 := Z1.trans (hb2.mono Z1.size)
          simp only
          refine hK _ _ trivial ?_
          clear hK K HT hb2
          refine RC.want (i := 4) (by kernel_rfl) rfl (by kernel_rfl) (fun K hK => ?_)
          go_simp
          refine hK _ _ trivial ?_
          clear hK K
          refine RC.done (by kernel_rfl) ?_
          exact ⟨ao0r, cap0r, ao1r, cap1r, ao2r, cap2r, rfl, Z2⟩
    rintro a' w12 ⟨ao0r, cap0r, ao1r, cap1r, ao2r, cap2r, rfl, hb12⟩
    go_simp
    have A12 := A11.later hb12
    have J12 := J11.later hb12
    have C12 := C11.later hb12
    have D12 := D11.later hb12
    have hWt12 := hWt11.later hb12
    have hGo12 := owns_below hGo11 hb12
    clear hb12 A11 I11 J11 C11 D11 hWt11 hGo11
    go_wp2_with fail
    refine wp_cutP (fun a0 a' W' => ∃ bo0r cbp0r bo1r cbp1r bo2r cbp2r , a' = (((((a0.put (some 45) (.agg #[.slice bo0q b.1.1.length cbp0q, .slice bo1q b.1.2.length cbp1q, .slice bo2q b.2.length cbp2q])).put (some 46) (.agg #[.slice bo0 b.1.1.length cbp0, .slice bo1 b.1.2.length cbp1, .slice bo2 b.2.length cbp2])).put (some 47) (.agg #[.slice bo0r b.1.1.length cbp0r, .slice bo1r b.1.2.length cbp1r, .slice bo2r b.2.length cbp2r])).put (some 48) (.bool true)).put (some 49) (.bool false)) ∧ Below w12.heap.size w12 W') ?_ ?_
    · refine wp_region_RC (fun _ => True) mixedF2 ?_
      have Z0 : Below w12.heap.size w12 w12.drew := (Below.refl _ _).drew
      have A0 := A12.later Z0
      have I0 := J12.later Z0
      have C0 := D12.later Z0
      clear A12 J12 C12 D12 hWt12 hGo12
      generalize w12.drew = Y0 at *
      refine RC.two (i := 0) (k := 1) (by kernel_rfl) rfl rfl (fun K hK => ?_) (fun K hK => ?_) 
      · rw [if_pos (by kernel_rfl)]
        have HH := C0.bx
        have z0 := HH 0
        have z1 := HH 1
        have z2 := HH 2
        simp at z0 z1 z2
        have hlt := C0.lt
        clear HH
        go_simp
        refine hK _ _ trivial ?_
        clear hK K z0 z1 z2 hlt
        refine RC.want (i := 1) (by kernel_rfl) rfl (by kernel_rfl) (fun K hK => ?_)
        have HH := A0.pb
        have z0 := HH 0
        have z1 := HH 1
        have z2 := HH 2
        simp at z0 z1 z2
        clear HH
        go_simp
        refine hK _ _ trivial ?_
        clear hK K z0 z1 z2
        refine RC.want (i := 2) (by kernel_rfl) rfl (by kernel_rfl) (fun K hK => ?_)
        have HT := HTB Y0 (hb.later A0.bel)
        go_simp
        refine HT.mono ?_
        rintro e Y1 ⟨bo0r, cbp0r, bo1r, cbp1r, bo2r, cbp2r, rfl, p0, p1, p2, hb1⟩
        have IR := bookAt_of p0 p1 p2
        have I1 := I0.later hb1
        have C1 := C0.later hb1
        have A1 := A0.later hb1
        have Z1 := Z0.trans (hb1.mono Z0.size)
        simp only
        refine hK _ _ trivial ?_
        clear hK K HT hb1 p0 p1 p2
        refine RC.want (i := 3) (by kernel_rfl) rfl (by kernel_rfl) (fun K hK => ?_)
        have HT := eqPlanBook_any b bo0q cbp0q bo1q cbp1q bo2q cbp2q bo0r cbp0r bo1r cbp1r bo2r cbp2r Y1 I1.p0 IR.p0 I1.p1 IR.p1 I1.p2 IR.p2 hnb
        go_simp
        refine HT.mono ?_
        rintro e Y2 ⟨rfl, hb2⟩
        have Z2 := Z1.trans (hb2.mono Z1.size)
        simp only
        refine hK _ _ trivial ?_
        clear hK K HT hb2
        refine RC.want (i := 4) (by kernel_rfl) rfl (by kernel_rfl) (fun K hK => ?_)
        go_simp
        refine hK _ _ trivial ?_
        clear hK K
        refine RC.done (by kernel_rfl) ?_
        exact ⟨bo0r, cbp0r, bo1r, cbp1r, bo2r, cbp2r, rfl, Z2⟩
      · rw [if_pos (by kernel_rfl)]
        have HH := A0.pb
        have z0 := HH 0
        have z1 := HH 1
        have z2 := HH 2
        simp at z0 z1 z2
        clear HH
        go_simp
        refine hK _ _ trivial ?_
        clear hK K z0 z1 z2
        refine RC.two (i := 0) (k := 2) (by kernel_rfl) rfl rfl (fun K hK => ?_) (fun K hK => ?_) 
        · rw [if_pos (by kernel_rfl)]
          have HH := C0.bx
          have z0 := HH 0
          have z1 := HH 1
          have z2 := HH 2
          simp at z0 z1 z2
          have hlt := C0.lt
          clear HH
          go_simp
          refine hK _ _ trivial ?_
          clear hK K z0 z1 z2 hlt
          refine RC.want (i := 2) (by kernel_rfl) rfl (by kernel_rfl) (fun K hK => ?_)
          have HT := HTB Y0 (hb.later A0.bel)
          go_simp
          refine HT.mono ?_
          rintro e Y1 ⟨bo0r, cbp0r, bo1r, cbp1r, bo2r, cbp2r, rfl, p0, p1, p2, hb1⟩
          have IR := bookAt_of p0 p1 p2
          have I1 := I0.later hb1
          have C1 := C0.later hb1
          have A1 := A0.later hb1
          have Z1 := Z0.trans (hb1.mono Z0.size)
          simp only
          refine hK _ _ trivial ?_
          clear hK K HT hb1 p0 p1 p2
          refine RC.want (i := 3) (by kernel_rfl) rfl (by kernel_rfl) (fun K hK => ?_)
          have HT := eqPlanBook_any b bo0q cbp0q bo1q cbp1q bo2q cbp2q bo0r cbp0r bo1r cbp1r bo2r cbp2r Y1 I1.p0 IR.p0 I1.p1 IR.p1 I1.p2 IR.p2 hnb
          go_simp
          refine HT.mono ?_
          rintro e Y2 ⟨rfl, hb2⟩
          have Z2 := Z1.trans (hb2.mono Z1.size)
          simp only
          refine hK _ _ trivial ?_
          clear hK K HT hb2
          refine RC.want (i := 4) (by kernel_rfl) rfl (by kernel_rfl) (fun K hK => ?_)
          go_simp
          refine hK _ _ trivial ?_
          clear hK K
          refine RC.done (by kernel_rfl) ?_
          exact ⟨bo0r, cbp0r, bo1r, cbp1r, bo2r, cbp2r, rfl, Z2⟩
        · rw [if_pos (by kernel_rfl)]
          have HT := HTB Y0 (hb.later A0.bel)
          go_simp
          refine HT.mono ?_
          rintro e Y1 ⟨bo0r, cbp0r, bo1r, cbp1r, bo2r, cbp2r, rfl, p0, p1, p2, hb1⟩
          have IR := bookAt_of p0 p1 p2
          have I1 := I0.later hb1
          have C1 := C0.later hb1
          have A1 := A0.later hb1
          have Z1 := Z0.trans (hb1.mono Z0.size)
          simp only
          refine hK _ _ trivial ?_
          clear hK K HT hb1 p0 p1 p2
          refine RC.want (i := 0) (by kernel_rfl) rfl (by kernel_rfl) (fun K hK => ?_)
          have HH := C1.bx
          have z0 := HH 0
          have z1 := HH 1
          have z2 := HH 2
          simp at z0 z1 z2
          have hlt := C1.lt
          clear HH
          go_simp
          refine hK _ _ trivial ?_
          clear hK K z0 z1 z2 hlt
          refine RC.want (i := 3) (by kernel_rfl) rfl (by kernel_rfl) (fun K hK => ?_)
          have HT := eqPlanBook_any b bo0q cbp0q bo1q cbp1q bo2q cbp2q bo0r cbp0r bo1r cbp1r bo2r cbp2r Y1 I1.p0 IR.p0 I1.p1 IR.p1 I1.p2 IR.p2 hnb
          go_simp
          refine HT.mono ?_
          rintro e Y2 ⟨rfl, hb2⟩
          have Z2 := Z1.trans (hb2.mono Z1.size)
          simp only
          refine hK _ _ trivial ?_
          clear hK K HT hb2
          refine RC.want (i := 4) (by kernel_rfl) rfl (by kernel_rfl) (fun K hK => ?_)
          go_simp
          refine hK _ _ trivial ?_
          clear hK K
          refine RC.done (by kernel_rfl) ?_
          exact ⟨bo0r, cbp0r, bo1r, cbp1r, bo2r, cbp2r, rfl, Z2⟩
    rintro a' w13 ⟨bo0r, cbp0r, bo1r, cbp1r, bo2r, cbp2r, rfl, hb13⟩
    go_simp
    have A13 := A12.later hb13
    have C13 := C12.later hb13
    have D13 := D12.later hb13
    have hWt13 := hWt12.later hb13
    have hGo13 := owns_below hGo12 hb13
    clear hb13 A12 J12 C12 D12 hWt12 hGo12
    have HM := markPlanBook_any ao0q a.1.1.length cap0q (cnPlanKindS a.1.1) ao1q a.1.2.length cap1q (cnPlanPointS a.1.2) ao2q a.2.length cap2q (cnPlanEntryS a.2) 1 w5.heap.size w6.heap.size w13 C13.q0 C13.q1 C13.q2 hz6 (by have := C13.lt; omega) (by omega) (by omega)
    have HH := C13.bx
    have hlt := C13.lt
    have z0 := HH 0
    have z1 := HH 1
    have z2 := HH 2
    simp at z0 z1 z2
  
    clear HH
    go_wp2_with fail
    refine HM.mono ?_
    rintro e w14 ⟨rfl, hS⟩
    have hBS := hS.below
    have A14 := A13.turned hBS hs5
    have hz14 := hBS.size
    have hz13 : w9.heap.size ≤ w13.heap.size := by have := D13.lt; omega
    have D14 := D13.stays (W' := w14) (fun b h1 h2 => hS.above b (by omega) (by have := D13.lt; omega)) hBS.size
    have hGo14 := owns_kept2 (W' := w14) hGo13 (fun g h1 h2 => hS.above g (by omega) h2)
    have hWt14 : AtPlanChange w14 wao R := hWt13.kept (fun g h1 _ => hBS.block g (hWin g h1)) hBS.size
    clear HM hS hBS z0 z1 z2 hlt C13 D13 A13 hGo13 hWt13
    generalize hKe : (1 + ((cnPlanKindS a.1.1 + cnPlanPointS a.1.2 + cnPlanEntryS a.2 : Nat) : Int)) = kk at *
    have hk0 : 0 ≤ kk := by omega
    have hk1 : kk ≤ 1099511627776 - 50331648 := by omega
    clear hKe
    have HM := markPlanBook_any bo0q b.1.1.length cbp0q (cnPlanKindS b.1.1) bo1q b.1.2.length cbp1q (cnPlanPointS b.1.2) bo2q b.2.length cbp2q (cnPlanEntryS b.2) kk w7.heap.size w8.heap.size w14 D14.q0 D14.q1 D14.q2 hz8 (by have := D14.lt; omega) hk0 (by omega)
    have HH := D14.bx
    have hlt := D14.lt
    have z0 := HH 0
    have z1 := HH 1
    have z2 := HH 2
    simp at z0 z1 z2
  
    clear HH
    go_wp2_with fail
    refine HM.mono ?_
    rintro e w15 ⟨rfl, hS⟩
    have hBS := hS.below
    have A15 := A14.turned hBS (by omega)
    have hz15 := hBS.size
    have hGo15 := owns_kept2 (W' := w15) hGo14 (fun g h1 h2 => hS.above g (by omega) h2)
    have hWt15 : AtPlanChange w15 wao R := hWt14.kept (fun g h1 _ => hBS.block g (by have := hWin g h1; omega)) hBS.size
    have hGt15 := atPlanChange_owns hGo15
    clear HM hS hBS z0 z1 z2 hlt D14 A14 hGo14 hWt14
    have hkd : decide (kk + ((cnPlanKindS b.1.1 + cnPlanPointS b.1.2 + cnPlanEntryS b.2 : Nat) : Int) < 0) = false := by simp; omega
    generalize kk + ((cnPlanKindS b.1.1 + cnPlanPointS b.1.2 + cnPlanEntryS b.2 : Nat) : Int) = kk2 at *
    have HT := eqPlanChangeRS gao wao gcap wcap R w15 (by unfold maxLen; omega) hGt15 hWt15
    go_wp2_with fail
    refine HT.mono ?_
    rintro e w16 ⟨rfl, hb16⟩
    have A16 := A15.later hb16
    have hz16 := hb16.size
    have hGo16 := owns_below hGo15 hb16
    have hWt16 := hWt15.later hb16
    clear HT hb16 A15 hGo15 hWt15 hGt15
    have HM := markPlanChangeR gao gcap w9.heap.size 1 R w16 (by omega) (by omega) (by omega) hGo16
    go_wp2_with fail
    refine HM.mono ?_
    rintro e w17 ⟨rfl, hb17, hGm⟩
    have A17 := A16.turned hb17 (by omega)
    have hz17 := hb17.size
    have hWt17 : AtPlanChange w17 wao R := hWt16.kept (fun g h1 _ => hb17.block g (by have := hWin g h1; omega)) hb17.size
    clear HM hb17 A16 hGo16 hWt16
    have HD := heldPlanChangeR gao gcap 1 R.length w17 (by omega) (by omega) hGm
    generalize hLL : ((1 + 4 * R.length : Nat) : Int) = LL at *
    have hll : ¬ (LL < 0) := by omega
    have hld : decide (LL < 0) = false := by simp; omega
    go_wp2_with fail
    refine HD.mono ?_
    rintro e w18 ⟨rfl, hb18⟩
    have A18 := A17.later hb18
    have hWt18 := hWt17.later hb18
    have hGm18 := hGm.later hb18
    clear HD hb18 A17 hWt17 hGm
    go_wp2_with fail
    refine wp_cutP (fun a0 a' W' => ∃ ao0p cap0p ao1p cap1p ao2p cap2p bo0p cbp0p bo1p cbp1p bo2p cbp2p hao hcap, a' = ((((((a0.put (some 75) (.agg #[.slice ao0 a.1.1.length cap0, .slice ao1 a.1.2.length cap1, .slice ao2 a.2.length cap2])).put (some 76) (.agg #[.slice ao0p a.1.1.length cap0p, .slice ao1p a.1.2.length cap1p, .slice ao2p a.2.length cap2p])).put (some 77) (.agg #[.slice bo0 b.1.1.length cbp0, .slice bo1 b.1.2.length cbp1, .slice bo2 b.2.length cbp2])).put (some 78) (.agg #[.slice bo0p b.1.1.length cbp0p, .slice bo1p b.1.2.length cbp1p, .slice bo2p b.2.length cbp2p])).put (some 79) (.slice hao R.length hcap)).put (some 13) (.slice hao R.length hcap)) ∧ W'.ownsRow w18.heap.size 55 4 (.slice hao R.length hcap) R.length (valsPlanChange R) ∧ Below w18.heap.size w18 W') ?_ ?_
    · refine wp_region_RC (fun _ => True) mixedF2 ?_
      have Z0 : Below w18.heap.size w18 w18.drew := (Below.refl _ _).drew
      have A0 := A18.later Z0
      clear A18 hWt18 hGm18
      generalize w18.drew = Y0 at *
      refine RC.two (i := 0) (k := 2) (by kernel_rfl) rfl rfl (fun K hK => ?_) (fun K hK => ?_) 
      · rw [if_pos (by kernel_rfl)]
        have HH := A0.pa
        have z0 := HH 0
        have z1 := HH 1
        have z2 := HH 2
        simp at z0 z1 z2
        clear HH
        go_simp
        refine hK _ _ trivial ?_
        clear hK K z0 z1 z2
        refine RC.two (i := 1) (k := 2) (by kernel_rfl) rfl rfl (fun K hK => ?_) (fun K hK => ?_) 
        · rw [if_pos (by kernel_rfl)]
          have HT := HTA Y0 (ha.later A0.bel)
          go_simp
          refine HT.mono ?_
          rintro e Y1 ⟨ao0p, cap0p, ao1p, cap1p, ao2p, cap2p, rfl, p0, p1, p2, hb1⟩
          have Ia1 := bookAt_of p0 p1 p2
          have A1 := A0.later hb1
          have Z1 := Z0.trans (hb1.mono Z0.size)
          simp only
          refine hK _ _ trivial ?_
          clear hK K HT hb1 p0 p1 p2
          refine RC.want (i := 2) (by kernel_rfl) rfl (by kernel_rfl) (fun K hK => ?_)
          have HH := A1.pb
          have z0 := HH 0
          have z1 := HH 1
          have z2 := HH 2
          simp at z0 z1 z2
          clear HH
          go_simp
          refine hK _ _ trivial ?_
          clear hK K z0 z1 z2
          refine RC.want (i := 3) (by kernel_rfl) rfl (by kernel_rfl) (fun K hK => ?_)
          have HT := HTB Y1 (hb.later A1.bel)
          go_simp
          refine HT.mono ?_
          rintro e Y2 ⟨bo0p, cbp0p, bo1p, cbp1p, bo2p, cbp2p, rfl, p0, p1, p2, hb2⟩
          have Ib2 := bookAt_of p0 p1 p2
          have Ia2 := Ia1.later hb2
          have A2 := A1.later hb2
          have Z2 := Z1.trans (hb2.mono Z1.size)
          simp only
          refine hK _ _ trivial ?_
          clear hK K HT hb2 p0 p1 p2
          refine RC.want (i := 4) (by kernel_rfl) rfl (by kernel_rfl) (fun K hK => ?_)
          have HT := HIW _ _ _ _ _ _ _ _ _ _ _ _  Y2 Ia2 Ib2
          go_simp
          refine HT.mono ?_
          rintro e Y3 ⟨hb3, v, rfl, hO⟩
          obtain ⟨vao, vcap, rfl⟩ := owned_slice hO
          have hO := owns_low hO Z2.size
          have Z3 := Z2.trans (hb3.mono Z2.size)
          have A3 := A2.later hb3
          simp only
          refine hK _ _ trivial ?_
          clear hK K HT hb3
          refine RC.want (i := 5) (by kernel_rfl) rfl (by kernel_rfl) (fun K hK => ?_)
          go_simp
          refine hK _ _ trivial ?_
          clear hK K
          refine RC.done (by kernel_rfl) ?_
          exact ⟨ao0p, cap0p, ao1p, cap1p, ao2p, cap2p, bo0p, cbp0p, bo1p, cbp1p, bo2p, cbp2p, vao, vcap, rfl, hO, Z3⟩
        · rw [if_pos (by kernel_rfl)]
          have HH := A0.pb
          have z0 := HH 0
          have z1 := HH 1
          have z2 := HH 2
          simp at z0 z1 z2
          clear HH
          go_simp
          refine hK _ _ trivial ?_
          clear hK K z0 z1 z2
          refine RC.want (i := 1) (by kernel_rfl) rfl (by kernel_rfl) (fun K hK => ?_)
          have HT := HTA Y0 (ha.later A0.bel)
          go_simp
          refine HT.mono ?_
          rintro e Y1 ⟨ao0p, cap0p, ao1p, cap1p, ao2p, cap2p, rfl, p0, p1, p2, hb1⟩
          have Ia1 := bookAt_of p0 p1 p2
          have A1 := A0.later hb1
          have Z1 := Z0.trans (hb1.mono Z0.size)
          simp only
          refine hK _ _ trivial ?_
          clear hK K HT hb1 p0 p1 p2
          refine RC.want (i := 3) (by kernel_rfl) rfl (by kernel_rfl) (fun K hK => ?_)
          have HT := HTB Y1 (hb.later A1.bel)
          go_simp
          refine HT.mono ?_
          rintro e Y2 ⟨bo0p, cbp0p, bo1p, cbp1p, bo2p, cbp2p, rfl, p0, p1, p2, hb2⟩
          have Ib2 := bookAt_of p0 p1 p2
          have Ia2 := Ia1.later hb2
          have A2 := A1.later hb2
          have Z2 := Z1.trans (hb2.mono Z1.size)
          simp only
          refine hK _ _ trivial ?_
          clear hK K HT hb2 p0 p1 p2
          refine RC.want (i := 4) (by kernel_rfl) rfl (by kernel_rfl) (fun K hK => ?_)
          have HT := HIW _ _ _ _ _ _ _ _ _ _ _ _  Y2 Ia2 Ib2
          go_simp
          refine HT.mono ?_
          rintro e Y3 ⟨hb3, v, rfl, hO⟩
          obtain ⟨vao, vcap, rfl⟩ := owned_slice hO
          have hO := owns_low hO Z2.size
          have Z3 := Z2.trans (hb3.mono Z2.size)
          have A3 := A2.later hb3
          simp only
          refine hK _ _ trivial ?_
          clear hK K HT hb3
          refine RC.want (i := 5) (by kernel_rfl) rfl (by kernel_rfl) (fun K hK => ?_)
          go_simp
          refine hK _ _ trivial ?_
          clear hK K
          refine RC.done (by kernel_rfl) ?_
          exact ⟨ao0p, cap0p, ao1p, cap1p, ao2p, cap2p, bo0p, cbp0p, bo1p, cbp1p, bo2p, cbp2p, vao, vcap, rfl, hO, Z3⟩
      · rw [if_pos (by kernel_rfl)]
        have HH := A0.pb
        have z0 := HH 0
        have z1 := HH 1
        have z2 := HH 2
        simp at z0 z1 z2
        clear HH
        go_simp
        refine hK _ _ trivial ?_
        clear hK K z0 z1 z2
        refine RC.want (i := 0) (by kernel_rfl) rfl (by kernel_rfl) (fun K hK => ?_)
        have HH := A0.pa
        have z0 := HH 0
        have z1 := HH 1
        have z2 := HH 2
        simp at z0 z1 z2
        clear HH
        go_simp
        refine hK _ _ trivial ?_
        clear hK K z0 z1 z2
        refine RC.want (i := 1) (by kernel_rfl) rfl (by kernel_rfl) (fun K hK => ?_)
        have HT := HTA Y0 (ha.later A0.bel)
        go_simp
        refine HT.mono ?_
        rintro e Y1 ⟨ao0p, cap0p, ao1p, cap1p, ao2p, cap2p, rfl, p0, p1, p2, hb1⟩
        have Ia1 := bookAt_of p0 p1 p2
        have A1 := A0.later hb1
        have Z1 := Z0.trans (hb1.mono Z0.size)
        simp only
        refine hK _ _ trivial ?_
        clear hK K HT hb1 p0 p1 p2
        refine RC.want (i := 3) (by kernel_rfl) rfl (by kernel_rfl) (fun K hK => ?_)
        have HT := HTB Y1 (hb.later A1.bel)
        go_simp
        refine HT.mono ?_
        rintro e Y2 ⟨bo0p, cbp0p, bo1p, cbp1p, bo2p, cbp2p, rfl, p0, p1, p2, hb2⟩
        have Ib2 := bookAt_of p0 p1 p2
        have Ia2 := Ia1.later hb2
        have A2 := A1.later hb2
        have Z2 := Z1.trans (hb2.mono Z1.size)
        simp only
        refine hK _ _ trivial ?_
        clear hK K HT hb2 p0 p1 p2
        refine RC.want (i := 4) (by kernel_rfl) rfl (by kernel_rfl) (fun K hK => ?_)
        have HT := HIW _ _ _ _ _ _ _ _ _ _ _ _  Y2 Ia2 Ib2
        go_simp
        refine HT.mono ?_
        rintro e Y3 ⟨hb3, v, rfl, hO⟩
        obtain ⟨vao, vcap, rfl⟩ := owned_slice hO
        have hO := owns_low hO Z2.size
        have Z3 := Z2.trans (hb3.mono Z2.size)
        have A3 := A2.later hb3
        simp only
        refine hK _ _ trivial ?_
        clear hK K HT hb3
        refine RC.want (i := 5) (by kernel_rfl) rfl (by kernel_rfl) (fun K hK => ?_)
        go_simp
        refine hK _ _ trivial ?_
        clear hK K
        refine RC.done (by kernel_rfl) ?_
        exact ⟨ao0p, cap0p, ao1p, cap1p, ao2p, cap2p, bo0p, cbp0p, bo1p, cbp1p, bo2p, cbp2p, vao, vcap, rfl, hO, Z3⟩
    rintro a' w19 ⟨ao0p, cap0p, ao1p, cap1p, ao2p, cap2p, bo0p, cbp0p, bo1p, cbp1p, bo2p, cbp2p, hao, hcap, rfl, hHo, hb19⟩
    go_simp
    have A19 := A18.later hb19
    have hWt19 := hWt18.later hb19
    have hGm19 := hGm18.later hb19
    have hHt := atPlanChange_owns hHo
    clear hb19 A18 hWt18 hGm18 hHo
    have HT := eqPlanChangeRS hao wao hcap wcap R w19 (by unfold maxLen; omega) hHt hWt19
    go_wp2_with fail
    refine HT.mono ?_
    rintro e w20 ⟨rfl, hb20⟩
    have A20 := A19.later hb20
    have hGm20 := hGm19.later hb20
    clear HT hb20 A19 hWt19 hGm19 hHt
    have HD := heldPlanChangeR gao gcap 1 R.length w20 (by omega) (by omega) hGm20
    rw [hLL] at HD
    go_wp2_with fail
    refine HD.mono ?_
    rintro e w21 ⟨rfl, hb21⟩
    have A21 := A20.later hb21
    clear HD hb21 A20 hGm20
    go_wp2
    go_ret
    exact ⟨rfl, A21.bel⟩

end Go.Proofs.YtohgkiljdehefaaGreat
