/- DERIVED. impl.skyNamesOk at impl.SkyPoint: its walk (written by wip/tools/mk_in.py). -/
import Derived.Test.YthkpjljhjdjbfaaDoorIN0
namespace Go.Proofs.YthkpjljhjdjbfaaDoor
open Go.RowKit Go.Sort
set_option linter.unusedSimpArgs false
set_option linter.unusedVariables false

theorem nameOf_SkyPoint (s : ByteArray) (v1 v2 : Value) (w : World) : Calls Tryd.prog 67 #[.agg #[.string s, v1, v2]] w fun e w' => e = .returned (.string s) ∧ Below w.heap.size w w' := by
  go_enter Tryd.func67, Tryd.ntmps67
  go_wp2
  go_ret
  exact ⟨rfl, (Below.refl _ _).alloc (Nat.le_refl _) _⟩

set_option maxRecDepth 100000 in
set_option maxHeartbeats 4000000 in
theorem names_SkyPoint (ao : Option Addr) (cap : Nat) (l : List DSkyPoint) (w : World) (h : SliceAt vSkyPoint (old w) w ao cap l) :
    Calls Tryd.prog 66 #[.slice ao l.length cap, .int .i64 16, (.func (.func 67) #[] #[])] w fun e w' =>
      ((l.length ≤ 16 ∧ NamesTo (fun x : DSkyPoint => x.1) l l.length ∧ e = .returned (.bool true)) ∨ (¬ (l.length ≤ 16 ∧ NamesTo (fun x : DSkyPoint => x.1) l l.length) ∧ e = .returned (.bool false))) ∧ Below w.heap.size w w' := by
  by_cases hn : l.length ≤ 16
  · have hnI : ¬ (16 : Int) < (l.length : Int) := by omega
    go_enter Tryd.func66, Tryd.ntmps66
    go_wp2
    go_loopw [15] (fun i wr => ∃ k : Nat, k ≤ l.length ∧ i = .int .i64 k ∧ Hid (NamesTo (fun x : DSkyPoint => x.1) l k) ∧ Below w.heap.size w wr) (fun i _ => l.length - (intOf i).toNat)
    case atStart => exact ⟨0, Nat.zero_le _, rfl, fun j _ hj => by omega, Below.refl _ _⟩
    case round =>
      obtain ⟨k, hk, rfl, hpre, hB⟩ := hrel
      by_cases hlt : k < l.length
      · have hk1 : k - 1 < l.length := by omega
        obtain ⟨b, off, rfl, hok, c0, c1, c2, q0, _⟩ := elem_SkyPoint h hlt
        have f0 := (hB.cell (p := ⟨b, off + k * 3, none⟩) hok).trans c0
        have f1 := (hB.cell (p := ⟨b, off + k * 3 + 1, none⟩) hok).trans c1
        have f2 := (hB.cell (p := ⟨b, off + k * 3 + 2, none⟩) hok).trans c2
        clear c0 c1 c2
        have hbw : b < wr.heap.size := Nat.lt_of_lt_of_le hok hB.size
        have hkI : (k : Int) < (l.length : Int) := by omega
        have hbW1 : Below wr.heap.size wr (wr.alloc (.cells #[.string (l[k]'hlt).1, .int .i64 (l[k]'hlt).2.1, .int .i64 (l[k]'hlt).2.2] 78)) := (Below.refl _ _).alloc (Nat.le_refl _) _
        have HFIN : Hid (∀ w3 : World, Below (wr.alloc (.cells #[.string (l[k]'hlt).1, .int .i64 (l[k]'hlt).2.1, .int .i64 (l[k]'hlt).2.2] 78)).heap.size (wr.alloc (.cells #[.string (l[k]'hlt).1, .int .i64 (l[k]'hlt).2.1, .int .i64 (l[k]'hlt).2.2] 78)) w3 → Below w.heap.size w w3) := fun w3 hb3 => hB.trans (((Below.refl _ _).alloc (Nat.le_refl _) _ |>.trans (hb3.mono (by simp))).mono hB.size)
        have HPRE : Hid (NamesTo (fun x : DSkyPoint => x.1) l k) := hpre
        clear hpre
        by_cases hname : NameOk (l[k]'hlt).1
        · by_cases hk0 : 0 < k
          · obtain ⟨b', off', hbo, _, d0, d1, d2, _⟩ := elem_SkyPoint h hk1
            cases hbo
            have p0 := (hB.cell (p := ⟨b, off + (k - 1) * 3, none⟩) hok).trans d0
            have p1 := (hB.cell (p := ⟨b, off + (k - 1) * 3 + 1, none⟩) hok).trans d1
            have p2 := (hB.cell (p := ⟨b, off + (k - 1) * 3 + 2, none⟩) hok).trans d2
            clear d0 d1 d2
            have hd0 : decide ((0 : Int) < (k : Int)) = true := by simp; omega
            have hkI1 : (k : Int) - 1 < (l.length : Int) := by omega
            have hkN : ((k : Int) - 1).toNat = k - 1 := by omega
            have hk1I : (1 : Int) ≤ (k : Int) := by omega
            have hkW : IntKind.i64.wrap ((k : Int) - 1) = (k : Int) - 1 := by rw [IntKind.wrap_i64]; all_goals omega
            by_cases hasc : SLess (l[k - 1]'hk1).1 (l[k]'hlt).1
            · have hlb : Op.bytesLess (l[k - 1]'hk1).1.toList (l[k]'hlt).1.toList = true := hasc
              have hasc : ∀ h0 : 0 < k, SLess (l[k - 1]'hk1).1 (l[k]'hlt).1 := fun _ => hasc
              have HN1 : Hid (NamesTo (fun x : DSkyPoint => x.1) l (k + 1)) := fun j hj h1 => by
                by_cases e : j = k
                · subst e; exact ⟨hname, hasc⟩
                · exact HPRE.out j hj (by omega)
              clear hasc
              go_wp2
              have v0 : (wr.alloc (.cells #[.string (l[k]'hlt).1, .int .i64 (l[k]'hlt).2.1, .int .i64 (l[k]'hlt).2.2] 78)).cell? ⟨wr.heap.size, 0, none⟩ = some (.string (l[k]'hlt).1) := box_cellI (Below.refl _ (wr.alloc (.cells #[.string (l[k]'hlt).1, .int .i64 (l[k]'hlt).2.1, .int .i64 (l[k]'hlt).2.2] 78))) 0
              have v1 : (wr.alloc (.cells #[.string (l[k]'hlt).1, .int .i64 (l[k]'hlt).2.1, .int .i64 (l[k]'hlt).2.2] 78)).cell? ⟨wr.heap.size, 1, none⟩ = some (.int .i64 (l[k]'hlt).2.1) := box_cellI (Below.refl _ (wr.alloc (.cells #[.string (l[k]'hlt).1, .int .i64 (l[k]'hlt).2.1, .int .i64 (l[k]'hlt).2.2] 78))) 1
              have v2 : (wr.alloc (.cells #[.string (l[k]'hlt).1, .int .i64 (l[k]'hlt).2.1, .int .i64 (l[k]'hlt).2.2] 78)).cell? ⟨wr.heap.size, 2, none⟩ = some (.int .i64 (l[k]'hlt).2.2) := box_cellI (Below.refl _ (wr.alloc (.cells #[.string (l[k]'hlt).1, .int .i64 (l[k]'hlt).2.1, .int .i64 (l[k]'hlt).2.2] 78))) 2
              have r0 := (hbW1.cell (p := ⟨b, off + (k - 1) * 3, none⟩) hbw).trans p0
              have r1 := (hbW1.cell (p := ⟨b, off + (k - 1) * 3 + 1, none⟩) hbw).trans p1
              have r2 := (hbW1.cell (p := ⟨b, off + (k - 1) * 3 + 2, none⟩) hbw).trans p2
              clear p0 p1 p2
              have cN : ∀ dd os, Calls Tryd.prog 67 #[.agg #[.string (l[k]'hlt).1, .int .i64 (l[k]'hlt).2.1, .int .i64 (l[k]'hlt).2.2]] (grow (redrawn (wr.alloc (.cells #[.string (l[k]'hlt).1, .int .i64 (l[k]'hlt).2.1, .int .i64 (l[k]'hlt).2.2] 78)) dd) os) (fun e w'' => e = .returned (.string (l[k]'hlt).1) ∧ ∃ p : Regrown, w'' = grow (redrawn (wr.alloc (.cells #[.string (l[k]'hlt).1, .int .i64 (l[k]'hlt).2.1, .int .i64 (l[k]'hlt).2.2] 78)) p.d) p.os) := fun dd os => Calls.regrown_of (nameOf_SkyPoint _ _ _ _)
              have cP : ∀ dd os, Calls Tryd.prog 67 #[.agg #[.string (l[k - 1]'hk1).1, .int .i64 (l[k - 1]'hk1).2.1, .int .i64 (l[k - 1]'hk1).2.2]] (grow (redrawn (wr.alloc (.cells #[.string (l[k]'hlt).1, .int .i64 (l[k]'hlt).2.1, .int .i64 (l[k]'hlt).2.2] 78)) dd) os) (fun e w'' => e = .returned (.string (l[k - 1]'hk1).1) ∧ ∃ p : Regrown, w'' = grow (redrawn (wr.alloc (.cells #[.string (l[k]'hlt).1, .int .i64 (l[k]'hlt).2.1, .int .i64 (l[k]'hlt).2.2] 78)) p.d) p.os) := fun dd os => Calls.regrown_of (nameOf_SkyPoint _ _ _ _)
              have cK : ∀ dd os, Calls Tryd.prog 82 #[.string (l[k]'hlt).1] (grow (redrawn (wr.alloc (.cells #[.string (l[k]'hlt).1, .int .i64 (l[k]'hlt).2.1, .int .i64 (l[k]'hlt).2.2] 78)) dd) os) (fun e w'' => e = .returned (.bool true) ∧ ∃ p : Regrown, w'' = grow (redrawn (wr.alloc (.cells #[.string (l[k]'hlt).1, .int .i64 (l[k]'hlt).2.1, .int .i64 (l[k]'hlt).2.2] 78)) p.d) p.os) := fun dd os => Calls.regrown_of (iNameOk_yes _ _ q0 hname)
              clear hbW1
              generalize (wr.alloc (.cells #[.string (l[k]'hlt).1, .int .i64 (l[k]'hlt).2.1, .int .i64 (l[k]'hlt).2.2] 78)) = wr1 at *
              have g0 := cell_regrown v0
              have g1 := cell_regrown v1
              have g2 := cell_regrown v2
              clear v0 v1 v2
              have t0 := cell_regrown r0
              have t1 := cell_regrown r1
              have t2 := cell_regrown r2
              clear r0 r1 r2
              refine wp_region_iq (by kernel_rfl) (by kernel_rfl) ?_
              refine IQ.want (by kernel_rfl) (fun K hK => ?_)
              go_simp
              refine hK _ ?_
              clear hK K
              refine IQ.want (by kernel_rfl) (fun K hK => ?_)
              go_simp
              refine hK _ ?_
              clear hK K
              refine IQ.want (by kernel_rfl) (fun K hK => ?_)
              go_simp
              refine ⟨_, fun _ => cN _ _, hK _ ?_⟩
              clear hK K
              refine IQ.want (by kernel_rfl) (fun K hK => ?_)
              go_simp
              refine ⟨_, fun _ => cK _ _, hK _ ?_⟩
              clear hK K
              refine IQ.want (by kernel_rfl) (fun K hK => ?_)
              go_simp
              refine hK _ ?_
              clear hK K
              refine IQ.want (by kernel_rfl) (fun K hK => ?_)
              go_simp
              refine hK _ ?_
              clear hK K
              refine IQ.want (by kernel_rfl) (fun K hK => ?_)
              go_simp
              refine hK _ ?_
              clear hK K
              refine IQ.want (by kernel_rfl) (fun K hK => ?_)
              go_simp
              refine hK _ ?_
              clear hK K
              refine IQ.want (by kernel_rfl) (fun K hK => ?_)
              go_simp
              refine hK _ ?_
              clear hK K
              refine IQ.want (by kernel_rfl) (fun K hK => ?_)
              go_simp
              refine hK _ ?_
              clear hK K
              refine IQ.want (by kernel_rfl) (fun K hK => ?_)
              go_simp
              refine hK _ ?_
              clear hK K
              refine IQ.want (by kernel_rfl) (fun K hK => ?_)
              go_simp
              refine hK _ ?_
              clear hK K
              refine IQ.want (by kernel_rfl) (fun K hK => ?_)
              go_simp
              refine hK _ ?_
              clear hK K
              refine IQ.want (by kernel_rfl) (fun K hK => ?_)
              go_simp
              refine hK _ ?_
              clear hK K
              refine IQ.want (by kernel_rfl) (fun K hK => ?_)
              go_simp
              refine hK _ ?_
              clear hK K
              refine IQ.want (by kernel_rfl) (fun K hK => ?_)
              go_simp
              refine ⟨_, fun _ => cP _ _, hK _ ?_⟩
              clear hK K
              refine IQ.want (by kernel_rfl) (fun K hK => ?_)
              go_simp
              refine hK _ ?_
              clear hK K
              refine IQ.want (by kernel_rfl) (fun K hK => ?_)
              go_simp
              refine hK _ ?_
              clear hK K
              refine IQ.want (by kernel_rfl) (fun K hK => ?_)
              go_simp
              refine ⟨_, fun _ => cN _ _, hK _ ?_⟩
              clear hK K
              refine IQ.want (by kernel_rfl) (fun K hK => ?_)
              go_simp
              refine hK _ ?_
              clear hK K
              refine IQ.want (by kernel_rfl) (fun K hK => ?_)
              go_simp
              refine hK _ ?_
              clear hK K
              refine IQ.want (by kernel_rfl) (fun K hK => ?_)
              go_simp
              refine hK _ ?_
              clear hK K
              refine IQ.nil ?_
              intro _ hw'
              obtain ⟨⟨dq, osq⟩, hw''⟩ := hw'
              subst hw''
              have hb3 := HFIN.out _ (below_regrown wr1 dq osq)
              clear g0 g1 g2 t0 t1 t2 cP cN cK
              generalize grow (redrawn wr1 dq) osq = w3 at hb3 ⊢
              go_wp2
              go_roundw
              case rel => exact ⟨k + 1, by omega, by go_num, HN1, hb3⟩
              case measure => simp [intOf]; omega
            · have hlb : Op.bytesLess (l[k - 1]'hk1).1.toList (l[k]'hlt).1.toList = false := by unfold SLess at hasc; simpa using hasc
              have HF : Hid (¬ (l.length ≤ 16 ∧ NamesTo (fun x : DSkyPoint => x.1) l l.length)) := fun h => hasc ((h.2 k hlt hlt).2 hk0)
              clear hasc
              go_wp2
              have v0 : (wr.alloc (.cells #[.string (l[k]'hlt).1, .int .i64 (l[k]'hlt).2.1, .int .i64 (l[k]'hlt).2.2] 78)).cell? ⟨wr.heap.size, 0, none⟩ = some (.string (l[k]'hlt).1) := box_cellI (Below.refl _ (wr.alloc (.cells #[.string (l[k]'hlt).1, .int .i64 (l[k]'hlt).2.1, .int .i64 (l[k]'hlt).2.2] 78))) 0
              have v1 : (wr.alloc (.cells #[.string (l[k]'hlt).1, .int .i64 (l[k]'hlt).2.1, .int .i64 (l[k]'hlt).2.2] 78)).cell? ⟨wr.heap.size, 1, none⟩ = some (.int .i64 (l[k]'hlt).2.1) := box_cellI (Below.refl _ (wr.alloc (.cells #[.string (l[k]'hlt).1, .int .i64 (l[k]'hlt).2.1, .int .i64 (l[k]'hlt).2.2] 78))) 1
              have v2 : (wr.alloc (.cells #[.string (l[k]'hlt).1, .int .i64 (l[k]'hlt).2.1, .int .i64 (l[k]'hlt).2.2] 78)).cell? ⟨wr.heap.size, 2, none⟩ = some (.int .i64 (l[k]'hlt).2.2) := box_cellI (Below.refl _ (wr.alloc (.cells #[.string (l[k]'hlt).1, .int .i64 (l[k]'hlt).2.1, .int .i64 (l[k]'hlt).2.2] 78))) 2
              have r0 := (hbW1.cell (p := ⟨b, off + (k - 1) * 3, none⟩) hbw).trans p0
              have r1 := (hbW1.cell (p := ⟨b, off + (k - 1) * 3 + 1, none⟩) hbw).trans p1
              have r2 := (hbW1.cell (p := ⟨b, off + (k - 1) * 3 + 2, none⟩) hbw).trans p2
              clear p0 p1 p2
              have cN : ∀ dd os, Calls Tryd.prog 67 #[.agg #[.string (l[k]'hlt).1, .int .i64 (l[k]'hlt).2.1, .int .i64 (l[k]'hlt).2.2]] (grow (redrawn (wr.alloc (.cells #[.string (l[k]'hlt).1, .int .i64 (l[k]'hlt).2.1, .int .i64 (l[k]'hlt).2.2] 78)) dd) os) (fun e w'' => e = .returned (.string (l[k]'hlt).1) ∧ ∃ p : Regrown, w'' = grow (redrawn (wr.alloc (.cells #[.string (l[k]'hlt).1, .int .i64 (l[k]'hlt).2.1, .int .i64 (l[k]'hlt).2.2] 78)) p.d) p.os) := fun dd os => Calls.regrown_of (nameOf_SkyPoint _ _ _ _)
              have cP : ∀ dd os, Calls Tryd.prog 67 #[.agg #[.string (l[k - 1]'hk1).1, .int .i64 (l[k - 1]'hk1).2.1, .int .i64 (l[k - 1]'hk1).2.2]] (grow (redrawn (wr.alloc (.cells #[.string (l[k]'hlt).1, .int .i64 (l[k]'hlt).2.1, .int .i64 (l[k]'hlt).2.2] 78)) dd) os) (fun e w'' => e = .returned (.string (l[k - 1]'hk1).1) ∧ ∃ p : Regrown, w'' = grow (redrawn (wr.alloc (.cells #[.string (l[k]'hlt).1, .int .i64 (l[k]'hlt).2.1, .int .i64 (l[k]'hlt).2.2] 78)) p.d) p.os) := fun dd os => Calls.regrown_of (nameOf_SkyPoint _ _ _ _)
              have cK : ∀ dd os, Calls Tryd.prog 82 #[.string (l[k]'hlt).1] (grow (redrawn (wr.alloc (.cells #[.string (l[k]'hlt).1, .int .i64 (l[k]'hlt).2.1, .int .i64 (l[k]'hlt).2.2] 78)) dd) os) (fun e w'' => e = .returned (.bool true) ∧ ∃ p : Regrown, w'' = grow (redrawn (wr.alloc (.cells #[.string (l[k]'hlt).1, .int .i64 (l[k]'hlt).2.1, .int .i64 (l[k]'hlt).2.2] 78)) p.d) p.os) := fun dd os => Calls.regrown_of (iNameOk_yes _ _ q0 hname)
              clear hbW1
              generalize (wr.alloc (.cells #[.string (l[k]'hlt).1, .int .i64 (l[k]'hlt).2.1, .int .i64 (l[k]'hlt).2.2] 78)) = wr1 at *
              have g0 := cell_regrown v0
              have g1 := cell_regrown v1
              have g2 := cell_regrown v2
              clear v0 v1 v2
              have t0 := cell_regrown r0
              have t1 := cell_regrown r1
              have t2 := cell_regrown r2
              clear r0 r1 r2
              refine wp_region_iq (by kernel_rfl) (by kernel_rfl) ?_
              refine IQ.want (by kernel_rfl) (fun K hK => ?_)
              go_simp
              refine hK _ ?_
              clear hK K
              refine IQ.want (by kernel_rfl) (fun K hK => ?_)
              go_simp
              refine hK _ ?_
              clear hK K
              refine IQ.want (by kernel_rfl) (fun K hK => ?_)
              go_simp
              refine ⟨_, fun _ => cN _ _, hK _ ?_⟩
              clear hK K
              refine IQ.want (by kernel_rfl) (fun K hK => ?_)
              go_simp
              refine ⟨_, fun _ => cK _ _, hK _ ?_⟩
              clear hK K
              refine IQ.want (by kernel_rfl) (fun K hK => ?_)
              go_simp
              refine hK _ ?_
              clear hK K
              refine IQ.want (by kernel_rfl) (fun K hK => ?_)
              go_simp
              refine hK _ ?_
              clear hK K
              refine IQ.want (by kernel_rfl) (fun K hK => ?_)
              go_simp
              refine hK _ ?_
              clear hK K
              refine IQ.want (by kernel_rfl) (fun K hK => ?_)
              go_simp
              refine hK _ ?_
              clear hK K
              refine IQ.want (by kernel_rfl) (fun K hK => ?_)
              go_simp
              refine hK _ ?_
              clear hK K
              refine IQ.want (by kernel_rfl) (fun K hK => ?_)
              go_simp
              refine hK _ ?_
              clear hK K
              refine IQ.want (by kernel_rfl) (fun K hK => ?_)
              go_simp
              refine hK _ ?_
              clear hK K
              refine IQ.want (by kernel_rfl) (fun K hK => ?_)
              go_simp
              refine hK _ ?_
              clear hK K
              refine IQ.want (by kernel_rfl) (fun K hK => ?_)
              go_simp
              refine hK _ ?_
              clear hK K
              refine IQ.want (by kernel_rfl) (fun K hK => ?_)
              go_simp
              refine hK _ ?_
              clear hK K
              refine IQ.want (by kernel_rfl) (fun K hK => ?_)
              go_simp
              refine hK _ ?_
              clear hK K
              refine IQ.want (by kernel_rfl) (fun K hK => ?_)
              go_simp
              refine ⟨_, fun _ => cP _ _, hK _ ?_⟩
              clear hK K
              refine IQ.want (by kernel_rfl) (fun K hK => ?_)
              go_simp
              refine hK _ ?_
              clear hK K
              refine IQ.want (by kernel_rfl) (fun K hK => ?_)
              go_simp
              refine hK _ ?_
              clear hK K
              refine IQ.want (by kernel_rfl) (fun K hK => ?_)
              go_simp
              refine ⟨_, fun _ => cN _ _, hK _ ?_⟩
              clear hK K
              refine IQ.want (by kernel_rfl) (fun K hK => ?_)
              go_simp
              refine hK _ ?_
              clear hK K
              refine IQ.want (by kernel_rfl) (fun K hK => ?_)
              go_simp
              refine hK _ ?_
              clear hK K
              refine IQ.want (by kernel_rfl) (fun K hK => ?_)
              go_simp
              refine hK _ ?_
              clear hK K
              refine IQ.nil ?_
              intro _ hw'
              obtain ⟨⟨dq, osq⟩, hw''⟩ := hw'
              subst hw''
              have hb3 := HFIN.out _ (below_regrown wr1 dq osq)
              clear g0 g1 g2 t0 t1 t2 cP cN cK
              generalize grow (redrawn wr1 dq) osq = w3 at hb3 ⊢
              go_wp2
              go_ret
              exact ⟨.inr ⟨HF.out, rfl⟩, hb3⟩
          · have hd0 : decide ((0 : Int) < (k : Int)) = false := by simp; omega
            have hasc : ∀ h0 : 0 < k, SLess (l[k - 1]'hk1).1 (l[k]'hlt).1 := fun h0 => absurd h0 hk0
            have HN1 : Hid (NamesTo (fun x : DSkyPoint => x.1) l (k + 1)) := fun j hj h1 => by
              by_cases e : j = k
              · subst e; exact ⟨hname, hasc⟩
              · exact HPRE.out j hj (by omega)
            go_wp2
            have v0 : (wr.alloc (.cells #[.string (l[k]'hlt).1, .int .i64 (l[k]'hlt).2.1, .int .i64 (l[k]'hlt).2.2] 78)).cell? ⟨wr.heap.size, 0, none⟩ = some (.string (l[k]'hlt).1) := box_cellI (Below.refl _ (wr.alloc (.cells #[.string (l[k]'hlt).1, .int .i64 (l[k]'hlt).2.1, .int .i64 (l[k]'hlt).2.2] 78))) 0
            have v1 : (wr.alloc (.cells #[.string (l[k]'hlt).1, .int .i64 (l[k]'hlt).2.1, .int .i64 (l[k]'hlt).2.2] 78)).cell? ⟨wr.heap.size, 1, none⟩ = some (.int .i64 (l[k]'hlt).2.1) := box_cellI (Below.refl _ (wr.alloc (.cells #[.string (l[k]'hlt).1, .int .i64 (l[k]'hlt).2.1, .int .i64 (l[k]'hlt).2.2] 78))) 1
            have v2 : (wr.alloc (.cells #[.string (l[k]'hlt).1, .int .i64 (l[k]'hlt).2.1, .int .i64 (l[k]'hlt).2.2] 78)).cell? ⟨wr.heap.size, 2, none⟩ = some (.int .i64 (l[k]'hlt).2.2) := box_cellI (Below.refl _ (wr.alloc (.cells #[.string (l[k]'hlt).1, .int .i64 (l[k]'hlt).2.1, .int .i64 (l[k]'hlt).2.2] 78))) 2
            have cN : ∀ dd os, Calls Tryd.prog 67 #[.agg #[.string (l[k]'hlt).1, .int .i64 (l[k]'hlt).2.1, .int .i64 (l[k]'hlt).2.2]] (grow (redrawn (wr.alloc (.cells #[.string (l[k]'hlt).1, .int .i64 (l[k]'hlt).2.1, .int .i64 (l[k]'hlt).2.2] 78)) dd) os) (fun e w'' => e = .returned (.string (l[k]'hlt).1) ∧ ∃ p : Regrown, w'' = grow (redrawn (wr.alloc (.cells #[.string (l[k]'hlt).1, .int .i64 (l[k]'hlt).2.1, .int .i64 (l[k]'hlt).2.2] 78)) p.d) p.os) := fun dd os => Calls.regrown_of (nameOf_SkyPoint _ _ _ _)
            have cK : ∀ dd os, Calls Tryd.prog 82 #[.string (l[k]'hlt).1] (grow (redrawn (wr.alloc (.cells #[.string (l[k]'hlt).1, .int .i64 (l[k]'hlt).2.1, .int .i64 (l[k]'hlt).2.2] 78)) dd) os) (fun e w'' => e = .returned (.bool true) ∧ ∃ p : Regrown, w'' = grow (redrawn (wr.alloc (.cells #[.string (l[k]'hlt).1, .int .i64 (l[k]'hlt).2.1, .int .i64 (l[k]'hlt).2.2] 78)) p.d) p.os) := fun dd os => Calls.regrown_of (iNameOk_yes _ _ q0 hname)
            clear hbW1
            generalize (wr.alloc (.cells #[.string (l[k]'hlt).1, .int .i64 (l[k]'hlt).2.1, .int .i64 (l[k]'hlt).2.2] 78)) = wr1 at *
            have g0 := cell_regrown v0
            have g1 := cell_regrown v1
            have g2 := cell_regrown v2
            clear v0 v1 v2
            refine wp_region_iq (by kernel_rfl) (by kernel_rfl) ?_
            refine IQ.want (by kernel_rfl) (fun K hK => ?_)
            go_simp
            refine hK _ ?_
            clear hK K
            refine IQ.want (by kernel_rfl) (fun K hK => ?_)
            go_simp
            refine hK _ ?_
            clear hK K
            refine IQ.want (by kernel_rfl) (fun K hK => ?_)
            go_simp
            refine ⟨_, fun _ => cN _ _, hK _ ?_⟩
            clear hK K
            refine IQ.want (by kernel_rfl) (fun K hK => ?_)
            go_simp
            refine ⟨_, fun _ => cK _ _, hK _ ?_⟩
            clear hK K
            refine IQ.want (by kernel_rfl) (fun K hK => ?_)
            go_simp
            refine hK _ ?_
            clear hK K
            refine IQ.want (by kernel_rfl) (fun K hK => ?_)
            go_simp
            refine hK _ ?_
            clear hK K
            refine IQ.want (by kernel_rfl) (fun K hK => ?_)
            go_simp
            refine hK _ ?_
            clear hK K
            refine IQ.want (by kernel_rfl) (fun K hK => ?_)
            go_simp
            refine hK _ ?_
            clear hK K
            refine IQ.want (by kernel_rfl) (fun K hK => ?_)
            go_simp
            refine hK _ ?_
            clear hK K
            refine IQ.skip (by kernel_rfl) ?_
            refine IQ.skip (by kernel_rfl) ?_
            refine IQ.skip (by kernel_rfl) ?_
            refine IQ.skip (by kernel_rfl) ?_
            refine IQ.skip (by kernel_rfl) ?_
            refine IQ.skip (by kernel_rfl) ?_
            refine IQ.skip (by kernel_rfl) ?_
            refine IQ.skip (by kernel_rfl) ?_
            refine IQ.skip (by kernel_rfl) ?_
            refine IQ.skip (by kernel_rfl) ?_
            refine IQ.skip (by kernel_rfl) ?_
            refine IQ.want (by kernel_rfl) (fun K hK => ?_)
            go_simp
            refine hK _ ?_
            clear hK K
            refine IQ.want (by kernel_rfl) (fun K hK => ?_)
            go_simp
            refine hK _ ?_
            clear hK K
            refine IQ.nil ?_
            intro _ hw'
            obtain ⟨⟨dq, osq⟩, hw''⟩ := hw'
            subst hw''
            have hb3 := HFIN.out _ (below_regrown wr1 dq osq)
            clear g0 g1 g2 cN cK
            generalize grow (redrawn wr1 dq) osq = w3 at hb3 ⊢
            go_wp2
            go_roundw
            case rel => exact ⟨k + 1, by omega, by go_num, HN1, hb3⟩
            case measure => simp [intOf]; omega
        · have HF : Hid (¬ (l.length ≤ 16 ∧ NamesTo (fun x : DSkyPoint => x.1) l l.length)) := fun h => hname (h.2 k hlt hlt).1
          go_wp2
          have v0 : (wr.alloc (.cells #[.string (l[k]'hlt).1, .int .i64 (l[k]'hlt).2.1, .int .i64 (l[k]'hlt).2.2] 78)).cell? ⟨wr.heap.size, 0, none⟩ = some (.string (l[k]'hlt).1) := box_cellI (Below.refl _ (wr.alloc (.cells #[.string (l[k]'hlt).1, .int .i64 (l[k]'hlt).2.1, .int .i64 (l[k]'hlt).2.2] 78))) 0
          have v1 : (wr.alloc (.cells #[.string (l[k]'hlt).1, .int .i64 (l[k]'hlt).2.1, .int .i64 (l[k]'hlt).2.2] 78)).cell? ⟨wr.heap.size, 1, none⟩ = some (.int .i64 (l[k]'hlt).2.1) := box_cellI (Below.refl _ (wr.alloc (.cells #[.string (l[k]'hlt).1, .int .i64 (l[k]'hlt).2.1, .int .i64 (l[k]'hlt).2.2] 78))) 1
          have v2 : (wr.alloc (.cells #[.string (l[k]'hlt).1, .int .i64 (l[k]'hlt).2.1, .int .i64 (l[k]'hlt).2.2] 78)).cell? ⟨wr.heap.size, 2, none⟩ = some (.int .i64 (l[k]'hlt).2.2) := box_cellI (Below.refl _ (wr.alloc (.cells #[.string (l[k]'hlt).1, .int .i64 (l[k]'hlt).2.1, .int .i64 (l[k]'hlt).2.2] 78))) 2
          have cN : ∀ dd os, Calls Tryd.prog 67 #[.agg #[.string (l[k]'hlt).1, .int .i64 (l[k]'hlt).2.1, .int .i64 (l[k]'hlt).2.2]] (grow (redrawn (wr.alloc (.cells #[.string (l[k]'hlt).1, .int .i64 (l[k]'hlt).2.1, .int .i64 (l[k]'hlt).2.2] 78)) dd) os) (fun e w'' => e = .returned (.string (l[k]'hlt).1) ∧ ∃ p : Regrown, w'' = grow (redrawn (wr.alloc (.cells #[.string (l[k]'hlt).1, .int .i64 (l[k]'hlt).2.1, .int .i64 (l[k]'hlt).2.2] 78)) p.d) p.os) := fun dd os => Calls.regrown_of (nameOf_SkyPoint _ _ _ _)
          have cK : ∀ dd os, Calls Tryd.prog 82 #[.string (l[k]'hlt).1] (grow (redrawn (wr.alloc (.cells #[.string (l[k]'hlt).1, .int .i64 (l[k]'hlt).2.1, .int .i64 (l[k]'hlt).2.2] 78)) dd) os) (fun e w'' => e = .returned (.bool false) ∧ ∃ p : Regrown, w'' = grow (redrawn (wr.alloc (.cells #[.string (l[k]'hlt).1, .int .i64 (l[k]'hlt).2.1, .int .i64 (l[k]'hlt).2.2] 78)) p.d) p.os) := fun dd os => Calls.regrown_of (iNameOk_no _ _ q0 hname)
          clear hbW1
          generalize (wr.alloc (.cells #[.string (l[k]'hlt).1, .int .i64 (l[k]'hlt).2.1, .int .i64 (l[k]'hlt).2.2] 78)) = wr1 at *
          have g0 := cell_regrown v0
          have g1 := cell_regrown v1
          have g2 := cell_regrown v2
          clear v0 v1 v2
          refine wp_region_iq (by kernel_rfl) (by kernel_rfl) ?_
          refine IQ.want (by kernel_rfl) (fun K hK => ?_)
          go_simp
          refine hK _ ?_
          clear hK K
          refine IQ.want (by kernel_rfl) (fun K hK => ?_)
          go_simp
          refine hK _ ?_
          clear hK K
          refine IQ.want (by kernel_rfl) (fun K hK => ?_)
          go_simp
          refine ⟨_, fun _ => cN _ _, hK _ ?_⟩
          clear hK K
          refine IQ.want (by kernel_rfl) (fun K hK => ?_)
          go_simp
          refine ⟨_, fun _ => cK _ _, hK _ ?_⟩
          clear hK K
          refine IQ.want (by kernel_rfl) (fun K hK => ?_)
          go_simp
          refine hK _ ?_
          clear hK K
          refine IQ.want (by kernel_rfl) (fun K hK => ?_)
          go_simp
          refine hK _ ?_
          clear hK K
          refine IQ.skip (by kernel_rfl) ?_
          refine IQ.skip (by kernel_rfl) ?_
          refine IQ.skip (by kernel_rfl) ?_
          refine IQ.skip (by kernel_rfl) ?_
          refine IQ.skip (by kernel_rfl) ?_
          refine IQ.skip (by kernel_rfl) ?_
          refine IQ.skip (by kernel_rfl) ?_
          refine IQ.skip (by kernel_rfl) ?_
          refine IQ.skip (by kernel_rfl) ?_
          refine IQ.skip (by kernel_rfl) ?_
          refine IQ.skip (by kernel_rfl) ?_
          refine IQ.skip (by kernel_rfl) ?_
          refine IQ.skip (by kernel_rfl) ?_
          refine IQ.skip (by kernel_rfl) ?_
          refine IQ.skip (by kernel_rfl) ?_
          refine IQ.want (by kernel_rfl) (fun K hK => ?_)
          go_simp
          refine hK _ ?_
          clear hK K
          refine IQ.nil ?_
          intro _ hw'
          obtain ⟨⟨dq, osq⟩, hw''⟩ := hw'
          subst hw''
          have hb3 := HFIN.out _ (below_regrown wr1 dq osq)
          clear g0 g1 g2 cN cK
          generalize grow (redrawn wr1 dq) osq = w3 at hb3 ⊢
          go_wp2
          go_ret
          exact ⟨.inr ⟨HF.out, rfl⟩, hb3⟩
      · have hke : k = l.length := by omega
        subst hke
        have HP : Hid (NamesTo (fun x : DSkyPoint => x.1) l l.length) := hpre
        clear hpre
        go_wp2
        go_ret
        exact ⟨.inl ⟨hn, HP.out, rfl⟩, hB⟩
  · have hnI : (16 : Int) < (l.length : Int) := by omega
    go_enter Tryd.func66, Tryd.ntmps66
    go_wp2
    go_ret
    exact ⟨.inr ⟨fun h => hn h.1, rfl⟩, Below.refl _ _⟩

end Go.Proofs.YthkpjljhjdjbfaaDoor
