/- The law's comparison of lists of pages, and whether they are light (layer 5). -/
import Derived.Test.YtioledhbdehbpaaTold
import Derived.Deep.RegionHeld3
namespace Go.Proofs.Ytioledhbdehbpaa.Rcd
open Go.RowKit Go.Proofs.Ytioledhbdehbpaa.Mem Go.Proofs.Ytioledhbdehbpaa.Oct Go.Proofs.Ytioledhbdehbpaa.Pg
set_option linter.unusedVariables false
set_option linter.unusedSimpArgs false
theorem rangeAt_drew1 {w : World} {b o : Nat} {cs : List Value} (h : w.rangeAt b o cs) : w.drew.rangeAt b o cs := h
set_option maxRecDepth 20000 in
set_option maxHeartbeats 4000000 in
theorem pages_any (A A' : Option Addr) (n n' c c' : Nat) (ps qs : List P) (w : World) (h : Pgs w w.heap.size (.slice A n c) ps) (h' : Pgs w w.heap.size (.slice A' n' c') qs) (hn : n ≤ 1000) :
    Calls Try.prog 27 #[.slice A n c, .slice A' n' c'] w fun e w' => e = .returned (.bool (decide (ps = qs))) ∧ Below w.heap.size w w' := by
  obtain ⟨hl, hnc, hcm⟩ := pgs_len h
  obtain ⟨hl', hnc', hcm'⟩ := pgs_len h'
  by_cases hnn : n = n'
  · subst hnn
    obtain ⟨dd, hdd⟩ : ∃ dd, dd = decide (ps = qs) := ⟨_, rfl⟩
    rw [← hdd]
    have HDD := Lib.hid hdd; clear hdd
    have HL := Lib.hid hl; clear hl
    have HL' := Lib.hid hl'; clear hl'
    have HP := Lib.hid h; clear h
    have HP' := Lib.hid h'; clear h'
    go_enter Try.func27, Try.ntmps27
    go_wp2
    go_loopw [5] (fun i wr => ∃ k : Nat, k ≤ n ∧ i = .int .i64 k ∧ Below w.heap.size w wr ∧ ∀ j, j < k → ps.getD j noP = qs.getD j noP) (fun i _ => n - (intOf i).toNat)
    case atStart => exact ⟨0, Nat.zero_le _, rfl, Below.refl _ _, fun j hj => absurd hj (by omega)⟩
    case round =>
      obtain ⟨k, hk, rfl, hbw, heq⟩ := hrel
      have HB := Lib.hid hbw; clear hbw
      have HE := Lib.hid heq; clear heq
      by_cases hlt : k < n
      · obtain ⟨b, off, rfl, hb, hc⟩ := pgs_at HP.out (by omega)
        obtain ⟨b', off', rfl, hb', hc'⟩ := pgs_at HP'.out (by omega)
        obtain ⟨v1, hr1, hs1⟩ := hc k hlt
        obtain ⟨v2, hr2, hs2⟩ := hc' k hlt
        obtain ⟨q1, hq1⟩ : ∃ q, q = ps.getD k noP := ⟨_, rfl⟩
        obtain ⟨q2, hq2⟩ : ∃ q, q = qs.getD k noP := ⟨_, rfl⟩
        rw [← hq1] at hr1 hs1
        rw [← hq2] at hr2 hs2
        have HQ1 := Lib.hid hq1; clear hq1
        have HQ2 := Lib.hid hq2; clear hq2
        have HR1 := Lib.hid hr1; clear hr1
        have HR2 := Lib.hid hr2; clear hr2
        obtain ⟨A1, n1, c1, rfl, hbt1⟩ := hs1
        obtain ⟨A2, n2, c2, rfl, hbt2⟩ := hs2
        have HS1 := Lib.hid hbt1; clear hbt1
        have HS2 := Lib.hid hbt2; clear hbt2
        clear hc hc'
        cases hde : decide (q1 = q2)
        · have hne : ps.getD k noP ≠ qs.getD k noP := fun e => by
            rw [← HQ1.out, ← HQ2.out] at e
            rw [decide_eq_true e] at hde
            cases hde
          have hdf : dd = false := by rw [HDD.out]; exact decide_eq_false (getD_ne hne)
          have HDF := Lib.hid hdf; clear hdf hne
          go_wp2
          have e1 := rangeAt_below HR1.out HB.out hb
          have e1_0 : wr.cell? ⟨b, off + k * 7, none⟩ = some (.int .i64 q1.kind) := e1 0 _ rfl
          have e1_1 : wr.cell? ⟨b, off + k * 7 + 1, none⟩ = some (.int .i64 q1.gen) := e1 1 _ rfl
          have e1_2 : wr.cell? ⟨b, off + k * 7 + 2, none⟩ = some (.int .i64 q1.mark) := e1 2 _ rfl
          have e1_3 : wr.cell? ⟨b, off + k * 7 + 3, none⟩ = some (.int .i64 q1.index) := e1 3 _ rfl
          have e1_4 : wr.cell? ⟨b, off + k * 7 + 4, none⟩ = some (.int .i64 q1.part) := e1 4 _ rfl
          have e1_5 : wr.cell? ⟨b, off + k * 7 + 5, none⟩ = some (.int .i64 q1.parts) := e1 5 _ rfl
          have e1_6 : wr.cell? ⟨b, off + k * 7 + 6, none⟩ = some (.slice A1 n1 c1) := e1 6 _ rfl
          clear e1
          have e2 := rangeAt_below HR2.out HB.out hb'
          have e2_0 : wr.cell? ⟨b', off' + k * 7, none⟩ = some (.int .i64 q2.kind) := e2 0 _ rfl
          have e2_1 : wr.cell? ⟨b', off' + k * 7 + 1, none⟩ = some (.int .i64 q2.gen) := e2 1 _ rfl
          have e2_2 : wr.cell? ⟨b', off' + k * 7 + 2, none⟩ = some (.int .i64 q2.mark) := e2 2 _ rfl
          have e2_3 : wr.cell? ⟨b', off' + k * 7 + 3, none⟩ = some (.int .i64 q2.index) := e2 3 _ rfl
          have e2_4 : wr.cell? ⟨b', off' + k * 7 + 4, none⟩ = some (.int .i64 q2.part) := e2 4 _ rfl
          have e2_5 : wr.cell? ⟨b', off' + k * 7 + 5, none⟩ = some (.int .i64 q2.parts) := e2 5 _ rfl
          have e2_6 : wr.cell? ⟨b', off' + k * 7 + 6, none⟩ = some (.slice A2 n2 c2) := e2 6 _ rfl
          clear e2
          go_region_held3 (fun W => W.cell? ⟨b, off + k * 7, none⟩ = some (.int .i64 q1.kind) ∧ W.cell? ⟨b, off + k * 7 + 1, none⟩ = some (.int .i64 q1.gen) ∧ W.cell? ⟨b, off + k * 7 + 2, none⟩ = some (.int .i64 q1.mark) ∧ W.cell? ⟨b, off + k * 7 + 3, none⟩ = some (.int .i64 q1.index) ∧ W.cell? ⟨b, off + k * 7 + 4, none⟩ = some (.int .i64 q1.part) ∧ W.cell? ⟨b, off + k * 7 + 5, none⟩ = some (.int .i64 q1.parts) ∧ W.cell? ⟨b, off + k * 7 + 6, none⟩ = some (.slice A1 n1 c1) ∧ W.cell? ⟨b', off' + k * 7, none⟩ = some (.int .i64 q2.kind) ∧ W.cell? ⟨b', off' + k * 7 + 1, none⟩ = some (.int .i64 q2.gen) ∧ W.cell? ⟨b', off' + k * 7 + 2, none⟩ = some (.int .i64 q2.mark) ∧ W.cell? ⟨b', off' + k * 7 + 3, none⟩ = some (.int .i64 q2.index) ∧ W.cell? ⟨b', off' + k * 7 + 4, none⟩ = some (.int .i64 q2.part) ∧ W.cell? ⟨b', off' + k * 7 + 5, none⟩ = some (.int .i64 q2.parts) ∧ W.cell? ⟨b', off' + k * 7 + 6, none⟩ = some (.slice A2 n2 c2))
            (first
              | with_reducible exact ⟨e1_0, e1_1, e1_2, e1_3, e1_4, e1_5, e1_6, e2_0, e2_1, e2_2, e2_3, e2_4, e2_5, e2_6⟩
              | with_reducible exact ⟨z1_0, z1_1, z1_2, z1_3, z1_4, z1_5, z1_6, z2_0, z2_1, z2_2, z2_3, z2_4, z2_5, z2_6⟩
              | go_keep)
            (first
              | (go_at_call 12; refine (refsame_any q1 q2 (.slice A1 n1 c1) (.slice A2 n2 c2) _ ?s1 ?s2).mono ?_; (case s1 => exact sb_up HS1.out (by with_reducible repeat (first | exact HB.out | refine below_drewN ?_ _ | refine pdrew ?_ | refine palloc ?_ _))); (case s2 => exact sb_up HS2.out (by with_reducible repeat (first | exact HB.out | refine below_drewN ?_ _ | refine pdrew ?_ | refine palloc ?_ _))); rintro e w4 ⟨rfl, hb4⟩; rw [hde]; have HB4 := Lib.hid (below_up (w := w) hb4 (by with_reducible repeat (first | exact HB.out | refine below_drewN ?_ _ | refine pdrew ?_ | refine palloc ?_ _))); clear hb4; have z1_0 : w4.cell? ⟨b, off + k * 7, none⟩ = some (.int .i64 q1.kind) := (rangeAt_below HR1.out HB4.out hb) 0 _ rfl; have z1_1 : w4.cell? ⟨b, off + k * 7 + 1, none⟩ = some (.int .i64 q1.gen) := (rangeAt_below HR1.out HB4.out hb) 1 _ rfl; have z1_2 : w4.cell? ⟨b, off + k * 7 + 2, none⟩ = some (.int .i64 q1.mark) := (rangeAt_below HR1.out HB4.out hb) 2 _ rfl; have z1_3 : w4.cell? ⟨b, off + k * 7 + 3, none⟩ = some (.int .i64 q1.index) := (rangeAt_below HR1.out HB4.out hb) 3 _ rfl; have z1_4 : w4.cell? ⟨b, off + k * 7 + 4, none⟩ = some (.int .i64 q1.part) := (rangeAt_below HR1.out HB4.out hb) 4 _ rfl; have z1_5 : w4.cell? ⟨b, off + k * 7 + 5, none⟩ = some (.int .i64 q1.parts) := (rangeAt_below HR1.out HB4.out hb) 5 _ rfl; have z1_6 : w4.cell? ⟨b, off + k * 7 + 6, none⟩ = some (.slice A1 n1 c1) := (rangeAt_below HR1.out HB4.out hb) 6 _ rfl; have z2_0 : w4.cell? ⟨b', off' + k * 7, none⟩ = some (.int .i64 q2.kind) := (rangeAt_below HR2.out HB4.out hb') 0 _ rfl; have z2_1 : w4.cell? ⟨b', off' + k * 7 + 1, none⟩ = some (.int .i64 q2.gen) := (rangeAt_below HR2.out HB4.out hb') 1 _ rfl; have z2_2 : w4.cell? ⟨b', off' + k * 7 + 2, none⟩ = some (.int .i64 q2.mark) := (rangeAt_below HR2.out HB4.out hb') 2 _ rfl; have z2_3 : w4.cell? ⟨b', off' + k * 7 + 3, none⟩ = some (.int .i64 q2.index) := (rangeAt_below HR2.out HB4.out hb') 3 _ rfl; have z2_4 : w4.cell? ⟨b', off' + k * 7 + 4, none⟩ = some (.int .i64 q2.part) := (rangeAt_below HR2.out HB4.out hb') 4 _ rfl; have z2_5 : w4.cell? ⟨b', off' + k * 7 + 5, none⟩ = some (.int .i64 q2.parts) := (rangeAt_below HR2.out HB4.out hb') 5 _ rfl; have z2_6 : w4.cell? ⟨b', off' + k * 7 + 6, none⟩ = some (.slice A2 n2 c2) := (rangeAt_below HR2.out HB4.out hb') 6 _ rfl))
          go_wp2
          go_ret
          exact ⟨ret_bool HDF.out.symm, HB4.out⟩
        · have heq : ps.getD k noP = qs.getD k noP := by
            rw [← HQ1.out, ← HQ2.out]
            exact of_decide_eq_true hde
          have HEQ := Lib.hid heq; clear heq
          go_wp2
          have e1 := rangeAt_below HR1.out HB.out hb
          have e1_0 : wr.cell? ⟨b, off + k * 7, none⟩ = some (.int .i64 q1.kind) := e1 0 _ rfl
          have e1_1 : wr.cell? ⟨b, off + k * 7 + 1, none⟩ = some (.int .i64 q1.gen) := e1 1 _ rfl
          have e1_2 : wr.cell? ⟨b, off + k * 7 + 2, none⟩ = some (.int .i64 q1.mark) := e1 2 _ rfl
          have e1_3 : wr.cell? ⟨b, off + k * 7 + 3, none⟩ = some (.int .i64 q1.index) := e1 3 _ rfl
          have e1_4 : wr.cell? ⟨b, off + k * 7 + 4, none⟩ = some (.int .i64 q1.part) := e1 4 _ rfl
          have e1_5 : wr.cell? ⟨b, off + k * 7 + 5, none⟩ = some (.int .i64 q1.parts) := e1 5 _ rfl
          have e1_6 : wr.cell? ⟨b, off + k * 7 + 6, none⟩ = some (.slice A1 n1 c1) := e1 6 _ rfl
          clear e1
          have e2 := rangeAt_below HR2.out HB.out hb'
          have e2_0 : wr.cell? ⟨b', off' + k * 7, none⟩ = some (.int .i64 q2.kind) := e2 0 _ rfl
          have e2_1 : wr.cell? ⟨b', off' + k * 7 + 1, none⟩ = some (.int .i64 q2.gen) := e2 1 _ rfl
          have e2_2 : wr.cell? ⟨b', off' + k * 7 + 2, none⟩ = some (.int .i64 q2.mark) := e2 2 _ rfl
          have e2_3 : wr.cell? ⟨b', off' + k * 7 + 3, none⟩ = some (.int .i64 q2.index) := e2 3 _ rfl
          have e2_4 : wr.cell? ⟨b', off' + k * 7 + 4, none⟩ = some (.int .i64 q2.part) := e2 4 _ rfl
          have e2_5 : wr.cell? ⟨b', off' + k * 7 + 5, none⟩ = some (.int .i64 q2.parts) := e2 5 _ rfl
          have e2_6 : wr.cell? ⟨b', off' + k * 7 + 6, none⟩ = some (.slice A2 n2 c2) := e2 6 _ rfl
          clear e2
          go_region_held3 (fun W => W.cell? ⟨b, off + k * 7, none⟩ = some (.int .i64 q1.kind) ∧ W.cell? ⟨b, off + k * 7 + 1, none⟩ = some (.int .i64 q1.gen) ∧ W.cell? ⟨b, off + k * 7 + 2, none⟩ = some (.int .i64 q1.mark) ∧ W.cell? ⟨b, off + k * 7 + 3, none⟩ = some (.int .i64 q1.index) ∧ W.cell? ⟨b, off + k * 7 + 4, none⟩ = some (.int .i64 q1.part) ∧ W.cell? ⟨b, off + k * 7 + 5, none⟩ = some (.int .i64 q1.parts) ∧ W.cell? ⟨b, off + k * 7 + 6, none⟩ = some (.slice A1 n1 c1) ∧ W.cell? ⟨b', off' + k * 7, none⟩ = some (.int .i64 q2.kind) ∧ W.cell? ⟨b', off' + k * 7 + 1, none⟩ = some (.int .i64 q2.gen) ∧ W.cell? ⟨b', off' + k * 7 + 2, none⟩ = some (.int .i64 q2.mark) ∧ W.cell? ⟨b', off' + k * 7 + 3, none⟩ = some (.int .i64 q2.index) ∧ W.cell? ⟨b', off' + k * 7 + 4, none⟩ = some (.int .i64 q2.part) ∧ W.cell? ⟨b', off' + k * 7 + 5, none⟩ = some (.int .i64 q2.parts) ∧ W.cell? ⟨b', off' + k * 7 + 6, none⟩ = some (.slice A2 n2 c2))
            (first
              | with_reducible exact ⟨e1_0, e1_1, e1_2, e1_3, e1_4, e1_5, e1_6, e2_0, e2_1, e2_2, e2_3, e2_4, e2_5, e2_6⟩
              | with_reducible exact ⟨z1_0, z1_1, z1_2, z1_3, z1_4, z1_5, z1_6, z2_0, z2_1, z2_2, z2_3, z2_4, z2_5, z2_6⟩
              | go_keep)
            (first
              | (go_at_call 12; refine (refsame_any q1 q2 (.slice A1 n1 c1) (.slice A2 n2 c2) _ ?s1 ?s2).mono ?_; (case s1 => exact sb_up HS1.out (by with_reducible repeat (first | exact HB.out | refine below_drewN ?_ _ | refine pdrew ?_ | refine palloc ?_ _))); (case s2 => exact sb_up HS2.out (by with_reducible repeat (first | exact HB.out | refine below_drewN ?_ _ | refine pdrew ?_ | refine palloc ?_ _))); rintro e w4 ⟨rfl, hb4⟩; rw [hde]; have HB4 := Lib.hid (below_up (w := w) hb4 (by with_reducible repeat (first | exact HB.out | refine below_drewN ?_ _ | refine pdrew ?_ | refine palloc ?_ _))); clear hb4; have z1_0 : w4.cell? ⟨b, off + k * 7, none⟩ = some (.int .i64 q1.kind) := (rangeAt_below HR1.out HB4.out hb) 0 _ rfl; have z1_1 : w4.cell? ⟨b, off + k * 7 + 1, none⟩ = some (.int .i64 q1.gen) := (rangeAt_below HR1.out HB4.out hb) 1 _ rfl; have z1_2 : w4.cell? ⟨b, off + k * 7 + 2, none⟩ = some (.int .i64 q1.mark) := (rangeAt_below HR1.out HB4.out hb) 2 _ rfl; have z1_3 : w4.cell? ⟨b, off + k * 7 + 3, none⟩ = some (.int .i64 q1.index) := (rangeAt_below HR1.out HB4.out hb) 3 _ rfl; have z1_4 : w4.cell? ⟨b, off + k * 7 + 4, none⟩ = some (.int .i64 q1.part) := (rangeAt_below HR1.out HB4.out hb) 4 _ rfl; have z1_5 : w4.cell? ⟨b, off + k * 7 + 5, none⟩ = some (.int .i64 q1.parts) := (rangeAt_below HR1.out HB4.out hb) 5 _ rfl; have z1_6 : w4.cell? ⟨b, off + k * 7 + 6, none⟩ = some (.slice A1 n1 c1) := (rangeAt_below HR1.out HB4.out hb) 6 _ rfl; have z2_0 : w4.cell? ⟨b', off' + k * 7, none⟩ = some (.int .i64 q2.kind) := (rangeAt_below HR2.out HB4.out hb') 0 _ rfl; have z2_1 : w4.cell? ⟨b', off' + k * 7 + 1, none⟩ = some (.int .i64 q2.gen) := (rangeAt_below HR2.out HB4.out hb') 1 _ rfl; have z2_2 : w4.cell? ⟨b', off' + k * 7 + 2, none⟩ = some (.int .i64 q2.mark) := (rangeAt_below HR2.out HB4.out hb') 2 _ rfl; have z2_3 : w4.cell? ⟨b', off' + k * 7 + 3, none⟩ = some (.int .i64 q2.index) := (rangeAt_below HR2.out HB4.out hb') 3 _ rfl; have z2_4 : w4.cell? ⟨b', off' + k * 7 + 4, none⟩ = some (.int .i64 q2.part) := (rangeAt_below HR2.out HB4.out hb') 4 _ rfl; have z2_5 : w4.cell? ⟨b', off' + k * 7 + 5, none⟩ = some (.int .i64 q2.parts) := (rangeAt_below HR2.out HB4.out hb') 5 _ rfl; have z2_6 : w4.cell? ⟨b', off' + k * 7 + 6, none⟩ = some (.slice A2 n2 c2) := (rangeAt_below HR2.out HB4.out hb') 6 _ rfl))
          go_wp2
          go_roundw
          case rel =>
            refine ⟨k + 1, by omega, by go_num, HB4.out, fun j hj => ?_⟩
            by_cases e : j = k
            · subst e
              exact HEQ.out
            · exact HE.out j (by omega)
          case measure => simp [intOf]; omega
      · obtain rfl : k = n := by omega
        have hdt : dd = true := by
          rw [HDD.out]
          exact decide_eq_true (list_eq (HL.out.trans HL'.out.symm) (fun j hj => HE.out j (by rw [← HL.out]; exact hj)))
        have HDT := Lib.hid hdt; clear hdt
        go_wp2
        go_ret
        exact ⟨ret_bool HDT.out.symm, HB.out⟩
  · have hne : ((n : Int) != (n' : Int)) = true := by rw [bne_iff_ne]; omega
    rw [decide_eq_false (fun e : ps = qs => hnn (by rw [← hl, ← hl', e]))]
    go_enter Try.func27, Try.ntmps27
    go_wp2
    go_ret
    exact ⟨rfl, Below.refl _ _⟩
end Go.Proofs.Ytioledhbdehbpaa.Rcd
