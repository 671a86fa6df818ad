/- The pages that the first one tells of (layer 5): the contract of record.told; and slices.EqualFunc of pages by page.Same. -/
import Derived.Test.YtkidjlmjjfgknaaSplit
namespace Go.Proofs.Ytkidjlmjjfgknaa.Rcd
open Go.RowKit Go.Proofs.Ytkidjlmjjfgknaa.Mem Go.Proofs.Ytkidjlmjjfgknaa.Oct Go.Proofs.Ytkidjlmjjfgknaa.Pg
set_option linter.unusedVariables false
set_option linter.unusedSimpArgs false
theorem told_eq {l : List P} {T : Int} (h : (l.getD 0 noP).parts = T) (h0 : 0 < l.length) : told l = if 1 ≤ T ∧ T ≤ l.length ∧ T ≤ 16 then l.take T.toNat else [] := by
  cases l with
  | nil => simp at h0
  | cons q r =>
    subst h
    rfl
set_option maxRecDepth 20000 in
set_option maxHeartbeats 2000000 in
theorem told_any (A : Option Addr) (n c : Nat) (ps : List P) (w : World) (h : Pgs w w.heap.size (.slice A n c) ps) (hn : n ≤ 1000) :
    Calls Try.prog 33 #[.slice A n c] w fun e w' => (∃ A' k c', e = .returned (.slice A' k c') ∧ (told ps).length = k ∧ Pgs w w.heap.size (.slice A' k c') (told ps)) ∧ w = w' := by
  obtain ⟨hl, hnc, hcm⟩ := pgs_len h
  by_cases h0 : n = 0
  · subst h0
    have e : told ps = [] := by
      have : ps = [] := List.eq_nil_of_length_eq_zero hl
      subst this
      rfl
    rw [e]
    go_enter Try.func33, Try.ntmps33
    go_wp2
    go_ret
    exact ⟨⟨_, _, _, rfl, rfl, pgs_nil _ _⟩, rfl⟩
  · obtain ⟨b, off, rfl, hb, hc⟩ := pgs_at h (by omega)
    obtain ⟨vb, hr, _⟩ := hc 0 (by omega)
    have c5 := (row_cell hr).2.1
    generalize hT : (ps.getD 0 noP).parts = T at c5
    have ht := told_eq hT (by omega)
    rw [hl] at ht
    rw [show off + 0 * 7 + 5 = off + 5 by omega] at c5
    have h00 : ((n : Int) == 0) = false := by rw [beq_eq_false_iff_ne]; omega
    have HC := Lib.hid hc; clear hc
    have HT := Lib.hid hT; clear hT
    have HTT := Lib.hid ht; clear ht
    have HL := Lib.hid hl; clear hl
    have HR := Lib.hid hr; clear hr
    have HP := Lib.hid h; clear h
    by_cases h1 : T < 1
    · have hd : decide (T < 1) = true := by simpa using h1
      have e := HTT.out
      rw [if_neg (by omega)] at e
      rw [e]
      go_enter Try.func33, Try.ntmps33
      go_wp2
      go_ret
      exact ⟨⟨_, _, _, rfl, rfl, pgs_nil _ _⟩, rfl⟩
    · have hd : decide (T < 1) = false := by simpa using h1
      by_cases h2 : min (n : Int) 16 < T
      · have hd2 : decide (min (n : Int) 16 < T) = true := by simpa using h2
        have e := HTT.out
        rw [if_neg (by omega)] at e
        rw [e]
        go_enter Try.func33, Try.ntmps33
        go_wp2
        all_goals
          go_ret
          exact ⟨⟨_, _, _, rfl, rfl, pgs_nil _ _⟩, rfl⟩
      · have hd2 : decide (min (n : Int) 16 < T) = false := by simpa using h2
        obtain ⟨k, rfl⟩ : ∃ k : Nat, T = k := ⟨T.toNat, by omega⟩
        have e := HTT.out
        rw [if_pos (by omega), Int.toNat_natCast] at e
        rw [e]
        have hk : k ≤ n := by omega
        have hkc : k ≤ c := by omega
        have hk2 : k ≤ 16 := by omega
        go_enter Try.func33, Try.ntmps33
        go_wp2
        all_goals
          go_ret
          exact ⟨⟨_, _, _, rfl, by have := HL.out; first | omega | (rw [List.length_take]; omega), HP.out.take hk⟩, rfl⟩
theorem palloc {w w' : World} (h : Below w.heap.size w w') (o : Obj) : Below w.heap.size w (w'.alloc o) := h.alloc h.size o
theorem sb_up {w w' : World} {A : Option Addr} {n c : Nat} {xs : List Nat} (h : Bts w w.heap.size A n xs) (hb : Below w.heap.size w w') : Sb w' w'.heap.size (.slice A n c) xs := ⟨A, n, c, rfl, (h.below hb (Nat.le_refl _)).more hb.size⟩
theorem below_up {w w1 w2 : World} (h : Below w1.heap.size w1 w2) (hb : Below w.heap.size w w1) : Below w.heap.size w w2 := hb.trans (h.mono hb.size)
theorem getD_ne {ps qs : List P} {k : Nat} (h : ps.getD k noP ≠ qs.getD k noP) : ps ≠ qs := fun e => h (by rw [e])
theorem list_eq {ps qs : List P} (hl : ps.length = qs.length) (h : ∀ j, j < ps.length → ps.getD j noP = qs.getD j noP) : ps = qs := by
  apply List.ext_getElem hl
  intro i h1 h2
  have := h i h1
  simpa [List.getD, List.getElem?_eq_getElem h1, List.getElem?_eq_getElem h2] using this
set_option maxRecDepth 20000 in
set_option maxHeartbeats 4000000 in
theorem eqf_any (A A' : Option Addr) (n n' c c' : Nat) (ps qs : List P) (w : World) (h : Pgs w w.heap.size (.slice A n c) ps) (h' : Pgs w w.heap.size (.slice A' n' c') qs) (hn : n ≤ 1000) :
    Calls Try.prog 34 #[.slice A n c, .slice A' n' c', .func (.func 35) #[] #[]] w fun e w' => e = .returned (.bool (decide (ps = qs))) ∧ Below w.heap.size w w' := by
  obtain ⟨hl, hnc, hcm⟩ := pgs_len h
  obtain ⟨hl', hnc', hcm'⟩ := pgs_len h'
  by_cases hnn : n = n'
  · subst hnn
    obtain ⟨dd, hdd⟩ : ∃ dd, dd = decide (ps = qs) := ⟨_, rfl⟩
    rw [← hdd]
    have HDD := Lib.hid hdd; clear hdd
    have HL := Lib.hid hl; clear hl
    have HL' := Lib.hid hl'; clear hl'
    have HP := Lib.hid h; clear h
    have HP' := Lib.hid h'; clear h'
    go_enter Try.func34, Try.ntmps34
    go_wp2
    go_loopw [17] (fun i wr => ∃ k : Nat, k ≤ n ∧ i = .int .i64 k ∧ Below w.heap.size w wr ∧ ∀ j, j < k → ps.getD j noP = qs.getD j noP) (fun i _ => n - (intOf i).toNat)
    case atStart => exact ⟨0, Nat.zero_le _, rfl, Below.refl _ _, fun j hj => absurd hj (by omega)⟩
    case round =>
      obtain ⟨k, hk, rfl, hbw, heq⟩ := hrel
      have HB := Lib.hid hbw; clear hbw
      have HE := Lib.hid heq; clear heq
      by_cases hlt : k < n
      · obtain ⟨b, off, rfl, hb, hc⟩ := pgs_at HP.out (by omega)
        obtain ⟨b', off', rfl, hb', hc'⟩ := pgs_at HP'.out (by omega)
        obtain ⟨v1, hr1, hs1⟩ := hc k hlt
        obtain ⟨v2, hr2, hs2⟩ := hc' k hlt
        obtain ⟨q1, hq1⟩ : ∃ q, q = ps.getD k noP := ⟨_, rfl⟩
        obtain ⟨q2, hq2⟩ : ∃ q, q = qs.getD k noP := ⟨_, rfl⟩
        rw [← hq1] at hr1 hs1
        rw [← hq2] at hr2 hs2
        have HQ1 := Lib.hid hq1; clear hq1
        have HQ2 := Lib.hid hq2; clear hq2
        have HR1 := Lib.hid hr1; clear hr1
        have HR2 := Lib.hid hr2; clear hr2
        obtain ⟨A1, n1, c1, rfl, hbt1⟩ := hs1
        obtain ⟨A2, n2, c2, rfl, hbt2⟩ := hs2
        have HS1 := Lib.hid hbt1; clear hbt1
        have HS2 := Lib.hid hbt2; clear hbt2
        clear hc hc'
        cases hde : decide (q1 = q2)
        · have hne : ps.getD k noP ≠ qs.getD k noP := fun e => by
            rw [← HQ1.out, ← HQ2.out] at e
            rw [decide_eq_true e] at hde
            cases hde
          have hdf : dd = false := by rw [HDD.out]; exact decide_eq_false (getD_ne hne)
          have HDF := Lib.hid hdf; clear hdf hne
          go_wp2_with (first
            | (refine wpList_load_mid rfl 43 (.tmp 20) rfl b (off + k * 7) rfl [.int .i64 q1.kind, .int .i64 q1.gen, .int .i64 q1.mark, .int .i64 q1.index, .int .i64 q1.part, .int .i64 q1.parts, .slice A1 n1 c1] _ (rangeAt_below HR1.out ?hb1 hb) Try.underlying43 rfl (by rw [size24]; rfl) ?_; (case hb1 => with_reducible repeat (first | exact HB.out | refine below_drewN ?_ _ | refine pdrew ?_ | refine palloc ?_ _)))
            | (refine wpList_load_mid rfl 43 (.tmp 24) rfl b' (off' + k * 7) rfl [.int .i64 q2.kind, .int .i64 q2.gen, .int .i64 q2.mark, .int .i64 q2.index, .int .i64 q2.part, .int .i64 q2.parts, .slice A2 n2 c2] _ (rangeAt_below HR2.out ?hb1 hb') Try.underlying43 rfl (by rw [size24]; rfl) ?_; (case hb1 => with_reducible repeat (first | exact HB.out | refine below_drewN ?_ _ | refine pdrew ?_ | refine palloc ?_ _))))
          (refine (same_any q1 q2 (.slice A1 n1 c1) (.slice A2 n2 c2) _ ?s1 ?s2).mono ?_; (case s1 => exact sb_up HS1.out (by with_reducible repeat (first | exact HB.out | refine below_drewN ?_ _ | refine pdrew ?_ | refine palloc ?_ _))); (case s2 => exact sb_up HS2.out (by with_reducible repeat (first | exact HB.out | refine below_drewN ?_ _ | refine pdrew ?_ | refine palloc ?_ _))); rintro e w4 ⟨rfl, hb4⟩; rw [hde]; have HB4 := Lib.hid (below_up (w := w) hb4 (by with_reducible repeat (first | exact HB.out | refine below_drewN ?_ _ | refine pdrew ?_ | refine palloc ?_ _))); clear hb4)
          go_wp2
          go_ret
          exact ⟨ret_bool HDF.out.symm, HB4.out⟩
        · have heq : ps.getD k noP = qs.getD k noP := by
            rw [← HQ1.out, ← HQ2.out]
            exact of_decide_eq_true hde
          have HEQ := Lib.hid heq; clear heq
          go_wp2_with (first
            | (refine wpList_load_mid rfl 43 (.tmp 20) rfl b (off + k * 7) rfl [.int .i64 q1.kind, .int .i64 q1.gen, .int .i64 q1.mark, .int .i64 q1.index, .int .i64 q1.part, .int .i64 q1.parts, .slice A1 n1 c1] _ (rangeAt_below HR1.out ?hb1 hb) Try.underlying43 rfl (by rw [size24]; rfl) ?_; (case hb1 => with_reducible repeat (first | exact HB.out | refine below_drewN ?_ _ | refine pdrew ?_ | refine palloc ?_ _)))
            | (refine wpList_load_mid rfl 43 (.tmp 24) rfl b' (off' + k * 7) rfl [.int .i64 q2.kind, .int .i64 q2.gen, .int .i64 q2.mark, .int .i64 q2.index, .int .i64 q2.part, .int .i64 q2.parts, .slice A2 n2 c2] _ (rangeAt_below HR2.out ?hb1 hb') Try.underlying43 rfl (by rw [size24]; rfl) ?_; (case hb1 => with_reducible repeat (first | exact HB.out | refine below_drewN ?_ _ | refine pdrew ?_ | refine palloc ?_ _))))
          (refine (same_any q1 q2 (.slice A1 n1 c1) (.slice A2 n2 c2) _ ?s1 ?s2).mono ?_; (case s1 => exact sb_up HS1.out (by with_reducible repeat (first | exact HB.out | refine below_drewN ?_ _ | refine pdrew ?_ | refine palloc ?_ _))); (case s2 => exact sb_up HS2.out (by with_reducible repeat (first | exact HB.out | refine below_drewN ?_ _ | refine pdrew ?_ | refine palloc ?_ _))); rintro e w4 ⟨rfl, hb4⟩; rw [hde]; have HB4 := Lib.hid (below_up (w := w) hb4 (by with_reducible repeat (first | exact HB.out | refine below_drewN ?_ _ | refine pdrew ?_ | refine palloc ?_ _))); clear hb4)
          go_wp2
          go_roundw
          case rel =>
            refine ⟨k + 1, by omega, by go_num, HB4.out, fun j hj => ?_⟩
            by_cases e : j = k
            · subst e
              exact HEQ.out
            · exact HE.out j (by omega)
          case measure => simp [intOf]; omega
      · obtain rfl : k = n := by omega
        have hdt : dd = true := by
          rw [HDD.out]
          exact decide_eq_true (list_eq (HL.out.trans HL'.out.symm) (fun j hj => HE.out j (by rw [← HL.out]; exact hj)))
        have HDT := Lib.hid hdt; clear hdt
        go_wp2
        go_ret
        exact ⟨ret_bool HDT.out.symm, HB.out⟩
  · have hne : ((n : Int) != (n' : Int)) = true := by rw [bne_iff_ne]; omega
    rw [decide_eq_false (fun e : ps = qs => hnn (by rw [← hl, ← hl', e]))]
    go_enter Try.func34, Try.ntmps34
    go_wp2
    go_ret
    exact ⟨rfl, Below.refl _ _⟩
end Go.Proofs.Ytkidjlmjjfgknaa.Rcd
