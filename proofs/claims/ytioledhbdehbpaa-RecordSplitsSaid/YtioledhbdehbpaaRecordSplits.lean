/- RecordSplits (layer 5): the pages of any record, and that they are joined: the walk, and the law. -/
import Derived.Test.YtioledhbdehbpaaRecordJoins
import Derived.Test.YtioledhbdehbpaaOwnApp
import Derived.Test.YtioledhbdehbpaaAgg
namespace Go.Proofs.Ytioledhbdehbpaa.recordSplits
open Go.RowKit Go.Proofs.Ytioledhbdehbpaa.Mem Go.Proofs.Ytioledhbdehbpaa.Oct Go.Proofs.Ytioledhbdehbpaa.Pg Go.Proofs.Ytioledhbdehbpaa.Rcd
set_option linter.unusedVariables false
set_option linter.unusedSimpArgs false
theorem isRecs_below {w w' : World} {A : Option Addr} {n c : Nat} (hb : Below w.heap.size w w') (h : IsRecs w A n c 7 (PgR w)) : IsRecs w' A n c 7 (PgR w') := by
  rcases h with h | ⟨x, e, h1, h2, h3⟩
  · exact .inl h
  · refine .inr ⟨x, e, h1, h2, fun i hi j hj => ?_⟩
    obtain ⟨v, h4, h5⟩ := h3 i hi j hj
    refine ⟨v, (hb.cell (by have := block_lt_of_cell h4; exact this)).trans h4, ?_⟩
    match j, h5 with
    | 0, h5 => exact h5
    | 1, h5 => exact h5
    | 2, h5 => exact h5
    | 3, h5 => exact h5
    | 4, h5 => exact h5
    | 5, h5 => exact h5
    | 6, h5 =>
      obtain ⟨A, l, c, zs, e, hr⟩ := h5
      refine ⟨A, l, c, zs, e, ?_⟩
      rcases hr with hr | ⟨y, e1, e2, e3, e4, e5, e6⟩
      · exact .inl hr
      · exact .inr ⟨y, e1, e2, e3, e4, fun i hi => (hb.cell (by have := block_lt_of_cell (e5 i hi); exact this)).trans (e5 i hi), e6⟩
    | j + 7, h5 => trivial
theorem all_fits {p : P} {b : List Nat} (h : b.length ≤ 7808) : (pages p b).all P.may = fits p b := by
  simp [fits, parts_pos h]
set_option maxRecDepth 20000 in
set_option maxHeartbeats 2000000 in
theorem splits_long (p : P) (Ap A Am : Option Addr) (np cp n c nm cm : Nat) (N : Int) (w : World) (h : 9000 < n) :
    Calls Try.prog 6 #[.agg #[.int .i64 p.kind, .int .i64 p.gen, .int .i64 p.mark, .int .i64 p.index, .int .i64 p.part, .int .i64 p.parts, .slice Ap np cp], .slice A n c, .agg #[.slice Am nm cm, .int .i64 N]] w fun e w' => e = .returned (.bool true) ∧ Below w.heap.size w w' := by
  have hd : decide ((9000 : Int) < (n : Int)) = true := by simp only [decide_eq_true_eq]; omega
  go_enter Try.func6, Try.ntmps6
  go_wp2
  go_quiet (fail)
  go_wp2_with (go_at_call 20; refine (awake5_any _).mono ?_; rintro e w2 ⟨rfl, hb2⟩; have HB2 := Lib.hid (below_up (w := w) hb2 (by with_reducible repeat (first | exact Below.refl _ _ | refine below_drewN ?_ _ | refine pdrew ?_ | refine palloc ?_ _))); clear hb2)
  go_ret
  exact ⟨rfl, HB2.out⟩
set_option maxRecDepth 20000 in
set_option maxHeartbeats 2000000 in
theorem splits_big (p : P) (Ap A Am : Option Addr) (np cp n c nm cm : Nat) (N : Int) (w : World) (h : n ≤ 9000) (h2 : 600 < np) :
    Calls Try.prog 6 #[.agg #[.int .i64 p.kind, .int .i64 p.gen, .int .i64 p.mark, .int .i64 p.index, .int .i64 p.part, .int .i64 p.parts, .slice Ap np cp], .slice A n c, .agg #[.slice Am nm cm, .int .i64 N]] w fun e w' => e = .returned (.bool true) ∧ Below w.heap.size w w' := by
  have hd : decide ((9000 : Int) < (n : Int)) = false := by simp only [decide_eq_false_iff_not]; omega
  have hd2 : decide ((600 : Int) < (np : Int)) = true := by simp only [decide_eq_true_eq]; omega
  go_enter Try.func6, Try.ntmps6
  go_wp2
  go_quiet (fail)
  go_wp2_with (go_at_call 20; refine (awake5_any _).mono ?_; rintro e w2 ⟨rfl, hb2⟩; have HB2 := Lib.hid (below_up (w := w) hb2 (by with_reducible repeat (first | exact Below.refl _ _ | refine below_drewN ?_ _ | refine pdrew ?_ | refine palloc ?_ _))); clear hb2)
  go_ret
  exact ⟨rfl, HB2.out⟩
set_option maxRecDepth 20000 in
set_option maxHeartbeats 8000000 in
theorem splits_true (p : P) (Ap A Am : Option Addr) (np cp n c nm cm : Nat) (N : Int) (bs : List Nat) (w : World) (h : n ≤ 9000) (h2 : np ≤ 600) (hx : In64 p.index)
    (hb : Sl w w.heap.size (.slice A n c) bs) (hm : IsRecs w Am nm cm 7 (PgR w)) :
    Calls Try.prog 6 #[.agg #[.int .i64 p.kind, .int .i64 p.gen, .int .i64 p.mark, .int .i64 p.index, .int .i64 p.part, .int .i64 p.parts, .slice Ap np cp], .slice A n c, .agg #[.slice Am nm cm, .int .i64 N]] w fun e w' => e = .returned (.bool true) ∧ Below w.heap.size w w' := by
  have hd : decide ((9000 : Int) < (n : Int)) = false := by simp only [decide_eq_false_iff_not]; omega
  have hd2 : decide ((600 : Int) < (np : Int)) = false := by simp only [decide_eq_false_iff_not]; omega
  have hbl : bs.length = n := by
    obtain ⟨A', n', c', e, h1, _⟩ := hb
    injection e with e1 e2 e3
    subst e1 e2 e3
    exact h1.1
  have hb0 := palloc (palloc (Below.refl w.heap.size w) (Obj.cells #[.int .i64 p.kind, .int .i64 p.gen, .int .i64 p.mark, .int .i64 p.index, .int .i64 p.part, .int .i64 p.parts, .slice Ap np cp] 24)) (Obj.cells #[.slice Am nm cm, .int .i64 N] 44)
  have kb0 := (Blk.new w 24 #[.int .i64 p.kind, .int .i64 p.gen, .int .i64 p.mark, .int .i64 p.index, .int .i64 p.part, .int .i64 p.parts, .slice Ap np cp]).alloc (Obj.cells #[.slice Am nm cm, .int .i64 N] 44)
  have hm0 : IsRecs ((w.alloc (Obj.cells #[.int .i64 p.kind, .int .i64 p.gen, .int .i64 p.mark, .int .i64 p.index, .int .i64 p.part, .int .i64 p.parts, .slice Ap np cp] 24)).alloc (Obj.cells #[.slice Am nm cm, .int .i64 N] 44)) Am nm cm 7 (PgR _) := isRecs_below hb0 hm
  have HB0 := Lib.hid hb0; clear hb0
  have KB0 := Lib.hid kb0; clear kb0
  have HM := Lib.hid hm; clear hm
  have HBS := Lib.hid hb; clear hb
  have HBL := Lib.hid hbl; clear hbl
  go_enter Try.func6, Try.ntmps6
  go_wp2
  go_quiet (fail)
  go_wp2_with fail
  refine (light_any Am nm cm _ (isRecs_below (w := w) (below_drewN HB0.out nq) HM.out)).mono ?_
  rintro e w1 ⟨ok, rfl, hok, mq, rfl⟩
  have HB := Lib.hid (below_drewN (below_drewN HB0.out nq) mq)
  have KB := Lib.hid (Blk.drewN (Blk.drewN KB0.out nq) mq)
  cases ok
  · generalize hW : World.drewN (World.drewN _ nq) mq = W1 at HB KB ⊢
    clear hW
    go_wp2_with (first
      | (go_at_call 20; refine (awake5_any _).mono ?_; rintro e w9 ⟨rfl, hb9⟩; have HB9 := Lib.hid (below_up (w := w) hb9 (by with_reducible repeat (first | exact HB.out | refine below_drewN ?_ _ | refine pdrew ?_ | refine palloc ?_ _))); clear hb9))
    go_ret
    exact ⟨rfl, HB9.out⟩
  · obtain ⟨hn, hs⟩ := hok rfl
    obtain ⟨ps, hpg, hlen, hin⟩ := pgs_in (isRecs_below (w := w) (below_drewN HB0.out nq) HM.out) hs
    have hpg2 := pgs_up (below_drewN (Below.refl _ _) mq) hpg
    have HPG := Lib.hid hpg2; clear hpg2
    have hpl := (pgs_len hpg).1
    have HPL := Lib.hid hpl; clear hpl
    have HLEN := Lib.hid hlen; clear hlen
    have HIN := Lib.hid hin; clear hin
    clear hok hs hpg HB0 KB0 HM
    generalize hW : World.drewN (World.drewN _ nq) mq = W1 at HB KB HPG ⊢
    clear hW
    have b_0 := KB.out.cell 0
    have b_1 := KB.out.cell 1
    have b_2 := KB.out.cell 2
    have b_3 := KB.out.cell 3
    have b_4 := KB.out.cell 4
    have b_5 := KB.out.cell 5
    have b_6 := KB.out.cell 6
    simp at b_0 b_1 b_2 b_3 b_4 b_5 b_6
    have spl := fun (W : World) (hW : Below w.heap.size w W) => split_any p (.slice Ap np cp) A n c bs W ((HBS.out.below hW (Nat.le_refl _)).more hW.size) HBL.out hx
    have rp := fun (W : World) => rparts_any (n : Int) W
    rw [partsI_nat] at rp
    by_cases hA : 7808 < n
    · rw [fits_none (by rw [HBL.out]; exact parts_zero hA), if_pos hA, if_neg (by simp : ¬ false = true)] at spl
      rw [parts_zero hA] at rp
      have e0 : ((0 : Nat) : Int) = 0 := rfl
      rw [e0] at rp
      clear e0
      have SPL := Lib.hid spl; clear spl
      have RP := Lib.hid rp; clear rp
      go_wp2_with (first
        | (go_at_call 21; refine (parts_any N _).mono ?_; rintro e w' ⟨rfl, rfl⟩)
        | (go_at_call 22; first | (with_reducible refine (rparts_any N _).mono ?_; rintro e w' ⟨rfl, rfl⟩) | (refine (RP.out _).mono ?_; rintro e w' ⟨rfl, rfl⟩))
        | (refine wpList_load_row rfl 24 (.tmp 3) rfl w.heap.size rfl 24 #[.int .i64 p.kind, .int .i64 p.gen, .int .i64 p.mark, .int .i64 p.index, .int .i64 p.part, .int .i64 p.parts, .slice Ap np cp] (0, 0) _ KB.out Try.underlying24 rfl (by rw [size24]; rfl) ?_)
        | (go_at_call 23; refine (SPL.out _ ?hb).mono ?_; (case hb => with_reducible repeat (first | exact HB.out | refine below_drewN ?_ _ | refine pdrew ?_ | refine palloc ?_ _)); rintro e w3 ⟨v3, rfl, hp3, hb3⟩; obtain ⟨A3, n3, c3, rfl, _⟩ := id hp3; have hn3 : n3 = 0 := (pgs_len hp3).1.symm; subst hn3; have HP3 := Lib.hid hp3; clear hp3; have HBn := Lib.hid (below_up (w := w) hb3 (by with_reducible repeat (first | exact HB.out | refine below_drewN ?_ _ | refine pdrew ?_ | refine palloc ?_ _))); clear HB; have HB := HBn; clear HBn; have KBn := Lib.hid (blk_up hb3 KB.out); clear KB; have KB := KBn; clear KBn; have b_0 := KB.out.cell 0; have b_1 := KB.out.cell 1; have b_2 := KB.out.cell 2; have b_3 := KB.out.cell 3; have b_4 := KB.out.cell 4; have b_5 := KB.out.cell 5; have b_6 := KB.out.cell 6; simp at b_0 b_1 b_2 b_3 b_4 b_5 b_6; clear hb3)
        | (go_at_call 20; refine (awake5_any _).mono ?_; rintro e w9 ⟨rfl, hb9⟩; have HB9 := Lib.hid (below_up (w := w) hb9 (by with_reducible repeat (first | exact HB.out | refine below_drewN ?_ _ | refine pdrew ?_ | refine palloc ?_ _))); clear hb9))
      go_ret
      exact ⟨rfl, HB9.out⟩
    · have hpp : ((parts n : Nat) : Int) ≠ 0 := by have := parts_pos (Nat.le_of_not_lt hA); omega
      have hp0 : (((parts n : Nat) : Int) == 0) = false := by rw [beq_eq_false_iff_ne]; exact hpp
      obtain ⟨pn, hpn⟩ : ∃ pn, pn = parts n := ⟨_, rfl⟩
      rw [← hpn] at rp hp0
      have HPN := Lib.hid hpn; clear hpn
      have RP := Lib.hid rp; clear rp hpp
      have h78 : n ≤ 7808 := Nat.le_of_not_lt hA
      rw [if_neg hA] at spl
      clear hA
      cases hf : fits p bs
      · rw [hf, if_neg (by simp : ¬ false = true), if_neg (by simp : ¬ false = true)] at spl
        have SPL := Lib.hid spl; clear spl
        by_cases hi0 : p.index < 0
        · have hd3 : decide (p.index < 0) = true := by simpa using hi0
          clear hi0
          go_wp2_with (first
            | (go_at_call 21; refine (parts_any N _).mono ?_; rintro e w' ⟨rfl, rfl⟩)
            | (go_at_call 22; first | (with_reducible refine (rparts_any N _).mono ?_; rintro e w' ⟨rfl, rfl⟩) | (refine (RP.out _).mono ?_; rintro e w' ⟨rfl, rfl⟩))
            | (refine wpList_load_row rfl 24 (.tmp 3) rfl w.heap.size rfl 24 #[.int .i64 p.kind, .int .i64 p.gen, .int .i64 p.mark, .int .i64 p.index, .int .i64 p.part, .int .i64 p.parts, .slice Ap np cp] (0, 0) _ KB.out Try.underlying24 rfl (by rw [size24]; rfl) ?_)
            | (go_at_call 23; refine (SPL.out _ ?hb).mono ?_; (case hb => with_reducible repeat (first | exact HB.out | refine below_drewN ?_ _ | refine pdrew ?_ | refine palloc ?_ _)); rintro e w3 ⟨v3, rfl, hp3, hb3⟩; obtain ⟨A3, n3, c3, rfl, _⟩ := id hp3; have hn3 : n3 = 0 := (pgs_len hp3).1.symm; subst hn3; have HP3 := Lib.hid hp3; clear hp3; have HBn := Lib.hid (below_up (w := w) hb3 (by with_reducible repeat (first | exact HB.out | refine below_drewN ?_ _ | refine pdrew ?_ | refine palloc ?_ _))); clear HB; have HB := HBn; clear HBn; have KBn := Lib.hid (blk_up hb3 KB.out); clear KB; have KB := KBn; clear KBn; have b_0 := KB.out.cell 0; have b_1 := KB.out.cell 1; have b_2 := KB.out.cell 2; have b_3 := KB.out.cell 3; have b_4 := KB.out.cell 4; have b_5 := KB.out.cell 5; have b_6 := KB.out.cell 6; simp at b_0 b_1 b_2 b_3 b_4 b_5 b_6; clear hb3)
            | (go_at_call 20; refine (awake5_any _).mono ?_; rintro e w9 ⟨rfl, hb9⟩; have HB9 := Lib.hid (below_up (w := w) hb9 (by with_reducible repeat (first | exact HB.out | refine below_drewN ?_ _ | refine pdrew ?_ | refine palloc ?_ _))); clear hb9))
          go_ret
          exact ⟨rfl, HB9.out⟩
        · have hd3 : decide (p.index < 0) = false := by simpa using hi0
          by_cases hi1 : 2147483648 < p.index
          · have hd4 : decide (2147483648 < p.index) = true := by simpa using hi1
            clear hi0 hi1
            go_wp2_with (first
              | (go_at_call 21; refine (parts_any N _).mono ?_; rintro e w' ⟨rfl, rfl⟩)
              | (go_at_call 22; first | (with_reducible refine (rparts_any N _).mono ?_; rintro e w' ⟨rfl, rfl⟩) | (refine (RP.out _).mono ?_; rintro e w' ⟨rfl, rfl⟩))
              | (refine wpList_load_row rfl 24 (.tmp 3) rfl w.heap.size rfl 24 #[.int .i64 p.kind, .int .i64 p.gen, .int .i64 p.mark, .int .i64 p.index, .int .i64 p.part, .int .i64 p.parts, .slice Ap np cp] (0, 0) _ KB.out Try.underlying24 rfl (by rw [size24]; rfl) ?_)
              | (go_at_call 23; refine (SPL.out _ ?hb).mono ?_; (case hb => with_reducible repeat (first | exact HB.out | refine below_drewN ?_ _ | refine pdrew ?_ | refine palloc ?_ _)); rintro e w3 ⟨v3, rfl, hp3, hb3⟩; obtain ⟨A3, n3, c3, rfl, _⟩ := id hp3; have hn3 : n3 = 0 := (pgs_len hp3).1.symm; subst hn3; have HP3 := Lib.hid hp3; clear hp3; have HBn := Lib.hid (below_up (w := w) hb3 (by with_reducible repeat (first | exact HB.out | refine below_drewN ?_ _ | refine pdrew ?_ | refine palloc ?_ _))); clear HB; have HB := HBn; clear HBn; have KBn := Lib.hid (blk_up hb3 KB.out); clear KB; have KB := KBn; clear KBn; have b_0 := KB.out.cell 0; have b_1 := KB.out.cell 1; have b_2 := KB.out.cell 2; have b_3 := KB.out.cell 3; have b_4 := KB.out.cell 4; have b_5 := KB.out.cell 5; have b_6 := KB.out.cell 6; simp at b_0 b_1 b_2 b_3 b_4 b_5 b_6; clear hb3)
              | (go_at_call 20; refine (awake5_any _).mono ?_; rintro e w9 ⟨rfl, hb9⟩; have HB9 := Lib.hid (below_up (w := w) hb9 (by with_reducible repeat (first | exact HB.out | refine below_drewN ?_ _ | refine pdrew ?_ | refine palloc ?_ _))); clear hb9))
            go_ret
            exact ⟨rfl, HB9.out⟩
          · have hd4 : decide (2147483648 < p.index) = false := by simpa using hi1
            have rsp := fun (W : World) (hW : Below w.heap.size w W) => rsplit_any p (.slice Ap np cp) A n c bs W ((HBS.out.below hW (Nat.le_refl _)).more hW.size) HBL.out (by omega) (by omega)
            have RSP := Lib.hid rsp; clear rsp
            have hall : (pages p bs).all P.may = false := by rw [all_fits (by rw [HBL.out]; exact h78), hf]
            have HALL := Lib.hid hall; clear hall
            have HPLN := Lib.hid (by rw [pages_length]; exact parts_le _ : (pages p bs).length ≤ 16)
            clear hi0 hi1
            go_wp2_with (first
              | (go_at_call 21; refine (parts_any N _).mono ?_; rintro e w' ⟨rfl, rfl⟩)
              | (go_at_call 22; first | (with_reducible refine (rparts_any N _).mono ?_; rintro e w' ⟨rfl, rfl⟩) | (refine (RP.out _).mono ?_; rintro e w' ⟨rfl, rfl⟩))
              | (refine wpList_load_row rfl 24 (.tmp 3) rfl w.heap.size rfl 24 #[.int .i64 p.kind, .int .i64 p.gen, .int .i64 p.mark, .int .i64 p.index, .int .i64 p.part, .int .i64 p.parts, .slice Ap np cp] (0, 0) _ KB.out Try.underlying24 rfl (by rw [size24]; rfl) ?_)
              | (go_at_call 23; refine (SPL.out _ ?hb).mono ?_; (case hb => with_reducible repeat (first | exact HB.out | refine below_drewN ?_ _ | refine pdrew ?_ | refine palloc ?_ _)); rintro e w3 ⟨v3, rfl, hp3, hb3⟩; obtain ⟨A3, n3, c3, rfl, _⟩ := id hp3; have hn3 : n3 = 0 := (pgs_len hp3).1.symm; subst hn3; have HP3 := Lib.hid hp3; clear hp3; have HBn := Lib.hid (below_up (w := w) hb3 (by with_reducible repeat (first | exact HB.out | refine below_drewN ?_ _ | refine pdrew ?_ | refine palloc ?_ _))); clear HB; have HB := HBn; clear HBn; have KBn := Lib.hid (blk_up hb3 KB.out); clear KB; have KB := KBn; clear KBn; have b_0 := KB.out.cell 0; have b_1 := KB.out.cell 1; have b_2 := KB.out.cell 2; have b_3 := KB.out.cell 3; have b_4 := KB.out.cell 4; have b_5 := KB.out.cell 5; have b_6 := KB.out.cell 6; simp at b_0 b_1 b_2 b_3 b_4 b_5 b_6; clear hb3)
              | (go_at_call 25; refine (RSP.out _ ?hb).mono ?_; (case hb => with_reducible repeat (first | exact HB.out | refine below_drewN ?_ _ | refine pdrew ?_ | refine palloc ?_ _)); rintro e w4 ⟨v4, rfl, ho4, hb4⟩; have hp4 := own_pgs ho4; obtain ⟨A4, n4, c4, rfl, _⟩ := id hp4; have hn4 := (pgs_len hp4).1; have HN4 := Lib.hid hn4; clear hn4; have HP4 := Lib.hid hp4; clear hp4 ho4; have HP3n := Lib.hid (pgs_up hb4 HP3.out); clear HP3; have HP3 := HP3n; clear HP3n; have HBn := Lib.hid (below_up (w := w) hb4 (by with_reducible repeat (first | exact HB.out | refine below_drewN ?_ _ | refine pdrew ?_ | refine palloc ?_ _))); clear HB; have HB := HBn; clear HBn; have KBn := Lib.hid (blk_up hb4 KB.out); clear KB; have KB := KBn; clear KBn; have b_0 := KB.out.cell 0; have b_1 := KB.out.cell 1; have b_2 := KB.out.cell 2; have b_3 := KB.out.cell 3; have b_4 := KB.out.cell 4; have b_5 := KB.out.cell 5; have b_6 := KB.out.cell 6; simp at b_0 b_1 b_2 b_3 b_4 b_5 b_6; clear hb4)
              | (go_at_call 24; refine (rmays_any A4 n4 c4 _ _ HP4.out ?hn4).mono ?_; (case hn4 => (have := HN4.out; have := HPLN.out; omega)); rintro e w5 ⟨rfl, hb5⟩; rw [HALL.out]; have HP3n := Lib.hid (pgs_up hb5 HP3.out); clear HP3; have HP3 := HP3n; clear HP3n; have HBn := Lib.hid (below_up (w := w) hb5 (by with_reducible repeat (first | exact HB.out | refine below_drewN ?_ _ | refine pdrew ?_ | refine palloc ?_ _))); clear HB; have HB := HBn; clear HBn; have KBn := Lib.hid (blk_up hb5 KB.out); clear KB; have KB := KBn; clear KBn; have b_0 := KB.out.cell 0; have b_1 := KB.out.cell 1; have b_2 := KB.out.cell 2; have b_3 := KB.out.cell 3; have b_4 := KB.out.cell 4; have b_5 := KB.out.cell 5; have b_6 := KB.out.cell 6; simp at b_0 b_1 b_2 b_3 b_4 b_5 b_6; clear hb5)
              | (go_at_call 20; refine (awake5_any _).mono ?_; rintro e w9 ⟨rfl, hb9⟩; have HB9 := Lib.hid (below_up (w := w) hb9 (by with_reducible repeat (first | exact HB.out | refine below_drewN ?_ _ | refine pdrew ?_ | refine palloc ?_ _))); clear hb9))
            go_ret
            exact ⟨rfl, HB9.out⟩
      · rw [hf, if_pos rfl, if_pos rfl] at spl
        have SPL := Lib.hid spl; clear spl
        have hmem : nth p bs (parts bs.length) 0 ∈ pages p bs := by
          obtain ⟨r, hr⟩ := pages_cons (p := p) (b := bs) (by rw [HBL.out]; exact h78)
          rw [hr]
          simp
        have hix : 0 ≤ p.index ∧ p.index ≤ 2147483648 := by
          have h1 := hf
          simp only [fits, Bool.and_eq_true] at h1
          have h3 := win_yes ((may_iff _).1 (List.all_eq_true.1 h1.2 _ hmem)).i
          simp only [nth] at h3
          omega
        have hd3 : decide (p.index < 0) = false := by simp only [decide_eq_false_iff_not]; omega
        have hd4 : decide (2147483648 < p.index) = false := by simp only [decide_eq_false_iff_not]; omega
        have rsp := fun (W : World) (hW : Below w.heap.size w W) => rsplit_any p (.slice Ap np cp) A n c bs W ((HBS.out.below hW (Nat.le_refl _)).more hW.size) HBL.out hix.1 hix.2
        have RSP := Lib.hid rsp; clear rsp
        have hall : (pages p bs).all P.may = true := by rw [all_fits (by rw [HBL.out]; exact h78), hf]
        have HALL := Lib.hid hall; clear hall
        have HPLN := Lib.hid (by rw [pages_length]; exact parts_le _ : (pages p bs).length ≤ 16)
        have hjo : joined (pages p bs ++ ps) = some (bs, pn) := by rw [join_pages ps hf, HBL.out, HPN.out]
        have hjb : jb (pages p bs ++ ps) = (bs, pn) := jb_some hjo
        have jn := fun (A7 : Option Addr) (n7 c7 : Nat) (W : World) (h : Pgs W W.heap.size (.slice A7 n7 c7) (pages p bs ++ ps)) (hn7 : (pages p bs ++ ps).length = n7) => join_any A7 n7 c7 (pages p bs ++ ps) W h (by rw [List.length_append, HPL.out] at hn7; have := HPLN.out; omega)
          (fun q hq => by rcases List.mem_append.1 hq with h | h; exact (fits_mem hf h).1; exact HLEN.out q h) (fun q hq => by rcases List.mem_append.1 hq with h | h; exact (fits_mem hf h).2; exact HIN.out q h)
        rw [hjo, hjb] at jn
        have JN := Lib.hid jn; clear jn
        have hpn16 : pn ≤ 16 := by rw [HPN.out]; exact parts_le n
        obtain ⟨i0, hi, hz0, hz1, hz2⟩ := info_parts info24
        have HI := Lib.hid hi; clear hi
        have HZ0 := Lib.hid hz0; clear hz0
        have HZ1 := Lib.hid hz1; clear hz1
        have HZ2 := Lib.hid hz2; clear hz2
        clear hix hmem hjo hjb
        go_wp2_with (first
          | (go_at_call 21; refine (parts_any N _).mono ?_; rintro e w' ⟨rfl, rfl⟩)
          | (go_at_call 22; first | (with_reducible refine (rparts_any N _).mono ?_; rintro e w' ⟨rfl, rfl⟩) | (refine (RP.out _).mono ?_; rintro e w' ⟨rfl, rfl⟩))
          | (refine wpList_load_row rfl 24 (.tmp 3) rfl w.heap.size rfl 24 #[.int .i64 p.kind, .int .i64 p.gen, .int .i64 p.mark, .int .i64 p.index, .int .i64 p.part, .int .i64 p.parts, .slice Ap np cp] (0, 0) _ KB.out Try.underlying24 rfl (by rw [size24]; rfl) ?_)
          | (go_at_call 23; refine (SPL.out _ ?hb).mono ?_; (case hb => with_reducible repeat (first | exact HB.out | refine below_drewN ?_ _ | refine pdrew ?_ | refine palloc ?_ _)); rintro e w3 ⟨v3, rfl, hp3, hb3⟩; obtain ⟨A3, n3, c3, rfl, _⟩ := id hp3; have hn3 : pn = n3 := (by rw [← (pgs_len hp3).1, pages_length, HBL.out, HPN.out]); subst hn3; have HP3 := Lib.hid hp3; clear hp3; (first | (have HPGn := Lib.hid (pgs_up hb3 HPG.out); clear HPG; have HPG := HPGn; clear HPGn) | skip); (first | (have HS8n := Lib.hid ((HS8.out.below hb3 (Nat.le_refl _)).more (Below.size hb3)); clear HS8; have HS8 := HS8n; clear HS8n) | skip); have HBn := Lib.hid (below_up (w := w) hb3 (by with_reducible repeat (first | exact HB.out | refine below_drewN ?_ _ | refine pdrew ?_ | refine palloc ?_ _))); clear HB; have HB := HBn; clear HBn; have KBn := Lib.hid (blk_up hb3 KB.out); clear KB; have KB := KBn; clear KBn; have b_0 := KB.out.cell 0; have b_1 := KB.out.cell 1; have b_2 := KB.out.cell 2; have b_3 := KB.out.cell 3; have b_4 := KB.out.cell 4; have b_5 := KB.out.cell 5; have b_6 := KB.out.cell 6; simp at b_0 b_1 b_2 b_3 b_4 b_5 b_6; clear hb3)
          | (go_at_call 25; refine (RSP.out _ ?hb).mono ?_; (case hb => with_reducible repeat (first | exact HB.out | refine below_drewN ?_ _ | refine pdrew ?_ | refine palloc ?_ _)); rintro e w4 ⟨v4, rfl, ho4, hb4⟩; have hp4 := own_pgs ho4; obtain ⟨A4, n4, c4, rfl, _⟩ := id hp4; have hn4 := (pgs_len hp4).1; have HN4 := Lib.hid hn4; clear hn4; have HP4 := Lib.hid hp4; clear hp4 ho4; have HP3n := Lib.hid (pgs_up hb4 HP3.out); clear HP3; have HP3 := HP3n; clear HP3n; (first | (have HPGn := Lib.hid (pgs_up hb4 HPG.out); clear HPG; have HPG := HPGn; clear HPGn) | skip); (first | (have HS8n := Lib.hid ((HS8.out.below hb4 (Nat.le_refl _)).more (Below.size hb4)); clear HS8; have HS8 := HS8n; clear HS8n) | skip); have HBn := Lib.hid (below_up (w := w) hb4 (by with_reducible repeat (first | exact HB.out | refine below_drewN ?_ _ | refine pdrew ?_ | refine palloc ?_ _))); clear HB; have HB := HBn; clear HBn; have KBn := Lib.hid (blk_up hb4 KB.out); clear KB; have KB := KBn; clear KBn; have b_0 := KB.out.cell 0; have b_1 := KB.out.cell 1; have b_2 := KB.out.cell 2; have b_3 := KB.out.cell 3; have b_4 := KB.out.cell 4; have b_5 := KB.out.cell 5; have b_6 := KB.out.cell 6; simp at b_0 b_1 b_2 b_3 b_4 b_5 b_6; clear hb4)
          | (go_at_call 24; refine (rmays_any A4 n4 c4 _ _ HP4.out ?hn4).mono ?_; (case hn4 => (have := HN4.out; have := HPLN.out; omega)); rintro e w5 ⟨rfl, hb5⟩; rw [HALL.out]; have HP3n := Lib.hid (pgs_up hb5 HP3.out); clear HP3; have HP3 := HP3n; clear HP3n; (first | (have HPGn := Lib.hid (pgs_up hb5 HPG.out); clear HPG; have HPG := HPGn; clear HPGn) | skip); (first | (have HS8n := Lib.hid ((HS8.out.below hb5 (Nat.le_refl _)).more (Below.size hb5)); clear HS8; have HS8 := HS8n; clear HS8n) | skip); have HBn := Lib.hid (below_up (w := w) hb5 (by with_reducible repeat (first | exact HB.out | refine below_drewN ?_ _ | refine pdrew ?_ | refine palloc ?_ _))); clear HB; have HB := HBn; clear HBn; have KBn := Lib.hid (blk_up hb5 KB.out); clear KB; have KB := KBn; clear KBn; have b_0 := KB.out.cell 0; have b_1 := KB.out.cell 1; have b_2 := KB.out.cell 2; have b_3 := KB.out.cell 3; have b_4 := KB.out.cell 4; have b_5 := KB.out.cell 5; have b_6 := KB.out.cell 6; simp at b_0 b_1 b_2 b_3 b_4 b_5 b_6; clear hb5; obtain ⟨us3, hsr3⟩ := src_of HP3.out; have HSR3 := Lib.hid hsr3; clear hsr3; obtain ⟨us6, hsr6⟩ := src_of HPG.out; have HSR6 := Lib.hid hsr6; clear hsr6)
          | (at_builtin; refine wpList_append_any _ rfl (.tmp 84) (.tmp 85) 42 rfl w5.heap.size 24 i0 zPg 7 72 Try.underlying42 HI.out HZ0.out HZ1.out HZ2.out rfl (by decide) (.slice (some ⟨w5.heap.size, 0, none⟩) 0 0) 0 [] rfl (own_lit24 w5 _ (Nat.le_refl _)) w5.heap.size A3 pn c3 (flat (pages p bs) us3) rfl (Reads.alloc HSR3.out.reads (Nat.le_refl _) _) HSR3.out.ones ?h63 ?hby ?hbase ?_; (case h63 => unfold maxLen; omega); (case hby => omega); (case hbase => simp); intro v6 w6 hown6 hg6 hv6; obtain ⟨ho6, hb6⟩ := app_first HSR3.out hown6 hg6 hv6; obtain ⟨vs6, hl6, hown6', hs6⟩ := ho6; have HL6 := Lib.hid hl6; have HO6 := Lib.hid hown6'; have HS6 := Lib.hid hs6; have HB6 := Lib.hid hb6; clear hl6 hown6' hs6 hb6 hown6 hg6 hv6)
          | (at_builtin; refine wpList_append_any _ rfl (.tmp 86) (.tmp 87) 42 rfl w5.heap.size 24 i0 zPg 7 72 Try.underlying42 HI.out HZ0.out HZ1.out HZ2.out rfl (by decide) v6 (pages p bs).length (flat (pages p bs) vs6) rfl HO6.out w5.heap.size Am nm cm (flat ps us6) rfl (Src.below HSR6.out HB6.out).reads HSR6.out.ones ?h63 ?hby ?hbase ?_; (case h63 => have := HPLN.out; unfold maxLen; omega); (case hby => have := HPLN.out; omega); (case hbase => exact HB6.out.size); intro v7 w7 hown7 hg7 hv7; have ho7 := app_next HL6.out HO6.out HS6.out HB6.out.size (Src.below HSR6.out HB6.out) hown7 hg7 hv7; have hb57 := HB6.out.grown hg7 HB6.out.size (fun q hq => (HO6.out.lt q hq).1); have hp7 := own_pgs ho7; obtain ⟨A7, n7, c7, rfl, _⟩ := id hp7; have HN7 := Lib.hid (pgs_len hp7).1; have HP7 := Lib.hid hp7; clear hp7 ho7 hown7 hg7 hv7; have HP3n := Lib.hid (pgs_up hb57 HP3.out); clear HP3; have HP3 := HP3n; clear HP3n; have HBn := Lib.hid (below_up (w := w) hb57 (by with_reducible repeat (first | exact HB.out | refine below_drewN ?_ _ | refine pdrew ?_ | refine palloc ?_ _))); clear HB; have HB := HBn; clear HBn; have KBn := Lib.hid (blk_up hb57 KB.out); clear KB; have KB := KBn; clear KBn; have b_0 := KB.out.cell 0; have b_1 := KB.out.cell 1; have b_2 := KB.out.cell 2; have b_3 := KB.out.cell 3; have b_4 := KB.out.cell 4; have b_5 := KB.out.cell 5; have b_6 := KB.out.cell 6; simp at b_0 b_1 b_2 b_3 b_4 b_5 b_6; clear hb57)
          | (go_at_call 26; refine (JN.out A7 n7 c7 _ HP7.out HN7.out).mono ?_; rintro e w8 ⟨v8, rfl, hs8, hb8⟩; obtain ⟨A8, n8, c8, rfl, hbt8, _⟩ := hs8; have HS8 := Lib.hid hbt8; clear hbt8; have HP3n := Lib.hid (pgs_up hb8 HP3.out); clear HP3; have HP3 := HP3n; clear HP3n; have HBn := Lib.hid (below_up (w := w) hb8 (by with_reducible repeat (first | exact HB.out | refine below_drewN ?_ _ | refine pdrew ?_ | refine palloc ?_ _))); clear HB; have HB := HBn; clear HBn; have KBn := Lib.hid (blk_up hb8 KB.out); clear KB; have KB := KBn; clear KBn; have b_0 := KB.out.cell 0; have b_1 := KB.out.cell 1; have b_2 := KB.out.cell 2; have b_3 := KB.out.cell 3; have b_4 := KB.out.cell 4; have b_5 := KB.out.cell 5; have b_6 := KB.out.cell 6; simp at b_0 b_1 b_2 b_3 b_4 b_5 b_6; clear hb8)
          | (go_at_call 27; refine (pages_any A3 A4 pn n4 c3 c4 (pages p bs) (pages p bs) _ HP3.out HP4.out ?hn9).mono ?_; (case hn9 => omega); rintro e w9 ⟨rfl, hb9⟩; rw [decide_eq_true rfl]; (first | (have HPGn := Lib.hid (pgs_up hb9 HPG.out); clear HPG; have HPG := HPGn; clear HPGn) | skip); (first | (have HS8n := Lib.hid ((HS8.out.below hb9 (Nat.le_refl _)).more (Below.size hb9)); clear HS8; have HS8 := HS8n; clear HS8n) | skip); have HBn := Lib.hid (below_up (w := w) hb9 (by with_reducible repeat (first | exact HB.out | refine below_drewN ?_ _ | refine pdrew ?_ | refine palloc ?_ _))); clear HB; have HB := HBn; clear HBn; have KBn := Lib.hid (blk_up hb9 KB.out); clear KB; have KB := KBn; clear KBn; have b_0 := KB.out.cell 0; have b_1 := KB.out.cell 1; have b_2 := KB.out.cell 2; have b_3 := KB.out.cell 3; have b_4 := KB.out.cell 4; have b_5 := KB.out.cell 5; have b_6 := KB.out.cell 6; simp at b_0 b_1 b_2 b_3 b_4 b_5 b_6; clear hb9)
          | (go_at_call 15; refine (rsame_any A8 A n8 n c8 c _ _ bs bs _ HS8.out (sl_bts (HBS.out.below HB.out (Nat.le_refl _)))).mono ?_; rintro e w' ⟨rfl, m9, rfl⟩; rw [decide_eq_true rfl])
          | (go_at_call 20; refine (awake5_any _).mono ?_; rintro e w9 ⟨rfl, hb9⟩; have HB9 := Lib.hid (below_up (w := w) hb9 (by with_reducible repeat (first | exact HB.out | refine below_drewN ?_ _ | refine pdrew ?_ | refine palloc ?_ _))); clear hb9))
        go_ret
        exact ⟨rfl, HB9.out⟩
open Go.ChangeShapes Go.WideShapes Go.ChangeAt Go.RowKit
theorem own : ownKnob Try.prog.godebug = none := by kernel_rfl
theorem laidOut : laidOutB Try.prog = true := by kernel_rfl
theorem walk (a0a a0b a0c a0d a0e a0f : Int) (a0g : Option Addr) (len0g cap0g : Nat) (z0g : List Int) (a1 : Option Addr) (len1 cap1 : Nat) (z1 : List Int) (a2a : Option Addr) (len2a cap2a : Nat) (a2b : Int) (w : World)
    (w0a : (Lit.int .i64 a0a).wf = true) (w0b : (Lit.int .i64 a0b).wf = true) (w0c : (Lit.int .i64 a0c).wf = true) (w0d : (Lit.int .i64 a0d).wf = true) (w0e : (Lit.int .i64 a0e).wf = true) (w0f : (Lit.int .i64 a0f).wf = true)
    (w0g : IsRow .u8 w a0g len0g cap0g z0g) (w1 : IsRow .u8 w a1 len1 cap1 z1) (w2a : IsRecs w a2a len2a cap2a 7 (PgR w)) (w2b : (Lit.int .i64 a2b).wf = true) :
    Calls Try.prog 6 #[.agg #[.int .i64 a0a, .int .i64 a0b, .int .i64 a0c, .int .i64 a0d, .int .i64 a0e, .int .i64 a0f, .slice a0g len0g cap0g], .slice a1 len1 cap1, .agg #[.slice a2a len2a cap2a, .int .i64 a2b]] w fun e w' => e = .returned (.bool true) ∧ Below w.heap.size w w' := by
  by_cases h1 : len1 ≤ 9000
  · by_cases h2 : len0g ≤ 600
    · obtain ⟨bs, hbs, _⟩ := sl_of_row w1 (by omega)
      exact splits_true ⟨a0a, a0b, a0c, a0d, a0e, a0f, []⟩ a0g a1 a2a len0g cap0g len1 cap1 len2a cap2a a2b bs w h1 h2 (in64_of w0d) hbs w2a
    · exact splits_big ⟨a0a, a0b, a0c, a0d, a0e, a0f, []⟩ a0g a1 a2a len0g cap0g len1 cap1 len2a cap2a a2b w h1 (by omega)
  · exact splits_long ⟨a0a, a0b, a0c, a0d, a0e, a0f, []⟩ a0g a1 a2a len0g cap0g len1 cap1 len2a cap2a a2b w (by omega)
/-! the step from the walk to the row -/
set_option maxRecDepth 100000 in
theorem lifted (os : Os) (started : os.Started) (H : Type) (enc : TypeId × Value → H) :
    ReturnsInHanded {} Try.checked os 6 .any (Rows.recordSplitsSpec.pre6 enc Try.prog Try.f6 Rows.recordSplitsRow.domain false) (Rows.recordSplitsSpec.post enc Try.prog Try.f6 false true false false) := by
  refine returnsInHanded_of_change (C := Try.checked) own started (by kernel_rfl) Try.func6
    (ChangeSpec.witness6 (enc := enc) (C := Try.checked) false ⟨#[], #[.agg #[.int .i64 0, .int .i64 0, .int .i64 0, .int .i64 0, .int .i64 0, .int .i64 0, .slice none 0 0], .slice none 0 0, .agg #[.slice none 0 0, .int .i64 0]], []⟩ 8 (by kernel_rfl) (by kernel_rfl) (by kernel_rfl) (by kernel_rfl)) ?_
  intro W base args ds gs before hval0 hW hcnd _
  have hval : ∀ (j : Nat) t v, Try.f6.params[j]? = some t → args[j]? = some v → Value.okWide Try.prog W .any base t v := hval0
  have hW' := hW
  obtain ⟨p, q, hA0, hV, rfl, hfz, hnd⟩ := hW
  have hA : DataW.TrodAll enc Try.prog W 0 (fun _ => true) true Try.f6.params.toList args.toList ds p := hA0
  rw [Try.params6] at hA hval
  obtain ⟨v0, vs0, d0, ds0, p0, q0, hargs, rfl, rfl, h0, r0⟩ := trodAll_cons hA
  obtain ⟨v1, vs1, d1, ds1, p1, q1, rfl, rfl, rfl, h1, r1⟩ := trodAll_cons r0
  obtain ⟨v2, vs2, d2, ds2, p2, q2, rfl, rfl, rfl, h2, r2⟩ := trodAll_cons r1
  obtain ⟨rfl, rfl, rfl⟩ := trodAll_nil r2
  obtain rfl : args = #[v0, v1, v2] := by cases args; simp_all
  obtain ⟨rfl, rfl⟩ := trodVars_none hV
  have k0 := h0
  have lt0 : ∀ x ∈ p0, x.block < W.heap.size := by obtain ⟨m, hm⟩ := k0; exact DataW.trod_lt m _ _ _ hm
  obtain ⟨u0a, u0b, u0c, u0d, u0e, u0f, u0g, _, _, _, _, _, _, _, _, rfl, _, _, g0a, g0b, g0c, g0d, g0e, g0f, g0g⟩ := open_agg7 Try.underlying24 (by kernel_rfl) (by kernel_rfl) (hval 0 24 v0 rfl rfl) h0
  obtain ⟨a0a, rfl, w0a⟩ := open_num_at Try.underlying3 g0a
  obtain ⟨a0b, rfl, w0b⟩ := open_num_at Try.underlying3 g0b
  obtain ⟨a0c, rfl, w0c⟩ := open_num_at Try.underlying3 g0c
  obtain ⟨a0d, rfl, w0d⟩ := open_num_at Try.underlying3 g0d
  obtain ⟨a0e, rfl, w0e⟩ := open_num_at Try.underlying3 g0e
  obtain ⟨a0f, rfl, w0f⟩ := open_num_at Try.underlying3 g0f
  obtain ⟨a0g, len0g, cap0g, z0g, rfl, w0g⟩ := open_row_at Try.underlying22 Try.underlying5 (by kernel_rfl) g0g
  obtain ⟨a1, len1, cap1, rfl⟩ := okWide_slice Try.underlying22 (hval 1 22 v1 rfl rfl)
  have k1 := h1
  have lt1 : ∀ x ∈ p1, x.block < W.heap.size := by obtain ⟨m, hm⟩ := k1; exact DataW.trod_lt m _ _ _ hm
  obtain ⟨z1, w1⟩ : ∃ zs, IsRow .u8 W a1 len1 cap1 zs := by
    obtain ⟨fuel, hf⟩ := h1
    rcases open_ints Try.underlying22 Try.underlying5 (by kernel_rfl) hf with ⟨hcs, _⟩ | ⟨x, l, c, zs, hcs, _, hl, hm, hz, _, hcell, hwz⟩
    · simp [Value.cells] at hcs
      obtain ⟨rfl, rfl, rfl⟩ := hcs
      exact ⟨[], .inl ⟨rfl, rfl, rfl, rfl⟩⟩
    · simp [Value.cells] at hcs
      obtain ⟨rfl, rfl, rfl⟩ := hcs
      exact ⟨zs, .inr ⟨_, rfl, hl, hm, by simpa using hz, hcell, hwz⟩⟩
  have k2 := h2
  have lt2 : ∀ x ∈ p2, x.block < W.heap.size := by obtain ⟨m, hm⟩ := k2; exact DataW.trod_lt m _ _ _ hm
  obtain ⟨u2a, u2b, _, _, _, rfl, _, _, g2a, g2b⟩ := Go.Joins.open_agg2 Try.underlying44 (by kernel_rfl) (by kernel_rfl) (hval 2 44 v2 rfl rfl) h2
  obtain ⟨a2a, len2a, cap2a, rfl, w2a⟩ : ∃ a l c, u2a = .slice a l c ∧ IsRecs W a l c 7 (PgR W) := by
    rcases open_slice_fields Try.underlying42 Try.underlying24 (by kernel_rfl) (by kernel_rfl) g2a with ⟨hcs, _⟩ | ⟨x, l, c, m, D, Pl, hcs, _, hl, hm, hmm, _, hh⟩
    · injection hcs with hcs _
      exact ⟨none, 0, 0, hcs, .inl ⟨rfl, rfl, rfl⟩⟩
    · injection hcs with hcs _
      refine ⟨some x, l, c, hcs, .inr ⟨_, rfl, hl, hm, fun i hi j hj => ?_⟩⟩
      obtain ⟨ys, n, _, _, _, hg⟩ := hh i (by rw [hmm, if_pos rfl]; exact hi)
      match j, hj with
      | 0, _ =>
        obtain ⟨v, y, hc, _, ht⟩ := hg 0 _ rfl
        exact ⟨v, hc, open_num_at Try.underlying3 ht⟩
      | 1, _ =>
        obtain ⟨v, y, hc, _, ht⟩ := hg 1 _ rfl
        exact ⟨v, hc, open_num_at Try.underlying3 ht⟩
      | 2, _ =>
        obtain ⟨v, y, hc, _, ht⟩ := hg 2 _ rfl
        exact ⟨v, hc, open_num_at Try.underlying3 ht⟩
      | 3, _ =>
        obtain ⟨v, y, hc, _, ht⟩ := hg 3 _ rfl
        exact ⟨v, hc, open_num_at Try.underlying3 ht⟩
      | 4, _ =>
        obtain ⟨v, y, hc, _, ht⟩ := hg 4 _ rfl
        exact ⟨v, hc, open_num_at Try.underlying3 ht⟩
      | 5, _ =>
        obtain ⟨v, y, hc, _, ht⟩ := hg 5 _ rfl
        exact ⟨v, hc, open_num_at Try.underlying3 ht⟩
      | 6, _ =>
        obtain ⟨v, y, hc, _, ht⟩ := hg 6 _ rfl
        exact ⟨v, hc, open_row_at Try.underlying22 Try.underlying5 (by kernel_rfl) ht⟩
  obtain ⟨a2b, rfl, w2b⟩ := open_num_at Try.underlying3 g2b
  clear hA0 hval0
  refine (walk a0a a0b a0c a0d a0e a0f a0g len0g cap0g z0g a1 len1 cap1 z1 a2a len2a cap2a a2b W w0a w0b w0c w0d w0e w0f w0g w1 w2a w2b).mono fun e W' ⟨he, bel⟩ => ?_
  subst he
  exact ⟨_, rfl, _, _, _, [], _, [], hW', trodAll_mk1 (shut_bool Try.underlying4 _), (trodAll_cons_mk (Below.trod laidOut (by kernel_rfl) (of_decide_eq_true (by kernel_rfl)) k0 bel lt0) (trodAll_cons_mk (Below.trod laidOut (by kernel_rfl) (of_decide_eq_true (by kernel_rfl)) k1 bel lt1) (trodAll_cons_mk (Below.trod laidOut (by kernel_rfl) (of_decide_eq_true (by kernel_rfl)) k2 bel lt2) trodAll_mk0))), rfl, bel.frame _, fun h => by cases h⟩

theorem over : Rows.recordSplitsRow.holds Try.pinned (OpenSpec.ofChange Rows.recordSplitsSpec) :=
  OpenClaim.holds_of_wide 6 Try.f6 rfl rfl rfl rfl rfl rfl rfl ⟨rfl, rfl, rfl, rfl, rfl⟩ rfl rfl rfl rfl rfl (by kernel_rfl) Try.func6 (by kernel_rfl)
    (of_decide_eq_true (by kernel_rfl)) (by unfold Func.isWrapper; first | (rw [if_pos (by decide +kernel)]; kernel_rfl) | (rw [if_neg (by decide +kernel)]; exact ⟨rfl, rfl⟩))
    (fun os started H enc _ => lifted os started H enc)

/-- the statement -/
theorem proved : Rows.RecordSplitsSaid := over
end Go.Proofs.Ytioledhbdehbpaa.recordSplits

