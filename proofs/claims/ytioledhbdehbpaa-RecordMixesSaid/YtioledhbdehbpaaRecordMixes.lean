/- RecordMixes (layer 5): pages of two records never make one: the walk, and the law. -/
import Derived.Test.YtioledhbdehbpaaRecordJoins
import Derived.Test.YtioledhbdehbpaaOwnApp
import Derived.Test.YtioledhbdehbpaaAgg
namespace Go.Proofs.Ytioledhbdehbpaa.recordMixes
open Go.RowKit Go.Proofs.Ytioledhbdehbpaa.Mem Go.Proofs.Ytioledhbdehbpaa.Oct Go.Proofs.Ytioledhbdehbpaa.Pg Go.Proofs.Ytioledhbdehbpaa.Rcd
set_option linter.unusedVariables false
set_option linter.unusedSimpArgs false
set_option maxRecDepth 20000 in
set_option maxHeartbeats 2000000 in
theorem mixes_a (p q : P) (Ap Aq A1 A2 : Option Addr) (lp cp lq cq n1 c1 n2 c2 x : Nat) (w : World) (h1 : 7808 < n1) : Calls Try.prog 8 #[.agg #[.int .i64 p.kind, .int .i64 p.gen, .int .i64 p.mark, .int .i64 p.index, .int .i64 p.part, .int .i64 p.parts, .slice Ap lp cp], .agg #[.int .i64 q.kind, .int .i64 q.gen, .int .i64 q.mark, .int .i64 q.index, .int .i64 q.part, .int .i64 q.parts, .slice Aq lq cq], .agg #[.slice A1 n1 c1, .slice A2 n2 c2, .int .u8 (x : Nat)]] w fun e w' => e = .returned (.bool true) ∧ Below w.heap.size w w' := by
  have hda : decide ((7808 : Int) < (n1 : Int)) = true := by simp only [decide_eq_true_eq]; omega
  have HB := Lib.hid (palloc (palloc (palloc (Below.refl w.heap.size w) (Obj.cells #[.int .i64 p.kind, .int .i64 p.gen, .int .i64 p.mark, .int .i64 p.index, .int .i64 p.part, .int .i64 p.parts, .slice Ap lp cp] 24)) (Obj.cells #[.int .i64 q.kind, .int .i64 q.gen, .int .i64 q.mark, .int .i64 q.index, .int .i64 q.part, .int .i64 q.parts, .slice Aq lq cq] 24)) (Obj.cells #[.slice A1 n1 c1, .slice A2 n2 c2, .int .u8 (x : Nat)] 57))
  go_enter Try.func8, Try.ntmps8
  go_wp2
  go_quiet (fail)
  go_wp2_with (first
    | (go_at_call 20; refine (awake5_any _).mono ?_; rintro e w9 ⟨rfl, hb9⟩; have HB9 := Lib.hid (below_up (w := w) hb9 (by with_reducible repeat (first | exact HB.out | refine below_drewN ?_ _ | refine pdrew ?_ | refine palloc ?_ _))); clear hb9))
  go_ret
  exact ⟨rfl, HB9.out⟩
set_option maxRecDepth 20000 in
set_option maxHeartbeats 2000000 in
theorem mixes_b (p q : P) (Ap Aq A1 A2 : Option Addr) (lp cp lq cq n1 c1 n2 c2 x : Nat) (w : World) (h1 : n1 ≤ 7808) (h2 : 7808 < n2) : Calls Try.prog 8 #[.agg #[.int .i64 p.kind, .int .i64 p.gen, .int .i64 p.mark, .int .i64 p.index, .int .i64 p.part, .int .i64 p.parts, .slice Ap lp cp], .agg #[.int .i64 q.kind, .int .i64 q.gen, .int .i64 q.mark, .int .i64 q.index, .int .i64 q.part, .int .i64 q.parts, .slice Aq lq cq], .agg #[.slice A1 n1 c1, .slice A2 n2 c2, .int .u8 (x : Nat)]] w fun e w' => e = .returned (.bool true) ∧ Below w.heap.size w w' := by
  have hda : decide ((7808 : Int) < (n1 : Int)) = false := by simp only [decide_eq_false_iff_not]; omega
  have hdb : decide ((7808 : Int) < (n2 : Int)) = true := by simp only [decide_eq_true_eq]; omega
  have HB := Lib.hid (palloc (palloc (palloc (Below.refl w.heap.size w) (Obj.cells #[.int .i64 p.kind, .int .i64 p.gen, .int .i64 p.mark, .int .i64 p.index, .int .i64 p.part, .int .i64 p.parts, .slice Ap lp cp] 24)) (Obj.cells #[.int .i64 q.kind, .int .i64 q.gen, .int .i64 q.mark, .int .i64 q.index, .int .i64 q.part, .int .i64 q.parts, .slice Aq lq cq] 24)) (Obj.cells #[.slice A1 n1 c1, .slice A2 n2 c2, .int .u8 (x : Nat)] 57))
  go_enter Try.func8, Try.ntmps8
  go_wp2
  go_quiet (fail)
  go_wp2_with (first
    | (go_at_call 20; refine (awake5_any _).mono ?_; rintro e w9 ⟨rfl, hb9⟩; have HB9 := Lib.hid (below_up (w := w) hb9 (by with_reducible repeat (first | exact HB.out | refine below_drewN ?_ _ | refine pdrew ?_ | refine palloc ?_ _))); clear hb9))
  go_ret
  exact ⟨rfl, HB9.out⟩
set_option maxRecDepth 20000 in
set_option maxHeartbeats 2000000 in
theorem mixes_p (p q : P) (Ap Aq A1 A2 : Option Addr) (lp cp lq cq n1 c1 n2 c2 x : Nat) (w : World) (h1 : n1 ≤ 7808) (h2 : n2 ≤ 7808) (h3 : 600 < lp) : Calls Try.prog 8 #[.agg #[.int .i64 p.kind, .int .i64 p.gen, .int .i64 p.mark, .int .i64 p.index, .int .i64 p.part, .int .i64 p.parts, .slice Ap lp cp], .agg #[.int .i64 q.kind, .int .i64 q.gen, .int .i64 q.mark, .int .i64 q.index, .int .i64 q.part, .int .i64 q.parts, .slice Aq lq cq], .agg #[.slice A1 n1 c1, .slice A2 n2 c2, .int .u8 (x : Nat)]] w fun e w' => e = .returned (.bool true) ∧ Below w.heap.size w w' := by
  have hda : decide ((7808 : Int) < (n1 : Int)) = false := by simp only [decide_eq_false_iff_not]; omega
  have hdb : decide ((7808 : Int) < (n2 : Int)) = false := by simp only [decide_eq_false_iff_not]; omega
  have hdp : decide ((600 : Int) < (lp : Int)) = true := by simp only [decide_eq_true_eq]; omega
  have HB := Lib.hid (palloc (palloc (palloc (Below.refl w.heap.size w) (Obj.cells #[.int .i64 p.kind, .int .i64 p.gen, .int .i64 p.mark, .int .i64 p.index, .int .i64 p.part, .int .i64 p.parts, .slice Ap lp cp] 24)) (Obj.cells #[.int .i64 q.kind, .int .i64 q.gen, .int .i64 q.mark, .int .i64 q.index, .int .i64 q.part, .int .i64 q.parts, .slice Aq lq cq] 24)) (Obj.cells #[.slice A1 n1 c1, .slice A2 n2 c2, .int .u8 (x : Nat)] 57))
  go_enter Try.func8, Try.ntmps8
  go_wp2
  go_quiet (fail)
  go_wp2_with (first
    | (go_at_call 20; refine (awake5_any _).mono ?_; rintro e w9 ⟨rfl, hb9⟩; have HB9 := Lib.hid (below_up (w := w) hb9 (by with_reducible repeat (first | exact HB.out | refine below_drewN ?_ _ | refine pdrew ?_ | refine palloc ?_ _))); clear hb9))
  go_ret
  exact ⟨rfl, HB9.out⟩
set_option maxRecDepth 20000 in
set_option maxHeartbeats 2000000 in
theorem mixes_q (p q : P) (Ap Aq A1 A2 : Option Addr) (lp cp lq cq n1 c1 n2 c2 x : Nat) (w : World) (h1 : n1 ≤ 7808) (h2 : n2 ≤ 7808) (h3 : lp ≤ 600) (h4 : 600 < lq) : Calls Try.prog 8 #[.agg #[.int .i64 p.kind, .int .i64 p.gen, .int .i64 p.mark, .int .i64 p.index, .int .i64 p.part, .int .i64 p.parts, .slice Ap lp cp], .agg #[.int .i64 q.kind, .int .i64 q.gen, .int .i64 q.mark, .int .i64 q.index, .int .i64 q.part, .int .i64 q.parts, .slice Aq lq cq], .agg #[.slice A1 n1 c1, .slice A2 n2 c2, .int .u8 (x : Nat)]] w fun e w' => e = .returned (.bool true) ∧ Below w.heap.size w w' := by
  have hda : decide ((7808 : Int) < (n1 : Int)) = false := by simp only [decide_eq_false_iff_not]; omega
  have hdb : decide ((7808 : Int) < (n2 : Int)) = false := by simp only [decide_eq_false_iff_not]; omega
  have hdp : decide ((600 : Int) < (lp : Int)) = false := by simp only [decide_eq_false_iff_not]; omega
  have hdq : decide ((600 : Int) < (lq : Int)) = true := by simp only [decide_eq_true_eq]; omega
  have HB := Lib.hid (palloc (palloc (palloc (Below.refl w.heap.size w) (Obj.cells #[.int .i64 p.kind, .int .i64 p.gen, .int .i64 p.mark, .int .i64 p.index, .int .i64 p.part, .int .i64 p.parts, .slice Ap lp cp] 24)) (Obj.cells #[.int .i64 q.kind, .int .i64 q.gen, .int .i64 q.mark, .int .i64 q.index, .int .i64 q.part, .int .i64 q.parts, .slice Aq lq cq] 24)) (Obj.cells #[.slice A1 n1 c1, .slice A2 n2 c2, .int .u8 (x : Nat)] 57))
  go_enter Try.func8, Try.ntmps8
  go_wp2
  go_quiet (fail)
  go_wp2_with (first
    | (go_at_call 20; refine (awake5_any _).mono ?_; rintro e w9 ⟨rfl, hb9⟩; have HB9 := Lib.hid (below_up (w := w) hb9 (by with_reducible repeat (first | exact HB.out | refine below_drewN ?_ _ | refine pdrew ?_ | refine palloc ?_ _))); clear hb9))
  go_ret
  exact ⟨rfl, HB9.out⟩
theorem take_more {α : Type} (l : List α) (i : Nat) (h : l.length ≤ i) : l.take (i + 1) = l.take i := by
  rw [List.take_of_length_le h, List.take_of_length_le (by omega)]
theorem take_step {l : List P} {i k : Nat} (h : i < l.length) (hk : k ≤ i) : (l.take (i + 1)).drop k = (l.take i).drop k ++ [l.getD i noP] := by
  have e : l.take (i + 1) = l.take i ++ [l.getD i noP] := by
    rw [List.take_add_one, List.getElem?_eq_getElem h]
    simp [List.getD, List.getElem?_eq_getElem h]
  rw [e, List.drop_append_of_le_length (by rw [List.length_take]; omega)]
set_option maxRecDepth 20000 in
set_option maxHeartbeats 1500000 in
theorem mixes_true (p q : P) (Ap Aq A1 A2 : Option Addr) (lp cp lq cq n1 c1 n2 c2 x : Nat) (as_ bs_ : List Nat) (w : World) (h1 : n1 ≤ 7808) (h2 : n2 ≤ 7808) (h3 : lp ≤ 600) (h4 : lq ≤ 600) (hx : x < 256) (hip : In64 p.index) (hiq : In64 q.index)
    (ha : Sl w w.heap.size (.slice A1 n1 c1) as_) (hb : Sl w w.heap.size (.slice A2 n2 c2) bs_) : Calls Try.prog 8 #[.agg #[.int .i64 p.kind, .int .i64 p.gen, .int .i64 p.mark, .int .i64 p.index, .int .i64 p.part, .int .i64 p.parts, .slice Ap lp cp], .agg #[.int .i64 q.kind, .int .i64 q.gen, .int .i64 q.mark, .int .i64 q.index, .int .i64 q.part, .int .i64 q.parts, .slice Aq lq cq], .agg #[.slice A1 n1 c1, .slice A2 n2 c2, .int .u8 (x : Nat)]] w fun e w' => e = .returned (.bool true) ∧ Below w.heap.size w w' := by
  have hda : decide ((7808 : Int) < (n1 : Int)) = false := by simp only [decide_eq_false_iff_not]; omega
  have hdb : decide ((7808 : Int) < (n2 : Int)) = false := by simp only [decide_eq_false_iff_not]; omega
  have hdp : decide ((600 : Int) < (lp : Int)) = false := by simp only [decide_eq_false_iff_not]; omega
  have hdq : decide ((600 : Int) < (lq : Int)) = false := by simp only [decide_eq_false_iff_not]; omega
  have hal : as_.length = n1 := by
    obtain ⟨A', n', c', e, h1, _⟩ := ha
    injection e with e1 e2 e3
    subst e1 e2 e3
    exact h1.1
  have hbl : bs_.length = n2 := by
    obtain ⟨A', n', c', e, h1, _⟩ := hb
    injection e with e1 e2 e3
    subst e1 e2 e3
    exact h1.1
  have spl1 := fun (W : World) (hW : Below w.heap.size w W) => split_any p (.slice Ap lp cp) A1 n1 c1 as_ W ((ha.below hW (Nat.le_refl _)).more hW.size) hal hip
  have spl2 := fun (W : World) (hW : Below w.heap.size w W) => split_any q (.slice Aq lq cq) A2 n2 c2 bs_ W ((hb.below hW (Nat.le_refl _)).more hW.size) hbl hiq
  rw [if_neg (by omega)] at spl1 spl2
  have KB := Lib.hid (((Blk.new w 24 #[.int .i64 p.kind, .int .i64 p.gen, .int .i64 p.mark, .int .i64 p.index, .int .i64 p.part, .int .i64 p.parts, .slice Ap lp cp]).alloc (Obj.cells #[.int .i64 q.kind, .int .i64 q.gen, .int .i64 q.mark, .int .i64 q.index, .int .i64 q.part, .int .i64 q.parts, .slice Aq lq cq] 24)).alloc (Obj.cells #[.slice A1 n1 c1, .slice A2 n2 c2, .int .u8 (x : Nat)] 57))
  have kc := (Blk.new (w.alloc (Obj.cells #[.int .i64 p.kind, .int .i64 p.gen, .int .i64 p.mark, .int .i64 p.index, .int .i64 p.part, .int .i64 p.parts, .slice Ap lp cp] 24)) 24 #[.int .i64 q.kind, .int .i64 q.gen, .int .i64 q.mark, .int .i64 q.index, .int .i64 q.part, .int .i64 q.parts, .slice Aq lq cq]).alloc (Obj.cells #[.slice A1 n1 c1, .slice A2 n2 c2, .int .u8 (x : Nat)] 57)
  rw [show (w.alloc (Obj.cells #[.int .i64 p.kind, .int .i64 p.gen, .int .i64 p.mark, .int .i64 p.index, .int .i64 p.part, .int .i64 p.parts, .slice Ap lp cp] 24)).heap.size = w.heap.size + 1 by simp] at kc
  have KC := Lib.hid kc; clear kc
  have HAL := Lib.hid hal; clear hal
  have HBL := Lib.hid hbl; clear hbl
  clear ha hb
  cases hf : fits p as_
  · rw [hf, if_neg (by simp : ¬ false = true), if_neg (by simp : ¬ false = true)] at spl1
    obtain ⟨er2, her2⟩ : ∃ er2 : Int, er2 = if fits q bs_ = true then 0 else 1 := ⟨_, rfl⟩
    rw [← her2] at spl2
    have SPL1 := Lib.hid spl1; clear spl1
    have SPL2 := Lib.hid spl2; clear spl2
    clear her2
    have HB := Lib.hid (palloc (palloc (palloc (Below.refl w.heap.size w) (Obj.cells #[.int .i64 p.kind, .int .i64 p.gen, .int .i64 p.mark, .int .i64 p.index, .int .i64 p.part, .int .i64 p.parts, .slice Ap lp cp] 24)) (Obj.cells #[.int .i64 q.kind, .int .i64 q.gen, .int .i64 q.mark, .int .i64 q.index, .int .i64 q.part, .int .i64 q.parts, .slice Aq lq cq] 24)) (Obj.cells #[.slice A1 n1 c1, .slice A2 n2 c2, .int .u8 (x : Nat)] 57))
    go_enter Try.func8, Try.ntmps8
    go_wp2
    go_quiet (fail)
    have HB1 := Lib.hid (below_drewN HB.out nq); clear HB; have HB := HB1; clear HB1
    have KB1 := Lib.hid (Blk.drewN KB.out nq); clear KB; have KB := KB1; clear KB1
    have KC1 := Lib.hid (Blk.drewN KC.out nq); clear KC; have KC := KC1; clear KC1
    generalize hW : World.drewN _ nq = W1 at HB KB KC ⊢
    clear hW
    have HM0 : True := trivial
    have b_6 := KB.out.cell 6
    have d_6 := KC.out.cell 6
    have b_1 := KB.out.cell 1
    have b_2 := KB.out.cell 2
    have d_1 := KC.out.cell 1
    have d_2 := KC.out.cell 2
    simp at b_1 b_2 b_6 d_1 d_2 d_6
    go_wp2_with (first
      | (have HM1 := HM0; refine wpList_load_row rfl 24 (.tmp 3) rfl w.heap.size rfl 24 #[.int .i64 p.kind, .int .i64 p.gen, .int .i64 p.mark, .int .i64 p.index, .int .i64 p.part, .int .i64 p.parts, .slice Ap lp cp] (0, 0) _ KB.out Try.underlying24 rfl (by rw [size24]; rfl) ?_)
      | (go_at_call 23; have HM2 := HX3; refine (SPL2.out _ ?hb).mono ?_; (case hb => with_reducible repeat (first | exact HB.out | refine below_drewN ?_ _ | refine pdrew ?_ | refine palloc ?_ _)); rintro e w4 ⟨v4, rfl, hp4, hb4⟩; obtain ⟨A4, n4, c4, rfl, _⟩ := id hp4; have hn4 := (pgs_len hp4).1; have HN4 := Lib.hid hn4; clear hn4; have HP4 := Lib.hid hp4; clear hp4; have HP3n := Lib.hid (pgs_up hb4 HP3.out); clear HP3; have HP3 := HP3n; clear HP3n; have HBn := Lib.hid (below_up (w := w) hb4 (by with_reducible repeat (first | exact HB.out | refine below_drewN ?_ _ | refine pdrew ?_ | refine palloc ?_ _))); clear HB; have HB := HBn; clear HBn; have KBn := Lib.hid (blk_up hb4 KB.out); clear KB; have KB := KBn; clear KBn; have KCn := Lib.hid (blk_up hb4 KC.out); clear KC; have KC := KCn; clear KCn; have b_1 := KB.out.cell 1; have b_2 := KB.out.cell 2; have d_0 := KC.out.cell 0; have d_1 := KC.out.cell 1; have d_2 := KC.out.cell 2; have d_3 := KC.out.cell 3; have d_4 := KC.out.cell 4; have d_5 := KC.out.cell 5; have d_6 := KC.out.cell 6; simp at b_1 b_2 d_0 d_1 d_2 d_3 d_4 d_5 d_6; clear hb4)
      | (go_at_call 23; refine (SPL1.out _ ?hb).mono ?_; (case hb => with_reducible repeat (first | exact HB.out | refine below_drewN ?_ _ | refine pdrew ?_ | refine palloc ?_ _)); rintro e w3 ⟨v3, rfl, hp3, hb3⟩; obtain ⟨A3, n3, c3, rfl, _⟩ := id hp3; have hn3 := (pgs_len hp3).1; have HN3 := Lib.hid hn3; clear hn3; have HP3 := Lib.hid hp3; clear hp3; have HX3 := trivial; clear HM0; have HBn := Lib.hid (below_up (w := w) hb3 (by with_reducible repeat (first | exact HB.out | refine below_drewN ?_ _ | refine pdrew ?_ | refine palloc ?_ _))); clear HB; have HB := HBn; clear HBn; have KBn := Lib.hid (blk_up hb3 KB.out); clear KB; have KB := KBn; clear KBn; have KCn := Lib.hid (blk_up hb3 KC.out); clear KC; have KC := KCn; clear KCn; have b_1 := KB.out.cell 1; have b_2 := KB.out.cell 2; have d_0 := KC.out.cell 0; have d_1 := KC.out.cell 1; have d_2 := KC.out.cell 2; have d_3 := KC.out.cell 3; have d_4 := KC.out.cell 4; have d_5 := KC.out.cell 5; have d_6 := KC.out.cell 6; simp at b_1 b_2 d_0 d_1 d_2 d_3 d_4 d_5 d_6; clear hb3)
      | (go_at_call 20; refine (awake5_any _).mono ?_; rintro e w9 ⟨rfl, hb9⟩; have HB9 := Lib.hid (below_up (w := w) hb9 (by with_reducible repeat (first | exact HB.out | refine below_drewN ?_ _ | refine pdrew ?_ | refine palloc ?_ _))); clear hb9))
    go_ret
    exact ⟨rfl, HB9.out⟩
  · rw [hf, if_pos rfl, if_pos rfl] at spl1
    cases hg : fits q bs_
    · rw [hg, if_neg (by simp : ¬ false = true), if_neg (by simp : ¬ false = true)] at spl2
      have SPL1 := Lib.hid spl1; clear spl1
      have SPL2 := Lib.hid spl2; clear spl2
      have HB := Lib.hid (palloc (palloc (palloc (Below.refl w.heap.size w) (Obj.cells #[.int .i64 p.kind, .int .i64 p.gen, .int .i64 p.mark, .int .i64 p.index, .int .i64 p.part, .int .i64 p.parts, .slice Ap lp cp] 24)) (Obj.cells #[.int .i64 q.kind, .int .i64 q.gen, .int .i64 q.mark, .int .i64 q.index, .int .i64 q.part, .int .i64 q.parts, .slice Aq lq cq] 24)) (Obj.cells #[.slice A1 n1 c1, .slice A2 n2 c2, .int .u8 (x : Nat)] 57))
      go_enter Try.func8, Try.ntmps8
      go_wp2
      go_quiet (fail)
      have HB1 := Lib.hid (below_drewN HB.out nq); clear HB; have HB := HB1; clear HB1
      have KB1 := Lib.hid (Blk.drewN KB.out nq); clear KB; have KB := KB1; clear KB1
      have KC1 := Lib.hid (Blk.drewN KC.out nq); clear KC; have KC := KC1; clear KC1
      generalize hW : World.drewN _ nq = W1 at HB KB KC ⊢
      clear hW
      have HM0 : True := trivial
      have b_6 := KB.out.cell 6
      have d_6 := KC.out.cell 6
      have b_1 := KB.out.cell 1
      have b_2 := KB.out.cell 2
      have d_1 := KC.out.cell 1
      have d_2 := KC.out.cell 2
      simp at b_1 b_2 b_6 d_1 d_2 d_6
      go_wp2_with (first
        | (have HM1 := HM0; refine wpList_load_row rfl 24 (.tmp 3) rfl w.heap.size rfl 24 #[.int .i64 p.kind, .int .i64 p.gen, .int .i64 p.mark, .int .i64 p.index, .int .i64 p.part, .int .i64 p.parts, .slice Ap lp cp] (0, 0) _ KB.out Try.underlying24 rfl (by rw [size24]; rfl) ?_)
        | (go_at_call 23; have HM2 := HX3; refine (SPL2.out _ ?hb).mono ?_; (case hb => with_reducible repeat (first | exact HB.out | refine below_drewN ?_ _ | refine pdrew ?_ | refine palloc ?_ _)); rintro e w4 ⟨v4, rfl, hp4, hb4⟩; obtain ⟨A4, n4, c4, rfl, _⟩ := id hp4; have hn4 := (pgs_len hp4).1; have HN4 := Lib.hid hn4; clear hn4; have HP4 := Lib.hid hp4; clear hp4; have HP3n := Lib.hid (pgs_up hb4 HP3.out); clear HP3; have HP3 := HP3n; clear HP3n; have HBn := Lib.hid (below_up (w := w) hb4 (by with_reducible repeat (first | exact HB.out | refine below_drewN ?_ _ | refine pdrew ?_ | refine palloc ?_ _))); clear HB; have HB := HBn; clear HBn; have KBn := Lib.hid (blk_up hb4 KB.out); clear KB; have KB := KBn; clear KBn; have KCn := Lib.hid (blk_up hb4 KC.out); clear KC; have KC := KCn; clear KCn; have b_1 := KB.out.cell 1; have b_2 := KB.out.cell 2; have d_0 := KC.out.cell 0; have d_1 := KC.out.cell 1; have d_2 := KC.out.cell 2; have d_3 := KC.out.cell 3; have d_4 := KC.out.cell 4; have d_5 := KC.out.cell 5; have d_6 := KC.out.cell 6; simp at b_1 b_2 d_0 d_1 d_2 d_3 d_4 d_5 d_6; clear hb4)
        | (go_at_call 23; refine (SPL1.out _ ?hb).mono ?_; (case hb => with_reducible repeat (first | exact HB.out | refine below_drewN ?_ _ | refine pdrew ?_ | refine palloc ?_ _)); rintro e w3 ⟨v3, rfl, hp3, hb3⟩; obtain ⟨A3, n3, c3, rfl, _⟩ := id hp3; have hn3 := (pgs_len hp3).1; have HN3 := Lib.hid hn3; clear hn3; have HP3 := Lib.hid hp3; clear hp3; have HX3 := trivial; clear HM0; have HBn := Lib.hid (below_up (w := w) hb3 (by with_reducible repeat (first | exact HB.out | refine below_drewN ?_ _ | refine pdrew ?_ | refine palloc ?_ _))); clear HB; have HB := HBn; clear HBn; have KBn := Lib.hid (blk_up hb3 KB.out); clear KB; have KB := KBn; clear KBn; have KCn := Lib.hid (blk_up hb3 KC.out); clear KC; have KC := KCn; clear KCn; have b_1 := KB.out.cell 1; have b_2 := KB.out.cell 2; have d_0 := KC.out.cell 0; have d_1 := KC.out.cell 1; have d_2 := KC.out.cell 2; have d_3 := KC.out.cell 3; have d_4 := KC.out.cell 4; have d_5 := KC.out.cell 5; have d_6 := KC.out.cell 6; simp at b_1 b_2 d_0 d_1 d_2 d_3 d_4 d_5 d_6; clear hb3)
        | (go_at_call 20; refine (awake5_any _).mono ?_; rintro e w9 ⟨rfl, hb9⟩; have HB9 := Lib.hid (below_up (w := w) hb9 (by with_reducible repeat (first | exact HB.out | refine below_drewN ?_ _ | refine pdrew ?_ | refine palloc ?_ _))); clear hb9))
      go_ret
      exact ⟨rfl, HB9.out⟩
    · rw [hg, if_pos rfl, if_pos rfl] at spl2
      have SPL1 := Lib.hid spl1; clear spl1
      have SPL2 := Lib.hid spl2; clear spl2
      obtain ⟨xn, hxn⟩ : ∃ xn, xn = (pages p as_).length := ⟨_, rfl⟩
      obtain ⟨yn, hyn⟩ : ∃ yn, yn = (pages q bs_).length := ⟨_, rfl⟩
      have hx16 : xn ≤ 16 := by rw [hxn, pages_length]; exact parts_le _
      have hy16 : yn ≤ 16 := by rw [hyn, pages_length]; exact parts_le _
      have HXN := Lib.hid hxn; clear hxn
      have HYN := Lib.hid hyn; clear hyn
      by_cases hsame : p.gen = q.gen ∧ p.mark = q.mark
      · have hg1 : (p.gen == q.gen) = true := by rw [beq_iff_eq]; exact hsame.1
        have hg2 : (p.mark == q.mark) = true := by rw [beq_iff_eq]; exact hsame.2
        clear hsame
        have HB := Lib.hid (palloc (palloc (palloc (Below.refl w.heap.size w) (Obj.cells #[.int .i64 p.kind, .int .i64 p.gen, .int .i64 p.mark, .int .i64 p.index, .int .i64 p.part, .int .i64 p.parts, .slice Ap lp cp] 24)) (Obj.cells #[.int .i64 q.kind, .int .i64 q.gen, .int .i64 q.mark, .int .i64 q.index, .int .i64 q.part, .int .i64 q.parts, .slice Aq lq cq] 24)) (Obj.cells #[.slice A1 n1 c1, .slice A2 n2 c2, .int .u8 (x : Nat)] 57))
        go_enter Try.func8, Try.ntmps8
        go_wp2
        go_quiet (fail)
        have HB1 := Lib.hid (below_drewN HB.out nq); clear HB; have HB := HB1; clear HB1
        have KB1 := Lib.hid (Blk.drewN KB.out nq); clear KB; have KB := KB1; clear KB1
        have KC1 := Lib.hid (Blk.drewN KC.out nq); clear KC; have KC := KC1; clear KC1
        generalize hW : World.drewN _ nq = W1 at HB KB KC ⊢
        clear hW
        have HM0 : True := trivial
        have b_6 := KB.out.cell 6
        have d_6 := KC.out.cell 6
        have b_1 := KB.out.cell 1
        have b_2 := KB.out.cell 2
        have d_1 := KC.out.cell 1
        have d_2 := KC.out.cell 2
        simp at b_1 b_2 b_6 d_1 d_2 d_6
        go_wp2_with (first
          | (have HM1 := HM0; refine wpList_load_row rfl 24 (.tmp 3) rfl w.heap.size rfl 24 #[.int .i64 p.kind, .int .i64 p.gen, .int .i64 p.mark, .int .i64 p.index, .int .i64 p.part, .int .i64 p.parts, .slice Ap lp cp] (0, 0) _ KB.out Try.underlying24 rfl (by rw [size24]; rfl) ?_)
          | (go_at_call 23; have HM2 := HX3; refine (SPL2.out _ ?hb).mono ?_; (case hb => with_reducible repeat (first | exact HB.out | refine below_drewN ?_ _ | refine pdrew ?_ | refine palloc ?_ _)); rintro e w4 ⟨v4, rfl, hp4, hb4⟩; obtain ⟨A4, n4, c4, rfl, _⟩ := id hp4; have hn4 : yn = n4 := (by rw [HYN.out]; exact (pgs_len hp4).1); subst hn4; have HP4 := Lib.hid hp4; clear hp4; have HP3n := Lib.hid (pgs_up hb4 HP3.out); clear HP3; have HP3 := HP3n; clear HP3n; have HBn := Lib.hid (below_up (w := w) hb4 (by with_reducible repeat (first | exact HB.out | refine below_drewN ?_ _ | refine pdrew ?_ | refine palloc ?_ _))); clear HB; have HB := HBn; clear HBn; have KBn := Lib.hid (blk_up hb4 KB.out); clear KB; have KB := KBn; clear KBn; have KCn := Lib.hid (blk_up hb4 KC.out); clear KC; have KC := KCn; clear KCn; have b_1 := KB.out.cell 1; have b_2 := KB.out.cell 2; have d_0 := KC.out.cell 0; have d_1 := KC.out.cell 1; have d_2 := KC.out.cell 2; have d_3 := KC.out.cell 3; have d_4 := KC.out.cell 4; have d_5 := KC.out.cell 5; have d_6 := KC.out.cell 6; simp at b_1 b_2 d_0 d_1 d_2 d_3 d_4 d_5 d_6; clear hb4)
          | (go_at_call 23; refine (SPL1.out _ ?hb).mono ?_; (case hb => with_reducible repeat (first | exact HB.out | refine below_drewN ?_ _ | refine pdrew ?_ | refine palloc ?_ _)); rintro e w3 ⟨v3, rfl, hp3, hb3⟩; obtain ⟨A3, n3, c3, rfl, _⟩ := id hp3; have hn3 : xn = n3 := (by rw [HXN.out]; exact (pgs_len hp3).1); subst hn3; have HP3 := Lib.hid hp3; clear hp3; have HX3 := trivial; clear HM0; have HBn := Lib.hid (below_up (w := w) hb3 (by with_reducible repeat (first | exact HB.out | refine below_drewN ?_ _ | refine pdrew ?_ | refine palloc ?_ _))); clear HB; have HB := HBn; clear HBn; have KBn := Lib.hid (blk_up hb3 KB.out); clear KB; have KB := KBn; clear KBn; have KCn := Lib.hid (blk_up hb3 KC.out); clear KC; have KC := KCn; clear KCn; have b_1 := KB.out.cell 1; have b_2 := KB.out.cell 2; have d_0 := KC.out.cell 0; have d_1 := KC.out.cell 1; have d_2 := KC.out.cell 2; have d_3 := KC.out.cell 3; have d_4 := KC.out.cell 4; have d_5 := KC.out.cell 5; have d_6 := KC.out.cell 6; simp at b_1 b_2 d_0 d_1 d_2 d_3 d_4 d_5 d_6; clear hb3)
          | (go_at_call 20; refine (awake5_any _).mono ?_; rintro e w9 ⟨rfl, hb9⟩; have HB9 := Lib.hid (below_up (w := w) hb9 (by with_reducible repeat (first | exact HB.out | refine below_drewN ?_ _ | refine pdrew ?_ | refine palloc ?_ _))); clear hb9))
        go_ret
        exact ⟨rfl, HB9.out⟩
      · have hcs : (p.gen == q.gen) = false ∨ ((p.gen == q.gen) = true ∧ (p.mark == q.mark) = false) := by
          by_cases hgn : p.gen = q.gen
          · refine .inr ⟨by rw [beq_iff_eq]; exact hgn, ?_⟩
            rw [beq_eq_false_iff_ne]
            exact fun h => hsame ⟨hgn, h⟩
          · exact .inl (by rw [beq_eq_false_iff_ne]; exact hgn)
        have HSAME := Lib.hid hsame; clear hsame
        by_cases hx2 : xn < 2
        · have hd5 : decide ((xn : Int) < 2) = true := by simp only [decide_eq_true_eq]; omega
          clear hx2
          rcases hcs with hg1 | ⟨hg1, hg2⟩
          all_goals
            have HB := Lib.hid (palloc (palloc (palloc (Below.refl w.heap.size w) (Obj.cells #[.int .i64 p.kind, .int .i64 p.gen, .int .i64 p.mark, .int .i64 p.index, .int .i64 p.part, .int .i64 p.parts, .slice Ap lp cp] 24)) (Obj.cells #[.int .i64 q.kind, .int .i64 q.gen, .int .i64 q.mark, .int .i64 q.index, .int .i64 q.part, .int .i64 q.parts, .slice Aq lq cq] 24)) (Obj.cells #[.slice A1 n1 c1, .slice A2 n2 c2, .int .u8 (x : Nat)] 57))
            go_enter Try.func8, Try.ntmps8
            go_wp2
            go_quiet (fail)
            have HB1 := Lib.hid (below_drewN HB.out nq); clear HB; have HB := HB1; clear HB1
            have KB1 := Lib.hid (Blk.drewN KB.out nq); clear KB; have KB := KB1; clear KB1
            have KC1 := Lib.hid (Blk.drewN KC.out nq); clear KC; have KC := KC1; clear KC1
            generalize hW : World.drewN _ nq = W1 at HB KB KC ⊢
            clear hW
            have HM0 : True := trivial
            have b_6 := KB.out.cell 6
            have d_6 := KC.out.cell 6
            have b_1 := KB.out.cell 1
            have b_2 := KB.out.cell 2
            have d_1 := KC.out.cell 1
            have d_2 := KC.out.cell 2
            simp at b_1 b_2 b_6 d_1 d_2 d_6
            go_wp2_with (first
              | (have HM1 := HM0; refine wpList_load_row rfl 24 (.tmp 3) rfl w.heap.size rfl 24 #[.int .i64 p.kind, .int .i64 p.gen, .int .i64 p.mark, .int .i64 p.index, .int .i64 p.part, .int .i64 p.parts, .slice Ap lp cp] (0, 0) _ KB.out Try.underlying24 rfl (by rw [size24]; rfl) ?_)
              | (go_at_call 23; have HM2 := HX3; refine (SPL2.out _ ?hb).mono ?_; (case hb => with_reducible repeat (first | exact HB.out | refine below_drewN ?_ _ | refine pdrew ?_ | refine palloc ?_ _)); rintro e w4 ⟨v4, rfl, hp4, hb4⟩; obtain ⟨A4, n4, c4, rfl, _⟩ := id hp4; have hn4 : yn = n4 := (by rw [HYN.out]; exact (pgs_len hp4).1); subst hn4; have HP4 := Lib.hid hp4; clear hp4; have HP3n := Lib.hid (pgs_up hb4 HP3.out); clear HP3; have HP3 := HP3n; clear HP3n; have HBn := Lib.hid (below_up (w := w) hb4 (by with_reducible repeat (first | exact HB.out | refine below_drewN ?_ _ | refine pdrew ?_ | refine palloc ?_ _))); clear HB; have HB := HBn; clear HBn; have KBn := Lib.hid (blk_up hb4 KB.out); clear KB; have KB := KBn; clear KBn; have KCn := Lib.hid (blk_up hb4 KC.out); clear KC; have KC := KCn; clear KCn; have b_1 := KB.out.cell 1; have b_2 := KB.out.cell 2; have d_0 := KC.out.cell 0; have d_1 := KC.out.cell 1; have d_2 := KC.out.cell 2; have d_3 := KC.out.cell 3; have d_4 := KC.out.cell 4; have d_5 := KC.out.cell 5; have d_6 := KC.out.cell 6; simp at b_1 b_2 d_0 d_1 d_2 d_3 d_4 d_5 d_6; clear hb4)
              | (go_at_call 23; refine (SPL1.out _ ?hb).mono ?_; (case hb => with_reducible repeat (first | exact HB.out | refine below_drewN ?_ _ | refine pdrew ?_ | refine palloc ?_ _)); rintro e w3 ⟨v3, rfl, hp3, hb3⟩; obtain ⟨A3, n3, c3, rfl, _⟩ := id hp3; have hn3 : xn = n3 := (by rw [HXN.out]; exact (pgs_len hp3).1); subst hn3; have HP3 := Lib.hid hp3; clear hp3; have HX3 := trivial; clear HM0; have HBn := Lib.hid (below_up (w := w) hb3 (by with_reducible repeat (first | exact HB.out | refine below_drewN ?_ _ | refine pdrew ?_ | refine palloc ?_ _))); clear HB; have HB := HBn; clear HBn; have KBn := Lib.hid (blk_up hb3 KB.out); clear KB; have KB := KBn; clear KBn; have KCn := Lib.hid (blk_up hb3 KC.out); clear KC; have KC := KCn; clear KCn; have b_1 := KB.out.cell 1; have b_2 := KB.out.cell 2; have d_0 := KC.out.cell 0; have d_1 := KC.out.cell 1; have d_2 := KC.out.cell 2; have d_3 := KC.out.cell 3; have d_4 := KC.out.cell 4; have d_5 := KC.out.cell 5; have d_6 := KC.out.cell 6; simp at b_1 b_2 d_0 d_1 d_2 d_3 d_4 d_5 d_6; clear hb3)
              | (go_at_call 20; refine (awake5_any _).mono ?_; rintro e w9 ⟨rfl, hb9⟩; have HB9 := Lib.hid (below_up (w := w) hb9 (by with_reducible repeat (first | exact HB.out | refine below_drewN ?_ _ | refine pdrew ?_ | refine palloc ?_ _))); clear hb9))
            go_ret
            exact ⟨rfl, HB9.out⟩
        · have hd5 : decide ((xn : Int) < 2) = false := by simp only [decide_eq_false_iff_not]; omega
          obtain ⟨k, hk⟩ : ∃ k, k = 1 + x % (xn - 1) := ⟨_, rfl⟩
          have hk1 : 1 ≤ k := by omega
          have hk2 : k < xn := by have := Nat.mod_lt x (show 0 < xn - 1 by omega); omega
          have hkI : (1 : Int) + (x : Int) % ((xn : Int) - 1) = (k : Int) := by
            rw [show ((xn : Int) - 1) = ((xn - 1 : Nat) : Int) by omega, ← Int.natCast_emod]
            omega
          have hkJ : (1 : Int) + (x : Int).tmod ((xn : Int) - 1) = (k : Int) := by rw [Int.tmod_eq_emod_of_nonneg (by omega)]; exact hkI
          have hw64 : wrap64 (1 + (x : Int) % ((xn : Int) - 1)) = (k : Int) := by rw [hkI]; unfold wrap64; omega
          have HKI := Lib.hid hkI; clear hkI
          have HKJ := Lib.hid hkJ; clear hkJ
          clear hk hx2
          have hx2 : 2 ≤ xn := by omega
          obtain ⟨i0, hi, hz0, hz1, hz2⟩ := info_parts info24
          have HI := Lib.hid hi; clear hi
          have HZ0 := Lib.hid hz0; clear hz0
          have HZ1 := Lib.hid hz1; clear hz1
          have HZ2 := Lib.hid hz2; clear hz2
          rcases hcs with hg1 | ⟨hg1, hg2⟩
          all_goals
            have HB := Lib.hid (palloc (palloc (palloc (Below.refl w.heap.size w) (Obj.cells #[.int .i64 p.kind, .int .i64 p.gen, .int .i64 p.mark, .int .i64 p.index, .int .i64 p.part, .int .i64 p.parts, .slice Ap lp cp] 24)) (Obj.cells #[.int .i64 q.kind, .int .i64 q.gen, .int .i64 q.mark, .int .i64 q.index, .int .i64 q.part, .int .i64 q.parts, .slice Aq lq cq] 24)) (Obj.cells #[.slice A1 n1 c1, .slice A2 n2 c2, .int .u8 (x : Nat)] 57))
            go_enter Try.func8, Try.ntmps8
            go_wp2
            go_quiet (fail)
            have HB1 := Lib.hid (below_drewN HB.out nq); clear HB; have HB := HB1; clear HB1
            have KB1 := Lib.hid (Blk.drewN KB.out nq); clear KB; have KB := KB1; clear KB1
            have KC1 := Lib.hid (Blk.drewN KC.out nq); clear KC; have KC := KC1; clear KC1
            generalize hW : World.drewN _ nq = W1 at HB KB KC ⊢
            clear hW
            have HM0 : True := trivial
            have b_6 := KB.out.cell 6
            have d_6 := KC.out.cell 6
            have b_1 := KB.out.cell 1
            have b_2 := KB.out.cell 2
            have d_1 := KC.out.cell 1
            have d_2 := KC.out.cell 2
            simp at b_1 b_2 b_6 d_1 d_2 d_6
            go_wp2_with (first
              | (have HM1 := HM0; refine wpList_load_row rfl 24 (.tmp 3) rfl w.heap.size rfl 24 #[.int .i64 p.kind, .int .i64 p.gen, .int .i64 p.mark, .int .i64 p.index, .int .i64 p.part, .int .i64 p.parts, .slice Ap lp cp] (0, 0) _ KB.out Try.underlying24 rfl (by rw [size24]; rfl) ?_)
              | (go_at_call 23; have HM2 := HX3; refine (SPL2.out _ ?hb).mono ?_; (case hb => with_reducible repeat (first | exact HB.out | refine below_drewN ?_ _ | refine pdrew ?_ | refine palloc ?_ _)); rintro e w4 ⟨v4, rfl, hp4, hb4⟩; obtain ⟨A4, n4, c4, rfl, _⟩ := id hp4; have hn4 : yn = n4 := (by rw [HYN.out]; exact (pgs_len hp4).1); subst hn4; have HP4 := Lib.hid hp4; clear hp4; have HP3n := Lib.hid (pgs_up hb4 HP3.out); clear HP3; have HP3 := HP3n; clear HP3n; have HBn := Lib.hid (below_up (w := w) hb4 (by with_reducible repeat (first | exact HB.out | refine below_drewN ?_ _ | refine pdrew ?_ | refine palloc ?_ _))); clear HB; have HB := HBn; clear HBn; have KBn := Lib.hid (blk_up hb4 KB.out); clear KB; have KB := KBn; clear KBn; have KCn := Lib.hid (blk_up hb4 KC.out); clear KC; have KC := KCn; clear KCn; have b_1 := KB.out.cell 1; have b_2 := KB.out.cell 2; have d_0 := KC.out.cell 0; have d_1 := KC.out.cell 1; have d_2 := KC.out.cell 2; have d_3 := KC.out.cell 3; have d_4 := KC.out.cell 4; have d_5 := KC.out.cell 5; have d_6 := KC.out.cell 6; simp at b_1 b_2 d_0 d_1 d_2 d_3 d_4 d_5 d_6; clear hb4; obtain ⟨us3, hsr3⟩ := src_of (HP3.out.take (Nat.le_of_lt hk2)); have HSR3 := Lib.hid hsr3; clear hsr3; have hc3 := (pgs_len HP3.out).2.1; have hkc3 : k ≤ c3 := (by omega); have hkx : (k : Int) ≤ (xn : Int) := (by omega))
              | (go_at_call 23; refine (SPL1.out _ ?hb).mono ?_; (case hb => with_reducible repeat (first | exact HB.out | refine below_drewN ?_ _ | refine pdrew ?_ | refine palloc ?_ _)); rintro e w3 ⟨v3, rfl, hp3, hb3⟩; obtain ⟨A3, n3, c3, rfl, _⟩ := id hp3; have hn3 : xn = n3 := (by rw [HXN.out]; exact (pgs_len hp3).1); subst hn3; have HP3 := Lib.hid hp3; clear hp3; have HX3 := trivial; clear HM0; have HBn := Lib.hid (below_up (w := w) hb3 (by with_reducible repeat (first | exact HB.out | refine below_drewN ?_ _ | refine pdrew ?_ | refine palloc ?_ _))); clear HB; have HB := HBn; clear HBn; have KBn := Lib.hid (blk_up hb3 KB.out); clear KB; have KB := KBn; clear KBn; have KCn := Lib.hid (blk_up hb3 KC.out); clear KC; have KC := KCn; clear KCn; have b_1 := KB.out.cell 1; have b_2 := KB.out.cell 2; have d_0 := KC.out.cell 0; have d_1 := KC.out.cell 1; have d_2 := KC.out.cell 2; have d_3 := KC.out.cell 3; have d_4 := KC.out.cell 4; have d_5 := KC.out.cell 5; have d_6 := KC.out.cell 6; simp at b_1 b_2 d_0 d_1 d_2 d_3 d_4 d_5 d_6; clear hb3)
              | (at_builtin; refine wpList_append_any _ rfl (.tmp 92) (.tmp 95) 42 rfl w4.heap.size 24 i0 zPg 7 72 Try.underlying42 HI.out HZ0.out HZ1.out HZ2.out rfl (by decide) (.slice (some ⟨w4.heap.size, 0, none⟩) 0 0) 0 [] rfl (own_lit24 w4 _ (Nat.le_refl _)) w4.heap.size A3 k c3 (flat ((pages p as_).take k) us3) rfl (Reads.alloc HSR3.out.reads (Nat.le_refl _) _) HSR3.out.ones ?h63 ?hby ?hbase ?_; (case h63 => unfold maxLen; omega); (case hby => omega); (case hbase => simp); intro v6 w6 hown6 hg6 hv6; obtain ⟨ho6, hb6⟩ := app_first HSR3.out hown6 hg6 hv6; have HO6 := Lib.hid ho6; have HB6 := Lib.hid hb6; clear ho6 hb6 hown6 hg6 hv6))
            go_loopw [15, 16] (fun vo iv wr => ∃ i : Nat, k ≤ i ∧ i ≤ 16 ∧ iv = .int .i64 i ∧ OwnPgs wr w4.heap.size vo ((pages p as_).take k ++ ((pages q bs_).take i).drop k) ∧ Below w4.heap.size w4 wr) (fun _ iv _ => 40 - (intOf iv).toNat)
            case atStart => exact ⟨k, Nat.le_refl _, by omega, rfl, by rw [List.drop_eq_nil_of_le (by rw [List.length_take]; omega), List.append_nil]; exact HO6.out, HB6.out⟩
            case round =>
              obtain ⟨i, hki, hi16, rfl, hop, hbr⟩ := hrel
              have HBR := Lib.hid hbr; clear hbr
              obtain ⟨PS, hPS⟩ : ∃ PS, PS = (pages p as_).take k ++ ((pages q bs_).take i).drop k := ⟨_, rfl⟩
              rw [← hPS] at hop
              have hpl : PS.length ≤ 32 := by rw [hPS, List.length_append, List.length_take, List.length_drop, List.length_take]; omega
              have HPS := Lib.hid hPS; clear hPS
              have HOP := Lib.hid hop; clear hop
              by_cases hy : i < yn
              · by_cases hxx : i < xn
                · obtain ⟨b4, o4, hA4, hb4, hc4⟩ := pgs_at HP4.out (by omega)
                  subst hA4
                  obtain ⟨vy, hr, hs⟩ := hc4 i hy
                  obtain ⟨q1, hq1⟩ : ∃ z, z = (pages q bs_).getD i noP := ⟨_, rfl⟩
                  rw [← hq1] at hr hs
                  obtain ⟨Ay, ny, cy, rfl, hbty⟩ := hs
                  have HR1 := Lib.hid hr; clear hr
                  have hps : PS ++ [q1] = (pages p as_).take k ++ ((pages q bs_).take (i + 1)).drop k := by
                    rw [HPS.out, take_step (by rw [← HYN.out]; exact hy) hki, hq1, List.append_assoc]
                  have HPS2 := Lib.hid hps; clear hps hq1
                  have HUS := Lib.hid (fun j (hj : u15.ownBlock = some j) => own_us HOP.out hj)
                  have HSA := Lib.hid (sba_of (g := u15.ownBlock) (⟨Ay, ny, cy, rfl, hbty.below HBR.out (Nat.le_refl _)⟩ : Sb wr w4.heap.size (.slice Ay ny cy) q1.b) HBR.out.size HUS.out)
                  obtain ⟨vs, hvl, hown, hvs⟩ := HOP.out
                  have HVL := Lib.hid hvl; clear hvl
                  have HOW := Lib.hid hown; clear hown
                  have HVS := Lib.hid hvs; clear hvs
                  clear hc4 hbty
                  go_wp2_with (first
                    | (refine wpList_load_mid rfl 24 (.tmp 117) rfl b4 (o4 + i * 7) rfl [.int .i64 q1.kind, .int .i64 q1.gen, .int .i64 q1.mark, .int .i64 q1.index, .int .i64 q1.part, .int .i64 q1.parts, .slice Ay ny cy] _ (rangeAt_below HR1.out HBR.out hb4) Try.underlying24 rfl (by rw [size24]; rfl) ?_)
                    | (at_builtin; refine wpList_append_any _ rfl (.tmp 114) (.tmp 119) 42 rfl w4.heap.size 24 i0 zPg 7 72 Try.underlying42 HI.out HZ0.out HZ1.out HZ2.out rfl (by decide) u15 PS.length (flat PS vs) rfl (HOW.out.alloc (Obj.cells #[.int .i64 q1.kind, .int .i64 q1.gen, .int .i64 q1.mark, .int .i64 q1.index, .int .i64 q1.part, .int .i64 q1.parts, .slice Ay ny cy] 24)) (wr.heap.size + 1) (some ⟨wr.heap.size, 0, none⟩) 1 1 (row q1 (.slice Ay ny cy)) rfl (reads_page wr #[.int .i64 q1.kind, .int .i64 q1.gen, .int .i64 q1.mark, .int .i64 q1.index, .int .i64 q1.part, .int .i64 q1.parts, .slice Ay ny cy] _ rfl rfl) (row_one _ _ _ _) ?h63 ?hby ?hbase ?_; (case h63 => unfold maxLen; omega); (case hby => omega); (case hbase => (have := HBR.out.size; simp; omega)); intro v7 w7 hown7 hg7 hv7; have hop7 := push_page HVL.out HVS.out HSA.out (palloc (Below.refl wr.heap.size wr) _) hown7 hg7 hv7; have HOP7 := Lib.hid hop7; have HB7 := Lib.hid ((palloc HBR.out _).grown hg7 (palloc HBR.out _).size (fun j hj => HUS.out j hj)); clear hop7 hown7 hg7 hv7))
                  go_roundw
                  case rel => exact ⟨i + 1, by omega, by omega, by go_num, by rw [← HPS2.out]; exact HOP7.out, HB7.out⟩
                  case measure => simp [intOf]; omega
                · obtain ⟨b4, o4, hA4, hb4, hc4⟩ := pgs_at HP4.out (by omega)
                  subst hA4
                  obtain ⟨vy, hr, hs⟩ := hc4 i hy
                  obtain ⟨q1, hq1⟩ : ∃ z, z = (pages q bs_).getD i noP := ⟨_, rfl⟩
                  rw [← hq1] at hr hs
                  obtain ⟨Ay, ny, cy, rfl, hbty⟩ := hs
                  have HR1 := Lib.hid hr; clear hr
                  have hps : PS ++ [q1] = (pages p as_).take k ++ ((pages q bs_).take (i + 1)).drop k := by
                    rw [HPS.out, take_step (by rw [← HYN.out]; exact hy) hki, hq1, List.append_assoc]
                  have HPS2 := Lib.hid hps; clear hps hq1
                  have HUS := Lib.hid (fun j (hj : u15.ownBlock = some j) => own_us HOP.out hj)
                  have HSA := Lib.hid (sba_of (g := u15.ownBlock) (⟨Ay, ny, cy, rfl, hbty.below HBR.out (Nat.le_refl _)⟩ : Sb wr w4.heap.size (.slice Ay ny cy) q1.b) HBR.out.size HUS.out)
                  obtain ⟨vs, hvl, hown, hvs⟩ := HOP.out
                  have HVL := Lib.hid hvl; clear hvl
                  have HOW := Lib.hid hown; clear hown
                  have HVS := Lib.hid hvs; clear hvs
                  clear hc4 hbty
                  go_wp2_with (first
                    | (refine wpList_load_mid rfl 24 (.tmp 117) rfl b4 (o4 + i * 7) rfl [.int .i64 q1.kind, .int .i64 q1.gen, .int .i64 q1.mark, .int .i64 q1.index, .int .i64 q1.part, .int .i64 q1.parts, .slice Ay ny cy] _ (rangeAt_below HR1.out HBR.out hb4) Try.underlying24 rfl (by rw [size24]; rfl) ?_)
                    | (at_builtin; refine wpList_append_any _ rfl (.tmp 114) (.tmp 119) 42 rfl w4.heap.size 24 i0 zPg 7 72 Try.underlying42 HI.out HZ0.out HZ1.out HZ2.out rfl (by decide) u15 PS.length (flat PS vs) rfl (HOW.out.alloc (Obj.cells #[.int .i64 q1.kind, .int .i64 q1.gen, .int .i64 q1.mark, .int .i64 q1.index, .int .i64 q1.part, .int .i64 q1.parts, .slice Ay ny cy] 24)) (wr.heap.size + 1) (some ⟨wr.heap.size, 0, none⟩) 1 1 (row q1 (.slice Ay ny cy)) rfl (reads_page wr #[.int .i64 q1.kind, .int .i64 q1.gen, .int .i64 q1.mark, .int .i64 q1.index, .int .i64 q1.part, .int .i64 q1.parts, .slice Ay ny cy] _ rfl rfl) (row_one _ _ _ _) ?h63 ?hby ?hbase ?_; (case h63 => unfold maxLen; omega); (case hby => omega); (case hbase => (have := HBR.out.size; simp; omega)); intro v7 w7 hown7 hg7 hv7; have hop7 := push_page HVL.out HVS.out HSA.out (palloc (Below.refl wr.heap.size wr) _) hown7 hg7 hv7; have HOP7 := Lib.hid hop7; have HB7 := Lib.hid ((palloc HBR.out _).grown hg7 (palloc HBR.out _).size (fun j hj => HUS.out j hj)); clear hop7 hown7 hg7 hv7))
                  go_roundw
                  case rel => exact ⟨i + 1, by omega, by omega, by go_num, by rw [← HPS2.out]; exact HOP7.out, HB7.out⟩
                  case measure => simp [intOf]; omega

              · by_cases hxx : i < xn
                · go_wp2
                  go_roundw
                  case rel => exact ⟨i + 1, by omega, by omega, by go_num, by rw [take_more _ _ (by rw [← HYN.out]; omega), ← HPS.out]; exact HOP.out, HBR.out⟩
                  case measure => simp [intOf]; omega
                · have hall : PS = (pages p as_).take k ++ (pages q bs_).drop k := by
                    have e : (pages q bs_).take i = pages q bs_ := List.take_of_length_le (by rw [← HYN.out]; omega)
                    rw [HPS.out, e]
                  have hjn : joined PS = none := by
                    rw [hall]
                    exact join_mixed hf hk1 (by rw [← pages_length p, ← HXN.out]; exact hk2) HSAME.out
                  have hjb := jb_none hjn
                  have hpg := own_pgs HOP.out
                  obtain ⟨A9, n9, c9, rfl, _⟩ := id hpg
                  have hn9 := (pgs_len hpg).1
                  have hmem : ∀ z ∈ PS, z.b.length ≤ 600 ∧ In64 z.index := by
                    intro z hz
                    rw [hall] at hz
                    rcases List.mem_append.1 hz with h | h
                    · exact fits_mem hf (List.mem_of_mem_take h)
                    · exact fits_mem hg (List.mem_of_mem_drop h)
                  have jn := join_any A9 n9 c9 PS wr hpg (by omega) (fun z hz => (hmem z hz).1) (fun z hz => (hmem z hz).2)
                  rw [hjn, hjb] at jn
                  have JN := Lib.hid jn; clear jn
                  have HBw := Lib.hid (HB.out.trans (HBR.out.mono HB.out.size)); clear HB
                  have HB := HBw; clear HBw
                  clear hjn hjb hall hmem hpg
                  go_wp2_with (first
                    | (go_at_call 26; refine (JN.out).mono ?_; rintro e w8 ⟨v8, rfl, hs8, hb8⟩; obtain ⟨A8, n8, c8, rfl, _⟩ := hs8; have HBn := Lib.hid (below_up (w := w) hb8 HB.out); clear HB; have HB := HBn; clear HBn hb8)
                    | (go_at_call 20; refine (awake5_any _).mono ?_; rintro e w9 ⟨rfl, hb9⟩; have HB9 := Lib.hid (below_up (w := w) hb9 (by with_reducible repeat (first | exact HB.out | refine below_drewN ?_ _ | refine pdrew ?_ | refine palloc ?_ _))); clear hb9))
                  go_ret
                  exact ⟨rfl, HB9.out⟩

open Go.ChangeShapes Go.WideShapes Go.ChangeAt Go.RowKit
theorem own : ownKnob Try.prog.godebug = none := by kernel_rfl
theorem laidOut : laidOutB Try.prog = true := by kernel_rfl
theorem walk (a0a a0b a0c a0d a0e a0f : Int) (a0g : Option Addr) (len0g cap0g : Nat) (z0g : List Int) (a1a a1b a1c a1d a1e a1f : Int) (a1g : Option Addr) (len1g cap1g : Nat) (z1g : List Int)
    (a2a : Option Addr) (len2a cap2a : Nat) (z2a : List Int) (a2b : Option Addr) (len2b cap2b : Nat) (z2b : List Int) (a2c : Int) (w : World)
    (w0a : (Lit.int .i64 a0a).wf = true) (w0b : (Lit.int .i64 a0b).wf = true) (w0c : (Lit.int .i64 a0c).wf = true) (w0d : (Lit.int .i64 a0d).wf = true) (w0e : (Lit.int .i64 a0e).wf = true) (w0f : (Lit.int .i64 a0f).wf = true)
    (w0g : IsRow .u8 w a0g len0g cap0g z0g)
    (w1a : (Lit.int .i64 a1a).wf = true) (w1b : (Lit.int .i64 a1b).wf = true) (w1c : (Lit.int .i64 a1c).wf = true) (w1d : (Lit.int .i64 a1d).wf = true) (w1e : (Lit.int .i64 a1e).wf = true) (w1f : (Lit.int .i64 a1f).wf = true)
    (w1g : IsRow .u8 w a1g len1g cap1g z1g) (w2a : IsRow .u8 w a2a len2a cap2a z2a) (w2b : IsRow .u8 w a2b len2b cap2b z2b) (w2c : (Lit.int .u8 a2c).wf = true) :
    Calls Try.prog 8 #[.agg #[.int .i64 a0a, .int .i64 a0b, .int .i64 a0c, .int .i64 a0d, .int .i64 a0e, .int .i64 a0f, .slice a0g len0g cap0g], .agg #[.int .i64 a1a, .int .i64 a1b, .int .i64 a1c, .int .i64 a1d, .int .i64 a1e, .int .i64 a1f, .slice a1g len1g cap1g], .agg #[.slice a2a len2a cap2a, .slice a2b len2b cap2b, .int .u8 a2c]] w fun e w' => e = .returned (.bool true) ∧ Below w.heap.size w w' := by
  have hx := Go.bounds_u8 w2c
  obtain ⟨x, rfl⟩ : ∃ x : Nat, a2c = x := ⟨a2c.toNat, by omega⟩
  by_cases h1 : len2a ≤ 7808
  · by_cases h2 : len2b ≤ 7808
    · by_cases h3 : len0g ≤ 600
      · by_cases h4 : len1g ≤ 600
        · obtain ⟨as_, has, _⟩ := sl_of_row w2a (by omega)
          obtain ⟨bs_, hbs, _⟩ := sl_of_row w2b (by omega)
          exact mixes_true ⟨a0a, a0b, a0c, a0d, a0e, a0f, []⟩ ⟨a1a, a1b, a1c, a1d, a1e, a1f, []⟩ a0g a1g a2a a2b len0g cap0g len1g cap1g len2a cap2a len2b cap2b x as_ bs_ w h1 h2 h3 h4 (by omega) (in64_of w0d) (in64_of w1d) has hbs
        · exact mixes_q ⟨a0a, a0b, a0c, a0d, a0e, a0f, []⟩ ⟨a1a, a1b, a1c, a1d, a1e, a1f, []⟩ a0g a1g a2a a2b len0g cap0g len1g cap1g len2a cap2a len2b cap2b x w h1 h2 h3 (by omega)
      · exact mixes_p ⟨a0a, a0b, a0c, a0d, a0e, a0f, []⟩ ⟨a1a, a1b, a1c, a1d, a1e, a1f, []⟩ a0g a1g a2a a2b len0g cap0g len1g cap1g len2a cap2a len2b cap2b x w h1 h2 (by omega)
    · exact mixes_b ⟨a0a, a0b, a0c, a0d, a0e, a0f, []⟩ ⟨a1a, a1b, a1c, a1d, a1e, a1f, []⟩ a0g a1g a2a a2b len0g cap0g len1g cap1g len2a cap2a len2b cap2b x w h1 (by omega)
  · exact mixes_a ⟨a0a, a0b, a0c, a0d, a0e, a0f, []⟩ ⟨a1a, a1b, a1c, a1d, a1e, a1f, []⟩ a0g a1g a2a a2b len0g cap0g len1g cap1g len2a cap2a len2b cap2b x w (by omega)
/-! the step from the walk to the row -/
set_option maxRecDepth 100000 in
theorem lifted (os : Os) (started : os.Started) (H : Type) (enc : TypeId × Value → H) :
    ReturnsInHanded {} Try.checked os 8 .any (Rows.recordMixesSpec.pre6 enc Try.prog Try.f8 Rows.recordMixesRow.domain false) (Rows.recordMixesSpec.post enc Try.prog Try.f8 false true false false) := by
  refine returnsInHanded_of_change (C := Try.checked) own started (by kernel_rfl) Try.func8
    (ChangeSpec.witness6 (enc := enc) (C := Try.checked) false ⟨#[], #[.agg #[.int .i64 0, .int .i64 0, .int .i64 0, .int .i64 0, .int .i64 0, .int .i64 0, .slice none 0 0], .agg #[.int .i64 0, .int .i64 0, .int .i64 0, .int .i64 0, .int .i64 0, .int .i64 0, .slice none 0 0], .agg #[.slice none 0 0, .slice none 0 0, .int .u8 0]], []⟩ 8 (by kernel_rfl) (by kernel_rfl) (by kernel_rfl) (by kernel_rfl)) ?_
  intro W base args ds gs before hval0 hW hcnd _
  have hval : ∀ (j : Nat) t v, Try.f8.params[j]? = some t → args[j]? = some v → Value.okWide Try.prog W .any base t v := hval0
  have hW' := hW
  obtain ⟨p, q, hA0, hV, rfl, hfz, hnd⟩ := hW
  have hA : DataW.TrodAll enc Try.prog W 0 (fun _ => true) true Try.f8.params.toList args.toList ds p := hA0
  rw [Try.params8] at hA hval
  obtain ⟨v0, vs0, d0, ds0, p0, q0, hargs, rfl, rfl, h0, r0⟩ := trodAll_cons hA
  obtain ⟨v1, vs1, d1, ds1, p1, q1, rfl, rfl, rfl, h1, r1⟩ := trodAll_cons r0
  obtain ⟨v2, vs2, d2, ds2, p2, q2, rfl, rfl, rfl, h2, r2⟩ := trodAll_cons r1
  obtain ⟨rfl, rfl, rfl⟩ := trodAll_nil r2
  obtain rfl : args = #[v0, v1, v2] := by cases args; simp_all
  obtain ⟨rfl, rfl⟩ := trodVars_none hV
  have k0 := h0
  have lt0 : ∀ x ∈ p0, x.block < W.heap.size := by obtain ⟨m, hm⟩ := k0; exact DataW.trod_lt m _ _ _ hm
  obtain ⟨u0a, u0b, u0c, u0d, u0e, u0f, u0g, _, _, _, _, _, _, _, _, rfl, _, _, g0a, g0b, g0c, g0d, g0e, g0f, g0g⟩ := open_agg7 Try.underlying24 (by kernel_rfl) (by kernel_rfl) (hval 0 24 v0 rfl rfl) h0
  obtain ⟨a0a, rfl, w0a⟩ := open_num_at Try.underlying3 g0a
  obtain ⟨a0b, rfl, w0b⟩ := open_num_at Try.underlying3 g0b
  obtain ⟨a0c, rfl, w0c⟩ := open_num_at Try.underlying3 g0c
  obtain ⟨a0d, rfl, w0d⟩ := open_num_at Try.underlying3 g0d
  obtain ⟨a0e, rfl, w0e⟩ := open_num_at Try.underlying3 g0e
  obtain ⟨a0f, rfl, w0f⟩ := open_num_at Try.underlying3 g0f
  obtain ⟨a0g, len0g, cap0g, z0g, rfl, w0g⟩ := open_row_at Try.underlying22 Try.underlying5 (by kernel_rfl) g0g
  have k1 := h1
  have lt1 : ∀ x ∈ p1, x.block < W.heap.size := by obtain ⟨m, hm⟩ := k1; exact DataW.trod_lt m _ _ _ hm
  obtain ⟨u1a, u1b, u1c, u1d, u1e, u1f, u1g, _, _, _, _, _, _, _, _, rfl, _, _, g1a, g1b, g1c, g1d, g1e, g1f, g1g⟩ := open_agg7 Try.underlying24 (by kernel_rfl) (by kernel_rfl) (hval 1 24 v1 rfl rfl) h1
  obtain ⟨a1a, rfl, w1a⟩ := open_num_at Try.underlying3 g1a
  obtain ⟨a1b, rfl, w1b⟩ := open_num_at Try.underlying3 g1b
  obtain ⟨a1c, rfl, w1c⟩ := open_num_at Try.underlying3 g1c
  obtain ⟨a1d, rfl, w1d⟩ := open_num_at Try.underlying3 g1d
  obtain ⟨a1e, rfl, w1e⟩ := open_num_at Try.underlying3 g1e
  obtain ⟨a1f, rfl, w1f⟩ := open_num_at Try.underlying3 g1f
  obtain ⟨a1g, len1g, cap1g, z1g, rfl, w1g⟩ := open_row_at Try.underlying22 Try.underlying5 (by kernel_rfl) g1g
  have k2 := h2
  have lt2 : ∀ x ∈ p2, x.block < W.heap.size := by obtain ⟨m, hm⟩ := k2; exact DataW.trod_lt m _ _ _ hm
  obtain ⟨u2a, u2b, u2c, _, _, _, _, rfl, _, _, g2a, g2b, g2c⟩ := Go.Joins.open_agg3 Try.underlying57 (by kernel_rfl) (by kernel_rfl) (hval 2 57 v2 rfl rfl) h2
  obtain ⟨a2a, len2a, cap2a, z2a, rfl, w2a⟩ := open_row_at Try.underlying22 Try.underlying5 (by kernel_rfl) g2a
  obtain ⟨a2b, len2b, cap2b, z2b, rfl, w2b⟩ := open_row_at Try.underlying22 Try.underlying5 (by kernel_rfl) g2b
  obtain ⟨a2c, rfl, w2c⟩ := open_num_at Try.underlying5 g2c
  clear hA0 hval0
  refine (walk a0a a0b a0c a0d a0e a0f a0g len0g cap0g z0g a1a a1b a1c a1d a1e a1f a1g len1g cap1g z1g a2a len2a cap2a z2a a2b len2b cap2b z2b a2c W w0a w0b w0c w0d w0e w0f w0g w1a w1b w1c w1d w1e w1f w1g w2a w2b w2c).mono fun e W' ⟨he, bel⟩ => ?_
  subst he
  exact ⟨_, rfl, _, _, _, [], _, [], hW', trodAll_mk1 (shut_bool Try.underlying4 _), (trodAll_cons_mk (Below.trod laidOut (by kernel_rfl) (of_decide_eq_true (by kernel_rfl)) k0 bel lt0) (trodAll_cons_mk (Below.trod laidOut (by kernel_rfl) (of_decide_eq_true (by kernel_rfl)) k1 bel lt1) (trodAll_cons_mk (Below.trod laidOut (by kernel_rfl) (of_decide_eq_true (by kernel_rfl)) k2 bel lt2) trodAll_mk0))), rfl, bel.frame _, fun h => by cases h⟩

theorem over : Rows.recordMixesRow.holds Try.pinned (OpenSpec.ofChange Rows.recordMixesSpec) :=
  OpenClaim.holds_of_wide 8 Try.f8 rfl rfl rfl rfl rfl rfl rfl ⟨rfl, rfl, rfl, rfl, rfl⟩ rfl rfl rfl rfl rfl (by kernel_rfl) Try.func8 (by kernel_rfl)
    (of_decide_eq_true (by kernel_rfl)) (by unfold Func.isWrapper; first | (rw [if_pos (by decide +kernel)]; kernel_rfl) | (rw [if_neg (by decide +kernel)]; exact ⟨rfl, rfl⟩))
    (fun os started H enc _ => lifted os started H enc)

/-- the statement -/
theorem proved : Rows.RecordMixesSaid := over
end Go.Proofs.Ytioledhbdehbpaa.recordMixes
