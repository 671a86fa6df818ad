/- The better one of two slots (layer 7): the contracts of slot.Better and the reference's. (Printed by tools/slot/better.py.) -/
import Derived.Test.YtkidjlmjjfgknaaSlotLoad
namespace Go.Proofs.Ytkidjlmjjfgknaa.Slt
open Go.RowKit Go.Proofs.Ytkidjlmjjfgknaa.Mem Go.Proofs.Ytkidjlmjjfgknaa.Oct Go.Proofs.Ytkidjlmjjfgknaa.Pg Go.Proofs.Ytkidjlmjjfgknaa.Rcd
set_option linter.unusedVariables false
set_option linter.unusedSimpArgs false
theorem better_eq (ss ts : List (List Nat)) : (better ss ts).isSome = ((loaded ss).isSome || (loaded ts).isSome) ∧ (better ss ts).getD (0, []) = if (loaded ss).isSome = false ∨ ((loaded ts).isSome = true ∧ (theB ss).1 < (theB ts).1) then theB ts else theB ss := by
  unfold better theB
  cases loaded ss with
  | none => simp
  | some x =>
    cases loaded ts with
    | none => simp
    | some y =>
      by_cases h : x.1 < y.1
      · simp [h]
      · simp [h]
theorem load_at (A : Option Addr) (n c : Nat) (ss : List (List Nat)) (w W : World) (hW : Below w.heap.size w W) (h : Sls w w.heap.size (.slice A n c) ss) (hn : n ≤ 1000) (hA : A = none → c = 0) (hlen : ∀ s ∈ ss, s.length ≤ 600) :
    Calls Try.prog 8 #[.slice A n c] W fun e w' => ∃ A1 n1 c1, e = .returned (.tuple #[.agg #[.int .i64 (theB ss).1, .slice A1 n1 c1], .bool (loaded ss).isSome]) ∧ Bts w' w'.heap.size A1 n1 (theB ss).2 ∧ Below W.heap.size W w' := by
  refine (load_any A n c ss W (h.up hW) hn hA hlen).mono ?_
  rintro e w' ⟨v', rfl, ⟨vb, rfl, A1, n1, c1, rfl, hb⟩, hb2⟩
  exact ⟨A1, n1, c1, rfl, hb, hb2⟩
theorem rload_at (A : Option Addr) (n c : Nat) (ss : List (List Nat)) (w W : World) (hW : Below w.heap.size w W) (h : Sls w w.heap.size (.slice A n c) ss) (hn : n ≤ 1000) (hlen : ∀ s ∈ ss, s.length ≤ 600) :
    Calls Try.prog 10 #[.slice A n c] W fun e w' => ∃ A1 n1 c1, e = .returned (.tuple #[.agg #[.int .i64 (theB ss).1, .slice A1 n1 c1], .bool (loaded ss).isSome]) ∧ Bts w' w'.heap.size A1 n1 (theB ss).2 ∧ Below W.heap.size W w' := by
  refine (rload_any A n c ss W (h.up hW) hn hlen).mono ?_
  rintro e w' ⟨v', rfl, ⟨vb, rfl, A1, n1, c1, rfl, hb⟩, hb2⟩
  exact ⟨A1, n1, c1, rfl, hb, hb2⟩
theorem bts_up {w w' : World} {A : Option Addr} {n : Nat} {xs : List Nat} (h : Bts w w.heap.size A n xs) (hb : Below w.heap.size w w') : Bts w' w'.heap.size A n xs := (h.below hb (Nat.le_refl _)).more hb.size
theorem none_same {ss ts : List (List Nat)} (h : (loaded ss).isSome = false) (h' : (loaded ts).isSome = false) : theB ss = theB ts := by
  unfold theB
  cases hs : loaded ss with
  | some x => rw [hs] at h; cases h
  | none =>
    cases ht : loaded ts with
    | some x => rw [ht] at h'; cases h'
    | none => rfl
theorem gt_yes {a b : Int} (h : a < b) : decide (a < b) = true := by simpa using h
theorem gt_no {a b : Int} (h : ¬ a < b) : decide (a < b) = false := by simpa using h
theorem ge_no {a b : Int} (h : a < b) : decide (b ≤ a) = false := by simp; omega
theorem ge_yes {a b : Int} (h : ¬ a < b) : decide (b ≤ a) = true := by simp; omega
set_option maxRecDepth 20000 in
set_option maxHeartbeats 4000000 in
theorem better_any (A A' : Option Addr) (n n' c c' : Nat) (ss ts : List (List Nat)) (w : World) (h : Sls w w.heap.size (.slice A n c) ss) (h' : Sls w w.heap.size (.slice A' n' c') ts) (hn : n ≤ 1000) (hn' : n' ≤ 1000) (hA : A = none → c = 0) (hA' : A' = none → c' = 0) (hlen : ∀ s ∈ ss, s.length ≤ 600) (hlen' : ∀ s ∈ ts, s.length ≤ 600) :
    Calls Try.prog 9 #[.slice A n c, .slice A' n' c'] w fun e w' => ∃ v', e = .returned (.tuple #[v', .bool (better ss ts).isSome]) ∧ BsAt w' w'.heap.size v' ((better ss ts).getD (0, [])) ∧ Below w.heap.size w w' := by
  have hb0 := palloc (Below.refl w.heap.size w) (Obj.cells #[.int .i64 0, .slice none 0 0] 27)
  have kp := Blk.new w 27 #[.int .i64 0, .slice none 0 0]
  have l1 := load_at A n c ss w _ hb0 h hn hA hlen
  have l2 := fun (W : World) (hW : Below w.heap.size w W) => load_at A' n' c' ts w W hW h' hn' hA' hlen'
  obtain ⟨be1, be2⟩ := better_eq ss ts
  rw [be1, be2]
  obtain ⟨oa, hoa⟩ : ∃ oa, oa = (loaded ss).isSome := ⟨_, rfl⟩
  obtain ⟨ob, hob⟩ : ∃ ob, ob = (loaded ts).isSome := ⟨_, rfl⟩
  obtain ⟨xa, hxa⟩ : ∃ xa, xa = theB ss := ⟨_, rfl⟩
  obtain ⟨xb, hxb⟩ : ∃ xb, xb = theB ts := ⟨_, rfl⟩
  have hsame : oa = false → ob = false → xa = xb := fun e1 e2 => by rw [hxa, hxb]; exact none_same (hoa.symm.trans e1) (hob.symm.trans e2)
  rw [← hoa, ← hxa] at l1
  rw [← hob, ← hxb] at l2
  rw [← hoa, ← hob, ← hxa, ← hxb]
  obtain ⟨ga, ba⟩ := xa
  obtain ⟨gb, bb⟩ := xb
  clear be1 be2 hoa hob hxa hxb hlen hlen' h h'
  simp only at l1 l2 ⊢
  have L2 := Lib.hid l2; clear l2
  have HB0 := Lib.hid hb0; clear hb0
  have KP0 := Lib.hid kp; clear kp
  have h0 : w.heap.size < (w.alloc (.cells #[.int .i64 0, .slice none 0 0] 27)).heap.size := by simp
  have HM0 := Lib.hid (rfl : (0 : Nat) = 0)
  cases oa
  · clear hsame
    rw [if_pos (.inl rfl), Bool.false_or]
    have L1 := Lib.hid l1; clear l1
    go_enter Try.func9, Try.ntmps9
    go_wp2_with (first
      | (have HM1 := HM0; go_at_call 8; refine (L1.out).mono ?_; rintro e w1 ⟨A1, n1, c1, rfl, hbt, hb⟩; clear HM0; have HM2 := HM1; clear HM1; have KP1 := Lib.hid ((KP0.out.below hb h0).alloc (Obj.cells #[.int .i64 ga, .slice A1 n1 c1] 27)); have K6 := Lib.hid (Blk.new w1 27 #[.int .i64 ga, .slice A1 n1 c1]); have HB1 := Lib.hid (palloc (HB0.out.trans (hb.mono HB0.out.size)) (Obj.cells #[.int .i64 ga, .slice A1 n1 c1] 27)); have HT1 := Lib.hid (bts_up hbt (palloc (Below.refl _ _) (Obj.cells #[.int .i64 ga, .slice A1 n1 c1] 27))); have hz1 := KP1.out.lt; have hz6 := K6.out.lt; clear hb hbt)
      | (have HM3 := HM2; go_at_call 8; refine (L2.out _ HB1.out).mono ?_; rintro e w2 ⟨A2, n2, c2, rfl, hbt, hb⟩; clear HM2 HM3; have KP2 := Lib.hid ((KP1.out.below hb hz1).alloc (Obj.cells #[.int .i64 gb, .slice A2 n2 c2] 27)); have K62 := Lib.hid ((K6.out.below hb hz6).alloc (Obj.cells #[.int .i64 gb, .slice A2 n2 c2] 27)); have K8 := Lib.hid (Blk.new w2 27 #[.int .i64 gb, .slice A2 n2 c2]); have HB2 := Lib.hid (palloc (HB1.out.trans (hb.mono HB1.out.size)) (Obj.cells #[.int .i64 gb, .slice A2 n2 c2] 27)); have HT12 := Lib.hid (bts_up (bts_up HT1.out hb) (palloc (Below.refl _ _) (Obj.cells #[.int .i64 gb, .slice A2 n2 c2] 27))); have HT2 := Lib.hid (bts_up hbt (palloc (Below.refl _ _) (Obj.cells #[.int .i64 gb, .slice A2 n2 c2] 27))); have a0 := KP2.out.cell 0; have a1 := KP2.out.cell 1; have p0 := K62.out.cell 0; have p1 := K62.out.cell 1; have q0 := K8.out.cell 0; have q1 := K8.out.cell 1; simp at a0 a1 p0 p1 q0 q1; have f0 := KP2.out.frozen 0; have f1 := KP2.out.frozen 1; have hz2 := KP2.out.lt; clear hb hbt))
    have hgr := set2_grown (w2.alloc (Obj.cells #[.int .i64 gb, .slice A2 n2 c2] 27)) w.heap.size (.int .i64 gb) (.slice A2 n2 c2)
    refine bodyPost_ret (v := .tuple #[.agg #[.int .i64 gb, .slice A2 n2 c2], .bool ob]) ?_ rfl ⟨_, rfl, ⟨.slice A2 n2 c2, rfl, (sb_by ⟨_, _, _, rfl, HT2.out⟩ hgr (Nat.le_refl _) (noBy_blk2 KP2.out)).more hgr.size⟩, ?_⟩
    · simp [results, Try.results9, go_sem, a0, a1, hz2]
    · exact HB2.out.grown hgr HB2.out.size (fun q hq => by cases hq; exact Nat.le_refl _)
  · clear hsame
    rw [Bool.true_or]
    cases ob
    · rw [if_neg (by simp)]
      have L1 := Lib.hid l1; clear l1
      go_enter Try.func9, Try.ntmps9
      go_wp2_with (first
        | (have HM1 := HM0; go_at_call 8; refine (L1.out).mono ?_; rintro e w1 ⟨A1, n1, c1, rfl, hbt, hb⟩; clear HM0; have HM2 := HM1; clear HM1; have KP1 := Lib.hid ((KP0.out.below hb h0).alloc (Obj.cells #[.int .i64 ga, .slice A1 n1 c1] 27)); have K6 := Lib.hid (Blk.new w1 27 #[.int .i64 ga, .slice A1 n1 c1]); have HB1 := Lib.hid (palloc (HB0.out.trans (hb.mono HB0.out.size)) (Obj.cells #[.int .i64 ga, .slice A1 n1 c1] 27)); have HT1 := Lib.hid (bts_up hbt (palloc (Below.refl _ _) (Obj.cells #[.int .i64 ga, .slice A1 n1 c1] 27))); have hz1 := KP1.out.lt; have hz6 := K6.out.lt; clear hb hbt)
        | (have HM3 := HM2; go_at_call 8; refine (L2.out _ HB1.out).mono ?_; rintro e w2 ⟨A2, n2, c2, rfl, hbt, hb⟩; clear HM2 HM3; have KP2 := Lib.hid ((KP1.out.below hb hz1).alloc (Obj.cells #[.int .i64 gb, .slice A2 n2 c2] 27)); have K62 := Lib.hid ((K6.out.below hb hz6).alloc (Obj.cells #[.int .i64 gb, .slice A2 n2 c2] 27)); have K8 := Lib.hid (Blk.new w2 27 #[.int .i64 gb, .slice A2 n2 c2]); have HB2 := Lib.hid (palloc (HB1.out.trans (hb.mono HB1.out.size)) (Obj.cells #[.int .i64 gb, .slice A2 n2 c2] 27)); have HT12 := Lib.hid (bts_up (bts_up HT1.out hb) (palloc (Below.refl _ _) (Obj.cells #[.int .i64 gb, .slice A2 n2 c2] 27))); have HT2 := Lib.hid (bts_up hbt (palloc (Below.refl _ _) (Obj.cells #[.int .i64 gb, .slice A2 n2 c2] 27))); have a0 := KP2.out.cell 0; have a1 := KP2.out.cell 1; have p0 := K62.out.cell 0; have p1 := K62.out.cell 1; have q0 := K8.out.cell 0; have q1 := K8.out.cell 1; simp at a0 a1 p0 p1 q0 q1; have f0 := KP2.out.frozen 0; have f1 := KP2.out.frozen 1; have hz2 := KP2.out.lt; clear hb hbt))
      have hgr := set2_grown (w2.alloc (Obj.cells #[.int .i64 gb, .slice A2 n2 c2] 27)) w.heap.size (.int .i64 ga) (.slice A1 n1 c1)
      refine bodyPost_ret (v := .tuple #[.agg #[.int .i64 ga, .slice A1 n1 c1], .bool true]) ?_ rfl ⟨_, rfl, ⟨.slice A1 n1 c1, rfl, (sb_by ⟨_, _, _, rfl, HT12.out⟩ hgr (Nat.le_refl _) (noBy_blk2 KP2.out)).more hgr.size⟩, ?_⟩
      · simp [results, Try.results9, go_sem, a0, a1, hz2]
      · exact HB2.out.grown hgr HB2.out.size (fun q hq => by cases hq; exact Nat.le_refl _)
    · by_cases hlt : ga < gb
      · rw [if_pos (.inr ⟨rfl, hlt⟩)]
        have hd := gt_yes hlt
        have hd2 := ge_no hlt
        clear hlt
        have L1 := Lib.hid l1; clear l1
        go_enter Try.func9, Try.ntmps9
        go_wp2_with (first
          | (have HM1 := HM0; go_at_call 8; refine (L1.out).mono ?_; rintro e w1 ⟨A1, n1, c1, rfl, hbt, hb⟩; clear HM0; have HM2 := HM1; clear HM1; have KP1 := Lib.hid ((KP0.out.below hb h0).alloc (Obj.cells #[.int .i64 ga, .slice A1 n1 c1] 27)); have K6 := Lib.hid (Blk.new w1 27 #[.int .i64 ga, .slice A1 n1 c1]); have HB1 := Lib.hid (palloc (HB0.out.trans (hb.mono HB0.out.size)) (Obj.cells #[.int .i64 ga, .slice A1 n1 c1] 27)); have HT1 := Lib.hid (bts_up hbt (palloc (Below.refl _ _) (Obj.cells #[.int .i64 ga, .slice A1 n1 c1] 27))); have hz1 := KP1.out.lt; have hz6 := K6.out.lt; clear hb hbt)
          | (have HM3 := HM2; go_at_call 8; refine (L2.out _ HB1.out).mono ?_; rintro e w2 ⟨A2, n2, c2, rfl, hbt, hb⟩; clear HM2 HM3; have KP2 := Lib.hid ((KP1.out.below hb hz1).alloc (Obj.cells #[.int .i64 gb, .slice A2 n2 c2] 27)); have K62 := Lib.hid ((K6.out.below hb hz6).alloc (Obj.cells #[.int .i64 gb, .slice A2 n2 c2] 27)); have K8 := Lib.hid (Blk.new w2 27 #[.int .i64 gb, .slice A2 n2 c2]); have HB2 := Lib.hid (palloc (HB1.out.trans (hb.mono HB1.out.size)) (Obj.cells #[.int .i64 gb, .slice A2 n2 c2] 27)); have HT12 := Lib.hid (bts_up (bts_up HT1.out hb) (palloc (Below.refl _ _) (Obj.cells #[.int .i64 gb, .slice A2 n2 c2] 27))); have HT2 := Lib.hid (bts_up hbt (palloc (Below.refl _ _) (Obj.cells #[.int .i64 gb, .slice A2 n2 c2] 27))); have a0 := KP2.out.cell 0; have a1 := KP2.out.cell 1; have p0 := K62.out.cell 0; have p1 := K62.out.cell 1; have q0 := K8.out.cell 0; have q1 := K8.out.cell 1; simp at a0 a1 p0 p1 q0 q1; have f0 := KP2.out.frozen 0; have f1 := KP2.out.frozen 1; have hz2 := KP2.out.lt; clear hb hbt))
        have hgr := set2_grown (w2.alloc (Obj.cells #[.int .i64 gb, .slice A2 n2 c2] 27)) w.heap.size (.int .i64 gb) (.slice A2 n2 c2)
        refine bodyPost_ret (v := .tuple #[.agg #[.int .i64 gb, .slice A2 n2 c2], .bool true]) ?_ rfl ⟨_, rfl, ⟨.slice A2 n2 c2, rfl, (sb_by ⟨_, _, _, rfl, HT2.out⟩ hgr (Nat.le_refl _) (noBy_blk2 KP2.out)).more hgr.size⟩, ?_⟩
        · simp [results, Try.results9, go_sem, a0, a1, hz2]
        · exact HB2.out.grown hgr HB2.out.size (fun q hq => by cases hq; exact Nat.le_refl _)
      · rw [if_neg (by simp [hlt])]
        have hd := gt_no hlt
        have hd2 := ge_yes hlt
        clear hlt
        have L1 := Lib.hid l1; clear l1
        go_enter Try.func9, Try.ntmps9
        go_wp2_with (first
          | (have HM1 := HM0; go_at_call 8; refine (L1.out).mono ?_; rintro e w1 ⟨A1, n1, c1, rfl, hbt, hb⟩; clear HM0; have HM2 := HM1; clear HM1; have KP1 := Lib.hid ((KP0.out.below hb h0).alloc (Obj.cells #[.int .i64 ga, .slice A1 n1 c1] 27)); have K6 := Lib.hid (Blk.new w1 27 #[.int .i64 ga, .slice A1 n1 c1]); have HB1 := Lib.hid (palloc (HB0.out.trans (hb.mono HB0.out.size)) (Obj.cells #[.int .i64 ga, .slice A1 n1 c1] 27)); have HT1 := Lib.hid (bts_up hbt (palloc (Below.refl _ _) (Obj.cells #[.int .i64 ga, .slice A1 n1 c1] 27))); have hz1 := KP1.out.lt; have hz6 := K6.out.lt; clear hb hbt)
          | (have HM3 := HM2; go_at_call 8; refine (L2.out _ HB1.out).mono ?_; rintro e w2 ⟨A2, n2, c2, rfl, hbt, hb⟩; clear HM2 HM3; have KP2 := Lib.hid ((KP1.out.below hb hz1).alloc (Obj.cells #[.int .i64 gb, .slice A2 n2 c2] 27)); have K62 := Lib.hid ((K6.out.below hb hz6).alloc (Obj.cells #[.int .i64 gb, .slice A2 n2 c2] 27)); have K8 := Lib.hid (Blk.new w2 27 #[.int .i64 gb, .slice A2 n2 c2]); have HB2 := Lib.hid (palloc (HB1.out.trans (hb.mono HB1.out.size)) (Obj.cells #[.int .i64 gb, .slice A2 n2 c2] 27)); have HT12 := Lib.hid (bts_up (bts_up HT1.out hb) (palloc (Below.refl _ _) (Obj.cells #[.int .i64 gb, .slice A2 n2 c2] 27))); have HT2 := Lib.hid (bts_up hbt (palloc (Below.refl _ _) (Obj.cells #[.int .i64 gb, .slice A2 n2 c2] 27))); have a0 := KP2.out.cell 0; have a1 := KP2.out.cell 1; have p0 := K62.out.cell 0; have p1 := K62.out.cell 1; have q0 := K8.out.cell 0; have q1 := K8.out.cell 1; simp at a0 a1 p0 p1 q0 q1; have f0 := KP2.out.frozen 0; have f1 := KP2.out.frozen 1; have hz2 := KP2.out.lt; clear hb hbt))
        have hgr := set2_grown (w2.alloc (Obj.cells #[.int .i64 gb, .slice A2 n2 c2] 27)) w.heap.size (.int .i64 ga) (.slice A1 n1 c1)
        refine bodyPost_ret (v := .tuple #[.agg #[.int .i64 ga, .slice A1 n1 c1], .bool true]) ?_ rfl ⟨_, rfl, ⟨.slice A1 n1 c1, rfl, (sb_by ⟨_, _, _, rfl, HT12.out⟩ hgr (Nat.le_refl _) (noBy_blk2 KP2.out)).more hgr.size⟩, ?_⟩
        · simp [results, Try.results9, go_sem, a0, a1, hz2]
        · exact HB2.out.grown hgr HB2.out.size (fun q hq => by cases hq; exact Nat.le_refl _)
set_option maxRecDepth 20000 in
set_option maxHeartbeats 4000000 in
theorem rbetter_any (A A' : Option Addr) (n n' c c' : Nat) (ss ts : List (List Nat)) (w : World) (h : Sls w w.heap.size (.slice A n c) ss) (h' : Sls w w.heap.size (.slice A' n' c') ts) (hn : n ≤ 1000) (hn' : n' ≤ 1000) (hlen : ∀ s ∈ ss, s.length ≤ 600) (hlen' : ∀ s ∈ ts, s.length ≤ 600) :
    Calls Try.prog 11 #[.slice A n c, .slice A' n' c'] w fun e w' => ∃ v', e = .returned (.tuple #[v', .bool (better ss ts).isSome]) ∧ BsAt w' w'.heap.size v' ((better ss ts).getD (0, [])) ∧ Below w.heap.size w w' := by
  have hb0 := palloc (Below.refl w.heap.size w) (Obj.cells #[.int .i64 0, .slice none 0 0] 27)
  have kp := Blk.new w 27 #[.int .i64 0, .slice none 0 0]
  have l1 := rload_at A n c ss w _ hb0 h hn hlen
  have l2 := fun (W : World) (hW : Below w.heap.size w W) => rload_at A' n' c' ts w W hW h' hn' hlen'
  obtain ⟨be1, be2⟩ := better_eq ss ts
  rw [be1, be2]
  obtain ⟨oa, hoa⟩ : ∃ oa, oa = (loaded ss).isSome := ⟨_, rfl⟩
  obtain ⟨ob, hob⟩ : ∃ ob, ob = (loaded ts).isSome := ⟨_, rfl⟩
  obtain ⟨xa, hxa⟩ : ∃ xa, xa = theB ss := ⟨_, rfl⟩
  obtain ⟨xb, hxb⟩ : ∃ xb, xb = theB ts := ⟨_, rfl⟩
  have hsame : oa = false → ob = false → xa = xb := fun e1 e2 => by rw [hxa, hxb]; exact none_same (hoa.symm.trans e1) (hob.symm.trans e2)
  rw [← hoa, ← hxa] at l1
  rw [← hob, ← hxb] at l2
  rw [← hoa, ← hob, ← hxa, ← hxb]
  obtain ⟨ga, ba⟩ := xa
  obtain ⟨gb, bb⟩ := xb
  clear be1 be2 hoa hob hxa hxb hlen hlen' h h'
  simp only at l1 l2 ⊢
  have L2 := Lib.hid l2; clear l2
  have HB0 := Lib.hid hb0; clear hb0
  have KP0 := Lib.hid kp; clear kp
  have h0 : w.heap.size < (w.alloc (.cells #[.int .i64 0, .slice none 0 0] 27)).heap.size := by simp
  have HM0 := Lib.hid (rfl : (0 : Nat) = 0)
  cases oa
  · rw [if_pos (.inl rfl), Bool.false_or]
    cases ob
    · obtain ⟨rfl, rfl⟩ := Prod.mk.inj (hsame rfl rfl)
      clear hsame
      have L1 := Lib.hid l1; clear l1
      go_enter Try.func11, Try.ntmps11
      go_wp2_with (first
        | (have HM1 := HM0; go_at_call 10; refine (L1.out).mono ?_; rintro e w1 ⟨A1, n1, c1, rfl, hbt, hb⟩; clear HM0; have HM2 := HM1; clear HM1; have KP1 := Lib.hid ((KP0.out.below hb h0).alloc (Obj.cells #[.int .i64 ga, .slice A1 n1 c1] 27)); have K6 := Lib.hid (Blk.new w1 27 #[.int .i64 ga, .slice A1 n1 c1]); have HB1 := Lib.hid (palloc (HB0.out.trans (hb.mono HB0.out.size)) (Obj.cells #[.int .i64 ga, .slice A1 n1 c1] 27)); have HT1 := Lib.hid (bts_up hbt (palloc (Below.refl _ _) (Obj.cells #[.int .i64 ga, .slice A1 n1 c1] 27))); have hz1 := KP1.out.lt; have hz6 := K6.out.lt; clear hb hbt)
        | (have HM3 := HM2; go_at_call 10; refine (L2.out _ HB1.out).mono ?_; rintro e w2 ⟨A2, n2, c2, rfl, hbt, hb⟩; clear HM2 HM3; have KP2 := Lib.hid ((KP1.out.below hb hz1).alloc (Obj.cells #[.int .i64 ga, .slice A2 n2 c2] 27)); have K62 := Lib.hid ((K6.out.below hb hz6).alloc (Obj.cells #[.int .i64 ga, .slice A2 n2 c2] 27)); have K8 := Lib.hid (Blk.new w2 27 #[.int .i64 ga, .slice A2 n2 c2]); have HB2 := Lib.hid (palloc (HB1.out.trans (hb.mono HB1.out.size)) (Obj.cells #[.int .i64 ga, .slice A2 n2 c2] 27)); have HT12 := Lib.hid (bts_up (bts_up HT1.out hb) (palloc (Below.refl _ _) (Obj.cells #[.int .i64 ga, .slice A2 n2 c2] 27))); have HT2 := Lib.hid (bts_up hbt (palloc (Below.refl _ _) (Obj.cells #[.int .i64 ga, .slice A2 n2 c2] 27))); have a0 := KP2.out.cell 0; have a1 := KP2.out.cell 1; have p0 := K62.out.cell 0; have p1 := K62.out.cell 1; have q0 := K8.out.cell 0; have q1 := K8.out.cell 1; simp at a0 a1 p0 p1 q0 q1; have f0 := KP2.out.frozen 0; have f1 := KP2.out.frozen 1; have hz2 := KP2.out.lt; clear hb hbt))
      have hgr := set2_grown (w2.alloc (Obj.cells #[.int .i64 ga, .slice A2 n2 c2] 27)) w.heap.size (.int .i64 ga) (.slice A1 n1 c1)
      refine bodyPost_ret (v := .tuple #[.agg #[.int .i64 ga, .slice A1 n1 c1], .bool false]) ?_ rfl ⟨_, rfl, ⟨.slice A1 n1 c1, rfl, (sb_by ⟨_, _, _, rfl, HT12.out⟩ hgr (Nat.le_refl _) (noBy_blk2 KP2.out)).more hgr.size⟩, ?_⟩
      · simp [results, Try.results11, go_sem, a0, a1, hz2]
      · exact HB2.out.grown hgr HB2.out.size (fun q hq => by cases hq; exact Nat.le_refl _)
    · clear hsame
      have L1 := Lib.hid l1; clear l1
      go_enter Try.func11, Try.ntmps11
      go_wp2_with (first
        | (have HM1 := HM0; go_at_call 10; refine (L1.out).mono ?_; rintro e w1 ⟨A1, n1, c1, rfl, hbt, hb⟩; clear HM0; have HM2 := HM1; clear HM1; have KP1 := Lib.hid ((KP0.out.below hb h0).alloc (Obj.cells #[.int .i64 ga, .slice A1 n1 c1] 27)); have K6 := Lib.hid (Blk.new w1 27 #[.int .i64 ga, .slice A1 n1 c1]); have HB1 := Lib.hid (palloc (HB0.out.trans (hb.mono HB0.out.size)) (Obj.cells #[.int .i64 ga, .slice A1 n1 c1] 27)); have HT1 := Lib.hid (bts_up hbt (palloc (Below.refl _ _) (Obj.cells #[.int .i64 ga, .slice A1 n1 c1] 27))); have hz1 := KP1.out.lt; have hz6 := K6.out.lt; clear hb hbt)
        | (have HM3 := HM2; go_at_call 10; refine (L2.out _ HB1.out).mono ?_; rintro e w2 ⟨A2, n2, c2, rfl, hbt, hb⟩; clear HM2 HM3; have KP2 := Lib.hid ((KP1.out.below hb hz1).alloc (Obj.cells #[.int .i64 gb, .slice A2 n2 c2] 27)); have K62 := Lib.hid ((K6.out.below hb hz6).alloc (Obj.cells #[.int .i64 gb, .slice A2 n2 c2] 27)); have K8 := Lib.hid (Blk.new w2 27 #[.int .i64 gb, .slice A2 n2 c2]); have HB2 := Lib.hid (palloc (HB1.out.trans (hb.mono HB1.out.size)) (Obj.cells #[.int .i64 gb, .slice A2 n2 c2] 27)); have HT12 := Lib.hid (bts_up (bts_up HT1.out hb) (palloc (Below.refl _ _) (Obj.cells #[.int .i64 gb, .slice A2 n2 c2] 27))); have HT2 := Lib.hid (bts_up hbt (palloc (Below.refl _ _) (Obj.cells #[.int .i64 gb, .slice A2 n2 c2] 27))); have a0 := KP2.out.cell 0; have a1 := KP2.out.cell 1; have p0 := K62.out.cell 0; have p1 := K62.out.cell 1; have q0 := K8.out.cell 0; have q1 := K8.out.cell 1; simp at a0 a1 p0 p1 q0 q1; have f0 := KP2.out.frozen 0; have f1 := KP2.out.frozen 1; have hz2 := KP2.out.lt; clear hb hbt))
      have hgr := set2_grown (w2.alloc (Obj.cells #[.int .i64 gb, .slice A2 n2 c2] 27)) w.heap.size (.int .i64 gb) (.slice A2 n2 c2)
      refine bodyPost_ret (v := .tuple #[.agg #[.int .i64 gb, .slice A2 n2 c2], .bool true]) ?_ rfl ⟨_, rfl, ⟨.slice A2 n2 c2, rfl, (sb_by ⟨_, _, _, rfl, HT2.out⟩ hgr (Nat.le_refl _) (noBy_blk2 KP2.out)).more hgr.size⟩, ?_⟩
      · simp [results, Try.results11, go_sem, a0, a1, hz2]
      · exact HB2.out.grown hgr HB2.out.size (fun q hq => by cases hq; exact Nat.le_refl _)
  · clear hsame
    rw [Bool.true_or]
    cases ob
    · rw [if_neg (by simp)]
      have L1 := Lib.hid l1; clear l1
      go_enter Try.func11, Try.ntmps11
      go_wp2_with (first
        | (have HM1 := HM0; go_at_call 10; refine (L1.out).mono ?_; rintro e w1 ⟨A1, n1, c1, rfl, hbt, hb⟩; clear HM0; have HM2 := HM1; clear HM1; have KP1 := Lib.hid ((KP0.out.below hb h0).alloc (Obj.cells #[.int .i64 ga, .slice A1 n1 c1] 27)); have K6 := Lib.hid (Blk.new w1 27 #[.int .i64 ga, .slice A1 n1 c1]); have HB1 := Lib.hid (palloc (HB0.out.trans (hb.mono HB0.out.size)) (Obj.cells #[.int .i64 ga, .slice A1 n1 c1] 27)); have HT1 := Lib.hid (bts_up hbt (palloc (Below.refl _ _) (Obj.cells #[.int .i64 ga, .slice A1 n1 c1] 27))); have hz1 := KP1.out.lt; have hz6 := K6.out.lt; clear hb hbt)
        | (have HM3 := HM2; go_at_call 10; refine (L2.out _ HB1.out).mono ?_; rintro e w2 ⟨A2, n2, c2, rfl, hbt, hb⟩; clear HM2 HM3; have KP2 := Lib.hid ((KP1.out.below hb hz1).alloc (Obj.cells #[.int .i64 gb, .slice A2 n2 c2] 27)); have K62 := Lib.hid ((K6.out.below hb hz6).alloc (Obj.cells #[.int .i64 gb, .slice A2 n2 c2] 27)); have K8 := Lib.hid (Blk.new w2 27 #[.int .i64 gb, .slice A2 n2 c2]); have HB2 := Lib.hid (palloc (HB1.out.trans (hb.mono HB1.out.size)) (Obj.cells #[.int .i64 gb, .slice A2 n2 c2] 27)); have HT12 := Lib.hid (bts_up (bts_up HT1.out hb) (palloc (Below.refl _ _) (Obj.cells #[.int .i64 gb, .slice A2 n2 c2] 27))); have HT2 := Lib.hid (bts_up hbt (palloc (Below.refl _ _) (Obj.cells #[.int .i64 gb, .slice A2 n2 c2] 27))); have a0 := KP2.out.cell 0; have a1 := KP2.out.cell 1; have p0 := K62.out.cell 0; have p1 := K62.out.cell 1; have q0 := K8.out.cell 0; have q1 := K8.out.cell 1; simp at a0 a1 p0 p1 q0 q1; have f0 := KP2.out.frozen 0; have f1 := KP2.out.frozen 1; have hz2 := KP2.out.lt; clear hb hbt))
      have hgr := set2_grown (w2.alloc (Obj.cells #[.int .i64 gb, .slice A2 n2 c2] 27)) w.heap.size (.int .i64 ga) (.slice A1 n1 c1)
      refine bodyPost_ret (v := .tuple #[.agg #[.int .i64 ga, .slice A1 n1 c1], .bool true]) ?_ rfl ⟨_, rfl, ⟨.slice A1 n1 c1, rfl, (sb_by ⟨_, _, _, rfl, HT12.out⟩ hgr (Nat.le_refl _) (noBy_blk2 KP2.out)).more hgr.size⟩, ?_⟩
      · simp [results, Try.results11, go_sem, a0, a1, hz2]
      · exact HB2.out.grown hgr HB2.out.size (fun q hq => by cases hq; exact Nat.le_refl _)
    · by_cases hlt : ga < gb
      · rw [if_pos (.inr ⟨rfl, hlt⟩)]
        have hd := gt_yes hlt
        have hd2 := ge_no hlt
        clear hlt
        have L1 := Lib.hid l1; clear l1
        go_enter Try.func11, Try.ntmps11
        go_wp2_with (first
          | (have HM1 := HM0; go_at_call 10; refine (L1.out).mono ?_; rintro e w1 ⟨A1, n1, c1, rfl, hbt, hb⟩; clear HM0; have HM2 := HM1; clear HM1; have KP1 := Lib.hid ((KP0.out.below hb h0).alloc (Obj.cells #[.int .i64 ga, .slice A1 n1 c1] 27)); have K6 := Lib.hid (Blk.new w1 27 #[.int .i64 ga, .slice A1 n1 c1]); have HB1 := Lib.hid (palloc (HB0.out.trans (hb.mono HB0.out.size)) (Obj.cells #[.int .i64 ga, .slice A1 n1 c1] 27)); have HT1 := Lib.hid (bts_up hbt (palloc (Below.refl _ _) (Obj.cells #[.int .i64 ga, .slice A1 n1 c1] 27))); have hz1 := KP1.out.lt; have hz6 := K6.out.lt; clear hb hbt)
          | (have HM3 := HM2; go_at_call 10; refine (L2.out _ HB1.out).mono ?_; rintro e w2 ⟨A2, n2, c2, rfl, hbt, hb⟩; clear HM2 HM3; have KP2 := Lib.hid ((KP1.out.below hb hz1).alloc (Obj.cells #[.int .i64 gb, .slice A2 n2 c2] 27)); have K62 := Lib.hid ((K6.out.below hb hz6).alloc (Obj.cells #[.int .i64 gb, .slice A2 n2 c2] 27)); have K8 := Lib.hid (Blk.new w2 27 #[.int .i64 gb, .slice A2 n2 c2]); have HB2 := Lib.hid (palloc (HB1.out.trans (hb.mono HB1.out.size)) (Obj.cells #[.int .i64 gb, .slice A2 n2 c2] 27)); have HT12 := Lib.hid (bts_up (bts_up HT1.out hb) (palloc (Below.refl _ _) (Obj.cells #[.int .i64 gb, .slice A2 n2 c2] 27))); have HT2 := Lib.hid (bts_up hbt (palloc (Below.refl _ _) (Obj.cells #[.int .i64 gb, .slice A2 n2 c2] 27))); have a0 := KP2.out.cell 0; have a1 := KP2.out.cell 1; have p0 := K62.out.cell 0; have p1 := K62.out.cell 1; have q0 := K8.out.cell 0; have q1 := K8.out.cell 1; simp at a0 a1 p0 p1 q0 q1; have f0 := KP2.out.frozen 0; have f1 := KP2.out.frozen 1; have hz2 := KP2.out.lt; clear hb hbt))
        have hgr := set2_grown (w2.alloc (Obj.cells #[.int .i64 gb, .slice A2 n2 c2] 27)) w.heap.size (.int .i64 gb) (.slice A2 n2 c2)
        refine bodyPost_ret (v := .tuple #[.agg #[.int .i64 gb, .slice A2 n2 c2], .bool true]) ?_ rfl ⟨_, rfl, ⟨.slice A2 n2 c2, rfl, (sb_by ⟨_, _, _, rfl, HT2.out⟩ hgr (Nat.le_refl _) (noBy_blk2 KP2.out)).more hgr.size⟩, ?_⟩
        · simp [results, Try.results11, go_sem, a0, a1, hz2]
        · exact HB2.out.grown hgr HB2.out.size (fun q hq => by cases hq; exact Nat.le_refl _)
      · rw [if_neg (by simp [hlt])]
        have hd := gt_no hlt
        have hd2 := ge_yes hlt
        clear hlt
        have L1 := Lib.hid l1; clear l1
        go_enter Try.func11, Try.ntmps11
        go_wp2_with (first
          | (have HM1 := HM0; go_at_call 10; refine (L1.out).mono ?_; rintro e w1 ⟨A1, n1, c1, rfl, hbt, hb⟩; clear HM0; have HM2 := HM1; clear HM1; have KP1 := Lib.hid ((KP0.out.below hb h0).alloc (Obj.cells #[.int .i64 ga, .slice A1 n1 c1] 27)); have K6 := Lib.hid (Blk.new w1 27 #[.int .i64 ga, .slice A1 n1 c1]); have HB1 := Lib.hid (palloc (HB0.out.trans (hb.mono HB0.out.size)) (Obj.cells #[.int .i64 ga, .slice A1 n1 c1] 27)); have HT1 := Lib.hid (bts_up hbt (palloc (Below.refl _ _) (Obj.cells #[.int .i64 ga, .slice A1 n1 c1] 27))); have hz1 := KP1.out.lt; have hz6 := K6.out.lt; clear hb hbt)
          | (have HM3 := HM2; go_at_call 10; refine (L2.out _ HB1.out).mono ?_; rintro e w2 ⟨A2, n2, c2, rfl, hbt, hb⟩; clear HM2 HM3; have KP2 := Lib.hid ((KP1.out.below hb hz1).alloc (Obj.cells #[.int .i64 gb, .slice A2 n2 c2] 27)); have K62 := Lib.hid ((K6.out.below hb hz6).alloc (Obj.cells #[.int .i64 gb, .slice A2 n2 c2] 27)); have K8 := Lib.hid (Blk.new w2 27 #[.int .i64 gb, .slice A2 n2 c2]); have HB2 := Lib.hid (palloc (HB1.out.trans (hb.mono HB1.out.size)) (Obj.cells #[.int .i64 gb, .slice A2 n2 c2] 27)); have HT12 := Lib.hid (bts_up (bts_up HT1.out hb) (palloc (Below.refl _ _) (Obj.cells #[.int .i64 gb, .slice A2 n2 c2] 27))); have HT2 := Lib.hid (bts_up hbt (palloc (Below.refl _ _) (Obj.cells #[.int .i64 gb, .slice A2 n2 c2] 27))); have a0 := KP2.out.cell 0; have a1 := KP2.out.cell 1; have p0 := K62.out.cell 0; have p1 := K62.out.cell 1; have q0 := K8.out.cell 0; have q1 := K8.out.cell 1; simp at a0 a1 p0 p1 q0 q1; have f0 := KP2.out.frozen 0; have f1 := KP2.out.frozen 1; have hz2 := KP2.out.lt; clear hb hbt))
        have hgr := set2_grown (w2.alloc (Obj.cells #[.int .i64 gb, .slice A2 n2 c2] 27)) w.heap.size (.int .i64 ga) (.slice A1 n1 c1)
        refine bodyPost_ret (v := .tuple #[.agg #[.int .i64 ga, .slice A1 n1 c1], .bool true]) ?_ rfl ⟨_, rfl, ⟨.slice A1 n1 c1, rfl, (sb_by ⟨_, _, _, rfl, HT12.out⟩ hgr (Nat.le_refl _) (noBy_blk2 KP2.out)).more hgr.size⟩, ?_⟩
        · simp [results, Try.results11, go_sem, a0, a1, hz2]
        · exact HB2.out.grown hgr HB2.out.size (fun q hq => by cases hq; exact Nat.le_refl _)
end Go.Proofs.Ytkidjlmjjfgknaa.Slt
