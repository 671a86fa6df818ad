/- The contracts of page.Get and Blank (layer 4). -/
import Derived.Test.YtkidjlmjjfgknaaPageGet
import Derived.Test.YtkidjlmjjfgknaaZeros
namespace Go.Proofs.Ytkidjlmjjfgknaa.Pg
open Go.RowKit Go.Proofs.Ytkidjlmjjfgknaa.Mem Go.Proofs.Ytkidjlmjjfgknaa.Oct
set_option linter.unusedVariables false
set_option linter.unusedSimpArgs false
set_option maxRecDepth 20000 in
set_option maxHeartbeats 16000000 in
theorem get_may (A : Option Addr) (n c : Nat) (xs : List Nat) (q : P) (w : World) (h : Sl w w.heap.size (.slice A n c) xs) (hl : xs.length ≤ 1000) (hq : readP xs = q) (hm : q.may = false) :
    Calls Try.prog 23 #[.slice A n c] w fun e w' => ∃ v', e = .returned (.tuple #[v', .int .i64 2]) ∧ PgAt w' w'.heap.size v' zeroP ∧ Below w.heap.size w w' := by
  have kp := Blk.new w 43 #[.int .i64 0, .int .i64 0, .int .i64 0, .int .i64 0, .int .i64 0, .int .i64 0, .slice none 0 0]
  have hb0 := (Below.refl w.heap.size w).alloc (Nat.le_refl _) (Obj.cells #[.int .i64 0, .int .i64 0, .int .i64 0, .int .i64 0, .int .i64 0, .int .i64 0, .slice none 0 0] 43)
  have rp := read_page (.slice A n c) xs (w.alloc (.cells #[.int .i64 0, .int .i64 0, .int .i64 0, .int .i64 0, .int .i64 0, .int .i64 0, .slice none 0 0] 43)) ((h.below hb0 (Nat.le_refl _)).more (by simp)) hl
  rw [hq] at rp
  have KP0 := Lib.hid kp; clear kp
  have HB0 := Lib.hid hb0; clear hb0
  have RP := Lib.hid rp; clear rp
  have HX := Lib.hid h; clear h
  have HQ := Lib.hid hq; clear hq
  have HM := Lib.hid hm; clear hm
  have h0 : w.heap.size < (w.alloc (.cells #[.int .i64 0, .int .i64 0, .int .i64 0, .int .i64 0, .int .i64 0, .int .i64 0, .slice none 0 0] 43)).heap.size := by simp
  go_enter Try.func23, Try.ntmps23
  go_wp2_with (first
    | (go_at_call 37; refine (RP.out).mono ?_; rintro e w1 ⟨v1, rfl, ⟨vb, rfl, A3, k3, c3, rfl, hbt⟩, hb⟩; have hb1 := HB0.out.trans (hb.mono HB0.out.size); have KP1 := Lib.hid (KP0.out.below hb h0); have hz1 := KP1.out.lt; have HB1 := Lib.hid (hb1.alloc hb1.size (.cells #[.int .i64 q.kind, .int .i64 q.gen, .int .i64 q.mark, .int .i64 q.index, .int .i64 q.part, .int .i64 q.parts, .slice A3 k3 c3] 43)); have KP2 := Lib.hid (KP1.out.alloc (.cells #[.int .i64 q.kind, .int .i64 q.gen, .int .i64 q.mark, .int .i64 q.index, .int .i64 q.part, .int .i64 q.parts, .slice A3 k3 c3] 43)); have KQ := Lib.hid (Blk.new w1 43 #[.int .i64 q.kind, .int .i64 q.gen, .int .i64 q.mark, .int .i64 q.index, .int .i64 q.part, .int .i64 q.parts, .slice A3 k3 c3]); have b0 := KQ.out.cell 0; have b1 := KQ.out.cell 1; have b2 := KQ.out.cell 2; have b3 := KQ.out.cell 3; have b4 := KQ.out.cell 4; have b5 := KQ.out.cell 5; have b6 := KQ.out.cell 6; simp at b0 b1 b2 b3 b4 b5 b6; have hz2 := KP2.out.lt; have hzq := KQ.out.lt; have HBT := Lib.hid ((hbt.alloc (Nat.le_refl _) (.cells #[.int .i64 q.kind, .int .i64 q.gen, .int .i64 q.mark, .int .i64 q.index, .int .i64 q.part, .int .i64 q.parts, .slice A3 k3 c3] 43)).more (Nat.le_of_lt hzq)); have pu := put_no q (.slice A3 k3 c3) (w1.alloc (.cells #[.int .i64 q.kind, .int .i64 q.gen, .int .i64 q.mark, .int .i64 q.index, .int .i64 q.part, .int .i64 q.parts, .slice A3 k3 c3] 43)) HM.out ⟨A3, k3, c3, rfl, HBT.out⟩; have PU := Lib.hid pu; clear pu hb1 hb hbt; unfold pgV)
    | (go_at_call 26; refine (PU.out).mono ?_; rintro e w2 ⟨rfl, hb⟩; have KP3 := Lib.hid (KP2.out.below hb hz2); have KQ3 := Lib.hid (KQ.out.below hb hzq); have hz3 := KP3.out.lt; have hzq3 := KQ3.out.lt; have a0 := KP3.out.cell 0; have a1 := KP3.out.cell 1; have a2 := KP3.out.cell 2; have a3 := KP3.out.cell 3; have a4 := KP3.out.cell 4; have a5 := KP3.out.cell 5; have a6 := KP3.out.cell 6; simp at a0 a1 a2 a3 a4 a5 a6; have f0 := KP3.out.frozen 0; have f1 := KP3.out.frozen 1; have f2 := KP3.out.frozen 2; have f3 := KP3.out.frozen 3; have f4 := KP3.out.frozen 4; have f5 := KP3.out.frozen 5; have f6 := KP3.out.frozen 6; have d0 := KQ3.out.cell 0; have d1 := KQ3.out.cell 1; have d2 := KQ3.out.cell 2; have d3 := KQ3.out.cell 3; have d4 := KQ3.out.cell 4; have d5 := KQ3.out.cell 5; have d6 := KQ3.out.cell 6; simp at d0 d1 d2 d3 d4 d5 d6; have HB3 := Lib.hid (HB1.out.trans (hb.mono HB1.out.size)); have HBT3 := Lib.hid ((HBT.out.below hb (Nat.le_refl _)).more hb.size); clear hb))
  have hgr := set7_grown w2 w.heap.size (.int .i64 0) (.int .i64 0) (.int .i64 0) (.int .i64 0) (.int .i64 0) (.int .i64 0) (.slice none 0 0)
  refine bodyPost_ret (v := .tuple #[.agg #[.int .i64 0, .int .i64 0, .int .i64 0, .int .i64 0, .int .i64 0, .int .i64 0, .slice none 0 0], .int .i64 2]) ?_ rfl ⟨_, rfl, ⟨.slice none 0 0, rfl, sb_of (sl_nil _ _)⟩, ?_⟩
  · simp [results, Try.results23, go_sem, a0, a1, a2, a3, a4, a5, a6, hz3]
  · exact HB3.out.grown hgr HB3.out.size (fun q hq => by cases hq; exact Nat.le_refl _)
set_option maxRecDepth 20000 in
set_option maxHeartbeats 16000000 in
theorem get_other (A : Option Addr) (n c : Nat) (xs : List Nat) (q : P) (w : World) (h : Sl w w.heap.size (.slice A n c) xs) (hl : xs.length ≤ 1000) (hq : readP xs = q) (hm : q.May ∧ q.sector ≠ xs) :
    Calls Try.prog 23 #[.slice A n c] w fun e w' => ∃ v', e = .returned (.tuple #[v', .int .i64 2]) ∧ PgAt w' w'.heap.size v' zeroP ∧ Below w.heap.size w w' := by
  have kp := Blk.new w 43 #[.int .i64 0, .int .i64 0, .int .i64 0, .int .i64 0, .int .i64 0, .int .i64 0, .slice none 0 0]
  have hb0 := (Below.refl w.heap.size w).alloc (Nat.le_refl _) (Obj.cells #[.int .i64 0, .int .i64 0, .int .i64 0, .int .i64 0, .int .i64 0, .int .i64 0, .slice none 0 0] 43)
  have rp := read_page (.slice A n c) xs (w.alloc (.cells #[.int .i64 0, .int .i64 0, .int .i64 0, .int .i64 0, .int .i64 0, .int .i64 0, .slice none 0 0] 43)) ((h.below hb0 (Nat.le_refl _)).more (by simp)) hl
  rw [hq] at rp
  have KP0 := Lib.hid kp; clear kp
  have HB0 := Lib.hid hb0; clear hb0
  have RP := Lib.hid rp; clear rp
  have HX := Lib.hid h; clear h
  have HQ := Lib.hid hq; clear hq
  have HM := Lib.hid hm; clear hm
  have h0 : w.heap.size < (w.alloc (.cells #[.int .i64 0, .int .i64 0, .int .i64 0, .int .i64 0, .int .i64 0, .int .i64 0, .slice none 0 0] 43)).heap.size := by simp
  go_enter Try.func23, Try.ntmps23
  go_wp2_with (first
    | (go_at_call 37; refine (RP.out).mono ?_; rintro e w1 ⟨v1, rfl, ⟨vb, rfl, A3, k3, c3, rfl, hbt⟩, hb⟩; have hb1 := HB0.out.trans (hb.mono HB0.out.size); have KP1 := Lib.hid (KP0.out.below hb h0); have hz1 := KP1.out.lt; have HB1 := Lib.hid (hb1.alloc hb1.size (.cells #[.int .i64 q.kind, .int .i64 q.gen, .int .i64 q.mark, .int .i64 q.index, .int .i64 q.part, .int .i64 q.parts, .slice A3 k3 c3] 43)); have KP2 := Lib.hid (KP1.out.alloc (.cells #[.int .i64 q.kind, .int .i64 q.gen, .int .i64 q.mark, .int .i64 q.index, .int .i64 q.part, .int .i64 q.parts, .slice A3 k3 c3] 43)); have KQ := Lib.hid (Blk.new w1 43 #[.int .i64 q.kind, .int .i64 q.gen, .int .i64 q.mark, .int .i64 q.index, .int .i64 q.part, .int .i64 q.parts, .slice A3 k3 c3]); have b0 := KQ.out.cell 0; have b1 := KQ.out.cell 1; have b2 := KQ.out.cell 2; have b3 := KQ.out.cell 3; have b4 := KQ.out.cell 4; have b5 := KQ.out.cell 5; have b6 := KQ.out.cell 6; simp at b0 b1 b2 b3 b4 b5 b6; have hz2 := KP2.out.lt; have hzq := KQ.out.lt; have HBT := Lib.hid ((hbt.alloc (Nat.le_refl _) (.cells #[.int .i64 q.kind, .int .i64 q.gen, .int .i64 q.mark, .int .i64 q.index, .int .i64 q.part, .int .i64 q.parts, .slice A3 k3 c3] 43)).more (Nat.le_of_lt hzq)); have pu := put_ok q (.slice A3 k3 c3) (w1.alloc (.cells #[.int .i64 q.kind, .int .i64 q.gen, .int .i64 q.mark, .int .i64 q.index, .int .i64 q.part, .int .i64 q.parts, .slice A3 k3 c3] 43)) HM.out.1 ⟨A3, k3, c3, rfl, HBT.out⟩; have PU := Lib.hid pu; clear pu hb1 hb hbt; unfold pgV)
    | (go_at_call 26; refine (PU.out).mono ?_; rintro e w2 ⟨v2, rfl, hs, hb⟩; obtain ⟨A4, n4, c4, rfl, hbt4, _⟩ := hs; have KP3 := Lib.hid (KP2.out.below hb hz2); have KQ3 := Lib.hid (KQ.out.below hb hzq); have hz3 := KP3.out.lt; have hzq3 := KQ3.out.lt; have a0 := KP3.out.cell 0; have a1 := KP3.out.cell 1; have a2 := KP3.out.cell 2; have a3 := KP3.out.cell 3; have a4 := KP3.out.cell 4; have a5 := KP3.out.cell 5; have a6 := KP3.out.cell 6; simp at a0 a1 a2 a3 a4 a5 a6; have f0 := KP3.out.frozen 0; have f1 := KP3.out.frozen 1; have f2 := KP3.out.frozen 2; have f3 := KP3.out.frozen 3; have f4 := KP3.out.frozen 4; have f5 := KP3.out.frozen 5; have f6 := KP3.out.frozen 6; have d0 := KQ3.out.cell 0; have d1 := KQ3.out.cell 1; have d2 := KQ3.out.cell 2; have d3 := KQ3.out.cell 3; have d4 := KQ3.out.cell 4; have d5 := KQ3.out.cell 5; have d6 := KQ3.out.cell 6; simp at d0 d1 d2 d3 d4 d5 d6; have HB3 := Lib.hid (HB1.out.trans (hb.mono HB1.out.size)); have HBT3 := Lib.hid ((HBT.out.below hb (Nat.le_refl _)).more hb.size); have eq := Crc.equal_any A4 A n4 n c4 c _ _ _ xs w2 hbt4 (sl_bts (HX.out.below HB3.out (Nat.le_refl _))); rw [decide_eq_false HM.out.2] at eq; have EQ := Lib.hid eq; clear eq hbt4; clear hb)
    | (go_at_call 38; refine (EQ.out).mono ?_; rintro e w' ⟨rfl, rfl⟩))
  have hgr := set7_grown w2 w.heap.size (.int .i64 0) (.int .i64 0) (.int .i64 0) (.int .i64 0) (.int .i64 0) (.int .i64 0) (.slice none 0 0)
  refine bodyPost_ret (v := .tuple #[.agg #[.int .i64 0, .int .i64 0, .int .i64 0, .int .i64 0, .int .i64 0, .int .i64 0, .slice none 0 0], .int .i64 2]) ?_ rfl ⟨_, rfl, ⟨.slice none 0 0, rfl, sb_of (sl_nil _ _)⟩, ?_⟩
  · simp [results, Try.results23, go_sem, a0, a1, a2, a3, a4, a5, a6, hz3]
  · exact HB3.out.grown hgr HB3.out.size (fun q hq => by cases hq; exact Nat.le_refl _)
set_option maxRecDepth 20000 in
set_option maxHeartbeats 16000000 in
theorem get_ok (A : Option Addr) (n c : Nat) (xs : List Nat) (q : P) (w : World) (h : Sl w w.heap.size (.slice A n c) xs) (hl : xs.length ≤ 1000) (hq : readP xs = q) (hm : q.May ∧ q.sector = xs) :
    Calls Try.prog 23 #[.slice A n c] w fun e w' => ∃ v', e = .returned (.tuple #[v', .int .i64 0]) ∧ PgAt w' w'.heap.size v' q ∧ Below w.heap.size w w' := by
  have kp := Blk.new w 43 #[.int .i64 0, .int .i64 0, .int .i64 0, .int .i64 0, .int .i64 0, .int .i64 0, .slice none 0 0]
  have hb0 := (Below.refl w.heap.size w).alloc (Nat.le_refl _) (Obj.cells #[.int .i64 0, .int .i64 0, .int .i64 0, .int .i64 0, .int .i64 0, .int .i64 0, .slice none 0 0] 43)
  have rp := read_page (.slice A n c) xs (w.alloc (.cells #[.int .i64 0, .int .i64 0, .int .i64 0, .int .i64 0, .int .i64 0, .int .i64 0, .slice none 0 0] 43)) ((h.below hb0 (Nat.le_refl _)).more (by simp)) hl
  rw [hq] at rp
  have KP0 := Lib.hid kp; clear kp
  have HB0 := Lib.hid hb0; clear hb0
  have RP := Lib.hid rp; clear rp
  have HX := Lib.hid h; clear h
  have HQ := Lib.hid hq; clear hq
  have HM := Lib.hid hm; clear hm
  have h0 : w.heap.size < (w.alloc (.cells #[.int .i64 0, .int .i64 0, .int .i64 0, .int .i64 0, .int .i64 0, .int .i64 0, .slice none 0 0] 43)).heap.size := by simp
  go_enter Try.func23, Try.ntmps23
  go_wp2_with (first
    | (go_at_call 37; refine (RP.out).mono ?_; rintro e w1 ⟨v1, rfl, ⟨vb, rfl, A3, k3, c3, rfl, hbt⟩, hb⟩; have hb1 := HB0.out.trans (hb.mono HB0.out.size); have KP1 := Lib.hid (KP0.out.below hb h0); have hz1 := KP1.out.lt; have HB1 := Lib.hid (hb1.alloc hb1.size (.cells #[.int .i64 q.kind, .int .i64 q.gen, .int .i64 q.mark, .int .i64 q.index, .int .i64 q.part, .int .i64 q.parts, .slice A3 k3 c3] 43)); have KP2 := Lib.hid (KP1.out.alloc (.cells #[.int .i64 q.kind, .int .i64 q.gen, .int .i64 q.mark, .int .i64 q.index, .int .i64 q.part, .int .i64 q.parts, .slice A3 k3 c3] 43)); have KQ := Lib.hid (Blk.new w1 43 #[.int .i64 q.kind, .int .i64 q.gen, .int .i64 q.mark, .int .i64 q.index, .int .i64 q.part, .int .i64 q.parts, .slice A3 k3 c3]); have b0 := KQ.out.cell 0; have b1 := KQ.out.cell 1; have b2 := KQ.out.cell 2; have b3 := KQ.out.cell 3; have b4 := KQ.out.cell 4; have b5 := KQ.out.cell 5; have b6 := KQ.out.cell 6; simp at b0 b1 b2 b3 b4 b5 b6; have hz2 := KP2.out.lt; have hzq := KQ.out.lt; have HBT := Lib.hid ((hbt.alloc (Nat.le_refl _) (.cells #[.int .i64 q.kind, .int .i64 q.gen, .int .i64 q.mark, .int .i64 q.index, .int .i64 q.part, .int .i64 q.parts, .slice A3 k3 c3] 43)).more (Nat.le_of_lt hzq)); have pu := put_ok q (.slice A3 k3 c3) (w1.alloc (.cells #[.int .i64 q.kind, .int .i64 q.gen, .int .i64 q.mark, .int .i64 q.index, .int .i64 q.part, .int .i64 q.parts, .slice A3 k3 c3] 43)) HM.out.1 ⟨A3, k3, c3, rfl, HBT.out⟩; have PU := Lib.hid pu; clear pu hb1 hb hbt; unfold pgV)
    | (go_at_call 26; refine (PU.out).mono ?_; rintro e w2 ⟨v2, rfl, hs, hb⟩; obtain ⟨A4, n4, c4, rfl, hbt4, _⟩ := hs; have KP3 := Lib.hid (KP2.out.below hb hz2); have KQ3 := Lib.hid (KQ.out.below hb hzq); have hz3 := KP3.out.lt; have hzq3 := KQ3.out.lt; have a0 := KP3.out.cell 0; have a1 := KP3.out.cell 1; have a2 := KP3.out.cell 2; have a3 := KP3.out.cell 3; have a4 := KP3.out.cell 4; have a5 := KP3.out.cell 5; have a6 := KP3.out.cell 6; simp at a0 a1 a2 a3 a4 a5 a6; have f0 := KP3.out.frozen 0; have f1 := KP3.out.frozen 1; have f2 := KP3.out.frozen 2; have f3 := KP3.out.frozen 3; have f4 := KP3.out.frozen 4; have f5 := KP3.out.frozen 5; have f6 := KP3.out.frozen 6; have d0 := KQ3.out.cell 0; have d1 := KQ3.out.cell 1; have d2 := KQ3.out.cell 2; have d3 := KQ3.out.cell 3; have d4 := KQ3.out.cell 4; have d5 := KQ3.out.cell 5; have d6 := KQ3.out.cell 6; simp at d0 d1 d2 d3 d4 d5 d6; have HB3 := Lib.hid (HB1.out.trans (hb.mono HB1.out.size)); have HBT3 := Lib.hid ((HBT.out.below hb (Nat.le_refl _)).more hb.size); have eq := Crc.equal_any A4 A n4 n c4 c _ _ _ xs w2 hbt4 (sl_bts (HX.out.below HB3.out (Nat.le_refl _))); rw [decide_eq_true HM.out.2] at eq; have EQ := Lib.hid eq; clear eq hbt4; clear hb)
    | (go_at_call 38; refine (EQ.out).mono ?_; rintro e w' ⟨rfl, rfl⟩))
  have hgr := set7_grown w2 w.heap.size (.int .i64 q.kind) (.int .i64 q.gen) (.int .i64 q.mark) (.int .i64 q.index) (.int .i64 q.part) (.int .i64 q.parts) (.slice A3 k3 c3)
  refine bodyPost_ret (v := .tuple #[.agg #[.int .i64 q.kind, .int .i64 q.gen, .int .i64 q.mark, .int .i64 q.index, .int .i64 q.part, .int .i64 q.parts, .slice A3 k3 c3], .int .i64 0]) ?_ rfl ⟨_, rfl, ⟨.slice A3 k3 c3, rfl, A3, k3, c3, rfl, (bts_grownU HBT3.out (noU8_blk KP3.out) hgr).more hgr.size⟩, ?_⟩
  · simp [results, Try.results23, go_sem, a0, a1, a2, a3, a4, a5, a6, hz3]
  · exact HB3.out.grown hgr HB3.out.size (fun q hq => by cases hq; exact Nat.le_refl _)
theorem get_any (v : Value) (xs : List Nat) (w : World) (h : Sl w w.heap.size v xs) (hl : xs.length ≤ 1000) :
    Calls Try.prog 23 #[v] w fun e w' => ∃ v', e = .returned (.tuple #[v', .int .i64 (if (got xs).isSome = true then 0 else 2)]) ∧ PgAt w' w'.heap.size v' ((got xs).getD zeroP) ∧ Below w.heap.size w w' := by
  obtain ⟨A, n, c, rfl, _⟩ := id h
  cases hm : (readP xs).may
  · have e : got xs = none := by unfold got; rw [if_neg (by rw [hm]; simp)]
    rw [e]
    exact get_may A n c xs _ w h hl rfl hm
  · by_cases hs : (readP xs).sector = xs
    · have e : got xs = some (readP xs) := by unfold got; rw [if_pos ⟨hm, hs⟩]
      rw [e]
      exact get_ok A n c xs _ w h hl rfl ⟨(may_iff _).1 hm, hs⟩
    · have e : got xs = none := by unfold got; rw [if_neg (fun h => hs h.2)]
      rw [e]
      exact get_other A n c xs _ w h hl rfl ⟨(may_iff _).1 hm, hs⟩
end Go.Proofs.Ytkidjlmjjfgknaa.Pg
