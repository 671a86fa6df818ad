/- The code's functions of layer 17 (near): Check, Hello, Tick, Cost. Printed by tools/near/code.py. -/
import Derived.Test.YtgfoadldghcdeaaNearParts
import Derived.Deep.RegionHeld3
import Derived.Deep.RegionLaw
import Derived.Shelf.Abstract
import Derived.Deep.QuietTactic
import Derived.BigQuiet
import Derived.BigRegion
import Derived.Deep.Cut
import Derived.Deep.CutBlock
import Derived.Deep.CutRange
namespace Go.Proofs.Ytgfoadldghcdeaa.Nea
open Go.RowKit Go.Proofs.Ytgfoadldghcdeaa.Mem
set_option linter.unusedVariables false
set_option linter.unusedSimpArgs false
set_option maxRecDepth 20000 in
set_option maxHeartbeats 4000000 in
theorem ncheck_any (n : Nr) (w : World) : Calls Try.prog 7 #[.agg (nrC n)] w fun e w' => e = .returned (.int .i64 (errN (mayN n))) ∧ Below w.heap.size w w' := by
  have MB := Lib.hid (fun w => mayBe_any n w)
  have K1 := Lib.hid (Blk.new w 23 (nrC n))
  have HB := Lib.hid (below1 w (.cells (nrC n) 23))
  unfold errN
  cases hz : mayN n
  all_goals
    (rewrite [hz] at MB
     clear hz
     simp only [Bool.false_eq_true, if_true, if_false]
     go_enter Try.func7, Try.ntmps7
     go_wp2_with (first
       | (refine wpList_load_blk rfl 23 (.tmp 1) rfl (w.heap.size) rfl _ K1.out _ Try.underlying23 rfl (by rw [size_nr]; rfl) ?_)
       | (go_at_call 15; refine (MB.out _).mono ?_; rintro e w1 ⟨rfl, hb1⟩; have HB1 := Lib.hid (HB.out.trans (hb1.mono (by simp))); clear hb1))
     go_ret
     exact ⟨rfl, HB1.out⟩)
set_option maxRecDepth 20000 in
set_option maxHeartbeats 4000000 in
theorem ntick_bad (of_ cost boot ep : Int) (heard full : Bool) (age : Int) (got : Bool) (w : World) (hm : mayN ⟨of_, cost, boot, ep, heard, full, age, got⟩ = false) : Calls Try.prog 11 #[.agg (nrC ⟨of_, cost, boot, ep, heard, full, age, got⟩)] w fun e w' => e = .returned (.tuple #[.agg (zrC), .bool false, .int .i64 1]) ∧ Below w.heap.size w w' := by
  have MB := Lib.hid (fun w => mayBe_any ⟨of_, cost, boot, ep, heard, full, age, got⟩ w)
  rewrite [hm] at MB
  unfold nrC at MB ⊢
  simp only at MB ⊢
  clear hm
  have K1 := Lib.hid (show Blk ((w.alloc (.cells #[.int .i64 of_, .int .i64 cost, .int .i64 boot, .int .i64 ep, .bool heard, .bool full, .int .i64 age, .bool got] 23)).alloc (.cells zrC 23)) w.heap.size 23 #[.int .i64 of_, .int .i64 cost, .int .i64 boot, .int .i64 ep, .bool heard, .bool full, .int .i64 age, .bool got] from (Blk.new w _ _).alloc _)
  have K2 := Lib.hid (show Blk ((w.alloc (.cells #[.int .i64 of_, .int .i64 cost, .int .i64 boot, .int .i64 ep, .bool heard, .bool full, .int .i64 age, .bool got] 23)).alloc (.cells zrC 23)) (w.heap.size + 1) 23 zrC from blk_new2 _ _ _ _)
  have HB := Lib.hid (below2 w (.cells #[.int .i64 of_, .int .i64 cost, .int .i64 boot, .int .i64 ep, .bool heard, .bool full, .int .i64 age, .bool got] 23) (.cells zrC 23))
  go_enter Try.func11, Try.ntmps11
  go_wp2_with (first
    | (refine wpList_load_blk rfl 23 (.tmp 1) rfl (w.heap.size) rfl _ K1.out _ Try.underlying23 rfl (by rw [size_nr]; rfl) ?_)
    | (go_at_call 15; refine (MB.out _).mono ?_; rintro e w1 ⟨rfl, hb1⟩; have KA := Lib.hid (K1.out.below hb1 (by simp; omega)); have KB := Lib.hid (K2.out.below hb1 (by simp)); have HB1 := Lib.hid (HB.out.trans (hb1.mono (by simp; omega))); clear hb1; obtain ⟨c0, c1, c2, c3, c4, c5, c6, c7, c8⟩ := blk_cells8 KA.out)
    | (refine wpList_store_blk rfl 23 (.tmp 2) (.tmp 8) rfl (w.heap.size + 1) _ rfl rfl _ KB.out (by rw [size_nr]; rfl) rfl (by kernel_rfl) ?_; intro w9 hg_ k_; have K9 := Lib.hid k_; have GK9 := Lib.hid hg_; clear hg_ k_))
  exact bodyPost_ret (results_blk_two (P := Try.prog) Try.results11 _ rfl _ _ rfl rfl K9.out Try.underlying23 rfl (by rw [size_nr]; rfl)) rfl ⟨rfl, gr_below HB1.out GK9.out HB1.out.size (by omega)⟩
set_option maxRecDepth 20000 in
set_option maxHeartbeats 4000000 in
theorem ntick_not (of_ cost boot ep : Int) (heard full : Bool) (age : Int) (got : Bool) (w : World) (hm : mayN ⟨of_, cost, boot, ep, heard, full, age, got⟩ = true) (hh : heard = false) : Calls Try.prog 11 #[.agg (nrC ⟨of_, cost, boot, ep, heard, full, age, got⟩)] w fun e w' => e = .returned (.tuple #[.agg (nrC ⟨of_, cost, boot, ep, heard, full, age, got⟩), .bool false, .int .i64 0]) ∧ Below w.heap.size w w' := by
  have hn : (!heard) = true := by rw [hh]; rfl
  clear hh
  have MB := Lib.hid (fun w => mayBe_any ⟨of_, cost, boot, ep, heard, full, age, got⟩ w)
  rewrite [hm] at MB
  unfold nrC at MB ⊢
  simp only at MB ⊢
  clear hm
  have K1 := Lib.hid (show Blk ((w.alloc (.cells #[.int .i64 of_, .int .i64 cost, .int .i64 boot, .int .i64 ep, .bool heard, .bool full, .int .i64 age, .bool got] 23)).alloc (.cells zrC 23)) w.heap.size 23 #[.int .i64 of_, .int .i64 cost, .int .i64 boot, .int .i64 ep, .bool heard, .bool full, .int .i64 age, .bool got] from (Blk.new w _ _).alloc _)
  have K2 := Lib.hid (show Blk ((w.alloc (.cells #[.int .i64 of_, .int .i64 cost, .int .i64 boot, .int .i64 ep, .bool heard, .bool full, .int .i64 age, .bool got] 23)).alloc (.cells zrC 23)) (w.heap.size + 1) 23 zrC from blk_new2 _ _ _ _)
  have HB := Lib.hid (below2 w (.cells #[.int .i64 of_, .int .i64 cost, .int .i64 boot, .int .i64 ep, .bool heard, .bool full, .int .i64 age, .bool got] 23) (.cells zrC 23))
  go_enter Try.func11, Try.ntmps11
  go_wp2_with (first
    | (refine wpList_load_blk rfl 23 (.tmp 1) rfl (w.heap.size) rfl _ K1.out _ Try.underlying23 rfl (by rw [size_nr]; rfl) ?_)
    | (go_at_call 15; refine (MB.out _).mono ?_; rintro e w1 ⟨rfl, hb1⟩; have KA := Lib.hid (K1.out.below hb1 (by simp; omega)); have KB := Lib.hid (K2.out.below hb1 (by simp)); have HB1 := Lib.hid (HB.out.trans (hb1.mono (by simp; omega))); clear hb1; obtain ⟨c0, c1, c2, c3, c4, c5, c6, c7, c8⟩ := blk_cells8 KA.out)
    | (refine wpList_load_blk rfl 23 (.tmp 1) rfl (w.heap.size) rfl _ KA.out _ Try.underlying23 rfl (by rw [size_nr]; rfl) ?_)
    | (refine wpList_store_blk rfl 23 (.tmp 2) (.tmp 12) rfl (w.heap.size + 1) _ rfl rfl _ KB.out (by rw [size_nr]; rfl) rfl (by kernel_rfl) ?_; intro w9 hg_ k_; have K9 := Lib.hid k_; have GK9 := Lib.hid hg_; clear hg_ k_))
  exact bodyPost_ret (results_blk_two (P := Try.prog) Try.results11 _ rfl _ _ rfl rfl K9.out Try.underlying23 rfl (by rw [size_nr]; rfl)) rfl ⟨rfl, gr_below HB1.out GK9.out HB1.out.size (by omega)⟩
theorem set6 {w : World} {g : Nat} {t : TypeId} {z0 z1 z2 z3 z4 z5 z6 z7 a : Value} (h : Blk w g t #[z0, z1, z2, z3, z4, z5, z6, z7]) : Blk (w.setCell ⟨g, 6, none⟩ a) g t #[z0, z1, z2, z3, z4, z5, a, z7] := by
  have k := h.set_ 6 a
  simp only [List.setIfInBounds_toArray, List.set_cons_zero, List.set_cons_succ] at k
  exact k
theorem set1 {w : World} {g : Nat} {t : TypeId} {z0 z1 z2 z3 z4 z5 z6 z7 a : Value} (h : Blk w g t #[z0, z1, z2, z3, z4, z5, z6, z7]) : Blk (w.setCell ⟨g, 1, none⟩ a) g t #[z0, a, z2, z3, z4, z5, z6, z7] := by
  have k := h.set_ 1 a
  simp only [List.setIfInBounds_toArray, List.set_cons_zero, List.set_cons_succ] at k
  exact k
set_option maxRecDepth 20000 in
set_option maxHeartbeats 4000000 in
theorem ntick_more (of_ cost boot ep : Int) (heard full : Bool) (age : Int) (got : Bool) (w : World) (hm : mayN ⟨of_, cost, boot, ep, heard, full, age, got⟩ = true) (hh : heard = true) (ha : (age == 4) = false) (hw : IntKind.i64.wrap (age + 1) = age + 1) : Calls Try.prog 11 #[.agg (nrC ⟨of_, cost, boot, ep, heard, full, age, got⟩)] w fun e w' => e = .returned (.tuple #[.agg (nrC ⟨of_, cost, boot, ep, heard, full, age + 1, got⟩), .bool false, .int .i64 0]) ∧ Below w.heap.size w w' := by
  have hn : (!heard) = false := by rw [hh]; rfl
  clear hh
  have MB := Lib.hid (fun w => mayBe_any ⟨of_, cost, boot, ep, heard, full, age, got⟩ w)
  rewrite [hm] at MB
  unfold nrC at MB ⊢
  simp only at MB ⊢
  clear hm
  have K1 := Lib.hid (show Blk ((w.alloc (.cells #[.int .i64 of_, .int .i64 cost, .int .i64 boot, .int .i64 ep, .bool heard, .bool full, .int .i64 age, .bool got] 23)).alloc (.cells zrC 23)) w.heap.size 23 #[.int .i64 of_, .int .i64 cost, .int .i64 boot, .int .i64 ep, .bool heard, .bool full, .int .i64 age, .bool got] from (Blk.new w _ _).alloc _)
  have K2 := Lib.hid (show Blk ((w.alloc (.cells #[.int .i64 of_, .int .i64 cost, .int .i64 boot, .int .i64 ep, .bool heard, .bool full, .int .i64 age, .bool got] 23)).alloc (.cells zrC 23)) (w.heap.size + 1) 23 zrC from blk_new2 _ _ _ _)
  have HB := Lib.hid (below2 w (.cells #[.int .i64 of_, .int .i64 cost, .int .i64 boot, .int .i64 ep, .bool heard, .bool full, .int .i64 age, .bool got] 23) (.cells zrC 23))
  go_enter Try.func11, Try.ntmps11
  go_wp2_with (first
    | (refine wpList_load_blk rfl 23 (.tmp 1) rfl (w.heap.size) rfl _ K1.out _ Try.underlying23 rfl (by rw [size_nr]; rfl) ?_)
    | (go_at_call 15; refine (MB.out _).mono ?_; rintro e w1 ⟨rfl, hb1⟩; have KA := Lib.hid (K1.out.below hb1 (by simp; omega)); have KB := Lib.hid (K2.out.below hb1 (by simp)); have HB1 := Lib.hid (HB.out.trans (hb1.mono (by simp; omega))); clear hb1; obtain ⟨c0, c1, c2, c3, c4, c5, c6, c7, c8⟩ := blk_cells8 KA.out; obtain ⟨f0, f1, f2, f3, f4, f5, f6, f7⟩ := blk_frozen8 KA.out; have K6 := Lib.hid (set6 (a := .int .i64 (age + 1)) KA.out); have KB6 := Lib.hid (KB.out.far (p := ⟨w.heap.size, 6, none⟩) (show w.heap.size + 1 ≠ w.heap.size by omega) (.int .i64 (age + 1))); have HB6 := Lib.hid (HB1.out.setCell (p := ⟨w.heap.size, 6, none⟩) (Nat.le_refl _) (.int .i64 (age + 1))))
    | (refine wpList_load_blk rfl 23 (.tmp 1) rfl (w.heap.size) rfl _ K6.out _ Try.underlying23 rfl (by rw [size_nr]; rfl) ?_)
    | (refine wpList_store_blk rfl 23 (.tmp 2) (.tmp 24) rfl (w.heap.size + 1) _ rfl rfl _ KB6.out (by rw [size_nr]; rfl) rfl (by kernel_rfl) ?_; intro w9 hg_ k_; have K9 := Lib.hid k_; have GK9 := Lib.hid hg_; clear hg_ k_))
  exact bodyPost_ret (results_blk_two (P := Try.prog) Try.results11 _ rfl _ _ rfl rfl K9.out Try.underlying23 rfl (by rw [size_nr]; rfl)) rfl ⟨rfl, gr_below HB6.out GK9.out HB6.out.size (by omega)⟩
set_option maxRecDepth 20000 in
set_option maxHeartbeats 4000000 in
theorem ntick_gone (of_ cost boot ep : Int) (heard full : Bool) (age : Int) (got : Bool) (w : World) (hm : mayN ⟨of_, cost, boot, ep, heard, full, age, got⟩ = true) (hh : heard = true) (ha : (age == 4) = true) : Calls Try.prog 11 #[.agg (nrC ⟨of_, cost, boot, ep, heard, full, age, got⟩)] w fun e w' => e = .returned (.tuple #[.agg (nrC ⟨of_, cost, boot, ep, false, false, 0, false⟩), .bool full, .int .i64 0]) ∧ Below w.heap.size w w' := by
  have hn : (!heard) = false := by rw [hh]; rfl
  clear hh
  have NH := Lib.hid (fun w => nheard_any ⟨of_, cost, boot, ep, heard, full, age, got⟩ w)
  unfold notHeardN at NH
  unfold nrC at NH
  simp only at NH
  have HEN := Lib.hid (enters_of Try.func18 (by kernel_rfl) rfl)
  have MB := Lib.hid (fun w => mayBe_any ⟨of_, cost, boot, ep, heard, full, age, got⟩ w)
  rewrite [hm] at MB
  unfold nrC at MB ⊢
  simp only at MB ⊢
  clear hm
  have K1 := Lib.hid (show Blk ((w.alloc (.cells #[.int .i64 of_, .int .i64 cost, .int .i64 boot, .int .i64 ep, .bool heard, .bool full, .int .i64 age, .bool got] 23)).alloc (.cells zrC 23)) w.heap.size 23 #[.int .i64 of_, .int .i64 cost, .int .i64 boot, .int .i64 ep, .bool heard, .bool full, .int .i64 age, .bool got] from (Blk.new w _ _).alloc _)
  have K2 := Lib.hid (show Blk ((w.alloc (.cells #[.int .i64 of_, .int .i64 cost, .int .i64 boot, .int .i64 ep, .bool heard, .bool full, .int .i64 age, .bool got] 23)).alloc (.cells zrC 23)) (w.heap.size + 1) 23 zrC from blk_new2 _ _ _ _)
  have HB := Lib.hid (below2 w (.cells #[.int .i64 of_, .int .i64 cost, .int .i64 boot, .int .i64 ep, .bool heard, .bool full, .int .i64 age, .bool got] 23) (.cells zrC 23))
  go_enter Try.func11, Try.ntmps11
  go_wp2_with (first
    | (refine wpList_load_blk rfl 23 (.tmp 1) rfl (w.heap.size) rfl _ K1.out _ Try.underlying23 rfl (by rw [size_nr]; rfl) ?_)
    | (go_at_call 15; refine (MB.out _).mono ?_; rintro e w1 ⟨rfl, hb1⟩; have KA := Lib.hid (K1.out.below hb1 (by simp; omega)); have KB := Lib.hid (K2.out.below hb1 (by simp)); have HB1 := Lib.hid (HB.out.trans (hb1.mono (by simp; omega))); clear hb1; obtain ⟨c0, c1, c2, c3, c4, c5, c6, c7, c8⟩ := blk_cells8 KA.out))
  obtain ⟨z0, z1, z2, z3, z4, z5, z6, z7, z8⟩ := blk_cells8 KB.out
  obtain ⟨f0, f1, f2, f3, f4, f5, f6, f7⟩ := blk_frozen8 KB.out
  have hne : w.heap.size ≠ w.heap.size + 1 := by omega
  go_region_law (refine step_calls rfl 18 _ _ rfl #[.agg #[.int .i64 of_, .int .i64 cost, .int .i64 boot, .int .i64 ep, .bool heard, .bool full, .int .i64 age, .bool got]] (by simp [Act.eval, Act.put]) HEN.out (NH.out w1.drew) ?_; rintro e wa ⟨rfl, hb⟩; refine ⟨_, rfl, ?_⟩; have hb : Below w1.heap.size w1 wa := ⟨hb.os, hb.tape, hb.output, hb.size, hb.block⟩; have HEa := Lib.hid hb; clear hb; obtain ⟨a0, a1, a2, a3, a4, a5, a6, a7, a8⟩ := blk_cells8 (KB.out.below HEa.out KB.out.lt); obtain ⟨l0, l1, l2, l3, l4, l5, l6, l7⟩ := blk_frozen8 (KB.out.below HEa.out KB.out.lt); obtain ⟨d0, d1, d2, d3, d4, d5, d6, d7, d8⟩ := blk_cells8 (KA.out.below HEa.out KA.out.lt))
  all_goals
    (try go_wp2_with (fail)
     have KC := KB.out.below HEa.out KB.out.lt
     have HC := HB1.out.trans (HEa.out.mono HB1.out.size)
     first
       | exact bodyPost_ret (results_blk_two (P := Try.prog) Try.results11 _ rfl _ _ rfl rfl (st8_blk KC) Try.underlying23 rfl (by rw [size_nr]; rfl)) rfl ⟨rfl, st8_below HC (by omega)⟩
       | exact bodyPost_ret (results_blk_two (P := Try.prog) Try.results11 _ rfl _ _ rfl rfl (st8_blk KC).drew Try.underlying23 rfl (by rw [size_nr]; rfl)) rfl ⟨rfl, (st8_below HC (by omega)).drew⟩
       | (trace_state; fail))
set_option maxRecDepth 20000 in
set_option maxHeartbeats 4000000 in
theorem ncost_bad1 (of_ cost boot ep : Int) (heard full : Bool) (age : Int) (got : Bool) (c : Int) (w : World) (hm : mayN ⟨of_, cost, boot, ep, heard, full, age, got⟩ = false) : Calls Try.prog 12 #[.agg (nrC ⟨of_, cost, boot, ep, heard, full, age, got⟩), .int .i64 c] w fun e w' => e = .returned (.tuple #[.agg (zrC), .bool false, .int .i64 1]) ∧ Below w.heap.size w w' := by
  have MB := Lib.hid (fun w => mayBe_any ⟨of_, cost, boot, ep, heard, full, age, got⟩ w)
  rewrite [hm] at MB
  unfold nrC at MB ⊢
  simp only at MB ⊢
  clear hm
  have K1 := Lib.hid (show Blk ((w.alloc (.cells #[.int .i64 of_, .int .i64 cost, .int .i64 boot, .int .i64 ep, .bool heard, .bool full, .int .i64 age, .bool got] 23)).alloc (.cells zrC 23)) w.heap.size 23 #[.int .i64 of_, .int .i64 cost, .int .i64 boot, .int .i64 ep, .bool heard, .bool full, .int .i64 age, .bool got] from (Blk.new w _ _).alloc _)
  have K2 := Lib.hid (show Blk ((w.alloc (.cells #[.int .i64 of_, .int .i64 cost, .int .i64 boot, .int .i64 ep, .bool heard, .bool full, .int .i64 age, .bool got] 23)).alloc (.cells zrC 23)) (w.heap.size + 1) 23 zrC from blk_new2 _ _ _ _)
  have HB := Lib.hid (below2 w (.cells #[.int .i64 of_, .int .i64 cost, .int .i64 boot, .int .i64 ep, .bool heard, .bool full, .int .i64 age, .bool got] 23) (.cells zrC 23))
  go_enter Try.func12, Try.ntmps12
  go_wp2_with (first
    | (refine wpList_load_blk rfl 23 (.tmp 2) rfl (w.heap.size) rfl _ K1.out _ Try.underlying23 rfl (by rw [size_nr]; rfl) ?_)
    | (go_at_call 15; refine (MB.out _).mono ?_; rintro e w1 ⟨rfl, hb1⟩; have KA := Lib.hid (K1.out.below hb1 (by simp; omega)); have KB := Lib.hid (K2.out.below hb1 (by simp)); have HB1 := Lib.hid (HB.out.trans (hb1.mono (by simp; omega))); clear hb1; obtain ⟨c0, c1, c2, c3, c4, c5, c6, c7, c8⟩ := blk_cells8 KA.out)
    | (refine wpList_store_blk rfl 23 (.tmp 4) (.tmp 16) rfl (w.heap.size + 1) _ rfl rfl _ KB.out (by rw [size_nr]; rfl) rfl (by kernel_rfl) ?_; intro w9 hg_ k_; have K9 := Lib.hid k_; have GK9 := Lib.hid hg_; clear hg_ k_))
  exact bodyPost_ret (results_blk_two (P := Try.prog) Try.results12 _ rfl _ _ rfl rfl K9.out Try.underlying23 rfl (by rw [size_nr]; rfl)) rfl ⟨rfl, gr_below HB1.out GK9.out HB1.out.size (by omega)⟩
set_option maxRecDepth 20000 in
set_option maxHeartbeats 4000000 in
theorem ncost_bad2 (of_ cost boot ep : Int) (heard full : Bool) (age : Int) (got : Bool) (c : Int) (w : World) (hm : mayN ⟨of_, cost, boot, ep, heard, full, age, got⟩ = true) (hc : win3 c 0 1073741824 = false) : Calls Try.prog 12 #[.agg (nrC ⟨of_, cost, boot, ep, heard, full, age, got⟩), .int .i64 c] w fun e w' => e = .returned (.tuple #[.agg (zrC), .bool false, .int .i64 1]) ∧ Below w.heap.size w w' := by
  have MB := Lib.hid (fun w => mayBe_any ⟨of_, cost, boot, ep, heard, full, age, got⟩ w)
  rewrite [hm] at MB
  unfold nrC at MB ⊢
  simp only at MB ⊢
  clear hm
  have K1 := Lib.hid (show Blk ((w.alloc (.cells #[.int .i64 of_, .int .i64 cost, .int .i64 boot, .int .i64 ep, .bool heard, .bool full, .int .i64 age, .bool got] 23)).alloc (.cells zrC 23)) w.heap.size 23 #[.int .i64 of_, .int .i64 cost, .int .i64 boot, .int .i64 ep, .bool heard, .bool full, .int .i64 age, .bool got] from (Blk.new w _ _).alloc _)
  have K2 := Lib.hid (show Blk ((w.alloc (.cells #[.int .i64 of_, .int .i64 cost, .int .i64 boot, .int .i64 ep, .bool heard, .bool full, .int .i64 age, .bool got] 23)).alloc (.cells zrC 23)) (w.heap.size + 1) 23 zrC from blk_new2 _ _ _ _)
  have HB := Lib.hid (below2 w (.cells #[.int .i64 of_, .int .i64 cost, .int .i64 boot, .int .i64 ep, .bool heard, .bool full, .int .i64 age, .bool got] 23) (.cells zrC 23))
  go_enter Try.func12, Try.ntmps12
  go_wp2_with (first
    | (refine wpList_load_blk rfl 23 (.tmp 2) rfl (w.heap.size) rfl _ K1.out _ Try.underlying23 rfl (by rw [size_nr]; rfl) ?_)
    | (go_at_call 15; refine (MB.out _).mono ?_; rintro e w1 ⟨rfl, hb1⟩; have KA := Lib.hid (K1.out.below hb1 (by simp; omega)); have KB := Lib.hid (K2.out.below hb1 (by simp)); have HB1 := Lib.hid (HB.out.trans (hb1.mono (by simp; omega))); clear hb1; obtain ⟨c0, c1, c2, c3, c4, c5, c6, c7, c8⟩ := blk_cells8 KA.out)
    | (go_at_call 19; refine (isCost_any _ _).mono ?_; rintro e w2 ⟨rfl, rfl⟩)
    | (refine wpList_store_blk rfl 23 (.tmp 4) (.tmp 16) rfl (w.heap.size + 1) _ rfl rfl _ KB.out (by rw [size_nr]; rfl) rfl (by kernel_rfl) ?_; intro w9 hg_ k_; have K9 := Lib.hid k_; have GK9 := Lib.hid hg_; clear hg_ k_))
  exact bodyPost_ret (results_blk_two (P := Try.prog) Try.results12 _ rfl _ _ rfl rfl K9.out Try.underlying23 rfl (by rw [size_nr]; rfl)) rfl ⟨rfl, gr_below HB1.out GK9.out HB1.out.size (by omega)⟩
set_option maxRecDepth 20000 in
set_option maxHeartbeats 4000000 in
theorem ncost_nil_true (of_ cost boot ep : Int) (heard : Bool) (age : Int) (got : Bool) (c : Int) (w : World) (hm : mayN ⟨of_, cost, boot, ep, heard, true, age, got⟩ = true) (hw : win3 c 0 1073741824 = true) (hc : (c == 0) = true) : Calls Try.prog 12 #[.agg (nrC ⟨of_, cost, boot, ep, heard, true, age, got⟩), .int .i64 c] w fun e w' => e = .returned (.tuple #[.agg (nrC ⟨of_, c, boot, ep, false, false, 0, false⟩), .bool true, .int .i64 0]) ∧ Below w.heap.size w w' := by
  have NH := Lib.hid (fun w => nheard_any ⟨of_, cost, boot, ep, heard, true, age, got⟩ w)
  unfold notHeardN at NH
  unfold nrC at NH
  simp only at NH
  have MB := Lib.hid (fun w => mayBe_any ⟨of_, cost, boot, ep, heard, true, age, got⟩ w)
  rewrite [hm] at MB
  unfold nrC at MB ⊢
  simp only at MB ⊢
  clear hm
  have K1 := Lib.hid (show Blk ((w.alloc (.cells #[.int .i64 of_, .int .i64 cost, .int .i64 boot, .int .i64 ep, .bool heard, .bool true, .int .i64 age, .bool got] 23)).alloc (.cells zrC 23)) w.heap.size 23 #[.int .i64 of_, .int .i64 cost, .int .i64 boot, .int .i64 ep, .bool heard, .bool true, .int .i64 age, .bool got] from (Blk.new w _ _).alloc _)
  have K2 := Lib.hid (show Blk ((w.alloc (.cells #[.int .i64 of_, .int .i64 cost, .int .i64 boot, .int .i64 ep, .bool heard, .bool true, .int .i64 age, .bool got] 23)).alloc (.cells zrC 23)) (w.heap.size + 1) 23 zrC from blk_new2 _ _ _ _)
  have HB := Lib.hid (below2 w (.cells #[.int .i64 of_, .int .i64 cost, .int .i64 boot, .int .i64 ep, .bool heard, .bool true, .int .i64 age, .bool got] 23) (.cells zrC 23))
  go_enter Try.func12, Try.ntmps12
  go_wp2_with (first
    | (refine wpList_load_blk rfl 23 (.tmp 2) rfl (w.heap.size) rfl _ K1.out _ Try.underlying23 rfl (by rw [size_nr]; rfl) ?_)
    | (go_at_call 15; refine (MB.out _).mono ?_; rintro e w1 ⟨rfl, hb1⟩; have KA := Lib.hid (K1.out.below hb1 (by simp; omega)); have KB := Lib.hid (K2.out.below hb1 (by simp)); have HB1 := Lib.hid (HB.out.trans (hb1.mono (by simp; omega))); clear hb1; obtain ⟨c0, c1, c2, c3, c4, c5, c6, c7, c8⟩ := blk_cells8 KA.out)
    | (go_at_call 19; refine (isCost_any _ _).mono ?_; rintro e w2 ⟨rfl, rfl⟩)
    | (refine wpList_load_blk rfl 23 (.tmp 2) rfl (w.heap.size) rfl _ (KA.out.alloc _) _ Try.underlying23 rfl (by rw [size_nr]; rfl) ?_)
    | (refine wpList_store_blk rfl 23 (.tmp 7) (.tmp 17) rfl (w1.heap.size) _ rfl rfl _ (Blk.new w1 _ _) (by rw [size_nr]; rfl) rfl (by kernel_rfl) ?_; intro w3 hg_ k_; have K3 := Lib.hid k_; have GK3 := Lib.hid hg_; have KA3 := Lib.hid ((KA.out.alloc _).grown hg_ (by have := KA.out.lt; simp; omega)); have KB3 := Lib.hid ((KB.out.alloc _).grown hg_ (by have := KB.out.lt; simp; omega)); have HB3 := Lib.hid (gr_below (HB1.out.alloc HB1.out.size _) hg_ (by have := HB1.out.size; simp; omega) HB1.out.size); obtain ⟨x0, x1, x2, x3, x4, x5, x6, x7, x8⟩ := blk_cells8 K3.out; obtain ⟨y0, y1, y2, y3, y4, y5, y6, y7⟩ := blk_frozen8 K3.out; clear c0 c1 c2 c3 c4 c5 c6 c7 c8; obtain ⟨c0, c1, c2, c3, c4, c5, c6, c7, c8⟩ := blk_cells8 KA3.out; clear hg_ k_)
    | (refine wpList_load_blk rfl 23 (.tmp 7) rfl (w1.heap.size) rfl _ K3.out _ Try.underlying23 rfl (by rw [size_nr]; rfl) ?_)
    | (go_at_call 18; refine (NH.out _).mono ?_; rintro e w4 ⟨rfl, hb4⟩; have KA4 := Lib.hid (KA3.out.below hb4 KA3.out.lt); have KB4 := Lib.hid (KB3.out.below hb4 KB3.out.lt); have K4 := Lib.hid (K3.out.below hb4 K3.out.lt); have HB4 := Lib.hid (HB3.out.trans (hb4.mono HB3.out.size)); clear hb4)
    | (refine wpList_store_blk rfl 23 (.tmp 7) (.tmp 21) rfl (w1.heap.size) _ rfl rfl _ K4.out (by rw [size_nr]; rfl) rfl (by kernel_rfl) ?_; intro w5 hg_ k_; have K5 := Lib.hid k_; have GK5 := Lib.hid hg_; have KA5 := Lib.hid (KA4.out.grown hg_ (by have := KA.out.lt; simp; omega)); have KB5 := Lib.hid (KB4.out.grown hg_ (by have := KB.out.lt; simp; omega)); have HB5 := Lib.hid (gr_below HB4.out hg_ HB4.out.size HB1.out.size); clear x0 x1 x2 x3 x4 x5 x6 x7 x8 y0 y1 y2 y3 y4 y5 y6 y7; obtain ⟨x0, x1, x2, x3, x4, x5, x6, x7, x8⟩ := blk_cells8 K5.out; obtain ⟨y0, y1, y2, y3, y4, y5, y6, y7⟩ := blk_frozen8 K5.out; clear c0 c1 c2 c3 c4 c5 c6 c7 c8; obtain ⟨c0, c1, c2, c3, c4, c5, c6, c7, c8⟩ := blk_cells8 KA5.out; clear hg_ k_)
    | fail)
  generalize hW : (w5.setCell ⟨w1.heap.size, 1, none⟩ (.int .i64 c)) = W
  have k1 : Blk W w.heap.size 23 #[.int .i64 of_, .int .i64 cost, .int .i64 boot, .int .i64 ep, .bool heard, .bool true, .int .i64 age, .bool got] := by rw [← hW]; exact KA5.out.far (p := ⟨w1.heap.size, 1, none⟩) (show w.heap.size ≠ w1.heap.size by have := KA.out.lt; omega) _
  have k2 : Blk W (w.heap.size + 1) 23 zrC := by rw [← hW]; exact KB5.out.far (p := ⟨w1.heap.size, 1, none⟩) (show w.heap.size + 1 ≠ w1.heap.size by have := KB.out.lt; omega) _
  have k5 : Blk W w1.heap.size 23 #[.int .i64 of_, .int .i64 c, .int .i64 boot, .int .i64 ep, .bool false, .bool false, .int .i64 0, .bool false] := by rw [← hW]; exact set1 K5.out
  have B := Lib.hid (show Below w.heap.size w W by rw [← hW]; exact HB5.out.setCell (p := ⟨w1.heap.size, 1, none⟩) HB1.out.size _)
  have k3 : w.heap.size + 1 ≠ w.heap.size := by omega
  have k6 : w.heap.size + 1 ≠ w1.heap.size := by have := KB.out.lt; omega
  have k7 : w1.heap.size ≠ w.heap.size + 1 := by have := KB.out.lt; omega
  have KR := Lib.hid k2
  clear c0 c1 c2 c3 c4 c5 c6 c7 c8 x0 x1 x2 x3 x4 x5 x6 x7 x8 y0 y1 y2 y3 y4 y5 y6 y7
  obtain ⟨c0, c1, c2, c3, c4, c5, c6, c7, c8⟩ := blk_cells8 k1
  obtain ⟨x0, x1, x2, x3, x4, x5, x6, x7, x8⟩ := blk_cells8 k5
  obtain ⟨f0, f1, f2, f3, f4, f5, f6, f7⟩ := blk_frozen8 k2
  obtain ⟨e0, e1, e2, e3, e4, e5, e6, e7, e8⟩ := blk_cells8 k2
  clear k1 k2 k5 hW
  go_region
  go_wp2
  exact bodyPost_ret (results_blk_two (P := Try.prog) Try.results12 _ rfl _ _ rfl rfl (st8_blk KR.out).drew Try.underlying23 rfl (by rw [size_nr]; rfl)) rfl ⟨rfl, (st8_below B.out (by omega)).drew⟩
set_option maxRecDepth 20000 in
set_option maxHeartbeats 4000000 in
theorem ncost_some_true (of_ cost boot ep : Int) (heard : Bool) (age : Int) (got : Bool) (c : Int) (w : World) (hm : mayN ⟨of_, cost, boot, ep, heard, true, age, got⟩ = true) (hw : win3 c 0 1073741824 = true) (hc : (c == 0) = false) : Calls Try.prog 12 #[.agg (nrC ⟨of_, cost, boot, ep, heard, true, age, got⟩), .int .i64 c] w fun e w' => e = .returned (.tuple #[.agg (nrC ⟨of_, c, boot, ep, heard, true, age, got⟩), .bool false, .int .i64 0]) ∧ Below w.heap.size w w' := by
  have MB := Lib.hid (fun w => mayBe_any ⟨of_, cost, boot, ep, heard, true, age, got⟩ w)
  rewrite [hm] at MB
  unfold nrC at MB ⊢
  simp only at MB ⊢
  clear hm
  have K1 := Lib.hid (show Blk ((w.alloc (.cells #[.int .i64 of_, .int .i64 cost, .int .i64 boot, .int .i64 ep, .bool heard, .bool true, .int .i64 age, .bool got] 23)).alloc (.cells zrC 23)) w.heap.size 23 #[.int .i64 of_, .int .i64 cost, .int .i64 boot, .int .i64 ep, .bool heard, .bool true, .int .i64 age, .bool got] from (Blk.new w _ _).alloc _)
  have K2 := Lib.hid (show Blk ((w.alloc (.cells #[.int .i64 of_, .int .i64 cost, .int .i64 boot, .int .i64 ep, .bool heard, .bool true, .int .i64 age, .bool got] 23)).alloc (.cells zrC 23)) (w.heap.size + 1) 23 zrC from blk_new2 _ _ _ _)
  have HB := Lib.hid (below2 w (.cells #[.int .i64 of_, .int .i64 cost, .int .i64 boot, .int .i64 ep, .bool heard, .bool true, .int .i64 age, .bool got] 23) (.cells zrC 23))
  go_enter Try.func12, Try.ntmps12
  go_wp2_with (first
    | (refine wpList_load_blk rfl 23 (.tmp 2) rfl (w.heap.size) rfl _ K1.out _ Try.underlying23 rfl (by rw [size_nr]; rfl) ?_)
    | (go_at_call 15; refine (MB.out _).mono ?_; rintro e w1 ⟨rfl, hb1⟩; have KA := Lib.hid (K1.out.below hb1 (by simp; omega)); have KB := Lib.hid (K2.out.below hb1 (by simp)); have HB1 := Lib.hid (HB.out.trans (hb1.mono (by simp; omega))); clear hb1; obtain ⟨c0, c1, c2, c3, c4, c5, c6, c7, c8⟩ := blk_cells8 KA.out)
    | (go_at_call 19; refine (isCost_any _ _).mono ?_; rintro e w2 ⟨rfl, rfl⟩)
    | (refine wpList_load_blk rfl 23 (.tmp 2) rfl (w.heap.size) rfl _ (KA.out.alloc _) _ Try.underlying23 rfl (by rw [size_nr]; rfl) ?_)
    | (refine wpList_store_blk rfl 23 (.tmp 7) (.tmp 17) rfl (w1.heap.size) _ rfl rfl _ (Blk.new w1 _ _) (by rw [size_nr]; rfl) rfl (by kernel_rfl) ?_; intro w3 hg_ k_; have K3 := Lib.hid k_; have GK3 := Lib.hid hg_; have KA3 := Lib.hid ((KA.out.alloc _).grown hg_ (by have := KA.out.lt; simp; omega)); have KB3 := Lib.hid ((KB.out.alloc _).grown hg_ (by have := KB.out.lt; simp; omega)); have HB3 := Lib.hid (gr_below (HB1.out.alloc HB1.out.size _) hg_ (by have := HB1.out.size; simp; omega) HB1.out.size); obtain ⟨x0, x1, x2, x3, x4, x5, x6, x7, x8⟩ := blk_cells8 K3.out; obtain ⟨y0, y1, y2, y3, y4, y5, y6, y7⟩ := blk_frozen8 K3.out; clear c0 c1 c2 c3 c4 c5 c6 c7 c8; obtain ⟨c0, c1, c2, c3, c4, c5, c6, c7, c8⟩ := blk_cells8 KA3.out; clear hg_ k_)
    | fail)
  generalize hW : (w3.setCell ⟨w1.heap.size, 1, none⟩ (.int .i64 c)) = W
  have k1 : Blk W w.heap.size 23 #[.int .i64 of_, .int .i64 cost, .int .i64 boot, .int .i64 ep, .bool heard, .bool true, .int .i64 age, .bool got] := by rw [← hW]; exact KA3.out.far (p := ⟨w1.heap.size, 1, none⟩) (show w.heap.size ≠ w1.heap.size by have := KA.out.lt; omega) _
  have k2 : Blk W (w.heap.size + 1) 23 zrC := by rw [← hW]; exact KB3.out.far (p := ⟨w1.heap.size, 1, none⟩) (show w.heap.size + 1 ≠ w1.heap.size by have := KB.out.lt; omega) _
  have k5 : Blk W w1.heap.size 23 #[.int .i64 of_, .int .i64 c, .int .i64 boot, .int .i64 ep, .bool heard, .bool true, .int .i64 age, .bool got] := by rw [← hW]; exact set1 K3.out
  have B := Lib.hid (show Below w.heap.size w W by rw [← hW]; exact HB3.out.setCell (p := ⟨w1.heap.size, 1, none⟩) HB1.out.size _)
  have k3 : w.heap.size + 1 ≠ w.heap.size := by omega
  have k6 : w.heap.size + 1 ≠ w1.heap.size := by have := KB.out.lt; omega
  have k7 : w1.heap.size ≠ w.heap.size + 1 := by have := KB.out.lt; omega
  have KR := Lib.hid k2
  clear c0 c1 c2 c3 c4 c5 c6 c7 c8 x0 x1 x2 x3 x4 x5 x6 x7 x8 y0 y1 y2 y3 y4 y5 y6 y7
  obtain ⟨c0, c1, c2, c3, c4, c5, c6, c7, c8⟩ := blk_cells8 k1
  obtain ⟨x0, x1, x2, x3, x4, x5, x6, x7, x8⟩ := blk_cells8 k5
  obtain ⟨f0, f1, f2, f3, f4, f5, f6, f7⟩ := blk_frozen8 k2
  obtain ⟨e0, e1, e2, e3, e4, e5, e6, e7, e8⟩ := blk_cells8 k2
  clear k1 k2 k5 hW
  go_region
  go_wp2
  exact bodyPost_ret (results_blk_two (P := Try.prog) Try.results12 _ rfl _ _ rfl rfl (st8_blk KR.out).drew Try.underlying23 rfl (by rw [size_nr]; rfl)) rfl ⟨rfl, (st8_below B.out (by omega)).drew⟩
set_option maxRecDepth 20000 in
set_option maxHeartbeats 4000000 in
theorem ncost_nil_false (of_ cost boot ep : Int) (heard : Bool) (age : Int) (got : Bool) (c : Int) (w : World) (hm : mayN ⟨of_, cost, boot, ep, heard, false, age, got⟩ = true) (hw : win3 c 0 1073741824 = true) (hc : (c == 0) = true) : Calls Try.prog 12 #[.agg (nrC ⟨of_, cost, boot, ep, heard, false, age, got⟩), .int .i64 c] w fun e w' => e = .returned (.tuple #[.agg (nrC ⟨of_, c, boot, ep, false, false, 0, false⟩), .bool false, .int .i64 0]) ∧ Below w.heap.size w w' := by
  have NH := Lib.hid (fun w => nheard_any ⟨of_, cost, boot, ep, heard, false, age, got⟩ w)
  unfold notHeardN at NH
  unfold nrC at NH
  simp only at NH
  have MB := Lib.hid (fun w => mayBe_any ⟨of_, cost, boot, ep, heard, false, age, got⟩ w)
  rewrite [hm] at MB
  unfold nrC at MB ⊢
  simp only at MB ⊢
  clear hm
  have K1 := Lib.hid (show Blk ((w.alloc (.cells #[.int .i64 of_, .int .i64 cost, .int .i64 boot, .int .i64 ep, .bool heard, .bool false, .int .i64 age, .bool got] 23)).alloc (.cells zrC 23)) w.heap.size 23 #[.int .i64 of_, .int .i64 cost, .int .i64 boot, .int .i64 ep, .bool heard, .bool false, .int .i64 age, .bool got] from (Blk.new w _ _).alloc _)
  have K2 := Lib.hid (show Blk ((w.alloc (.cells #[.int .i64 of_, .int .i64 cost, .int .i64 boot, .int .i64 ep, .bool heard, .bool false, .int .i64 age, .bool got] 23)).alloc (.cells zrC 23)) (w.heap.size + 1) 23 zrC from blk_new2 _ _ _ _)
  have HB := Lib.hid (below2 w (.cells #[.int .i64 of_, .int .i64 cost, .int .i64 boot, .int .i64 ep, .bool heard, .bool false, .int .i64 age, .bool got] 23) (.cells zrC 23))
  go_enter Try.func12, Try.ntmps12
  go_wp2_with (first
    | (refine wpList_load_blk rfl 23 (.tmp 2) rfl (w.heap.size) rfl _ K1.out _ Try.underlying23 rfl (by rw [size_nr]; rfl) ?_)
    | (go_at_call 15; refine (MB.out _).mono ?_; rintro e w1 ⟨rfl, hb1⟩; have KA := Lib.hid (K1.out.below hb1 (by simp; omega)); have KB := Lib.hid (K2.out.below hb1 (by simp)); have HB1 := Lib.hid (HB.out.trans (hb1.mono (by simp; omega))); clear hb1; obtain ⟨c0, c1, c2, c3, c4, c5, c6, c7, c8⟩ := blk_cells8 KA.out)
    | (go_at_call 19; refine (isCost_any _ _).mono ?_; rintro e w2 ⟨rfl, rfl⟩)
    | (refine wpList_load_blk rfl 23 (.tmp 2) rfl (w.heap.size) rfl _ (KA.out.alloc _) _ Try.underlying23 rfl (by rw [size_nr]; rfl) ?_)
    | (refine wpList_store_blk rfl 23 (.tmp 7) (.tmp 17) rfl (w1.heap.size) _ rfl rfl _ (Blk.new w1 _ _) (by rw [size_nr]; rfl) rfl (by kernel_rfl) ?_; intro w3 hg_ k_; have K3 := Lib.hid k_; have GK3 := Lib.hid hg_; have KA3 := Lib.hid ((KA.out.alloc _).grown hg_ (by have := KA.out.lt; simp; omega)); have KB3 := Lib.hid ((KB.out.alloc _).grown hg_ (by have := KB.out.lt; simp; omega)); have HB3 := Lib.hid (gr_below (HB1.out.alloc HB1.out.size _) hg_ (by have := HB1.out.size; simp; omega) HB1.out.size); obtain ⟨x0, x1, x2, x3, x4, x5, x6, x7, x8⟩ := blk_cells8 K3.out; obtain ⟨y0, y1, y2, y3, y4, y5, y6, y7⟩ := blk_frozen8 K3.out; clear c0 c1 c2 c3 c4 c5 c6 c7 c8; obtain ⟨c0, c1, c2, c3, c4, c5, c6, c7, c8⟩ := blk_cells8 KA3.out; clear hg_ k_)
    | (refine wpList_load_blk rfl 23 (.tmp 7) rfl (w1.heap.size) rfl _ K3.out _ Try.underlying23 rfl (by rw [size_nr]; rfl) ?_)
    | (go_at_call 18; refine (NH.out _).mono ?_; rintro e w4 ⟨rfl, hb4⟩; have KA4 := Lib.hid (KA3.out.below hb4 KA3.out.lt); have KB4 := Lib.hid (KB3.out.below hb4 KB3.out.lt); have K4 := Lib.hid (K3.out.below hb4 K3.out.lt); have HB4 := Lib.hid (HB3.out.trans (hb4.mono HB3.out.size)); clear hb4)
    | (refine wpList_store_blk rfl 23 (.tmp 7) (.tmp 21) rfl (w1.heap.size) _ rfl rfl _ K4.out (by rw [size_nr]; rfl) rfl (by kernel_rfl) ?_; intro w5 hg_ k_; have K5 := Lib.hid k_; have GK5 := Lib.hid hg_; have KA5 := Lib.hid (KA4.out.grown hg_ (by have := KA.out.lt; simp; omega)); have KB5 := Lib.hid (KB4.out.grown hg_ (by have := KB.out.lt; simp; omega)); have HB5 := Lib.hid (gr_below HB4.out hg_ HB4.out.size HB1.out.size); clear x0 x1 x2 x3 x4 x5 x6 x7 x8 y0 y1 y2 y3 y4 y5 y6 y7; obtain ⟨x0, x1, x2, x3, x4, x5, x6, x7, x8⟩ := blk_cells8 K5.out; obtain ⟨y0, y1, y2, y3, y4, y5, y6, y7⟩ := blk_frozen8 K5.out; clear c0 c1 c2 c3 c4 c5 c6 c7 c8; obtain ⟨c0, c1, c2, c3, c4, c5, c6, c7, c8⟩ := blk_cells8 KA5.out; clear hg_ k_)
    | fail)
  generalize hW : (w5.setCell ⟨w1.heap.size, 1, none⟩ (.int .i64 c)) = W
  have k1 : Blk W w.heap.size 23 #[.int .i64 of_, .int .i64 cost, .int .i64 boot, .int .i64 ep, .bool heard, .bool false, .int .i64 age, .bool got] := by rw [← hW]; exact KA5.out.far (p := ⟨w1.heap.size, 1, none⟩) (show w.heap.size ≠ w1.heap.size by have := KA.out.lt; omega) _
  have k2 : Blk W (w.heap.size + 1) 23 zrC := by rw [← hW]; exact KB5.out.far (p := ⟨w1.heap.size, 1, none⟩) (show w.heap.size + 1 ≠ w1.heap.size by have := KB.out.lt; omega) _
  have k5 : Blk W w1.heap.size 23 #[.int .i64 of_, .int .i64 c, .int .i64 boot, .int .i64 ep, .bool false, .bool false, .int .i64 0, .bool false] := by rw [← hW]; exact set1 K5.out
  have B := Lib.hid (show Below w.heap.size w W by rw [← hW]; exact HB5.out.setCell (p := ⟨w1.heap.size, 1, none⟩) HB1.out.size _)
  have k3 : w.heap.size + 1 ≠ w.heap.size := by omega
  have k6 : w.heap.size + 1 ≠ w1.heap.size := by have := KB.out.lt; omega
  have k7 : w1.heap.size ≠ w.heap.size + 1 := by have := KB.out.lt; omega
  have KR := Lib.hid k2
  clear c0 c1 c2 c3 c4 c5 c6 c7 c8 x0 x1 x2 x3 x4 x5 x6 x7 x8 y0 y1 y2 y3 y4 y5 y6 y7
  obtain ⟨c0, c1, c2, c3, c4, c5, c6, c7, c8⟩ := blk_cells8 k1
  obtain ⟨x0, x1, x2, x3, x4, x5, x6, x7, x8⟩ := blk_cells8 k5
  obtain ⟨f0, f1, f2, f3, f4, f5, f6, f7⟩ := blk_frozen8 k2
  obtain ⟨e0, e1, e2, e3, e4, e5, e6, e7, e8⟩ := blk_cells8 k2
  clear k1 k2 k5 hW
  go_region
  go_wp2
  exact bodyPost_ret (results_blk_two (P := Try.prog) Try.results12 _ rfl _ _ rfl rfl (st8_blk KR.out).drew Try.underlying23 rfl (by rw [size_nr]; rfl)) rfl ⟨rfl, (st8_below B.out (by omega)).drew⟩
set_option maxRecDepth 20000 in
set_option maxHeartbeats 4000000 in
theorem ncost_some_false (of_ cost boot ep : Int) (heard : Bool) (age : Int) (got : Bool) (c : Int) (w : World) (hm : mayN ⟨of_, cost, boot, ep, heard, false, age, got⟩ = true) (hw : win3 c 0 1073741824 = true) (hc : (c == 0) = false) : Calls Try.prog 12 #[.agg (nrC ⟨of_, cost, boot, ep, heard, false, age, got⟩), .int .i64 c] w fun e w' => e = .returned (.tuple #[.agg (nrC ⟨of_, c, boot, ep, heard, false, age, got⟩), .bool false, .int .i64 0]) ∧ Below w.heap.size w w' := by
  have MB := Lib.hid (fun w => mayBe_any ⟨of_, cost, boot, ep, heard, false, age, got⟩ w)
  rewrite [hm] at MB
  unfold nrC at MB ⊢
  simp only at MB ⊢
  clear hm
  have K1 := Lib.hid (show Blk ((w.alloc (.cells #[.int .i64 of_, .int .i64 cost, .int .i64 boot, .int .i64 ep, .bool heard, .bool false, .int .i64 age, .bool got] 23)).alloc (.cells zrC 23)) w.heap.size 23 #[.int .i64 of_, .int .i64 cost, .int .i64 boot, .int .i64 ep, .bool heard, .bool false, .int .i64 age, .bool got] from (Blk.new w _ _).alloc _)
  have K2 := Lib.hid (show Blk ((w.alloc (.cells #[.int .i64 of_, .int .i64 cost, .int .i64 boot, .int .i64 ep, .bool heard, .bool false, .int .i64 age, .bool got] 23)).alloc (.cells zrC 23)) (w.heap.size + 1) 23 zrC from blk_new2 _ _ _ _)
  have HB := Lib.hid (below2 w (.cells #[.int .i64 of_, .int .i64 cost, .int .i64 boot, .int .i64 ep, .bool heard, .bool false, .int .i64 age, .bool got] 23) (.cells zrC 23))
  go_enter Try.func12, Try.ntmps12
  go_wp2_with (first
    | (refine wpList_load_blk rfl 23 (.tmp 2) rfl (w.heap.size) rfl _ K1.out _ Try.underlying23 rfl (by rw [size_nr]; rfl) ?_)
    | (go_at_call 15; refine (MB.out _).mono ?_; rintro e w1 ⟨rfl, hb1⟩; have KA := Lib.hid (K1.out.below hb1 (by simp; omega)); have KB := Lib.hid (K2.out.below hb1 (by simp)); have HB1 := Lib.hid (HB.out.trans (hb1.mono (by simp; omega))); clear hb1; obtain ⟨c0, c1, c2, c3, c4, c5, c6, c7, c8⟩ := blk_cells8 KA.out)
    | (go_at_call 19; refine (isCost_any _ _).mono ?_; rintro e w2 ⟨rfl, rfl⟩)
    | (refine wpList_load_blk rfl 23 (.tmp 2) rfl (w.heap.size) rfl _ (KA.out.alloc _) _ Try.underlying23 rfl (by rw [size_nr]; rfl) ?_)
    | (refine wpList_store_blk rfl 23 (.tmp 7) (.tmp 17) rfl (w1.heap.size) _ rfl rfl _ (Blk.new w1 _ _) (by rw [size_nr]; rfl) rfl (by kernel_rfl) ?_; intro w3 hg_ k_; have K3 := Lib.hid k_; have GK3 := Lib.hid hg_; have KA3 := Lib.hid ((KA.out.alloc _).grown hg_ (by have := KA.out.lt; simp; omega)); have KB3 := Lib.hid ((KB.out.alloc _).grown hg_ (by have := KB.out.lt; simp; omega)); have HB3 := Lib.hid (gr_below (HB1.out.alloc HB1.out.size _) hg_ (by have := HB1.out.size; simp; omega) HB1.out.size); obtain ⟨x0, x1, x2, x3, x4, x5, x6, x7, x8⟩ := blk_cells8 K3.out; obtain ⟨y0, y1, y2, y3, y4, y5, y6, y7⟩ := blk_frozen8 K3.out; clear c0 c1 c2 c3 c4 c5 c6 c7 c8; obtain ⟨c0, c1, c2, c3, c4, c5, c6, c7, c8⟩ := blk_cells8 KA3.out; clear hg_ k_)
    | fail)
  generalize hW : (w3.setCell ⟨w1.heap.size, 1, none⟩ (.int .i64 c)) = W
  have k1 : Blk W w.heap.size 23 #[.int .i64 of_, .int .i64 cost, .int .i64 boot, .int .i64 ep, .bool heard, .bool false, .int .i64 age, .bool got] := by rw [← hW]; exact KA3.out.far (p := ⟨w1.heap.size, 1, none⟩) (show w.heap.size ≠ w1.heap.size by have := KA.out.lt; omega) _
  have k2 : Blk W (w.heap.size + 1) 23 zrC := by rw [← hW]; exact KB3.out.far (p := ⟨w1.heap.size, 1, none⟩) (show w.heap.size + 1 ≠ w1.heap.size by have := KB.out.lt; omega) _
  have k5 : Blk W w1.heap.size 23 #[.int .i64 of_, .int .i64 c, .int .i64 boot, .int .i64 ep, .bool heard, .bool false, .int .i64 age, .bool got] := by rw [← hW]; exact set1 K3.out
  have B := Lib.hid (show Below w.heap.size w W by rw [← hW]; exact HB3.out.setCell (p := ⟨w1.heap.size, 1, none⟩) HB1.out.size _)
  have k3 : w.heap.size + 1 ≠ w.heap.size := by omega
  have k6 : w.heap.size + 1 ≠ w1.heap.size := by have := KB.out.lt; omega
  have k7 : w1.heap.size ≠ w.heap.size + 1 := by have := KB.out.lt; omega
  have KR := Lib.hid k2
  clear c0 c1 c2 c3 c4 c5 c6 c7 c8 x0 x1 x2 x3 x4 x5 x6 x7 x8 y0 y1 y2 y3 y4 y5 y6 y7
  obtain ⟨c0, c1, c2, c3, c4, c5, c6, c7, c8⟩ := blk_cells8 k1
  obtain ⟨x0, x1, x2, x3, x4, x5, x6, x7, x8⟩ := blk_cells8 k5
  obtain ⟨f0, f1, f2, f3, f4, f5, f6, f7⟩ := blk_frozen8 k2
  obtain ⟨e0, e1, e2, e3, e4, e5, e6, e7, e8⟩ := blk_cells8 k2
  clear k1 k2 k5 hW
  go_region
  go_wp2
  exact bodyPost_ret (results_blk_two (P := Try.prog) Try.results12 _ rfl _ _ rfl rfl (st8_blk KR.out).drew Try.underlying23 rfl (by rw [size_nr]; rfl)) rfl ⟨rfl, (st8_below B.out (by omega)).drew⟩
end Go.Proofs.Ytgfoadldghcdeaa.Nea
