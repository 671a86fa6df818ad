/- The reference of layer 17 (near): Cost. Printed by tools/near/ref.py. -/
import Derived.Test.YtgfoadldghcdeaaNearRef
namespace Go.Proofs.Ytgfoadldghcdeaa.Nea
open Go.RowKit Go.Proofs.Ytgfoadldghcdeaa.Mem
set_option linter.unusedVariables false
set_option linter.unusedSimpArgs false
set_option maxRecDepth 20000 in
set_option maxHeartbeats 4000000 in
theorem rcost_none (of_ cost boot ep : Int) (heard full : Bool) (age : Int) (got : Bool) (w : World) : Calls Try.prog 14 #[.agg (nrC ⟨of_, cost, boot, ep, heard, full, age, got⟩), .int .i64 0] w fun e w' => e = .returned (.tuple #[.agg (nrC ⟨of_, 0, boot, ep, false, false, 0, false⟩), .bool full]) ∧ Below w.heap.size w w' := by
  unfold nrC
  simp only
  go_enter Try.func14, Try.ntmps14
  go_wp2_with (fail)
  generalize hr : w.heap.size + 1 = r
  generalize hW : ((w.alloc _).alloc _) = W
  have k1 : Blk W w.heap.size 23 #[.int .i64 of_, .int .i64 cost, .int .i64 boot, .int .i64 ep, .bool heard, .bool full, .int .i64 age, .bool got] := by rw [← hW]; exact (Blk.new w _ _).alloc _
  have k2 : Blk W r 23 zrC := by rw [← hW, ← hr]; exact blk_new2 _ _ _ _
  have k3 : r ≠ w.heap.size := by omega
  have k4 := Lib.hid (show w.heap.size ≤ r by omega)
  have B := Lib.hid (show Below w.heap.size w W by rw [← hW]; exact below2 _ _ _)
  have K2 := Lib.hid k2
  obtain ⟨c0, c1, c2, c3, c4, c5, c6, c7, c8⟩ := blk_cells8 k1
  obtain ⟨f0, f1, f2, f3, f4, f5, f6, f7⟩ := blk_frozen8 k2
  obtain ⟨e0, e1, e2, e3, e4, e5, e6, e7, e8⟩ := blk_cells8 k2
  clear k1 k2 hW hr
  go_region
  go_wp2
  exact bodyPost_ret (results_blk_tmp (P := Try.prog) Try.results14 _ rfl _ rfl (st8_blk K2.out).drew Try.underlying23 rfl (by rw [size_nr]; rfl)) rfl ⟨rfl, (st8_below B.out k4.out).drew⟩
set_option maxRecDepth 20000 in
set_option maxHeartbeats 4000000 in
theorem rcost_some (of_ cost boot ep : Int) (heard full : Bool) (age : Int) (got : Bool) (w : World) (c : Int) (hc : (c == 0) = false) : Calls Try.prog 14 #[.agg (nrC ⟨of_, cost, boot, ep, heard, full, age, got⟩), .int .i64 c] w fun e w' => e = .returned (.tuple #[.agg (nrC ⟨of_, c, boot, ep, heard, full, age, got⟩), .bool false]) ∧ Below w.heap.size w w' := by
  unfold nrC
  simp only
  have KB := Lib.hid (Blk.new w 23 #[.int .i64 of_, .int .i64 c, .int .i64 boot, .int .i64 ep, .bool heard, .bool full, .int .i64 age, .bool got])
  go_enter Try.func14, Try.ntmps14
  go_wp2_with (first
    | (refine wpList_load_blk rfl 23 (.tmp 2) rfl w.heap.size rfl _ (KB.out.alloc _) _ Try.underlying23 rfl (by rw [size_nr]; rfl) ?_)
    | (refine wpList_store_blk rfl 23 (.tmp 4) (.tmp 19) rfl (w.heap.size + 1) _ rfl rfl _ (blk_new2 w _ _ _) (by rw [size_nr]; rfl) rfl (by kernel_rfl) ?_; intro w9 hg9 k9; have K9 := Lib.hid k9; have HB9 := Lib.hid hg9; clear hg9 k9))
  exact bodyPost_ret (results_blk_tmp (P := Try.prog) Try.results14 _ rfl _ rfl K9.out Try.underlying23 rfl (by rw [size_nr]; rfl)) rfl ⟨rfl, gr_below (below2 _ _ _) HB9.out (by simp; try omega) (by omega)⟩
theorem rcost_any (n : Nr) (c : Int) (w : World) : Calls Try.prog 14 #[.agg (nrC n), .int .i64 c] w fun e w' => e = .returned (.tuple #[.agg (nrC (costN n c).1), .bool (costN n c).2]) ∧ Below w.heap.size w w' := by
  obtain ⟨of_, cost, boot, ep, heard, full, age, got⟩ := n
  unfold costN
  by_cases hc : c = 0
  · subst hc
    rw [if_pos rfl]
    exact rcost_none of_ cost boot ep heard full age got w
  · rw [if_neg hc]
    exact rcost_some of_ cost boot ep heard full age got w c (beq_false_of_ne hc)
end Go.Proofs.Ytgfoadldghcdeaa.Nea
