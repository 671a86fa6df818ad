/- The reference of layer 17 (near): Hello. Printed by tools/near/ref.py. -/
import Derived.Test.YtgfoadldghcdeaaNearRef
namespace Go.Proofs.Ytgfoadldghcdeaa.Nea
open Go.RowKit Go.Proofs.Ytgfoadldghcdeaa.Mem
set_option linter.unusedVariables false
set_option linter.unusedSimpArgs false
set_option maxRecDepth 20000 in
set_option maxHeartbeats 4000000 in
theorem rhello_not1 (of_ cost boot ep b : Int) (heard full hears : Bool) (age : Int) (got : Bool) (w : World) : Calls Try.prog 10 #[.agg (nrC ⟨of_, 0, boot, ep, heard, full, age, got⟩), .int .i64 b, .bool hears] w fun e w' => e = .returned (.tuple #[.agg (nrC ⟨of_, 0, boot, ep, heard, full, age, got⟩), .bool false, .bool false]) ∧ Below w.heap.size w w' := by
  unfold nrC
  simp only
  have KB := Lib.hid (Blk.new w 23 #[.int .i64 of_, .int .i64 0, .int .i64 boot, .int .i64 ep, .bool heard, .bool full, .int .i64 age, .bool got])
  go_enter Try.func10, Try.ntmps10
  go_wp2_with (first
    | (refine wpList_load_blk rfl 23 (.tmp 3) rfl w.heap.size rfl _ (KB.out.alloc _) _ Try.underlying23 rfl (by rw [size_nr]; rfl) ?_)
    | (refine wpList_store_blk rfl 23 (.tmp 6) (.tmp 19) rfl (w.heap.size + 1) _ rfl rfl _ (blk_new2 w _ _ _) (by rw [size_nr]; rfl) rfl (by kernel_rfl) ?_; intro w9 hg9 k9; have K9 := Lib.hid k9; have HB9 := Lib.hid hg9; clear hg9 k9))
  exact bodyPost_ret (results_blk_two (P := Try.prog) Try.results10 _ rfl _ _ rfl rfl K9.out Try.underlying23 rfl (by rw [size_nr]; rfl)) rfl ⟨rfl, gr_below (below2 _ _ _) HB9.out (by simp; try omega) (by omega)⟩
set_option maxRecDepth 20000 in
set_option maxHeartbeats 4000000 in
theorem rhello_not2 (of_ cost boot ep b : Int) (heard full hears : Bool) (age : Int) (got : Bool) (w : World) (hc : (cost == 0) = false) (hb : decide (b < boot) = true) : Calls Try.prog 10 #[.agg (nrC ⟨of_, cost, boot, ep, heard, full, age, got⟩), .int .i64 b, .bool hears] w fun e w' => e = .returned (.tuple #[.agg (nrC ⟨of_, cost, boot, ep, heard, full, age, got⟩), .bool false, .bool false]) ∧ Below w.heap.size w w' := by
  unfold nrC
  simp only
  have KB := Lib.hid (Blk.new w 23 #[.int .i64 of_, .int .i64 cost, .int .i64 boot, .int .i64 ep, .bool heard, .bool full, .int .i64 age, .bool got])
  go_enter Try.func10, Try.ntmps10
  go_wp2_with (first
    | (refine wpList_load_blk rfl 23 (.tmp 3) rfl w.heap.size rfl _ (KB.out.alloc _) _ Try.underlying23 rfl (by rw [size_nr]; rfl) ?_)
    | (refine wpList_store_blk rfl 23 (.tmp 6) (.tmp 19) rfl (w.heap.size + 1) _ rfl rfl _ (blk_new2 w _ _ _) (by rw [size_nr]; rfl) rfl (by kernel_rfl) ?_; intro w9 hg9 k9; have K9 := Lib.hid k9; have HB9 := Lib.hid hg9; clear hg9 k9))
  exact bodyPost_ret (results_blk_two (P := Try.prog) Try.results10 _ rfl _ _ rfl rfl K9.out Try.underlying23 rfl (by rw [size_nr]; rfl)) rfl ⟨rfl, gr_below (below2 _ _ _) HB9.out (by simp; try omega) (by omega)⟩
theorem blk_new3 (w : World) (o1 o2 : Obj) (t : TypeId) (cs : Array Value) : Blk (((w.alloc o1).alloc o2).alloc (.cells cs t)) (w.heap.size + 1 + 1) t cs := blk_new2 (w.alloc o1) o2 t cs |> fun h => by rw [show (w.alloc o1).heap.size + 1 = w.heap.size + 1 + 1 by simp] at h; exact h
theorem below3 (w : World) (o1 o2 o3 : Obj) : Below w.heap.size w (((w.alloc o1).alloc o2).alloc o3) := (below2 w o1 o2).alloc (by simp; omega) o3
set_option maxRecDepth 20000 in
set_option maxHeartbeats 4000000 in
theorem rhello_same (of_ cost boot ep : Int) (heard : Bool) (age : Int) (got : Bool) (w : World) (hc : (cost == 0) = false) : Calls Try.prog 10 #[.agg (nrC ⟨of_, cost, boot, ep, heard, true, age, got⟩), .int .i64 boot, .bool true] w fun e w' => e = .returned (.tuple #[.agg (nrC ⟨of_, cost, boot, ep, true, true, 0, got⟩), .bool false, .bool false]) ∧ Below w.heap.size w w' := by
  unfold nrC
  simp only
  have d1 : decide (boot < boot) = false := by simp
  go_enter Try.func10, Try.ntmps10
  go_wp2_with (first
    | (refine wpList_load_blk rfl 23 (.tmp 9) rfl (w.heap.size + 1 + 1) rfl _ (blk_new3 w _ _ _ _) _ Try.underlying23 rfl (by rw [size_nr]; rfl) ?_)
    | (refine wpList_store_blk rfl 23 (.tmp 6) (.tmp 43) rfl (w.heap.size + 1) _ rfl rfl _ ((blk_new2 w _ _ _).alloc _) (by rw [size_nr]; rfl) rfl (by kernel_rfl) ?_; intro w9 hg9 k9; have K9 := Lib.hid k9; have HB9 := Lib.hid hg9; clear hg9 k9))
  exact bodyPost_ret (results_blk_two (P := Try.prog) Try.results10 _ rfl _ _ rfl rfl K9.out Try.underlying23 rfl (by rw [size_nr]; rfl)) rfl ⟨rfl, gr_below (below3 _ _ _ _) HB9.out (by simp; try omega) (by omega)⟩
set_option maxRecDepth 20000 in
set_option maxHeartbeats 4000000 in
theorem rhello_new1 (of_ cost boot ep b : Int) (heard hears : Bool) (age : Int) (got : Bool) (w : World) (hc : (cost == 0) = false) (hb : decide (b < boot) = false) : Calls Try.prog 10 #[.agg (nrC ⟨of_, cost, boot, ep, heard, false, age, got⟩), .int .i64 b, .bool hears] w fun e w' => e = .returned (.tuple #[.agg (nrC ⟨of_, cost, b, ep, true, hears, 0, false⟩), .bool false, .bool hears]) ∧ Below w.heap.size w w' := by
  unfold nrC
  simp only
  go_enter Try.func10, Try.ntmps10
  go_wp2_with (fail)
  generalize hr : w.heap.size + 1 = r
  generalize hx : r + 1 = x
  generalize hW : (((w.alloc _).alloc _).alloc _) = W
  have k1 : Blk W w.heap.size 23 #[.int .i64 of_, .int .i64 cost, .int .i64 boot, .int .i64 ep, .bool heard, .bool false, .int .i64 age, .bool got] := by rw [← hW]; exact ((Blk.new w _ _).alloc _).alloc _
  have k2 : Blk W r 23 zrC := by rw [← hW, ← hr]; exact (blk_new2 _ _ _ _).alloc _
  have k5 : Blk W x 23 #[.int .i64 of_, .int .i64 cost, .int .i64 b, .int .i64 ep, .bool true, .bool hears, .int .i64 0, .bool false] := by rw [← hW, ← hx, ← hr]; exact blk_new3 _ _ _ _ _
  have k3 : r ≠ w.heap.size := by omega
  have k6 : x ≠ r := by omega
  have k7 : r ≠ x := by omega
  have k4 := Lib.hid (show w.heap.size ≤ r by omega)
  have B := Lib.hid (show Below w.heap.size w W by rw [← hW]; exact below3 _ _ _ _)
  have K2 := Lib.hid k2
  obtain ⟨c0, c1, c2, c3, c4, c5, c6, c7, c8⟩ := blk_cells8 k1
  obtain ⟨x0, x1, x2, x3, x4, x5, x6, x7, x8⟩ := blk_cells8 k5
  obtain ⟨f0, f1, f2, f3, f4, f5, f6, f7⟩ := blk_frozen8 k2
  obtain ⟨e0, e1, e2, e3, e4, e5, e6, e7, e8⟩ := blk_cells8 k2
  clear k1 k2 k5 hW hr hx
  go_region
  go_wp2
  exact bodyPost_ret (results_blk_two (P := Try.prog) Try.results10 _ rfl _ _ rfl rfl (st8_blk K2.out).drew Try.underlying23 rfl (by rw [size_nr]; rfl)) rfl ⟨rfl, (st8_below B.out k4.out).drew⟩
set_option maxRecDepth 20000 in
set_option maxHeartbeats 4000000 in
theorem rhello_new2 (of_ cost boot ep b : Int) (heard : Bool) (age : Int) (got : Bool) (w : World) (hc : (cost == 0) = false) (hb : decide (b < boot) = false) : Calls Try.prog 10 #[.agg (nrC ⟨of_, cost, boot, ep, heard, true, age, got⟩), .int .i64 b, .bool false] w fun e w' => e = .returned (.tuple #[.agg (nrC ⟨of_, cost, b, ep, true, false, 0, false⟩), .bool true, .bool false]) ∧ Below w.heap.size w w' := by
  unfold nrC
  simp only
  go_enter Try.func10, Try.ntmps10
  go_wp2_with (fail)
  generalize hr : w.heap.size + 1 = r
  generalize hx : r + 1 = x
  generalize hW : (((w.alloc _).alloc _).alloc _) = W
  have k1 : Blk W w.heap.size 23 #[.int .i64 of_, .int .i64 cost, .int .i64 boot, .int .i64 ep, .bool heard, .bool true, .int .i64 age, .bool got] := by rw [← hW]; exact ((Blk.new w _ _).alloc _).alloc _
  have k2 : Blk W r 23 zrC := by rw [← hW, ← hr]; exact (blk_new2 _ _ _ _).alloc _
  have k5 : Blk W x 23 #[.int .i64 of_, .int .i64 cost, .int .i64 b, .int .i64 ep, .bool true, .bool false, .int .i64 0, .bool false] := by rw [← hW, ← hx, ← hr]; exact blk_new3 _ _ _ _ _
  have k3 : r ≠ w.heap.size := by omega
  have k6 : x ≠ r := by omega
  have k7 : r ≠ x := by omega
  have k4 := Lib.hid (show w.heap.size ≤ r by omega)
  have B := Lib.hid (show Below w.heap.size w W by rw [← hW]; exact below3 _ _ _ _)
  have K2 := Lib.hid k2
  obtain ⟨c0, c1, c2, c3, c4, c5, c6, c7, c8⟩ := blk_cells8 k1
  obtain ⟨x0, x1, x2, x3, x4, x5, x6, x7, x8⟩ := blk_cells8 k5
  obtain ⟨f0, f1, f2, f3, f4, f5, f6, f7⟩ := blk_frozen8 k2
  obtain ⟨e0, e1, e2, e3, e4, e5, e6, e7, e8⟩ := blk_cells8 k2
  clear k1 k2 k5 hW hr hx
  go_region
  go_wp2
  exact bodyPost_ret (results_blk_two (P := Try.prog) Try.results10 _ rfl _ _ rfl rfl (st8_blk K2.out).drew Try.underlying23 rfl (by rw [size_nr]; rfl)) rfl ⟨rfl, (st8_below B.out k4.out).drew⟩
set_option maxRecDepth 20000 in
set_option maxHeartbeats 4000000 in
theorem rhello_new3 (of_ cost boot ep b : Int) (heard : Bool) (age : Int) (got : Bool) (w : World) (hc : (cost == 0) = false) (hb : decide (b < boot) = false) (he : (b == boot) = false) : Calls Try.prog 10 #[.agg (nrC ⟨of_, cost, boot, ep, heard, true, age, got⟩), .int .i64 b, .bool true] w fun e w' => e = .returned (.tuple #[.agg (nrC ⟨of_, cost, b, ep, true, true, 0, false⟩), .bool true, .bool true]) ∧ Below w.heap.size w w' := by
  unfold nrC
  simp only
  go_enter Try.func10, Try.ntmps10
  go_wp2_with (fail)
  generalize hr : w.heap.size + 1 = r
  generalize hx : r + 1 = x
  generalize hW : (((w.alloc _).alloc _).alloc _) = W
  have k1 : Blk W w.heap.size 23 #[.int .i64 of_, .int .i64 cost, .int .i64 boot, .int .i64 ep, .bool heard, .bool true, .int .i64 age, .bool got] := by rw [← hW]; exact ((Blk.new w _ _).alloc _).alloc _
  have k2 : Blk W r 23 zrC := by rw [← hW, ← hr]; exact (blk_new2 _ _ _ _).alloc _
  have k5 : Blk W x 23 #[.int .i64 of_, .int .i64 cost, .int .i64 b, .int .i64 ep, .bool true, .bool true, .int .i64 0, .bool false] := by rw [← hW, ← hx, ← hr]; exact blk_new3 _ _ _ _ _
  have k3 : r ≠ w.heap.size := by omega
  have k6 : x ≠ r := by omega
  have k7 : r ≠ x := by omega
  have k4 := Lib.hid (show w.heap.size ≤ r by omega)
  have B := Lib.hid (show Below w.heap.size w W by rw [← hW]; exact below3 _ _ _ _)
  have K2 := Lib.hid k2
  obtain ⟨c0, c1, c2, c3, c4, c5, c6, c7, c8⟩ := blk_cells8 k1
  obtain ⟨x0, x1, x2, x3, x4, x5, x6, x7, x8⟩ := blk_cells8 k5
  obtain ⟨f0, f1, f2, f3, f4, f5, f6, f7⟩ := blk_frozen8 k2
  obtain ⟨e0, e1, e2, e3, e4, e5, e6, e7, e8⟩ := blk_cells8 k2
  clear k1 k2 k5 hW hr hx
  go_region
  go_wp2
  exact bodyPost_ret (results_blk_two (P := Try.prog) Try.results10 _ rfl _ _ rfl rfl (st8_blk K2.out).drew Try.underlying23 rfl (by rw [size_nr]; rfl)) rfl ⟨rfl, (st8_below B.out k4.out).drew⟩
theorem rhello_any (n : Nr) (b : Int) (hears : Bool) (w : World) : Calls Try.prog 10 #[.agg (nrC n), .int .i64 b, .bool hears] w fun e w' => e = .returned (.tuple #[.agg (nrC (helloN n b hears).1), .bool (helloN n b hears).2.1, .bool (helloN n b hears).2.2]) ∧ Below w.heap.size w w' := by
  obtain ⟨of_, cost, boot, ep, heard, full, age, got⟩ := n
  unfold helloN
  by_cases hc : cost = 0
  · subst hc
    rw [if_pos (.inl rfl)]
    exact rhello_not1 of_ 0 boot ep b heard full hears age got w
  have hc' : (cost == 0) = false := beq_false_of_ne hc
  by_cases hb : b < boot
  · rw [if_pos (.inr hb)]
    exact rhello_not2 of_ cost boot ep b heard full hears age got w hc' (by simpa using hb)
  have hb' : decide (b < boot) = false := by simpa using hb
  rw [if_neg (by simp only; omega)]
  cases full
  · rw [if_neg (by simp)]
    exact rhello_new1 of_ cost boot ep b heard hears age got w hc' hb'
  · cases hears
    · rw [if_neg (by simp)]
      exact rhello_new2 of_ cost boot ep b heard age got w hc' hb'
    · by_cases he : b = boot
      · subst he
        rw [if_pos ⟨rfl, rfl, rfl⟩]
        exact rhello_same of_ cost b ep heard age got w hc'
      · rw [if_neg (by simp [he])]
        exact rhello_new3 of_ cost boot ep b heard age got w hc' hb' (beq_false_of_ne he)
end Go.Proofs.Ytgfoadldghcdeaa.Nea
