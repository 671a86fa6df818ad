/- The code's functions of layer 17 (near): Hello. Printed by tools/near/code.py. -/
import Derived.Test.YtgfoadldghcdeaaNearCodeA
import Derived.Deep.RegionHeld3
import Derived.Deep.RegionLaw
import Derived.Shelf.Abstract
import Derived.Deep.QuietTactic
import Derived.BigQuiet
import Derived.BigRegion
import Derived.Deep.Cut
import Derived.Deep.CutBlock
import Derived.Deep.CutRange
namespace Go.Proofs.Ytgfoadldghcdeaa.Nea
open Go.RowKit Go.Proofs.Ytgfoadldghcdeaa.Mem
set_option linter.unusedVariables false
set_option linter.unusedSimpArgs false
theorem set2456 {w : World} {g : Nat} {t : TypeId} {z0 z1 z2 z3 z4 z5 z6 z7 a b c d : Value} (h : Blk w g t #[z0, z1, z2, z3, z4, z5, z6, z7]) : Blk ((((w.setCell ⟨g, 2, none⟩ a).setCell ⟨g, 4, none⟩ b).setCell ⟨g, 5, none⟩ c).setCell ⟨g, 6, none⟩ d) g t #[z0, z1, a, z3, b, c, d, z7] := by
  have k := (((h.set_ 2 a).set_ 4 b).set_ 5 c).set_ 6 d
  simp only [List.setIfInBounds_toArray, List.set_cons_zero, List.set_cons_succ] at k
  exact k
theorem far4 {w : World} {g b o1 o2 o3 o4 : Nat} {t : TypeId} {cs : Array Value} {u v x y : Value} (h : Blk w g t cs) (hn : g ≠ b) : Blk ((((w.setCell ⟨b, o1, none⟩ u).setCell ⟨b, o2, none⟩ v).setCell ⟨b, o3, none⟩ x).setCell ⟨b, o4, none⟩ y) g t cs := far2 (far2 h hn) hn
theorem below_s4 {w0 w : World} {B b o1 o2 o3 o4 : Nat} {u v x y : Value} (h : Below B w0 w) (hn : B ≤ b) : Below B w0 ((((w.setCell ⟨b, o1, none⟩ u).setCell ⟨b, o2, none⟩ v).setCell ⟨b, o3, none⟩ x).setCell ⟨b, o4, none⟩ y) := below_s2 (below_s2 h hn) hn
theorem below_dr {B : Nat} {w w' : World} (h : Below B w w') (n : Nat) : Below B w (w'.drewN n) := ⟨h.os, h.tape, h.output, h.size, h.block⟩
set_option maxRecDepth 20000 in
set_option maxHeartbeats 4000000 in
theorem nhello_bad1 (of_ cost boot ep : Int) (heard full : Bool) (age : Int) (got : Bool) (b : Int) (hears : Bool) (w : World) (hm : mayN ⟨of_, cost, boot, ep, heard, full, age, got⟩ = false) : Calls Try.prog 6 #[.agg (nrC ⟨of_, cost, boot, ep, heard, full, age, got⟩), .int .i64 b, .bool hears] w fun e w' => e = .returned (.tuple #[.agg (zrC), .bool false, .bool false, .int .i64 1]) ∧ Below w.heap.size w w' := by
  have MB := Lib.hid (fun w => mayBe_any ⟨of_, cost, boot, ep, heard, full, age, got⟩ w)
  rewrite [hm] at MB
  unfold nrC at MB ⊢
  simp only at MB ⊢
  clear hm
  have K1 := Lib.hid (show Blk ((w.alloc (.cells #[.int .i64 of_, .int .i64 cost, .int .i64 boot, .int .i64 ep, .bool heard, .bool full, .int .i64 age, .bool got] 23)).alloc (.cells zrC 23)) w.heap.size 23 #[.int .i64 of_, .int .i64 cost, .int .i64 boot, .int .i64 ep, .bool heard, .bool full, .int .i64 age, .bool got] from (Blk.new w _ _).alloc _)
  have K2 := Lib.hid (show Blk ((w.alloc (.cells #[.int .i64 of_, .int .i64 cost, .int .i64 boot, .int .i64 ep, .bool heard, .bool full, .int .i64 age, .bool got] 23)).alloc (.cells zrC 23)) (w.heap.size + 1) 23 zrC from blk_new2 _ _ _ _)
  have HB := Lib.hid (below2 w (.cells #[.int .i64 of_, .int .i64 cost, .int .i64 boot, .int .i64 ep, .bool heard, .bool full, .int .i64 age, .bool got] 23) (.cells zrC 23))
  go_enter Try.func6, Try.ntmps6
  go_wp2_with (first
    | (refine wpList_load_blk rfl 23 (.tmp 3) rfl (w.heap.size) rfl _ K1.out _ Try.underlying23 rfl (by rw [size_nr]; rfl) ?_)
    | (go_at_call 15; refine (MB.out _).mono ?_; rintro e w1 ⟨rfl, hb1⟩; have KA := Lib.hid (K1.out.below hb1 (by simp; omega)); have KB := Lib.hid (K2.out.below hb1 (by simp)); have HB1 := Lib.hid (HB.out.trans (hb1.mono (by simp; omega))); clear hb1; obtain ⟨c0, c1, c2, c3, c4, c5, c6, c7, c8⟩ := blk_cells8 KA.out)
    | (refine wpList_store_blk rfl 23 (.tmp 6) (.tmp 21) rfl (w.heap.size + 1) _ rfl rfl _ KB.out (by rw [size_nr]; rfl) rfl (by kernel_rfl) ?_; intro w9 hg_ k_; have K9 := Lib.hid k_; have GK9 := Lib.hid hg_; clear hg_ k_))
  exact bodyPost_ret (results_blk_three (P := Try.prog) Try.results6 _ rfl _ _ _ rfl rfl rfl K9.out Try.underlying23 rfl (by rw [size_nr]; rfl)) rfl ⟨rfl, gr_below HB1.out GK9.out HB1.out.size (by omega)⟩
set_option maxRecDepth 20000 in
set_option maxHeartbeats 4000000 in
theorem nhello_bad2 (of_ cost boot ep : Int) (heard full : Bool) (age : Int) (got : Bool) (b : Int) (hears : Bool) (w : World) (hm : mayN ⟨of_, cost, boot, ep, heard, full, age, got⟩ = true) (hw : win3 b 1 1073741824 = false) : Calls Try.prog 6 #[.agg (nrC ⟨of_, cost, boot, ep, heard, full, age, got⟩), .int .i64 b, .bool hears] w fun e w' => e = .returned (.tuple #[.agg (zrC), .bool false, .bool false, .int .i64 1]) ∧ Below w.heap.size w w' := by
  have MB := Lib.hid (fun w => mayBe_any ⟨of_, cost, boot, ep, heard, full, age, got⟩ w)
  rewrite [hm] at MB
  unfold nrC at MB ⊢
  simp only at MB ⊢
  clear hm
  have K1 := Lib.hid (show Blk ((w.alloc (.cells #[.int .i64 of_, .int .i64 cost, .int .i64 boot, .int .i64 ep, .bool heard, .bool full, .int .i64 age, .bool got] 23)).alloc (.cells zrC 23)) w.heap.size 23 #[.int .i64 of_, .int .i64 cost, .int .i64 boot, .int .i64 ep, .bool heard, .bool full, .int .i64 age, .bool got] from (Blk.new w _ _).alloc _)
  have K2 := Lib.hid (show Blk ((w.alloc (.cells #[.int .i64 of_, .int .i64 cost, .int .i64 boot, .int .i64 ep, .bool heard, .bool full, .int .i64 age, .bool got] 23)).alloc (.cells zrC 23)) (w.heap.size + 1) 23 zrC from blk_new2 _ _ _ _)
  have HB := Lib.hid (below2 w (.cells #[.int .i64 of_, .int .i64 cost, .int .i64 boot, .int .i64 ep, .bool heard, .bool full, .int .i64 age, .bool got] 23) (.cells zrC 23))
  go_enter Try.func6, Try.ntmps6
  go_wp2_with (first
    | (refine wpList_load_blk rfl 23 (.tmp 3) rfl (w.heap.size) rfl _ K1.out _ Try.underlying23 rfl (by rw [size_nr]; rfl) ?_)
    | (go_at_call 15; refine (MB.out _).mono ?_; rintro e w1 ⟨rfl, hb1⟩; have KA := Lib.hid (K1.out.below hb1 (by simp; omega)); have KB := Lib.hid (K2.out.below hb1 (by simp)); have HB1 := Lib.hid (HB.out.trans (hb1.mono (by simp; omega))); clear hb1; obtain ⟨c0, c1, c2, c3, c4, c5, c6, c7, c8⟩ := blk_cells8 KA.out)
    | (go_at_call 16; refine (isStart_any _ _).mono ?_; rintro e w2 ⟨rfl, rfl⟩)
    | (refine wpList_store_blk rfl 23 (.tmp 6) (.tmp 21) rfl (w.heap.size + 1) _ rfl rfl _ KB.out (by rw [size_nr]; rfl) rfl (by kernel_rfl) ?_; intro w9 hg_ k_; have K9 := Lib.hid k_; have GK9 := Lib.hid hg_; clear hg_ k_))
  exact bodyPost_ret (results_blk_three (P := Try.prog) Try.results6 _ rfl _ _ _ rfl rfl rfl K9.out Try.underlying23 rfl (by rw [size_nr]; rfl)) rfl ⟨rfl, gr_below HB1.out GK9.out HB1.out.size (by omega)⟩
set_option maxRecDepth 20000 in
set_option maxHeartbeats 4000000 in
theorem nhello_not1 (of_ cost boot ep : Int) (heard full : Bool) (age : Int) (got : Bool) (b : Int) (hears : Bool) (w : World) (hm : mayN ⟨of_, cost, boot, ep, heard, full, age, got⟩ = true) (hw : win3 b 1 1073741824 = true) (hb : decide (b < boot) = true) : Calls Try.prog 6 #[.agg (nrC ⟨of_, cost, boot, ep, heard, full, age, got⟩), .int .i64 b, .bool hears] w fun e w' => e = .returned (.tuple #[.agg (nrC ⟨of_, cost, boot, ep, heard, full, age, got⟩), .bool false, .bool false, .int .i64 0]) ∧ Below w.heap.size w w' := by
  have MB := Lib.hid (fun w => mayBe_any ⟨of_, cost, boot, ep, heard, full, age, got⟩ w)
  rewrite [hm] at MB
  unfold nrC at MB ⊢
  simp only at MB ⊢
  clear hm
  have K1 := Lib.hid (show Blk ((w.alloc (.cells #[.int .i64 of_, .int .i64 cost, .int .i64 boot, .int .i64 ep, .bool heard, .bool full, .int .i64 age, .bool got] 23)).alloc (.cells zrC 23)) w.heap.size 23 #[.int .i64 of_, .int .i64 cost, .int .i64 boot, .int .i64 ep, .bool heard, .bool full, .int .i64 age, .bool got] from (Blk.new w _ _).alloc _)
  have K2 := Lib.hid (show Blk ((w.alloc (.cells #[.int .i64 of_, .int .i64 cost, .int .i64 boot, .int .i64 ep, .bool heard, .bool full, .int .i64 age, .bool got] 23)).alloc (.cells zrC 23)) (w.heap.size + 1) 23 zrC from blk_new2 _ _ _ _)
  have HB := Lib.hid (below2 w (.cells #[.int .i64 of_, .int .i64 cost, .int .i64 boot, .int .i64 ep, .bool heard, .bool full, .int .i64 age, .bool got] 23) (.cells zrC 23))
  go_enter Try.func6, Try.ntmps6
  go_wp2_with (first
    | (refine wpList_load_blk rfl 23 (.tmp 3) rfl (w.heap.size) rfl _ K1.out _ Try.underlying23 rfl (by rw [size_nr]; rfl) ?_)
    | (go_at_call 15; refine (MB.out _).mono ?_; rintro e w1 ⟨rfl, hb1⟩; have KA := Lib.hid (K1.out.below hb1 (by simp; omega)); have KB := Lib.hid (K2.out.below hb1 (by simp)); have HB1 := Lib.hid (HB.out.trans (hb1.mono (by simp; omega))); clear hb1; obtain ⟨c0, c1, c2, c3, c4, c5, c6, c7, c8⟩ := blk_cells8 KA.out)
    | (go_at_call 16; refine (isStart_any _ _).mono ?_; rintro e w2 ⟨rfl, rfl⟩)
    | (refine wpList_load_blk rfl 23 (.tmp 3) rfl (w.heap.size) rfl _ KA.out _ Try.underlying23 rfl (by rw [size_nr]; rfl) ?_)
    | (refine wpList_store_blk rfl 23 (.tmp 6) (.tmp 31) rfl (w.heap.size + 1) _ rfl rfl _ KB.out (by rw [size_nr]; rfl) rfl (by kernel_rfl) ?_; intro w9 hg_ k_; have K9 := Lib.hid k_; have GK9 := Lib.hid hg_; clear hg_ k_))
  exact bodyPost_ret (results_blk_three (P := Try.prog) Try.results6 _ rfl _ _ _ rfl rfl rfl K9.out Try.underlying23 rfl (by rw [size_nr]; rfl)) rfl ⟨rfl, gr_below HB1.out GK9.out HB1.out.size (by omega)⟩
set_option maxRecDepth 20000 in
set_option maxHeartbeats 4000000 in
theorem nhello_not2 (of_ cost boot ep : Int) (heard full : Bool) (age : Int) (got : Bool) (b : Int) (hears : Bool) (w : World) (hm : mayN ⟨of_, cost, boot, ep, heard, full, age, got⟩ = true) (hw : win3 b 1 1073741824 = true) (hb : decide (b < boot) = false) (hc : (cost == 0) = true) : Calls Try.prog 6 #[.agg (nrC ⟨of_, cost, boot, ep, heard, full, age, got⟩), .int .i64 b, .bool hears] w fun e w' => e = .returned (.tuple #[.agg (nrC ⟨of_, cost, boot, ep, heard, full, age, got⟩), .bool false, .bool false, .int .i64 0]) ∧ Below w.heap.size w w' := by
  have MB := Lib.hid (fun w => mayBe_any ⟨of_, cost, boot, ep, heard, full, age, got⟩ w)
  rewrite [hm] at MB
  unfold nrC at MB ⊢
  simp only at MB ⊢
  clear hm
  have K1 := Lib.hid (show Blk ((w.alloc (.cells #[.int .i64 of_, .int .i64 cost, .int .i64 boot, .int .i64 ep, .bool heard, .bool full, .int .i64 age, .bool got] 23)).alloc (.cells zrC 23)) w.heap.size 23 #[.int .i64 of_, .int .i64 cost, .int .i64 boot, .int .i64 ep, .bool heard, .bool full, .int .i64 age, .bool got] from (Blk.new w _ _).alloc _)
  have K2 := Lib.hid (show Blk ((w.alloc (.cells #[.int .i64 of_, .int .i64 cost, .int .i64 boot, .int .i64 ep, .bool heard, .bool full, .int .i64 age, .bool got] 23)).alloc (.cells zrC 23)) (w.heap.size + 1) 23 zrC from blk_new2 _ _ _ _)
  have HB := Lib.hid (below2 w (.cells #[.int .i64 of_, .int .i64 cost, .int .i64 boot, .int .i64 ep, .bool heard, .bool full, .int .i64 age, .bool got] 23) (.cells zrC 23))
  go_enter Try.func6, Try.ntmps6
  go_wp2_with (first
    | (refine wpList_load_blk rfl 23 (.tmp 3) rfl (w.heap.size) rfl _ K1.out _ Try.underlying23 rfl (by rw [size_nr]; rfl) ?_)
    | (go_at_call 15; refine (MB.out _).mono ?_; rintro e w1 ⟨rfl, hb1⟩; have KA := Lib.hid (K1.out.below hb1 (by simp; omega)); have KB := Lib.hid (K2.out.below hb1 (by simp)); have HB1 := Lib.hid (HB.out.trans (hb1.mono (by simp; omega))); clear hb1; obtain ⟨c0, c1, c2, c3, c4, c5, c6, c7, c8⟩ := blk_cells8 KA.out)
    | (go_at_call 16; refine (isStart_any _ _).mono ?_; rintro e w2 ⟨rfl, rfl⟩)
    | (refine wpList_load_blk rfl 23 (.tmp 3) rfl (w.heap.size) rfl _ KA.out _ Try.underlying23 rfl (by rw [size_nr]; rfl) ?_)
    | (refine wpList_store_blk rfl 23 (.tmp 6) (.tmp 31) rfl (w.heap.size + 1) _ rfl rfl _ KB.out (by rw [size_nr]; rfl) rfl (by kernel_rfl) ?_; intro w9 hg_ k_; have K9 := Lib.hid k_; have GK9 := Lib.hid hg_; clear hg_ k_))
  exact bodyPost_ret (results_blk_three (P := Try.prog) Try.results6 _ rfl _ _ _ rfl rfl rfl K9.out Try.underlying23 rfl (by rw [size_nr]; rfl)) rfl ⟨rfl, gr_below HB1.out GK9.out HB1.out.size (by omega)⟩
set_option maxRecDepth 20000 in
set_option maxHeartbeats 4000000 in
theorem nhello_keep_true (of_ cost boot ep : Int) (heard : Bool) (age : Int) (got : Bool) (b : Int) (w : World) (hm : mayN ⟨of_, cost, boot, ep, heard, true, age, got⟩ = true) (hw : win3 b 1 1073741824 = true) (hb : decide (b < boot) = false) (hc : (cost == 0) = false) (hg : decide (boot < b) = false) : Calls Try.prog 6 #[.agg (nrC ⟨of_, cost, boot, ep, heard, true, age, got⟩), .int .i64 b, .bool true] w fun e w' => e = .returned (.tuple #[.agg (nrC ⟨of_, cost, b, ep, true, true, 0, got⟩), .bool false, .bool false, .int .i64 0]) ∧ Below w.heap.size w w' := by
  have MB := Lib.hid (fun w => mayBe_any ⟨of_, cost, boot, ep, heard, true, age, got⟩ w)
  rewrite [hm] at MB
  unfold nrC at MB ⊢
  simp only at MB ⊢
  clear hm
  have K1 := Lib.hid (show Blk ((w.alloc (.cells #[.int .i64 of_, .int .i64 cost, .int .i64 boot, .int .i64 ep, .bool heard, .bool true, .int .i64 age, .bool got] 23)).alloc (.cells zrC 23)) w.heap.size 23 #[.int .i64 of_, .int .i64 cost, .int .i64 boot, .int .i64 ep, .bool heard, .bool true, .int .i64 age, .bool got] from (Blk.new w _ _).alloc _)
  have K2 := Lib.hid (show Blk ((w.alloc (.cells #[.int .i64 of_, .int .i64 cost, .int .i64 boot, .int .i64 ep, .bool heard, .bool true, .int .i64 age, .bool got] 23)).alloc (.cells zrC 23)) (w.heap.size + 1) 23 zrC from blk_new2 _ _ _ _)
  have HB := Lib.hid (below2 w (.cells #[.int .i64 of_, .int .i64 cost, .int .i64 boot, .int .i64 ep, .bool heard, .bool true, .int .i64 age, .bool got] 23) (.cells zrC 23))
  go_enter Try.func6, Try.ntmps6
  go_wp2_with (first
    | (refine wpList_load_blk rfl 23 (.tmp 3) rfl (w.heap.size) rfl _ K1.out _ Try.underlying23 rfl (by rw [size_nr]; rfl) ?_)
    | (go_at_call 15; refine (MB.out _).mono ?_; rintro e w1 ⟨rfl, hb1⟩; have KA := Lib.hid (K1.out.below hb1 (by simp; omega)); have KB := Lib.hid (K2.out.below hb1 (by simp)); have HB1 := Lib.hid (HB.out.trans (hb1.mono (by simp; omega))); clear hb1; obtain ⟨c0, c1, c2, c3, c4, c5, c6, c7, c8⟩ := blk_cells8 KA.out)
    | (go_at_call 16; refine (isStart_any _ _).mono ?_; rintro e w2 ⟨rfl, rfl⟩)
    | (refine wpList_load_blk rfl 23 (.tmp 3) rfl (w.heap.size) rfl _ (KA.out) _ Try.underlying23 rfl (by rw [size_nr]; rfl) ?_)
    | (refine wpList_store_blk rfl 23 (.tmp 10) (.tmp 32) rfl (w1.heap.size) _ rfl rfl _ (Blk.new w1 _ _) (by rw [size_nr]; rfl) rfl (by kernel_rfl) ?_; intro w3 hg_ k_; have K3 := Lib.hid k_; have GK3 := Lib.hid hg_; have KA3 := Lib.hid ((KA.out.alloc _).grown hg_ (by have := KA.out.lt; simp; omega)); have KB3 := Lib.hid ((KB.out.alloc _).grown hg_ (by have := KB.out.lt; simp; omega)); have HB3 := Lib.hid (gr_below (HB1.out.alloc HB1.out.size _) hg_ (by have := HB1.out.size; simp; omega) HB1.out.size); obtain ⟨x0, x1, x2, x3, x4, x5, x6, x7, x8⟩ := blk_cells8 K3.out; obtain ⟨y0, y1, y2, y3, y4, y5, y6, y7⟩ := blk_frozen8 K3.out; clear c0 c1 c2 c3 c4 c5 c6 c7 c8; obtain ⟨c0, c1, c2, c3, c4, c5, c6, c7, c8⟩ := blk_cells8 KA3.out; clear hg_ k_)
    | fail)
  have k7 : w1.heap.size ≠ w.heap.size := by have := KA.out.lt; omega
  go_quiet (fail)
  generalize hW : w3.drewN nq = W
  have k5 := by have h := K3.out.drewN nq; rw [hW] at h; exact h
  have k2 := by have h := KB3.out.drewN nq; rw [hW] at h; exact h
  have B := Lib.hid (by have h := below_dr HB3.out nq; rw [hW] at h; exact h)
  have hg : w1.heap.size < W.heap.size := k5.lt
  clear c0 c1 c2 c3 c4 c5 c6 c7 c8 x0 x1 x2 x3 x4 x5 x6 x7 x8 y0 y1 y2 y3 y4 y5 y6 y7 hW
  obtain ⟨x0, x1, x2, x3, x4, x5, x6, x7, x8⟩ := blk_cells8 k5
  obtain ⟨y0, y1, y2, y3, y4, y5, y6, y7⟩ := blk_frozen8 k5
  have KX := Lib.hid k5; have KR := Lib.hid k2; clear k5 k2
  go_upto_region 10 with (fail)
  generalize hV : ((((W.setCell _ _).setCell _ _).setCell _ _).setCell _ _) = V
  have v1 := by have h := set2456 (a := .int .i64 b) (b := .bool true) (c := .bool true) (d := .int .i64 0) KX.out; rw [hV] at h; exact h
  have v2 := by have h := far4 (b := w1.heap.size) (o1 := 2) (o2 := 4) (o3 := 5) (o4 := 6) (u := .int .i64 b) (v := .bool true) (x := .bool true) (y := .int .i64 0) KR.out (by have := KB.out.lt; omega); rw [hV] at h; exact h
  have BV := Lib.hid (by have h := below_s4 (b := w1.heap.size) (o1 := 2) (o2 := 4) (o3 := 5) (o4 := 6) (u := .int .i64 b) (v := .bool true) (x := .bool true) (y := .int .i64 0) B.out HB1.out.size; rw [hV] at h; exact h)
  have V1 := Lib.hid v1; have V2 := Lib.hid v2
  clear v1 v2 hV x0 x1 x2 x3 x4 x5 x6 x7 x8 y0 y1 y2 y3 y4 y5 y6 y7
  go_wp2_with (first
    | (refine wpList_load_blk rfl 23 (.tmp 10) rfl (w1.heap.size) rfl _ V1.out _ Try.underlying23 rfl (by rw [size_nr]; rfl) ?_)
    | (refine wpList_store_blk rfl 23 (.tmp 6) (.tmp 62) rfl (w.heap.size + 1) _ rfl rfl _ V2.out (by rw [size_nr]; rfl) rfl (by kernel_rfl) ?_; intro w9 hg_ k_; have K9 := Lib.hid k_; have GK9 := Lib.hid hg_; clear hg_ k_))
  exact bodyPost_ret (results_blk_three (P := Try.prog) Try.results6 _ rfl _ _ _ rfl rfl rfl K9.out Try.underlying23 rfl (by rw [size_nr]; rfl)) rfl ⟨rfl, gr_below BV.out GK9.out BV.out.size (by omega)⟩
set_option maxRecDepth 20000 in
set_option maxHeartbeats 4000000 in
theorem nhello_new_true_true (of_ cost boot ep : Int) (heard : Bool) (age : Int) (got : Bool) (b : Int) (w : World) (hm : mayN ⟨of_, cost, boot, ep, heard, true, age, got⟩ = true) (hw : win3 b 1 1073741824 = true) (hb : decide (b < boot) = false) (hc : (cost == 0) = false) (hg : decide (boot < b) = true) : Calls Try.prog 6 #[.agg (nrC ⟨of_, cost, boot, ep, heard, true, age, got⟩), .int .i64 b, .bool true] w fun e w' => e = .returned (.tuple #[.agg (nrC ⟨of_, cost, b, ep, true, true, 0, false⟩), .bool true, .bool true, .int .i64 0]) ∧ Below w.heap.size w w' := by
  have NH := Lib.hid (fun w => nfull_any ⟨of_, cost, boot, ep, heard, true, age, got⟩ w)
  unfold notFullN at NH
  unfold nrC at NH
  simp only at NH
  have MB := Lib.hid (fun w => mayBe_any ⟨of_, cost, boot, ep, heard, true, age, got⟩ w)
  rewrite [hm] at MB
  unfold nrC at MB ⊢
  simp only at MB ⊢
  clear hm
  have K1 := Lib.hid (show Blk ((w.alloc (.cells #[.int .i64 of_, .int .i64 cost, .int .i64 boot, .int .i64 ep, .bool heard, .bool true, .int .i64 age, .bool got] 23)).alloc (.cells zrC 23)) w.heap.size 23 #[.int .i64 of_, .int .i64 cost, .int .i64 boot, .int .i64 ep, .bool heard, .bool true, .int .i64 age, .bool got] from (Blk.new w _ _).alloc _)
  have K2 := Lib.hid (show Blk ((w.alloc (.cells #[.int .i64 of_, .int .i64 cost, .int .i64 boot, .int .i64 ep, .bool heard, .bool true, .int .i64 age, .bool got] 23)).alloc (.cells zrC 23)) (w.heap.size + 1) 23 zrC from blk_new2 _ _ _ _)
  have HB := Lib.hid (below2 w (.cells #[.int .i64 of_, .int .i64 cost, .int .i64 boot, .int .i64 ep, .bool heard, .bool true, .int .i64 age, .bool got] 23) (.cells zrC 23))
  go_enter Try.func6, Try.ntmps6
  go_wp2_with (first
    | (refine wpList_load_blk rfl 23 (.tmp 3) rfl (w.heap.size) rfl _ K1.out _ Try.underlying23 rfl (by rw [size_nr]; rfl) ?_)
    | (go_at_call 15; refine (MB.out _).mono ?_; rintro e w1 ⟨rfl, hb1⟩; have KA := Lib.hid (K1.out.below hb1 (by simp; omega)); have KB := Lib.hid (K2.out.below hb1 (by simp)); have HB1 := Lib.hid (HB.out.trans (hb1.mono (by simp; omega))); clear hb1; obtain ⟨c0, c1, c2, c3, c4, c5, c6, c7, c8⟩ := blk_cells8 KA.out)
    | (go_at_call 16; refine (isStart_any _ _).mono ?_; rintro e w2 ⟨rfl, rfl⟩)
    | (refine wpList_load_blk rfl 23 (.tmp 3) rfl (w.heap.size) rfl _ (KA.out) _ Try.underlying23 rfl (by rw [size_nr]; rfl) ?_)
    | (refine wpList_store_blk rfl 23 (.tmp 10) (.tmp 32) rfl (w1.heap.size) _ rfl rfl _ (Blk.new w1 _ _) (by rw [size_nr]; rfl) rfl (by kernel_rfl) ?_; intro w3 hg_ k_; have K3 := Lib.hid k_; have GK3 := Lib.hid hg_; have KA3 := Lib.hid ((KA.out.alloc _).grown hg_ (by have := KA.out.lt; simp; omega)); have KB3 := Lib.hid ((KB.out.alloc _).grown hg_ (by have := KB.out.lt; simp; omega)); have HB3 := Lib.hid (gr_below (HB1.out.alloc HB1.out.size _) hg_ (by have := HB1.out.size; simp; omega) HB1.out.size); obtain ⟨x0, x1, x2, x3, x4, x5, x6, x7, x8⟩ := blk_cells8 K3.out; obtain ⟨y0, y1, y2, y3, y4, y5, y6, y7⟩ := blk_frozen8 K3.out; clear c0 c1 c2 c3 c4 c5 c6 c7 c8; obtain ⟨c0, c1, c2, c3, c4, c5, c6, c7, c8⟩ := blk_cells8 KA3.out; clear hg_ k_)
    | (refine wpList_load_blk rfl 23 (.tmp 10) rfl (w1.heap.size) rfl _ K3.out _ Try.underlying23 rfl (by rw [size_nr]; rfl) ?_)
    | (go_at_call 17; refine (NH.out _).mono ?_; rintro e w4 ⟨rfl, hb4⟩; have KA4 := Lib.hid (KA3.out.below hb4 KA3.out.lt); have KB4 := Lib.hid (KB3.out.below hb4 KB3.out.lt); have K4 := Lib.hid (K3.out.below hb4 K3.out.lt); have HB4 := Lib.hid (HB3.out.trans (hb4.mono HB3.out.size)); clear hb4)
    | (refine wpList_store_blk rfl 23 (.tmp 10) (.tmp 42) rfl (w1.heap.size) _ rfl rfl _ K4.out (by rw [size_nr]; rfl) rfl (by kernel_rfl) ?_; intro w5 hg_ k_; have K5 := Lib.hid k_; have GK5 := Lib.hid hg_; have KA5 := Lib.hid (KA4.out.grown hg_ (by have := KA.out.lt; simp; omega)); have KB5 := Lib.hid (KB4.out.grown hg_ (by have := KB.out.lt; simp; omega)); have HB5 := Lib.hid (gr_below HB4.out hg_ HB4.out.size HB1.out.size); clear x0 x1 x2 x3 x4 x5 x6 x7 x8 y0 y1 y2 y3 y4 y5 y6 y7; obtain ⟨x0, x1, x2, x3, x4, x5, x6, x7, x8⟩ := blk_cells8 K5.out; obtain ⟨y0, y1, y2, y3, y4, y5, y6, y7⟩ := blk_frozen8 K5.out; clear c0 c1 c2 c3 c4 c5 c6 c7 c8; obtain ⟨c0, c1, c2, c3, c4, c5, c6, c7, c8⟩ := blk_cells8 KA5.out; clear hg_ k_)
    | fail)
  have k7 : w1.heap.size ≠ w.heap.size := by have := KA.out.lt; omega
  go_quiet (fail)
  generalize hW : w5.drewN nq = W
  have k5 := by have h := K5.out.drewN nq; rw [hW] at h; exact h
  have k2 := by have h := KB5.out.drewN nq; rw [hW] at h; exact h
  have B := Lib.hid (by have h := below_dr HB5.out nq; rw [hW] at h; exact h)
  have hg : w1.heap.size < W.heap.size := k5.lt
  clear c0 c1 c2 c3 c4 c5 c6 c7 c8 x0 x1 x2 x3 x4 x5 x6 x7 x8 y0 y1 y2 y3 y4 y5 y6 y7 hW
  obtain ⟨x0, x1, x2, x3, x4, x5, x6, x7, x8⟩ := blk_cells8 k5
  obtain ⟨y0, y1, y2, y3, y4, y5, y6, y7⟩ := blk_frozen8 k5
  have KX := Lib.hid k5; have KR := Lib.hid k2; clear k5 k2
  go_upto_region 10 with (fail)
  generalize hV : ((((W.setCell _ _).setCell _ _).setCell _ _).setCell _ _) = V
  have v1 := by have h := set2456 (a := .int .i64 b) (b := .bool true) (c := .bool true) (d := .int .i64 0) KX.out; rw [hV] at h; exact h
  have v2 := by have h := far4 (b := w1.heap.size) (o1 := 2) (o2 := 4) (o3 := 5) (o4 := 6) (u := .int .i64 b) (v := .bool true) (x := .bool true) (y := .int .i64 0) KR.out (by have := KB.out.lt; omega); rw [hV] at h; exact h
  have BV := Lib.hid (by have h := below_s4 (b := w1.heap.size) (o1 := 2) (o2 := 4) (o3 := 5) (o4 := 6) (u := .int .i64 b) (v := .bool true) (x := .bool true) (y := .int .i64 0) B.out HB1.out.size; rw [hV] at h; exact h)
  have V1 := Lib.hid v1; have V2 := Lib.hid v2
  clear v1 v2 hV x0 x1 x2 x3 x4 x5 x6 x7 x8 y0 y1 y2 y3 y4 y5 y6 y7
  go_wp2_with (first
    | (refine wpList_load_blk rfl 23 (.tmp 10) rfl (w1.heap.size) rfl _ V1.out _ Try.underlying23 rfl (by rw [size_nr]; rfl) ?_)
    | (refine wpList_store_blk rfl 23 (.tmp 6) (.tmp 62) rfl (w.heap.size + 1) _ rfl rfl _ V2.out (by rw [size_nr]; rfl) rfl (by kernel_rfl) ?_; intro w9 hg_ k_; have K9 := Lib.hid k_; have GK9 := Lib.hid hg_; clear hg_ k_))
  exact bodyPost_ret (results_blk_three (P := Try.prog) Try.results6 _ rfl _ _ _ rfl rfl rfl K9.out Try.underlying23 rfl (by rw [size_nr]; rfl)) rfl ⟨rfl, gr_below BV.out GK9.out BV.out.size (by omega)⟩
set_option maxRecDepth 20000 in
set_option maxHeartbeats 4000000 in
theorem nhello_new_true_false (of_ cost boot ep : Int) (heard : Bool) (age : Int) (got : Bool) (b : Int) (w : World) (hm : mayN ⟨of_, cost, boot, ep, heard, true, age, got⟩ = true) (hw : win3 b 1 1073741824 = true) (hb : decide (b < boot) = false) (hc : (cost == 0) = false) : Calls Try.prog 6 #[.agg (nrC ⟨of_, cost, boot, ep, heard, true, age, got⟩), .int .i64 b, .bool false] w fun e w' => e = .returned (.tuple #[.agg (nrC ⟨of_, cost, b, ep, true, false, 0, false⟩), .bool true, .bool false, .int .i64 0]) ∧ Below w.heap.size w w' := by
  cases hg : decide (boot < b)
  all_goals
    have NH := Lib.hid (fun w => nfull_any ⟨of_, cost, boot, ep, heard, true, age, got⟩ w)
    unfold notFullN at NH
    unfold nrC at NH
    simp only at NH
    have MB := Lib.hid (fun w => mayBe_any ⟨of_, cost, boot, ep, heard, true, age, got⟩ w)
    rewrite [hm] at MB
    unfold nrC at MB ⊢
    simp only at MB ⊢
    clear hm
    have K1 := Lib.hid (show Blk ((w.alloc (.cells #[.int .i64 of_, .int .i64 cost, .int .i64 boot, .int .i64 ep, .bool heard, .bool true, .int .i64 age, .bool got] 23)).alloc (.cells zrC 23)) w.heap.size 23 #[.int .i64 of_, .int .i64 cost, .int .i64 boot, .int .i64 ep, .bool heard, .bool true, .int .i64 age, .bool got] from (Blk.new w _ _).alloc _)
    have K2 := Lib.hid (show Blk ((w.alloc (.cells #[.int .i64 of_, .int .i64 cost, .int .i64 boot, .int .i64 ep, .bool heard, .bool true, .int .i64 age, .bool got] 23)).alloc (.cells zrC 23)) (w.heap.size + 1) 23 zrC from blk_new2 _ _ _ _)
    have HB := Lib.hid (below2 w (.cells #[.int .i64 of_, .int .i64 cost, .int .i64 boot, .int .i64 ep, .bool heard, .bool true, .int .i64 age, .bool got] 23) (.cells zrC 23))
    go_enter Try.func6, Try.ntmps6
    go_wp2_with (first
      | (refine wpList_load_blk rfl 23 (.tmp 3) rfl (w.heap.size) rfl _ K1.out _ Try.underlying23 rfl (by rw [size_nr]; rfl) ?_)
      | (go_at_call 15; refine (MB.out _).mono ?_; rintro e w1 ⟨rfl, hb1⟩; have KA := Lib.hid (K1.out.below hb1 (by simp; omega)); have KB := Lib.hid (K2.out.below hb1 (by simp)); have HB1 := Lib.hid (HB.out.trans (hb1.mono (by simp; omega))); clear hb1; obtain ⟨c0, c1, c2, c3, c4, c5, c6, c7, c8⟩ := blk_cells8 KA.out)
      | (go_at_call 16; refine (isStart_any _ _).mono ?_; rintro e w2 ⟨rfl, rfl⟩)
      | (refine wpList_load_blk rfl 23 (.tmp 3) rfl (w.heap.size) rfl _ (KA.out) _ Try.underlying23 rfl (by rw [size_nr]; rfl) ?_)
      | (refine wpList_store_blk rfl 23 (.tmp 10) (.tmp 32) rfl (w1.heap.size) _ rfl rfl _ (Blk.new w1 _ _) (by rw [size_nr]; rfl) rfl (by kernel_rfl) ?_; intro w3 hg_ k_; have K3 := Lib.hid k_; have GK3 := Lib.hid hg_; have KA3 := Lib.hid ((KA.out.alloc _).grown hg_ (by have := KA.out.lt; simp; omega)); have KB3 := Lib.hid ((KB.out.alloc _).grown hg_ (by have := KB.out.lt; simp; omega)); have HB3 := Lib.hid (gr_below (HB1.out.alloc HB1.out.size _) hg_ (by have := HB1.out.size; simp; omega) HB1.out.size); obtain ⟨x0, x1, x2, x3, x4, x5, x6, x7, x8⟩ := blk_cells8 K3.out; obtain ⟨y0, y1, y2, y3, y4, y5, y6, y7⟩ := blk_frozen8 K3.out; clear c0 c1 c2 c3 c4 c5 c6 c7 c8; obtain ⟨c0, c1, c2, c3, c4, c5, c6, c7, c8⟩ := blk_cells8 KA3.out; clear hg_ k_)
      | (refine wpList_load_blk rfl 23 (.tmp 10) rfl (w1.heap.size) rfl _ K3.out _ Try.underlying23 rfl (by rw [size_nr]; rfl) ?_)
      | (go_at_call 17; refine (NH.out _).mono ?_; rintro e w4 ⟨rfl, hb4⟩; have KA4 := Lib.hid (KA3.out.below hb4 KA3.out.lt); have KB4 := Lib.hid (KB3.out.below hb4 KB3.out.lt); have K4 := Lib.hid (K3.out.below hb4 K3.out.lt); have HB4 := Lib.hid (HB3.out.trans (hb4.mono HB3.out.size)); clear hb4)
      | (refine wpList_store_blk rfl 23 (.tmp 10) (.tmp 42) rfl (w1.heap.size) _ rfl rfl _ K4.out (by rw [size_nr]; rfl) rfl (by kernel_rfl) ?_; intro w5 hg_ k_; have K5 := Lib.hid k_; have GK5 := Lib.hid hg_; have KA5 := Lib.hid (KA4.out.grown hg_ (by have := KA.out.lt; simp; omega)); have KB5 := Lib.hid (KB4.out.grown hg_ (by have := KB.out.lt; simp; omega)); have HB5 := Lib.hid (gr_below HB4.out hg_ HB4.out.size HB1.out.size); clear x0 x1 x2 x3 x4 x5 x6 x7 x8 y0 y1 y2 y3 y4 y5 y6 y7; obtain ⟨x0, x1, x2, x3, x4, x5, x6, x7, x8⟩ := blk_cells8 K5.out; obtain ⟨y0, y1, y2, y3, y4, y5, y6, y7⟩ := blk_frozen8 K5.out; clear c0 c1 c2 c3 c4 c5 c6 c7 c8; obtain ⟨c0, c1, c2, c3, c4, c5, c6, c7, c8⟩ := blk_cells8 KA5.out; clear hg_ k_)
      | fail)
    have k7 : w1.heap.size ≠ w.heap.size := by have := KA.out.lt; omega
    go_quiet (fail)
    generalize hW : w5.drewN nq = W
    have k5 := by have h := K5.out.drewN nq; rw [hW] at h; exact h
    have k2 := by have h := KB5.out.drewN nq; rw [hW] at h; exact h
    have B := Lib.hid (by have h := below_dr HB5.out nq; rw [hW] at h; exact h)
    have hg : w1.heap.size < W.heap.size := k5.lt
    clear c0 c1 c2 c3 c4 c5 c6 c7 c8 x0 x1 x2 x3 x4 x5 x6 x7 x8 y0 y1 y2 y3 y4 y5 y6 y7 hW
    obtain ⟨x0, x1, x2, x3, x4, x5, x6, x7, x8⟩ := blk_cells8 k5
    obtain ⟨y0, y1, y2, y3, y4, y5, y6, y7⟩ := blk_frozen8 k5
    have KX := Lib.hid k5; have KR := Lib.hid k2; clear k5 k2
    go_upto_region 10 with (fail)
    generalize hV : ((((W.setCell _ _).setCell _ _).setCell _ _).setCell _ _) = V
    have v1 := by have h := set2456 (a := .int .i64 b) (b := .bool true) (c := .bool false) (d := .int .i64 0) KX.out; rw [hV] at h; exact h
    have v2 := by have h := far4 (b := w1.heap.size) (o1 := 2) (o2 := 4) (o3 := 5) (o4 := 6) (u := .int .i64 b) (v := .bool true) (x := .bool false) (y := .int .i64 0) KR.out (by have := KB.out.lt; omega); rw [hV] at h; exact h
    have BV := Lib.hid (by have h := below_s4 (b := w1.heap.size) (o1 := 2) (o2 := 4) (o3 := 5) (o4 := 6) (u := .int .i64 b) (v := .bool true) (x := .bool false) (y := .int .i64 0) B.out HB1.out.size; rw [hV] at h; exact h)
    have V1 := Lib.hid v1; have V2 := Lib.hid v2
    clear v1 v2 hV x0 x1 x2 x3 x4 x5 x6 x7 x8 y0 y1 y2 y3 y4 y5 y6 y7
    go_wp2_with (first
      | (refine wpList_load_blk rfl 23 (.tmp 10) rfl (w1.heap.size) rfl _ V1.out _ Try.underlying23 rfl (by rw [size_nr]; rfl) ?_)
      | (refine wpList_store_blk rfl 23 (.tmp 6) (.tmp 62) rfl (w.heap.size + 1) _ rfl rfl _ V2.out (by rw [size_nr]; rfl) rfl (by kernel_rfl) ?_; intro w9 hg_ k_; have K9 := Lib.hid k_; have GK9 := Lib.hid hg_; clear hg_ k_))
    exact bodyPost_ret (results_blk_three (P := Try.prog) Try.results6 _ rfl _ _ _ rfl rfl rfl K9.out Try.underlying23 rfl (by rw [size_nr]; rfl)) rfl ⟨rfl, gr_below BV.out GK9.out BV.out.size (by omega)⟩
set_option maxRecDepth 20000 in
set_option maxHeartbeats 4000000 in
theorem nhello_keep_false (of_ cost boot ep : Int) (heard : Bool) (age : Int) (got : Bool) (b : Int) (w : World) (hm : mayN ⟨of_, cost, boot, ep, heard, false, age, got⟩ = true) (hw : win3 b 1 1073741824 = true) (hb : decide (b < boot) = false) (hc : (cost == 0) = false) (hg : decide (boot < b) = false) : Calls Try.prog 6 #[.agg (nrC ⟨of_, cost, boot, ep, heard, false, age, got⟩), .int .i64 b, .bool true] w fun e w' => e = .returned (.tuple #[.agg (nrC ⟨of_, cost, b, ep, true, true, 0, got⟩), .bool false, .bool true, .int .i64 0]) ∧ Below w.heap.size w w' := by
  have MB := Lib.hid (fun w => mayBe_any ⟨of_, cost, boot, ep, heard, false, age, got⟩ w)
  rewrite [hm] at MB
  unfold nrC at MB ⊢
  simp only at MB ⊢
  clear hm
  have K1 := Lib.hid (show Blk ((w.alloc (.cells #[.int .i64 of_, .int .i64 cost, .int .i64 boot, .int .i64 ep, .bool heard, .bool false, .int .i64 age, .bool got] 23)).alloc (.cells zrC 23)) w.heap.size 23 #[.int .i64 of_, .int .i64 cost, .int .i64 boot, .int .i64 ep, .bool heard, .bool false, .int .i64 age, .bool got] from (Blk.new w _ _).alloc _)
  have K2 := Lib.hid (show Blk ((w.alloc (.cells #[.int .i64 of_, .int .i64 cost, .int .i64 boot, .int .i64 ep, .bool heard, .bool false, .int .i64 age, .bool got] 23)).alloc (.cells zrC 23)) (w.heap.size + 1) 23 zrC from blk_new2 _ _ _ _)
  have HB := Lib.hid (below2 w (.cells #[.int .i64 of_, .int .i64 cost, .int .i64 boot, .int .i64 ep, .bool heard, .bool false, .int .i64 age, .bool got] 23) (.cells zrC 23))
  go_enter Try.func6, Try.ntmps6
  go_wp2_with (first
    | (refine wpList_load_blk rfl 23 (.tmp 3) rfl (w.heap.size) rfl _ K1.out _ Try.underlying23 rfl (by rw [size_nr]; rfl) ?_)
    | (go_at_call 15; refine (MB.out _).mono ?_; rintro e w1 ⟨rfl, hb1⟩; have KA := Lib.hid (K1.out.below hb1 (by simp; omega)); have KB := Lib.hid (K2.out.below hb1 (by simp)); have HB1 := Lib.hid (HB.out.trans (hb1.mono (by simp; omega))); clear hb1; obtain ⟨c0, c1, c2, c3, c4, c5, c6, c7, c8⟩ := blk_cells8 KA.out)
    | (go_at_call 16; refine (isStart_any _ _).mono ?_; rintro e w2 ⟨rfl, rfl⟩)
    | (refine wpList_load_blk rfl 23 (.tmp 3) rfl (w.heap.size) rfl _ (KA.out) _ Try.underlying23 rfl (by rw [size_nr]; rfl) ?_)
    | (refine wpList_store_blk rfl 23 (.tmp 10) (.tmp 32) rfl (w1.heap.size) _ rfl rfl _ (Blk.new w1 _ _) (by rw [size_nr]; rfl) rfl (by kernel_rfl) ?_; intro w3 hg_ k_; have K3 := Lib.hid k_; have GK3 := Lib.hid hg_; have KA3 := Lib.hid ((KA.out.alloc _).grown hg_ (by have := KA.out.lt; simp; omega)); have KB3 := Lib.hid ((KB.out.alloc _).grown hg_ (by have := KB.out.lt; simp; omega)); have HB3 := Lib.hid (gr_below (HB1.out.alloc HB1.out.size _) hg_ (by have := HB1.out.size; simp; omega) HB1.out.size); obtain ⟨x0, x1, x2, x3, x4, x5, x6, x7, x8⟩ := blk_cells8 K3.out; obtain ⟨y0, y1, y2, y3, y4, y5, y6, y7⟩ := blk_frozen8 K3.out; clear c0 c1 c2 c3 c4 c5 c6 c7 c8; obtain ⟨c0, c1, c2, c3, c4, c5, c6, c7, c8⟩ := blk_cells8 KA3.out; clear hg_ k_)
    | fail)
  have k7 : w1.heap.size ≠ w.heap.size := by have := KA.out.lt; omega
  go_quiet (fail)
  generalize hW : w3.drewN nq = W
  have k5 := by have h := K3.out.drewN nq; rw [hW] at h; exact h
  have k2 := by have h := KB3.out.drewN nq; rw [hW] at h; exact h
  have B := Lib.hid (by have h := below_dr HB3.out nq; rw [hW] at h; exact h)
  have hg : w1.heap.size < W.heap.size := k5.lt
  clear c0 c1 c2 c3 c4 c5 c6 c7 c8 x0 x1 x2 x3 x4 x5 x6 x7 x8 y0 y1 y2 y3 y4 y5 y6 y7 hW
  obtain ⟨x0, x1, x2, x3, x4, x5, x6, x7, x8⟩ := blk_cells8 k5
  obtain ⟨y0, y1, y2, y3, y4, y5, y6, y7⟩ := blk_frozen8 k5
  have KX := Lib.hid k5; have KR := Lib.hid k2; clear k5 k2
  go_upto_region 10 with (fail)
  generalize hV : ((((W.setCell _ _).setCell _ _).setCell _ _).setCell _ _) = V
  have v1 := by have h := set2456 (a := .int .i64 b) (b := .bool true) (c := .bool true) (d := .int .i64 0) KX.out; rw [hV] at h; exact h
  have v2 := by have h := far4 (b := w1.heap.size) (o1 := 2) (o2 := 4) (o3 := 5) (o4 := 6) (u := .int .i64 b) (v := .bool true) (x := .bool true) (y := .int .i64 0) KR.out (by have := KB.out.lt; omega); rw [hV] at h; exact h
  have BV := Lib.hid (by have h := below_s4 (b := w1.heap.size) (o1 := 2) (o2 := 4) (o3 := 5) (o4 := 6) (u := .int .i64 b) (v := .bool true) (x := .bool true) (y := .int .i64 0) B.out HB1.out.size; rw [hV] at h; exact h)
  have V1 := Lib.hid v1; have V2 := Lib.hid v2
  clear v1 v2 hV x0 x1 x2 x3 x4 x5 x6 x7 x8 y0 y1 y2 y3 y4 y5 y6 y7
  go_wp2_with (first
    | (refine wpList_load_blk rfl 23 (.tmp 10) rfl (w1.heap.size) rfl _ V1.out _ Try.underlying23 rfl (by rw [size_nr]; rfl) ?_)
    | (refine wpList_store_blk rfl 23 (.tmp 6) (.tmp 62) rfl (w.heap.size + 1) _ rfl rfl _ V2.out (by rw [size_nr]; rfl) rfl (by kernel_rfl) ?_; intro w9 hg_ k_; have K9 := Lib.hid k_; have GK9 := Lib.hid hg_; clear hg_ k_))
  exact bodyPost_ret (results_blk_three (P := Try.prog) Try.results6 _ rfl _ _ _ rfl rfl rfl K9.out Try.underlying23 rfl (by rw [size_nr]; rfl)) rfl ⟨rfl, gr_below BV.out GK9.out BV.out.size (by omega)⟩
set_option maxRecDepth 20000 in
set_option maxHeartbeats 4000000 in
theorem nhello_new_false_true (of_ cost boot ep : Int) (heard : Bool) (age : Int) (got : Bool) (b : Int) (w : World) (hm : mayN ⟨of_, cost, boot, ep, heard, false, age, got⟩ = true) (hw : win3 b 1 1073741824 = true) (hb : decide (b < boot) = false) (hc : (cost == 0) = false) (hg : decide (boot < b) = true) : Calls Try.prog 6 #[.agg (nrC ⟨of_, cost, boot, ep, heard, false, age, got⟩), .int .i64 b, .bool true] w fun e w' => e = .returned (.tuple #[.agg (nrC ⟨of_, cost, b, ep, true, true, 0, false⟩), .bool false, .bool true, .int .i64 0]) ∧ Below w.heap.size w w' := by
  have NH := Lib.hid (fun w => nfull_any ⟨of_, cost, boot, ep, heard, false, age, got⟩ w)
  unfold notFullN at NH
  unfold nrC at NH
  simp only at NH
  have MB := Lib.hid (fun w => mayBe_any ⟨of_, cost, boot, ep, heard, false, age, got⟩ w)
  rewrite [hm] at MB
  unfold nrC at MB ⊢
  simp only at MB ⊢
  clear hm
  have K1 := Lib.hid (show Blk ((w.alloc (.cells #[.int .i64 of_, .int .i64 cost, .int .i64 boot, .int .i64 ep, .bool heard, .bool false, .int .i64 age, .bool got] 23)).alloc (.cells zrC 23)) w.heap.size 23 #[.int .i64 of_, .int .i64 cost, .int .i64 boot, .int .i64 ep, .bool heard, .bool false, .int .i64 age, .bool got] from (Blk.new w _ _).alloc _)
  have K2 := Lib.hid (show Blk ((w.alloc (.cells #[.int .i64 of_, .int .i64 cost, .int .i64 boot, .int .i64 ep, .bool heard, .bool false, .int .i64 age, .bool got] 23)).alloc (.cells zrC 23)) (w.heap.size + 1) 23 zrC from blk_new2 _ _ _ _)
  have HB := Lib.hid (below2 w (.cells #[.int .i64 of_, .int .i64 cost, .int .i64 boot, .int .i64 ep, .bool heard, .bool false, .int .i64 age, .bool got] 23) (.cells zrC 23))
  go_enter Try.func6, Try.ntmps6
  go_wp2_with (first
    | (refine wpList_load_blk rfl 23 (.tmp 3) rfl (w.heap.size) rfl _ K1.out _ Try.underlying23 rfl (by rw [size_nr]; rfl) ?_)
    | (go_at_call 15; refine (MB.out _).mono ?_; rintro e w1 ⟨rfl, hb1⟩; have KA := Lib.hid (K1.out.below hb1 (by simp; omega)); have KB := Lib.hid (K2.out.below hb1 (by simp)); have HB1 := Lib.hid (HB.out.trans (hb1.mono (by simp; omega))); clear hb1; obtain ⟨c0, c1, c2, c3, c4, c5, c6, c7, c8⟩ := blk_cells8 KA.out)
    | (go_at_call 16; refine (isStart_any _ _).mono ?_; rintro e w2 ⟨rfl, rfl⟩)
    | (refine wpList_load_blk rfl 23 (.tmp 3) rfl (w.heap.size) rfl _ (KA.out) _ Try.underlying23 rfl (by rw [size_nr]; rfl) ?_)
    | (refine wpList_store_blk rfl 23 (.tmp 10) (.tmp 32) rfl (w1.heap.size) _ rfl rfl _ (Blk.new w1 _ _) (by rw [size_nr]; rfl) rfl (by kernel_rfl) ?_; intro w3 hg_ k_; have K3 := Lib.hid k_; have GK3 := Lib.hid hg_; have KA3 := Lib.hid ((KA.out.alloc _).grown hg_ (by have := KA.out.lt; simp; omega)); have KB3 := Lib.hid ((KB.out.alloc _).grown hg_ (by have := KB.out.lt; simp; omega)); have HB3 := Lib.hid (gr_below (HB1.out.alloc HB1.out.size _) hg_ (by have := HB1.out.size; simp; omega) HB1.out.size); obtain ⟨x0, x1, x2, x3, x4, x5, x6, x7, x8⟩ := blk_cells8 K3.out; obtain ⟨y0, y1, y2, y3, y4, y5, y6, y7⟩ := blk_frozen8 K3.out; clear c0 c1 c2 c3 c4 c5 c6 c7 c8; obtain ⟨c0, c1, c2, c3, c4, c5, c6, c7, c8⟩ := blk_cells8 KA3.out; clear hg_ k_)
    | (refine wpList_load_blk rfl 23 (.tmp 10) rfl (w1.heap.size) rfl _ K3.out _ Try.underlying23 rfl (by rw [size_nr]; rfl) ?_)
    | (go_at_call 17; refine (NH.out _).mono ?_; rintro e w4 ⟨rfl, hb4⟩; have KA4 := Lib.hid (KA3.out.below hb4 KA3.out.lt); have KB4 := Lib.hid (KB3.out.below hb4 KB3.out.lt); have K4 := Lib.hid (K3.out.below hb4 K3.out.lt); have HB4 := Lib.hid (HB3.out.trans (hb4.mono HB3.out.size)); clear hb4)
    | (refine wpList_store_blk rfl 23 (.tmp 10) (.tmp 42) rfl (w1.heap.size) _ rfl rfl _ K4.out (by rw [size_nr]; rfl) rfl (by kernel_rfl) ?_; intro w5 hg_ k_; have K5 := Lib.hid k_; have GK5 := Lib.hid hg_; have KA5 := Lib.hid (KA4.out.grown hg_ (by have := KA.out.lt; simp; omega)); have KB5 := Lib.hid (KB4.out.grown hg_ (by have := KB.out.lt; simp; omega)); have HB5 := Lib.hid (gr_below HB4.out hg_ HB4.out.size HB1.out.size); clear x0 x1 x2 x3 x4 x5 x6 x7 x8 y0 y1 y2 y3 y4 y5 y6 y7; obtain ⟨x0, x1, x2, x3, x4, x5, x6, x7, x8⟩ := blk_cells8 K5.out; obtain ⟨y0, y1, y2, y3, y4, y5, y6, y7⟩ := blk_frozen8 K5.out; clear c0 c1 c2 c3 c4 c5 c6 c7 c8; obtain ⟨c0, c1, c2, c3, c4, c5, c6, c7, c8⟩ := blk_cells8 KA5.out; clear hg_ k_)
    | fail)
  have k7 : w1.heap.size ≠ w.heap.size := by have := KA.out.lt; omega
  go_quiet (fail)
  generalize hW : w5.drewN nq = W
  have k5 := by have h := K5.out.drewN nq; rw [hW] at h; exact h
  have k2 := by have h := KB5.out.drewN nq; rw [hW] at h; exact h
  have B := Lib.hid (by have h := below_dr HB5.out nq; rw [hW] at h; exact h)
  have hg : w1.heap.size < W.heap.size := k5.lt
  clear c0 c1 c2 c3 c4 c5 c6 c7 c8 x0 x1 x2 x3 x4 x5 x6 x7 x8 y0 y1 y2 y3 y4 y5 y6 y7 hW
  obtain ⟨x0, x1, x2, x3, x4, x5, x6, x7, x8⟩ := blk_cells8 k5
  obtain ⟨y0, y1, y2, y3, y4, y5, y6, y7⟩ := blk_frozen8 k5
  have KX := Lib.hid k5; have KR := Lib.hid k2; clear k5 k2
  go_upto_region 10 with (fail)
  generalize hV : ((((W.setCell _ _).setCell _ _).setCell _ _).setCell _ _) = V
  have v1 := by have h := set2456 (a := .int .i64 b) (b := .bool true) (c := .bool true) (d := .int .i64 0) KX.out; rw [hV] at h; exact h
  have v2 := by have h := far4 (b := w1.heap.size) (o1 := 2) (o2 := 4) (o3 := 5) (o4 := 6) (u := .int .i64 b) (v := .bool true) (x := .bool true) (y := .int .i64 0) KR.out (by have := KB.out.lt; omega); rw [hV] at h; exact h
  have BV := Lib.hid (by have h := below_s4 (b := w1.heap.size) (o1 := 2) (o2 := 4) (o3 := 5) (o4 := 6) (u := .int .i64 b) (v := .bool true) (x := .bool true) (y := .int .i64 0) B.out HB1.out.size; rw [hV] at h; exact h)
  have V1 := Lib.hid v1; have V2 := Lib.hid v2
  clear v1 v2 hV x0 x1 x2 x3 x4 x5 x6 x7 x8 y0 y1 y2 y3 y4 y5 y6 y7
  go_wp2_with (first
    | (refine wpList_load_blk rfl 23 (.tmp 10) rfl (w1.heap.size) rfl _ V1.out _ Try.underlying23 rfl (by rw [size_nr]; rfl) ?_)
    | (refine wpList_store_blk rfl 23 (.tmp 6) (.tmp 62) rfl (w.heap.size + 1) _ rfl rfl _ V2.out (by rw [size_nr]; rfl) rfl (by kernel_rfl) ?_; intro w9 hg_ k_; have K9 := Lib.hid k_; have GK9 := Lib.hid hg_; clear hg_ k_))
  exact bodyPost_ret (results_blk_three (P := Try.prog) Try.results6 _ rfl _ _ _ rfl rfl rfl K9.out Try.underlying23 rfl (by rw [size_nr]; rfl)) rfl ⟨rfl, gr_below BV.out GK9.out BV.out.size (by omega)⟩
set_option maxRecDepth 20000 in
set_option maxHeartbeats 4000000 in
theorem nhello_new_false_false (of_ cost boot ep : Int) (heard : Bool) (age : Int) (got : Bool) (b : Int) (w : World) (hm : mayN ⟨of_, cost, boot, ep, heard, false, age, got⟩ = true) (hw : win3 b 1 1073741824 = true) (hb : decide (b < boot) = false) (hc : (cost == 0) = false) : Calls Try.prog 6 #[.agg (nrC ⟨of_, cost, boot, ep, heard, false, age, got⟩), .int .i64 b, .bool false] w fun e w' => e = .returned (.tuple #[.agg (nrC ⟨of_, cost, b, ep, true, false, 0, false⟩), .bool false, .bool false, .int .i64 0]) ∧ Below w.heap.size w w' := by
  cases hg : decide (boot < b)
  all_goals
    have NH := Lib.hid (fun w => nfull_any ⟨of_, cost, boot, ep, heard, false, age, got⟩ w)
    unfold notFullN at NH
    unfold nrC at NH
    simp only at NH
    have MB := Lib.hid (fun w => mayBe_any ⟨of_, cost, boot, ep, heard, false, age, got⟩ w)
    rewrite [hm] at MB
    unfold nrC at MB ⊢
    simp only at MB ⊢
    clear hm
    have K1 := Lib.hid (show Blk ((w.alloc (.cells #[.int .i64 of_, .int .i64 cost, .int .i64 boot, .int .i64 ep, .bool heard, .bool false, .int .i64 age, .bool got] 23)).alloc (.cells zrC 23)) w.heap.size 23 #[.int .i64 of_, .int .i64 cost, .int .i64 boot, .int .i64 ep, .bool heard, .bool false, .int .i64 age, .bool got] from (Blk.new w _ _).alloc _)
    have K2 := Lib.hid (show Blk ((w.alloc (.cells #[.int .i64 of_, .int .i64 cost, .int .i64 boot, .int .i64 ep, .bool heard, .bool false, .int .i64 age, .bool got] 23)).alloc (.cells zrC 23)) (w.heap.size + 1) 23 zrC from blk_new2 _ _ _ _)
    have HB := Lib.hid (below2 w (.cells #[.int .i64 of_, .int .i64 cost, .int .i64 boot, .int .i64 ep, .bool heard, .bool false, .int .i64 age, .bool got] 23) (.cells zrC 23))
    go_enter Try.func6, Try.ntmps6
    go_wp2_with (first
      | (refine wpList_load_blk rfl 23 (.tmp 3) rfl (w.heap.size) rfl _ K1.out _ Try.underlying23 rfl (by rw [size_nr]; rfl) ?_)
      | (go_at_call 15; refine (MB.out _).mono ?_; rintro e w1 ⟨rfl, hb1⟩; have KA := Lib.hid (K1.out.below hb1 (by simp; omega)); have KB := Lib.hid (K2.out.below hb1 (by simp)); have HB1 := Lib.hid (HB.out.trans (hb1.mono (by simp; omega))); clear hb1; obtain ⟨c0, c1, c2, c3, c4, c5, c6, c7, c8⟩ := blk_cells8 KA.out)
      | (go_at_call 16; refine (isStart_any _ _).mono ?_; rintro e w2 ⟨rfl, rfl⟩)
      | (refine wpList_load_blk rfl 23 (.tmp 3) rfl (w.heap.size) rfl _ (KA.out) _ Try.underlying23 rfl (by rw [size_nr]; rfl) ?_)
      | (refine wpList_store_blk rfl 23 (.tmp 10) (.tmp 32) rfl (w1.heap.size) _ rfl rfl _ (Blk.new w1 _ _) (by rw [size_nr]; rfl) rfl (by kernel_rfl) ?_; intro w3 hg_ k_; have K3 := Lib.hid k_; have GK3 := Lib.hid hg_; have KA3 := Lib.hid ((KA.out.alloc _).grown hg_ (by have := KA.out.lt; simp; omega)); have KB3 := Lib.hid ((KB.out.alloc _).grown hg_ (by have := KB.out.lt; simp; omega)); have HB3 := Lib.hid (gr_below (HB1.out.alloc HB1.out.size _) hg_ (by have := HB1.out.size; simp; omega) HB1.out.size); obtain ⟨x0, x1, x2, x3, x4, x5, x6, x7, x8⟩ := blk_cells8 K3.out; obtain ⟨y0, y1, y2, y3, y4, y5, y6, y7⟩ := blk_frozen8 K3.out; clear c0 c1 c2 c3 c4 c5 c6 c7 c8; obtain ⟨c0, c1, c2, c3, c4, c5, c6, c7, c8⟩ := blk_cells8 KA3.out; clear hg_ k_)
      | (refine wpList_load_blk rfl 23 (.tmp 10) rfl (w1.heap.size) rfl _ K3.out _ Try.underlying23 rfl (by rw [size_nr]; rfl) ?_)
      | (go_at_call 17; refine (NH.out _).mono ?_; rintro e w4 ⟨rfl, hb4⟩; have KA4 := Lib.hid (KA3.out.below hb4 KA3.out.lt); have KB4 := Lib.hid (KB3.out.below hb4 KB3.out.lt); have K4 := Lib.hid (K3.out.below hb4 K3.out.lt); have HB4 := Lib.hid (HB3.out.trans (hb4.mono HB3.out.size)); clear hb4)
      | (refine wpList_store_blk rfl 23 (.tmp 10) (.tmp 42) rfl (w1.heap.size) _ rfl rfl _ K4.out (by rw [size_nr]; rfl) rfl (by kernel_rfl) ?_; intro w5 hg_ k_; have K5 := Lib.hid k_; have GK5 := Lib.hid hg_; have KA5 := Lib.hid (KA4.out.grown hg_ (by have := KA.out.lt; simp; omega)); have KB5 := Lib.hid (KB4.out.grown hg_ (by have := KB.out.lt; simp; omega)); have HB5 := Lib.hid (gr_below HB4.out hg_ HB4.out.size HB1.out.size); clear x0 x1 x2 x3 x4 x5 x6 x7 x8 y0 y1 y2 y3 y4 y5 y6 y7; obtain ⟨x0, x1, x2, x3, x4, x5, x6, x7, x8⟩ := blk_cells8 K5.out; obtain ⟨y0, y1, y2, y3, y4, y5, y6, y7⟩ := blk_frozen8 K5.out; clear c0 c1 c2 c3 c4 c5 c6 c7 c8; obtain ⟨c0, c1, c2, c3, c4, c5, c6, c7, c8⟩ := blk_cells8 KA5.out; clear hg_ k_)
      | fail)
    have k7 : w1.heap.size ≠ w.heap.size := by have := KA.out.lt; omega
    go_quiet (fail)
    generalize hW : w5.drewN nq = W
    have k5 := by have h := K5.out.drewN nq; rw [hW] at h; exact h
    have k2 := by have h := KB5.out.drewN nq; rw [hW] at h; exact h
    have B := Lib.hid (by have h := below_dr HB5.out nq; rw [hW] at h; exact h)
    have hg : w1.heap.size < W.heap.size := k5.lt
    clear c0 c1 c2 c3 c4 c5 c6 c7 c8 x0 x1 x2 x3 x4 x5 x6 x7 x8 y0 y1 y2 y3 y4 y5 y6 y7 hW
    obtain ⟨x0, x1, x2, x3, x4, x5, x6, x7, x8⟩ := blk_cells8 k5
    obtain ⟨y0, y1, y2, y3, y4, y5, y6, y7⟩ := blk_frozen8 k5
    have KX := Lib.hid k5; have KR := Lib.hid k2; clear k5 k2
    go_upto_region 10 with (fail)
    generalize hV : ((((W.setCell _ _).setCell _ _).setCell _ _).setCell _ _) = V
    have v1 := by have h := set2456 (a := .int .i64 b) (b := .bool true) (c := .bool false) (d := .int .i64 0) KX.out; rw [hV] at h; exact h
    have v2 := by have h := far4 (b := w1.heap.size) (o1 := 2) (o2 := 4) (o3 := 5) (o4 := 6) (u := .int .i64 b) (v := .bool true) (x := .bool false) (y := .int .i64 0) KR.out (by have := KB.out.lt; omega); rw [hV] at h; exact h
    have BV := Lib.hid (by have h := below_s4 (b := w1.heap.size) (o1 := 2) (o2 := 4) (o3 := 5) (o4 := 6) (u := .int .i64 b) (v := .bool true) (x := .bool false) (y := .int .i64 0) B.out HB1.out.size; rw [hV] at h; exact h)
    have V1 := Lib.hid v1; have V2 := Lib.hid v2
    clear v1 v2 hV x0 x1 x2 x3 x4 x5 x6 x7 x8 y0 y1 y2 y3 y4 y5 y6 y7
    go_wp2_with (first
      | (refine wpList_load_blk rfl 23 (.tmp 10) rfl (w1.heap.size) rfl _ V1.out _ Try.underlying23 rfl (by rw [size_nr]; rfl) ?_)
      | (refine wpList_store_blk rfl 23 (.tmp 6) (.tmp 62) rfl (w.heap.size + 1) _ rfl rfl _ V2.out (by rw [size_nr]; rfl) rfl (by kernel_rfl) ?_; intro w9 hg_ k_; have K9 := Lib.hid k_; have GK9 := Lib.hid hg_; clear hg_ k_))
    exact bodyPost_ret (results_blk_three (P := Try.prog) Try.results6 _ rfl _ _ _ rfl rfl rfl K9.out Try.underlying23 rfl (by rw [size_nr]; rfl)) rfl ⟨rfl, gr_below BV.out GK9.out BV.out.size (by omega)⟩
end Go.Proofs.Ytgfoadldghcdeaa.Nea
