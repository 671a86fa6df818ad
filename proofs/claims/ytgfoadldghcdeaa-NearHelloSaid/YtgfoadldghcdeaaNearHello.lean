/- NearHello: for every neighbour, every number and every word the law returns true and its arguments read as before: which neighbours there may be, and what becomes of any one behind any hello. No condition. -/
import Derived.Test.YtgfoadldghcdeaaNearAwake
import Derived.Test.YtgfoadldghcdeaaNearMay
import Derived.Test.YtgfoadldghcdeaaNearHelloR
import Derived.Test.YtgfoadldghcdeaaAgg8
import Derived.Deep.RegionHeld3
import Derived.Deep.Cut
import Derived.IntWalk
import Derived.WalkKit
import Derived.ProofKit
import Derived.OpenShut
import Derived.ShutString
import Derived.ChangeOld
import Derived.Below
namespace Go.Proofs.Ytgfoadldghcdeaa.Nea
open Go.RowKit Go.Proofs.Ytgfoadldghcdeaa.Mem
set_option linter.unusedVariables false
set_option linter.unusedSimpArgs false
set_option maxRecDepth 100000 in
set_option maxHeartbeats 16000000 in
theorem hello_no1 (n : Nr) (b : Int) (hears : Bool) (w : World) (hm : mayN n = false) : Calls Try.prog 3 #[.agg (nrC n), .int .i64 b, .bool hears] w fun e w' => e = .returned (.bool true) ∧ Below w.heap.size w w' := by
  have HB0 := Lib.hid (below1 w (.cells (nrC n) 23))
  have K0 := Lib.hid (Blk.new w 23 (nrC n))
  have NH := fun (W : World) => nhello_any n b hears W
  have CK := fun (W : World) => ncheck_any n W
  have MY := fun (W : World) => rmay_any n W
  have hy : (mayN n && decide (1 ≤ b) && decide (b ≤ 1073741824)) = false := by simp [hm]
  have hc : helloC n b hears = (zN, false, false, 1) := by unfold helloC; rw [if_neg (by rw [hy]; decide)]
  simp only [hc, zN] at NH
  simp only [hm, errN, if_true, Bool.false_eq_true, if_false] at CK MY
  clear hc hm hy
  obtain ⟨of_, cost, boot, ep, heard, full, age, got⟩ := n
  have NH := Lib.hid NH
  have CK := Lib.hid CK
  have MY := Lib.hid MY
  unfold nrC at NH CK MY K0 HB0 ⊢
  simp only at NH CK MY K0 HB0 ⊢
  go_enter Try.func3, Try.ntmps3
  go_upto_region 2 with (go_at_call 6; refine (NH.out _).mono ?_; rintro e w1 ⟨rfl, hb1⟩; have HB1 := Lib.hid (low_low HB0.out hb1); have K1 := Lib.hid (K0.out.below hb1 K0.out.lt); clear hb1 NH)
  have K2 := Lib.hid (K1.out.alloc (.cells zrC 23))
  have X2 := Lib.hid (Blk.new w1 23 zrC)
  have HB2 := Lib.hid (low_low HB1.out (below1 w1 (.cells zrC 23)))
  generalize w1.heap.size = g at *
  generalize w1.alloc (.cells zrC 23) = w2 at *
  clear K1 HB1 K0 HB0
  have HE2 := Lib.hid (Below.refl w2.heap.size w2)
  obtain ⟨k0, k1, k2, k3, k4, k5, k6, k7, _⟩ := blk_cells8 K2.out
  go_region_held3 (fun W => W.cell? ⟨w.heap.size, 0, none⟩ = some (.int .i64 of_) ∧ W.cell? ⟨w.heap.size, 1, none⟩ = some (.int .i64 cost) ∧ W.cell? ⟨w.heap.size, 2, none⟩ = some (.int .i64 boot) ∧ W.cell? ⟨w.heap.size, 3, none⟩ = some (.int .i64 ep) ∧ W.cell? ⟨w.heap.size, 4, none⟩ = some (.bool heard) ∧ W.cell? ⟨w.heap.size, 5, none⟩ = some (.bool full) ∧ W.cell? ⟨w.heap.size, 6, none⟩ = some (.int .i64 age) ∧ W.cell? ⟨w.heap.size, 7, none⟩ = some (.bool got))
    (first
      | with_reducible exact ⟨k0, k1, k2, k3, k4, k5, k6, k7⟩
      | with_reducible exact ⟨ka0, ka1, ka2, ka3, ka4, ka5, ka6, ka7⟩
      | with_reducible exact ⟨kb0, kb1, kb2, kb3, kb4, kb5, kb6, kb7⟩
      | go_keep)
    (first
      | (go_at_call 7; refine (CK.out _).mono ?_; rintro e wa ⟨rfl, hb⟩; have HEa := Lib.hid (low_low (w := w2) (by with_reducible repeat (first | exact HE2.out | exact HEa.out | exact HEb.out | refine below_drewN ?_ _ | refine Below.drew ?_)) hb); clear hb; obtain ⟨ka0, ka1, ka2, ka3, ka4, ka5, ka6, ka7, _⟩ := blk_cells8 (K2.out.below HEa.out K2.out.lt))
      | (go_at_call 8; refine (MY.out _).mono ?_; rintro e wb ⟨rfl, hb⟩; have HEb := Lib.hid (low_low (w := w2) (by with_reducible repeat (first | exact HE2.out | exact HEa.out | exact HEb.out | refine below_drewN ?_ _ | refine Below.drew ?_)) hb); clear hb; obtain ⟨kb0, kb1, kb2, kb3, kb4, kb5, kb6, kb7, _⟩ := blk_cells8 (K2.out.below HEb.out K2.out.lt)))
  have HBb := Lib.hid (low_low HB2.out HEb.out)
  have Kb := Lib.hid (K2.out.below HEb.out K2.out.lt)
  have Xb := Lib.hid (X2.out.below HEb.out X2.out.lt)
  obtain ⟨x0, x1, x2, x3, x4, x5, x6, x7, _⟩ := blk_cells8 Xb.out
  go_wp2_with (first
    | (go_at_call 8; refine (MY.out _).mono ?_; rintro e wc ⟨rfl, hb⟩; have HBc := Lib.hid (low_low HBb.out hb); obtain ⟨y0, y1, y2, y3, y4, y5, y6, y7, _⟩ := blk_cells8 (Xb.out.below hb Xb.out.lt); clear hb)
    | (go_at_call 9; refine (awake17_any _).mono ?_; rintro e wf ⟨rfl, hb⟩; have HBf := Lib.hid (low_low HBc.out hb); clear hb))
  go_ret
  exact ⟨rfl, HBf.out⟩
set_option maxRecDepth 100000 in
set_option maxHeartbeats 16000000 in
theorem hello_no2 (n : Nr) (b : Int) (hears : Bool) (w : World) (hm : mayN n = true) (h1 : b < 1) : Calls Try.prog 3 #[.agg (nrC n), .int .i64 b, .bool hears] w fun e w' => e = .returned (.bool true) ∧ Below w.heap.size w w' := by
  have HB0 := Lib.hid (below1 w (.cells (nrC n) 23))
  have K0 := Lib.hid (Blk.new w 23 (nrC n))
  have NH := fun (W : World) => nhello_any n b hears W
  have CK := fun (W : World) => ncheck_any n W
  have MY := fun (W : World) => rmay_any n W
  have hy : (mayN n && decide (1 ≤ b) && decide (b ≤ 1073741824)) = false := by rw [show decide (1 ≤ b) = false by simp; omega]; simp
  have hc : helloC n b hears = (zN, false, false, 1) := by unfold helloC; rw [if_neg (by rw [hy]; decide)]
  simp only [hc, zN] at NH
  simp only [hm, errN, if_true, Bool.false_eq_true, if_false] at CK MY
  clear hc hm hy
  have d1 : decide (b < 1) = true := by simpa using h1
  clear h1
  obtain ⟨of_, cost, boot, ep, heard, full, age, got⟩ := n
  have NH := Lib.hid NH
  have CK := Lib.hid CK
  have MY := Lib.hid MY
  unfold nrC at NH CK MY K0 HB0 ⊢
  simp only at NH CK MY K0 HB0 ⊢
  go_enter Try.func3, Try.ntmps3
  go_upto_region 2 with (go_at_call 6; refine (NH.out _).mono ?_; rintro e w1 ⟨rfl, hb1⟩; have HB1 := Lib.hid (low_low HB0.out hb1); have K1 := Lib.hid (K0.out.below hb1 K0.out.lt); clear hb1 NH)
  have K2 := Lib.hid (K1.out.alloc (.cells zrC 23))
  have X2 := Lib.hid (Blk.new w1 23 zrC)
  have HB2 := Lib.hid (low_low HB1.out (below1 w1 (.cells zrC 23)))
  generalize w1.heap.size = g at *
  generalize w1.alloc (.cells zrC 23) = w2 at *
  clear K1 HB1 K0 HB0
  have HE2 := Lib.hid (Below.refl w2.heap.size w2)
  obtain ⟨k0, k1, k2, k3, k4, k5, k6, k7, _⟩ := blk_cells8 K2.out
  go_region_held3 (fun W => W.cell? ⟨w.heap.size, 0, none⟩ = some (.int .i64 of_) ∧ W.cell? ⟨w.heap.size, 1, none⟩ = some (.int .i64 cost) ∧ W.cell? ⟨w.heap.size, 2, none⟩ = some (.int .i64 boot) ∧ W.cell? ⟨w.heap.size, 3, none⟩ = some (.int .i64 ep) ∧ W.cell? ⟨w.heap.size, 4, none⟩ = some (.bool heard) ∧ W.cell? ⟨w.heap.size, 5, none⟩ = some (.bool full) ∧ W.cell? ⟨w.heap.size, 6, none⟩ = some (.int .i64 age) ∧ W.cell? ⟨w.heap.size, 7, none⟩ = some (.bool got))
    (first
      | with_reducible exact ⟨k0, k1, k2, k3, k4, k5, k6, k7⟩
      | with_reducible exact ⟨ka0, ka1, ka2, ka3, ka4, ka5, ka6, ka7⟩
      | with_reducible exact ⟨kb0, kb1, kb2, kb3, kb4, kb5, kb6, kb7⟩
      | go_keep)
    (first
      | (go_at_call 7; refine (CK.out _).mono ?_; rintro e wa ⟨rfl, hb⟩; have HEa := Lib.hid (low_low (w := w2) (by with_reducible repeat (first | exact HE2.out | exact HEa.out | exact HEb.out | refine below_drewN ?_ _ | refine Below.drew ?_)) hb); clear hb; obtain ⟨ka0, ka1, ka2, ka3, ka4, ka5, ka6, ka7, _⟩ := blk_cells8 (K2.out.below HEa.out K2.out.lt))
      | (go_at_call 8; refine (MY.out _).mono ?_; rintro e wb ⟨rfl, hb⟩; have HEb := Lib.hid (low_low (w := w2) (by with_reducible repeat (first | exact HE2.out | exact HEa.out | exact HEb.out | refine below_drewN ?_ _ | refine Below.drew ?_)) hb); clear hb; obtain ⟨kb0, kb1, kb2, kb3, kb4, kb5, kb6, kb7, _⟩ := blk_cells8 (K2.out.below HEb.out K2.out.lt)))
  have HBb := Lib.hid (low_low HB2.out HEb.out)
  have Kb := Lib.hid (K2.out.below HEb.out K2.out.lt)
  have Xb := Lib.hid (X2.out.below HEb.out X2.out.lt)
  obtain ⟨x0, x1, x2, x3, x4, x5, x6, x7, _⟩ := blk_cells8 Xb.out
  go_wp2_with (first
    | (go_at_call 8; refine (MY.out _).mono ?_; rintro e wc ⟨rfl, hb⟩; have HBc := Lib.hid (low_low HBb.out hb); obtain ⟨y0, y1, y2, y3, y4, y5, y6, y7, _⟩ := blk_cells8 (Xb.out.below hb Xb.out.lt); clear hb)
    | (go_at_call 9; refine (awake17_any _).mono ?_; rintro e wf ⟨rfl, hb⟩; have HBf := Lib.hid (low_low HBc.out hb); clear hb))
  go_ret
  exact ⟨rfl, HBf.out⟩
set_option maxRecDepth 100000 in
set_option maxHeartbeats 16000000 in
theorem hello_no3 (n : Nr) (b : Int) (hears : Bool) (w : World) (hm : mayN n = true) (h1 : 1 ≤ b) (h2 : 1073741824 < b) : Calls Try.prog 3 #[.agg (nrC n), .int .i64 b, .bool hears] w fun e w' => e = .returned (.bool true) ∧ Below w.heap.size w w' := by
  have HB0 := Lib.hid (below1 w (.cells (nrC n) 23))
  have K0 := Lib.hid (Blk.new w 23 (nrC n))
  have NH := fun (W : World) => nhello_any n b hears W
  have CK := fun (W : World) => ncheck_any n W
  have MY := fun (W : World) => rmay_any n W
  have hy : (mayN n && decide (1 ≤ b) && decide (b ≤ 1073741824)) = false := by rw [show decide (b ≤ 1073741824) = false by simp; omega]; simp
  have hc : helloC n b hears = (zN, false, false, 1) := by unfold helloC; rw [if_neg (by rw [hy]; decide)]
  simp only [hc, zN] at NH
  simp only [hm, errN, if_true, Bool.false_eq_true, if_false] at CK MY
  clear hc hm hy
  have d1 : decide (b < 1) = false := by simp; omega
  have d2 : decide ((1073741824 : Int) < b) = true := by simpa using h2
  clear h1 h2
  obtain ⟨of_, cost, boot, ep, heard, full, age, got⟩ := n
  have NH := Lib.hid NH
  have CK := Lib.hid CK
  have MY := Lib.hid MY
  unfold nrC at NH CK MY K0 HB0 ⊢
  simp only at NH CK MY K0 HB0 ⊢
  go_enter Try.func3, Try.ntmps3
  go_upto_region 2 with (go_at_call 6; refine (NH.out _).mono ?_; rintro e w1 ⟨rfl, hb1⟩; have HB1 := Lib.hid (low_low HB0.out hb1); have K1 := Lib.hid (K0.out.below hb1 K0.out.lt); clear hb1 NH)
  have K2 := Lib.hid (K1.out.alloc (.cells zrC 23))
  have X2 := Lib.hid (Blk.new w1 23 zrC)
  have HB2 := Lib.hid (low_low HB1.out (below1 w1 (.cells zrC 23)))
  generalize w1.heap.size = g at *
  generalize w1.alloc (.cells zrC 23) = w2 at *
  clear K1 HB1 K0 HB0
  have HE2 := Lib.hid (Below.refl w2.heap.size w2)
  obtain ⟨k0, k1, k2, k3, k4, k5, k6, k7, _⟩ := blk_cells8 K2.out
  go_region_held3 (fun W => W.cell? ⟨w.heap.size, 0, none⟩ = some (.int .i64 of_) ∧ W.cell? ⟨w.heap.size, 1, none⟩ = some (.int .i64 cost) ∧ W.cell? ⟨w.heap.size, 2, none⟩ = some (.int .i64 boot) ∧ W.cell? ⟨w.heap.size, 3, none⟩ = some (.int .i64 ep) ∧ W.cell? ⟨w.heap.size, 4, none⟩ = some (.bool heard) ∧ W.cell? ⟨w.heap.size, 5, none⟩ = some (.bool full) ∧ W.cell? ⟨w.heap.size, 6, none⟩ = some (.int .i64 age) ∧ W.cell? ⟨w.heap.size, 7, none⟩ = some (.bool got))
    (first
      | with_reducible exact ⟨k0, k1, k2, k3, k4, k5, k6, k7⟩
      | with_reducible exact ⟨ka0, ka1, ka2, ka3, ka4, ka5, ka6, ka7⟩
      | with_reducible exact ⟨kb0, kb1, kb2, kb3, kb4, kb5, kb6, kb7⟩
      | go_keep)
    (first
      | (go_at_call 7; refine (CK.out _).mono ?_; rintro e wa ⟨rfl, hb⟩; have HEa := Lib.hid (low_low (w := w2) (by with_reducible repeat (first | exact HE2.out | exact HEa.out | exact HEb.out | refine below_drewN ?_ _ | refine Below.drew ?_)) hb); clear hb; obtain ⟨ka0, ka1, ka2, ka3, ka4, ka5, ka6, ka7, _⟩ := blk_cells8 (K2.out.below HEa.out K2.out.lt))
      | (go_at_call 8; refine (MY.out _).mono ?_; rintro e wb ⟨rfl, hb⟩; have HEb := Lib.hid (low_low (w := w2) (by with_reducible repeat (first | exact HE2.out | exact HEa.out | exact HEb.out | refine below_drewN ?_ _ | refine Below.drew ?_)) hb); clear hb; obtain ⟨kb0, kb1, kb2, kb3, kb4, kb5, kb6, kb7, _⟩ := blk_cells8 (K2.out.below HEb.out K2.out.lt)))
  have HBb := Lib.hid (low_low HB2.out HEb.out)
  have Kb := Lib.hid (K2.out.below HEb.out K2.out.lt)
  have Xb := Lib.hid (X2.out.below HEb.out X2.out.lt)
  obtain ⟨x0, x1, x2, x3, x4, x5, x6, x7, _⟩ := blk_cells8 Xb.out
  go_wp2_with (first
    | (go_at_call 8; refine (MY.out _).mono ?_; rintro e wc ⟨rfl, hb⟩; have HBc := Lib.hid (low_low HBb.out hb); obtain ⟨y0, y1, y2, y3, y4, y5, y6, y7, _⟩ := blk_cells8 (Xb.out.below hb Xb.out.lt); clear hb)
    | (go_at_call 9; refine (awake17_any _).mono ?_; rintro e wf ⟨rfl, hb⟩; have HBf := Lib.hid (low_low HBc.out hb); clear hb))
  go_ret
  exact ⟨rfl, HBf.out⟩
set_option maxRecDepth 100000 in
set_option maxHeartbeats 16000000 in
theorem hello_walk (n : Nr) (b : Int) (hears : Bool) (w : World) : Calls Try.prog 3 #[.agg (nrC n), .int .i64 b, .bool hears] w fun e w' => e = .returned (.bool true) ∧ Below w.heap.size w w' := by
  have HB0 := Lib.hid (below1 w (.cells (nrC n) 23))
  have K0 := Lib.hid (Blk.new w 23 (nrC n))
  have NH := fun (W : World) => nhello_any n b hears W
  have RH := fun (W : World) => rhello_any n b hears W
  have CK := fun (W : World) => ncheck_any n W
  have MY := fun (W : World) => rmay_any n W
  have hh := fun (h : mayN n = true) (h1 : 1 ≤ b) (h2 : b ≤ 1073741824) => may_hello hears h h1 h2
  generalize hx : helloN n b hears = y at *
  obtain ⟨x, d, u⟩ := y
  by_cases hy : (mayN n && decide (1 ≤ b) && decide (b ≤ 1073741824)) = true
  · have hc : helloC n b hears = (x, d, u, 0) := by unfold helloC; rw [if_pos hy, hx]
    simp only [hc] at NH
    simp only [Bool.and_eq_true, decide_eq_true_eq] at hy
    obtain ⟨⟨hm, h1⟩, h2⟩ := hy
    obtain ⟨hmx, hbx⟩ := hh hm h1 h2
    simp only at hmx hbx
    have CX := fun (W : World) => ncheck_any x W
    simp only [hm, hmx, errN, if_true] at CK MY CX
    clear hh hx hc hm hmx
    obtain ⟨xo, xc, xb, xe, xh, xf, xa, xg⟩ := x
    obtain ⟨of_, cost, boot, ep, heard, full, age, got⟩ := n
    simp only at hbx
    have d1 : decide (b < 1) = false := by simp; omega
    have d2 : decide ((1073741824 : Int) < b) = false := by simp; omega
    have d3 : decide (boot ≤ xb) = true := by simpa using hbx
    clear h1 h2 hbx
    have NH := Lib.hid NH
    have RH := Lib.hid RH
    have CK := Lib.hid CK
    have MY := Lib.hid MY
    have CX := Lib.hid CX
    unfold nrC at NH RH CK MY CX K0 HB0 ⊢
    simp only at NH RH CK MY CX K0 HB0 ⊢
    go_enter Try.func3, Try.ntmps3
    go_upto_region 2 with (go_at_call 6; refine (NH.out _).mono ?_; rintro e w1 ⟨rfl, hb1⟩; have HB1 := Lib.hid (low_low HB0.out hb1); have K1 := Lib.hid (K0.out.below hb1 K0.out.lt); clear hb1 NH)
    have K2 := Lib.hid (K1.out.alloc (.cells #[.int .i64 xo, .int .i64 xc, .int .i64 xb, .int .i64 xe, .bool xh, .bool xf, .int .i64 xa, .bool xg] 23))
    have X2 := Lib.hid (Blk.new w1 23 #[.int .i64 xo, .int .i64 xc, .int .i64 xb, .int .i64 xe, .bool xh, .bool xf, .int .i64 xa, .bool xg])
    have HB2 := Lib.hid (low_low HB1.out (below1 w1 (.cells #[.int .i64 xo, .int .i64 xc, .int .i64 xb, .int .i64 xe, .bool xh, .bool xf, .int .i64 xa, .bool xg] 23)))
    generalize w1.heap.size = g at *
    generalize w1.alloc (.cells #[.int .i64 xo, .int .i64 xc, .int .i64 xb, .int .i64 xe, .bool xh, .bool xf, .int .i64 xa, .bool xg] 23) = w2 at *
    clear K1 HB1 K0 HB0
    have HE2 := Lib.hid (Below.refl w2.heap.size w2)
    obtain ⟨k0, k1, k2, k3, k4, k5, k6, k7, _⟩ := blk_cells8 K2.out
    go_region_held3 (fun W => W.cell? ⟨w.heap.size, 0, none⟩ = some (.int .i64 of_) ∧ W.cell? ⟨w.heap.size, 1, none⟩ = some (.int .i64 cost) ∧ W.cell? ⟨w.heap.size, 2, none⟩ = some (.int .i64 boot) ∧ W.cell? ⟨w.heap.size, 3, none⟩ = some (.int .i64 ep) ∧ W.cell? ⟨w.heap.size, 4, none⟩ = some (.bool heard) ∧ W.cell? ⟨w.heap.size, 5, none⟩ = some (.bool full) ∧ W.cell? ⟨w.heap.size, 6, none⟩ = some (.int .i64 age) ∧ W.cell? ⟨w.heap.size, 7, none⟩ = some (.bool got))
      (first
        | with_reducible exact ⟨k0, k1, k2, k3, k4, k5, k6, k7⟩
        | with_reducible exact ⟨ka0, ka1, ka2, ka3, ka4, ka5, ka6, ka7⟩
        | with_reducible exact ⟨kb0, kb1, kb2, kb3, kb4, kb5, kb6, kb7⟩
        | go_keep)
      (first
        | (go_at_call 7; refine (CK.out _).mono ?_; rintro e wa ⟨rfl, hb⟩; have HEa := Lib.hid (low_low (w := w2) (by with_reducible repeat (first | exact HE2.out | exact HEa.out | exact HEb.out | refine below_drewN ?_ _ | refine Below.drew ?_)) hb); clear hb; obtain ⟨ka0, ka1, ka2, ka3, ka4, ka5, ka6, ka7, _⟩ := blk_cells8 (K2.out.below HEa.out K2.out.lt))
        | (go_at_call 8; refine (MY.out _).mono ?_; rintro e wb ⟨rfl, hb⟩; have HEb := Lib.hid (low_low (w := w2) (by with_reducible repeat (first | exact HE2.out | exact HEa.out | exact HEb.out | refine below_drewN ?_ _ | refine Below.drew ?_)) hb); clear hb; obtain ⟨kb0, kb1, kb2, kb3, kb4, kb5, kb6, kb7, _⟩ := blk_cells8 (K2.out.below HEb.out K2.out.lt)))
    have HBb := Lib.hid (low_low HB2.out HEb.out)
    have Kb := Lib.hid (K2.out.below HEb.out K2.out.lt)
    have Xb := Lib.hid (X2.out.below HEb.out X2.out.lt)
    have tb0 : (d == d) = true := by simp
    have tb1 : (u == u) = true := by simp
    go_wp2_with (first
      | (go_at_call 8; refine (MY.out _).mono ?_; rintro e wc ⟨rfl, hb⟩; have HBc := Lib.hid (low_low HBb.out hb); have Kc := Lib.hid (Kb.out.below hb Kb.out.lt); have Xc := Lib.hid (Xb.out.below hb Xb.out.lt); obtain ⟨m0, m1, m2, m3, m4, m5, m6, m7, _⟩ := blk_cells8 Kc.out; clear hb)
      | (go_at_call 10; refine (RH.out _).mono ?_; rintro e wd ⟨rfl, hb⟩; have HBd := Lib.hid ((low_low HBc.out hb).alloc (low_low HBc.out hb).size (.cells #[.int .i64 xo, .int .i64 xc, .int .i64 xb, .int .i64 xe, .bool xh, .bool xf, .int .i64 xa, .bool xg] 23)); have Kd := Lib.hid ((Kc.out.below hb Kc.out.lt).alloc (.cells #[.int .i64 xo, .int .i64 xc, .int .i64 xb, .int .i64 xe, .bool xh, .bool xf, .int .i64 xa, .bool xg] 23)); have Xd := Lib.hid ((Xc.out.below hb Xc.out.lt).alloc (.cells #[.int .i64 xo, .int .i64 xc, .int .i64 xb, .int .i64 xe, .bool xh, .bool xf, .int .i64 xa, .bool xg] 23)); obtain ⟨x0, x1, x2, x3, x4, x5, x6, x7, _⟩ := blk_cells8 (Xc.out.below hb Xc.out.lt); clear hb)
      | (go_at_call 7; refine (CX.out _).mono ?_; rintro e we ⟨rfl, hb⟩; have HBe := Lib.hid (low_low HBd.out hb); obtain ⟨p0, p1, p2, p3, p4, p5, p6, p7, _⟩ := blk_cells8 (Kd.out.below hb Kd.out.lt); obtain ⟨q0, q1, q2, q3, q4, q5, q6, q7, _⟩ := blk_cells8 (Xd.out.below hb Xd.out.lt); clear hb)
      | (go_at_call 9; refine (awake17_any _).mono ?_; rintro e wf ⟨rfl, hb⟩; have HBf := Lib.hid (low_low HBe.out hb); clear hb))
    trace_state
    go_ret
    exact ⟨rfl, HBf.out⟩
  · have hz : mayN n = false ∨ (mayN n = true ∧ b < 1) ∨ (mayN n = true ∧ 1 ≤ b ∧ 1073741824 < b) := by
      cases hm : mayN n
      · exact .inl rfl
      · simp only [hm, Bool.true_and, Bool.and_eq_true, decide_eq_true_eq] at hy
        by_cases h1 : b < 1
        · exact .inr (.inl ⟨rfl, h1⟩)
        · exact .inr (.inr ⟨rfl, by omega, by omega⟩)
    rcases hz with h | ⟨h, h1⟩ | ⟨h, h1, h2⟩
    · exact hello_no1 n b hears w h
    · exact hello_no2 n b hears w h h1
    · exact hello_no3 n b hears w h h1 h2
end Go.Proofs.Ytgfoadldghcdeaa.Nea
namespace Go.Proofs.Ytgfoadldghcdeaa.nearHello
open Go.RowKit Go.Proofs.Ytgfoadldghcdeaa.Mem Go.Proofs.Ytgfoadldghcdeaa.Nea
set_option linter.unusedVariables false
set_option linter.unusedSimpArgs false
theorem walk (o c b e : Int) (h f : Bool) (a : Int) (g : Bool) (boot : Int) (hears : Bool) (w : World) (w0 : (Lit.int .i64 o).wf = true) (w1 : (Lit.int .i64 c).wf = true) (w2 : (Lit.int .i64 b).wf = true) (w3 : (Lit.int .i64 e).wf = true) (w4 : (Lit.int .i64 a).wf = true) (w5 : (Lit.int .i64 boot).wf = true) :
    Calls Try.prog 3 #[.agg #[.int .i64 o, .int .i64 c, .int .i64 b, .int .i64 e, .bool h, .bool f, .int .i64 a, .bool g], .int .i64 boot, .bool hears] w fun e w' => e = .returned (.bool true) ∧ Below w.heap.size w w' :=
  hello_walk ⟨o, c, b, e, h, f, a, g⟩ boot hears w
open Go.ChangeShapes Go.WideShapes Go.ChangeAt Go.RowKit
theorem own : ownKnob Try.prog.godebug = none := by kernel_rfl
theorem laidOut : laidOutB Try.prog = true := by kernel_rfl
/-! the step from the walk to the row -/
set_option maxRecDepth 100000 in
theorem lifted (os : Os) (started : os.Started) (H : Type) (enc : TypeId × Value → H) :
    ReturnsInHanded {} Try.checked os 3 .any (Rows.nearHelloSpec.pre6 enc Try.prog Try.f3 Rows.nearHelloRow.domain false) (Rows.nearHelloSpec.post enc Try.prog Try.f3 false true false false) := by
  refine returnsInHanded_of_change (C := Try.checked) own started (by kernel_rfl) Try.func3
    (ChangeSpec.witness6 (enc := enc) (C := Try.checked) false ⟨#[], #[.agg #[.int .i64 0, .int .i64 0, .int .i64 0, .int .i64 0, .bool false, .bool false, .int .i64 0, .bool false], .int .i64 0, .bool false], []⟩ 8 (by kernel_rfl) (by kernel_rfl) (by kernel_rfl) (by kernel_rfl)) ?_
  intro W base args ds gs before hval0 hW hcnd _
  have hval : ∀ (j : Nat) t v, Try.f3.params[j]? = some t → args[j]? = some v → Value.okWide Try.prog W .any base t v := hval0
  have hW' := hW
  obtain ⟨p, q, hA0, hV, rfl, hfz, hnd⟩ := hW
  have hA : DataW.TrodAll enc Try.prog W 0 (fun _ => true) true Try.f3.params.toList args.toList ds p := hA0
  rw [Try.params3] at hA hval
  obtain ⟨v0, vs0, d0, ds0, p0, q0, hargs, rfl, rfl, h0, r0⟩ := trodAll_cons hA
  obtain ⟨v1, vs1, d1, ds1, p1, q1, rfl, rfl, rfl, h1, r1⟩ := trodAll_cons r0
  obtain ⟨v2, vs2, d2, ds2, p2, q2, rfl, rfl, rfl, h2, r2⟩ := trodAll_cons r1
  obtain ⟨rfl, rfl, rfl⟩ := trodAll_nil r2
  obtain rfl : args = #[v0, v1, v2] := by cases args; simp_all
  obtain ⟨rfl, rfl⟩ := trodVars_none hV
  have k0 := h0
  have lt0 : ∀ x ∈ p0, x.block < W.heap.size := by obtain ⟨m, hm⟩ := k0; exact DataW.trod_lt m _ _ _ hm
  obtain ⟨u0a, u0b, u0c, u0d, u0e, u0f, u0g, u0h, _, _, _, _, _, _, _, _, _, rfl, _, _, g0a, g0b, g0c, g0d, g0e, g0f, g0g, g0h⟩ := open_agg8 Try.underlying23 (by kernel_rfl) (by kernel_rfl) (hval 0 23 v0 rfl rfl) h0
  obtain ⟨a0a, rfl, w0a⟩ := open_num_at Try.underlying3 g0a
  obtain ⟨a0b, rfl, w0b⟩ := open_num_at Try.underlying3 g0b
  obtain ⟨a0c, rfl, w0c⟩ := open_num_at Try.underlying3 g0c
  obtain ⟨a0d, rfl, w0d⟩ := open_num_at Try.underlying3 g0d
  obtain ⟨a0e, rfl⟩ := open_bool_at Try.underlying4 g0e
  obtain ⟨a0f, rfl⟩ := open_bool_at Try.underlying4 g0f
  obtain ⟨a0g, rfl, w0g⟩ := open_num_at Try.underlying3 g0g
  obtain ⟨a0h, rfl⟩ := open_bool_at Try.underlying4 g0h
  obtain ⟨a1, rfl, rfl, rfl, w1⟩ := open_int Try.underlying3 (hval 1 3 v1 rfl rfl) h1
  obtain ⟨a2, rfl, rfl, rfl⟩ := open_bool Try.underlying4 (hval 2 4 v2 rfl rfl) h2
  clear hA0 hval0
  refine (walk a0a a0b a0c a0d a0e a0f a0g a0h a1 a2 W w0a w0b w0c w0d w0g w1).mono fun e W' ⟨he, bel⟩ => ?_
  subst he
  exact ⟨_, rfl, _, _, _, [], _, [], hW', trodAll_mk1 (shut_bool Try.underlying4 _), (trodAll_cons_mk (Below.trod laidOut (by kernel_rfl) (of_decide_eq_true (by kernel_rfl)) k0 bel lt0) (trodAll_cons_mk (shut_int Try.underlying3 w1) (trodAll_cons_mk (shut_bool Try.underlying4 _) trodAll_mk0))), rfl, bel.frame _, fun h => by cases h⟩

theorem over : Rows.nearHelloRow.holds Try.pinned (OpenSpec.ofChange Rows.nearHelloSpec) :=
  OpenClaim.holds_of_wide 3 Try.f3 rfl rfl rfl rfl rfl rfl rfl ⟨rfl, rfl, rfl, rfl, rfl⟩ rfl rfl rfl rfl rfl (by kernel_rfl) Try.func3 (by kernel_rfl)
    (of_decide_eq_true (by kernel_rfl)) (by unfold Func.isWrapper; first | (rw [if_pos (by decide +kernel)]; kernel_rfl) | (rw [if_neg (by decide +kernel)]; exact ⟨rfl, rfl⟩))
    (fun os started H enc _ => lifted os started H enc)

/-- the statement -/
theorem proved : Rows.NearHelloSaid := over
end Go.Proofs.Ytgfoadldghcdeaa.nearHello
