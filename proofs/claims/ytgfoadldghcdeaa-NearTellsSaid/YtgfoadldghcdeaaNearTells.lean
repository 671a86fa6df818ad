/- NearTells: for every neighbour and every number the law returns true and its arguments read as before: what becomes of any neighbour behind a tick, and with any cost. No condition. Printed by tools/near/tells.py. -/
import Derived.Test.YtgfoadldghcdeaaNearAwake
import Derived.Test.YtgfoadldghcdeaaNearMay
import Derived.Test.YtgfoadldghcdeaaNearTick
import Derived.Test.YtgfoadldghcdeaaNearCost
import Derived.Test.YtgfoadldghcdeaaAgg8
import Derived.Deep.RegionHeld3
import Derived.Deep.Cut
import Derived.IntWalk
import Derived.WalkKit
import Derived.ProofKit
import Derived.OpenShut
import Derived.ShutString
import Derived.ChangeOld
import Derived.Below
namespace Go.Proofs.Ytgfoadldghcdeaa.Nea
open Go.RowKit Go.Proofs.Ytgfoadldghcdeaa.Mem
set_option linter.unusedVariables false
set_option linter.unusedSimpArgs false
set_option maxRecDepth 100000 in
set_option maxHeartbeats 16000000 in
theorem tells_no (n : Nr) (c : Int) (w : World) (hm : mayN n = false) : Calls Try.prog 4 #[.agg (nrC n), .int .i64 c] w fun e w' => e = .returned (.bool true) ∧ Below w.heap.size w w' := by
  have HB0 := Lib.hid (below1 w (.cells (nrC n) 23))
  have K0 := Lib.hid (Blk.new w 23 (nrC n))
  have NT := fun (W : World) => ntick_any n W
  have NC := fun (W : World) => ncost_any n c W
  have MY := fun (W : World) => rmay_any n W
  simp only [hm] at MY
  have ht : tickC n = (zN, false, 1) := by unfold tickC; rw [if_neg (by rw [hm]; decide)]
  have hc : costC n c = (zN, false, 1) := by unfold costC; rw [if_neg (by simp [hm]; try omega)]
  simp only [ht, zN] at NT
  simp only [hc, zN] at NC
  clear ht hc hm
  obtain ⟨no, nc, nb, ne, nh, nf, na, ng⟩ := n
  unfold nrC at NT NC MY K0 HB0 ⊢
  simp only at NT NC MY K0 HB0 ⊢
  have NT := Lib.hid NT
  have NC := Lib.hid NC
  have MY := Lib.hid MY
  go_enter Try.func4, Try.ntmps4
  go_wp2_with (first
    | (go_at_call 11; refine (NT.out _).mono ?_; rintro e w1 ⟨rfl, hb⟩; have HB1 := Lib.hid ((low_low HB0.out hb).alloc (low_low HB0.out hb).size (.cells zrC 23)); have K1 := Lib.hid ((K0.out.below hb K0.out.lt).alloc (.cells zrC 23)); have X1 := Lib.hid (Blk.new w1 23 zrC); obtain ⟨k0, k1, k2, k3, k4, k5, k6, k7, _⟩ := blk_cells8 (K0.out.below hb K0.out.lt); clear hb NT)
    | (go_at_call 12; refine (NC.out _).mono ?_; rintro e w2 ⟨rfl, hb⟩; have HB2 := Lib.hid ((low_low HB1.out hb).alloc (low_low HB1.out hb).size (.cells zrC 23)); have K2 := Lib.hid ((K1.out.below hb K1.out.lt).alloc (.cells zrC 23)); have X2 := Lib.hid ((X1.out.below hb X1.out.lt).alloc (.cells zrC 23)); have Y2 := Lib.hid (Blk.new w2 23 zrC); obtain ⟨l0, l1, l2, l3, l4, l5, l6, l7, _⟩ := blk_cells8 (K1.out.below hb K1.out.lt); clear hb NC)
    | (go_at_call 8; refine (MY.out _).mono ?_; rintro e w3 ⟨rfl, hb⟩; have HB3 := Lib.hid (low_low HB2.out hb); have K3 := Lib.hid (K2.out.below hb K2.out.lt); have X3 := Lib.hid (X2.out.below hb X2.out.lt); have Y3 := Lib.hid (Y2.out.below hb Y2.out.lt); obtain ⟨m0, m1, m2, m3, m4, m5, m6, m7, _⟩ := blk_cells8 K3.out; obtain ⟨p0, p1, p2, p3, p4, p5, p6, p7, _⟩ := blk_cells8 X3.out; obtain ⟨q0, q1, q2, q3, q4, q5, q6, q7, _⟩ := blk_cells8 Y3.out; clear hb MY)
    | (go_at_call 9; refine (awake17_any _).mono ?_; rintro e w9 ⟨rfl, hb⟩; have HB9 := Lib.hid (low_low HB3.out hb); clear hb))
  go_ret
  exact ⟨rfl, HB9.out⟩
set_option maxRecDepth 100000 in
set_option maxHeartbeats 16000000 in
theorem tells_low (n : Nr) (c : Int) (w : World) (hm : mayN n = true) (h1 : c < 0) : Calls Try.prog 4 #[.agg (nrC n), .int .i64 c] w fun e w' => e = .returned (.bool true) ∧ Below w.heap.size w w' := by
  have HB0 := Lib.hid (below1 w (.cells (nrC n) 23))
  have K0 := Lib.hid (Blk.new w 23 (nrC n))
  have NT := fun (W : World) => ntick_any n W
  have NC := fun (W : World) => ncost_any n c W
  have MY := fun (W : World) => rmay_any n W
  simp only [hm] at MY
  have hx := may_tick hm
  have RT := fun (W : World) => rtick_any n (by have := (mayN_iff n).1 hm; omega) W
  generalize hz : tickN n = x at *
  have ht : tickC n = (x.1, x.2, 0) := by unfold tickC; rw [if_pos hm, hz]
  obtain ⟨x, d⟩ := x
  have CX := fun (W : World) => ncheck_any x W
  simp only at hx
  simp only [hx, errN, if_true] at CX
  obtain ⟨xo, xc, xb, xe, xh, xf, xa, xg⟩ := x
  have hc : costC n c = (zN, false, 1) := by unfold costC; rw [if_neg (by simp [hm]; try omega)]
  have d1 : decide (c < 0) = true := by simpa using h1
  simp only [ht] at NT
  simp only [hc, zN] at NC
  clear ht hc hm hx hz h1
  obtain ⟨no, nc, nb, ne, nh, nf, na, ng⟩ := n
  unfold nrC at NT NC MY RT CX K0 HB0 ⊢
  simp only at NT NC MY RT CX K0 HB0 ⊢
  have t1 : (d == d) = true := by simp
  have t2 : (d != d) = false := by simp
  have NT := Lib.hid NT
  have NC := Lib.hid NC
  have MY := Lib.hid MY
  have RT := Lib.hid RT
  have CX := Lib.hid CX
  go_enter Try.func4, Try.ntmps4
  go_wp2_with (first
    | (go_at_call 11; refine (NT.out _).mono ?_; rintro e w1 ⟨rfl, hb⟩; have HB1 := Lib.hid ((low_low HB0.out hb).alloc (low_low HB0.out hb).size (.cells #[.int .i64 xo, .int .i64 xc, .int .i64 xb, .int .i64 xe, .bool xh, .bool xf, .int .i64 xa, .bool xg] 23)); have K1 := Lib.hid ((K0.out.below hb K0.out.lt).alloc (.cells #[.int .i64 xo, .int .i64 xc, .int .i64 xb, .int .i64 xe, .bool xh, .bool xf, .int .i64 xa, .bool xg] 23)); have X1 := Lib.hid (Blk.new w1 23 #[.int .i64 xo, .int .i64 xc, .int .i64 xb, .int .i64 xe, .bool xh, .bool xf, .int .i64 xa, .bool xg]); obtain ⟨k0, k1, k2, k3, k4, k5, k6, k7, _⟩ := blk_cells8 (K0.out.below hb K0.out.lt); clear hb NT)
    | (go_at_call 12; refine (NC.out _).mono ?_; rintro e w2 ⟨rfl, hb⟩; have HB2 := Lib.hid ((low_low HB1.out hb).alloc (low_low HB1.out hb).size (.cells zrC 23)); have K2 := Lib.hid ((K1.out.below hb K1.out.lt).alloc (.cells zrC 23)); have X2 := Lib.hid ((X1.out.below hb X1.out.lt).alloc (.cells zrC 23)); have Y2 := Lib.hid (Blk.new w2 23 zrC); obtain ⟨l0, l1, l2, l3, l4, l5, l6, l7, _⟩ := blk_cells8 (K1.out.below hb K1.out.lt); clear hb NC)
    | (go_at_call 8; refine (MY.out _).mono ?_; rintro e w3 ⟨rfl, hb⟩; have HB3 := Lib.hid (low_low HB2.out hb); have K3 := Lib.hid (K2.out.below hb K2.out.lt); have X3 := Lib.hid (X2.out.below hb X2.out.lt); have Y3 := Lib.hid (Y2.out.below hb Y2.out.lt); obtain ⟨m0, m1, m2, m3, m4, m5, m6, m7, _⟩ := blk_cells8 K3.out; obtain ⟨p0, p1, p2, p3, p4, p5, p6, p7, _⟩ := blk_cells8 X3.out; obtain ⟨q0, q1, q2, q3, q4, q5, q6, q7, _⟩ := blk_cells8 Y3.out; clear hb MY)
    | (go_at_call 13; refine (RT.out _).mono ?_; rintro e w4 ⟨rfl, hb⟩; have HB4 := Lib.hid ((low_low HB3.out hb).alloc (low_low HB3.out hb).size (.cells #[.int .i64 xo, .int .i64 xc, .int .i64 xb, .int .i64 xe, .bool xh, .bool xf, .int .i64 xa, .bool xg] 23)); have K4 := Lib.hid ((K3.out.below hb K3.out.lt).alloc (.cells #[.int .i64 xo, .int .i64 xc, .int .i64 xb, .int .i64 xe, .bool xh, .bool xf, .int .i64 xa, .bool xg] 23)); have X4 := Lib.hid ((X3.out.below hb X3.out.lt).alloc (.cells #[.int .i64 xo, .int .i64 xc, .int .i64 xb, .int .i64 xe, .bool xh, .bool xf, .int .i64 xa, .bool xg] 23)); have Y4 := Lib.hid ((Y3.out.below hb Y3.out.lt).alloc (.cells #[.int .i64 xo, .int .i64 xc, .int .i64 xb, .int .i64 xe, .bool xh, .bool xf, .int .i64 xa, .bool xg] 23)); obtain ⟨r0, r1, r2, r3, r4, r5, r6, r7, _⟩ := blk_cells8 (X3.out.below hb X3.out.lt); clear hb RT)
    | (have HZ := CX; go_at_call 7; refine (CX.out _).mono ?_; rintro e w5 ⟨rfl, hb⟩; have HB5 := Lib.hid (low_low HB4.out hb); have K5 := Lib.hid (K4.out.below hb K4.out.lt); have Y5 := Lib.hid (Y4.out.below hb Y4.out.lt); obtain ⟨s0, s1, s2, s3, s4, s5, s6, s7, _⟩ := blk_cells8 K5.out; obtain ⟨t0, t1, t2, t3, t4, t5, t6, t7, _⟩ := blk_cells8 Y5.out; clear hb CX HZ)
    | (go_at_call 9; refine (awake17_any _).mono ?_; rintro e w9 ⟨rfl, hb⟩; have HB9 := Lib.hid (low_low HB5.out hb); clear hb))
  go_ret
  exact ⟨rfl, HB9.out⟩
set_option maxRecDepth 100000 in
set_option maxHeartbeats 16000000 in
theorem tells_high (n : Nr) (c : Int) (w : World) (hm : mayN n = true) (h1 : 0 ≤ c) (h2 : 1073741824 < c) : Calls Try.prog 4 #[.agg (nrC n), .int .i64 c] w fun e w' => e = .returned (.bool true) ∧ Below w.heap.size w w' := by
  have HB0 := Lib.hid (below1 w (.cells (nrC n) 23))
  have K0 := Lib.hid (Blk.new w 23 (nrC n))
  have NT := fun (W : World) => ntick_any n W
  have NC := fun (W : World) => ncost_any n c W
  have MY := fun (W : World) => rmay_any n W
  simp only [hm] at MY
  have hx := may_tick hm
  have RT := fun (W : World) => rtick_any n (by have := (mayN_iff n).1 hm; omega) W
  generalize hz : tickN n = x at *
  have ht : tickC n = (x.1, x.2, 0) := by unfold tickC; rw [if_pos hm, hz]
  obtain ⟨x, d⟩ := x
  have CX := fun (W : World) => ncheck_any x W
  simp only at hx
  simp only [hx, errN, if_true] at CX
  obtain ⟨xo, xc, xb, xe, xh, xf, xa, xg⟩ := x
  have hc : costC n c = (zN, false, 1) := by unfold costC; rw [if_neg (by simp [hm]; try omega)]
  have d1 : decide (c < 0) = false := by simp; omega
  have d2 : decide ((1073741824 : Int) < c) = true := by simpa using h2
  simp only [ht] at NT
  simp only [hc, zN] at NC
  clear ht hc hm hx hz h1 h2
  obtain ⟨no, nc, nb, ne, nh, nf, na, ng⟩ := n
  unfold nrC at NT NC MY RT CX K0 HB0 ⊢
  simp only at NT NC MY RT CX K0 HB0 ⊢
  have t1 : (d == d) = true := by simp
  have t2 : (d != d) = false := by simp
  have NT := Lib.hid NT
  have NC := Lib.hid NC
  have MY := Lib.hid MY
  have RT := Lib.hid RT
  have CX := Lib.hid CX
  go_enter Try.func4, Try.ntmps4
  go_wp2_with (first
    | (go_at_call 11; refine (NT.out _).mono ?_; rintro e w1 ⟨rfl, hb⟩; have HB1 := Lib.hid ((low_low HB0.out hb).alloc (low_low HB0.out hb).size (.cells #[.int .i64 xo, .int .i64 xc, .int .i64 xb, .int .i64 xe, .bool xh, .bool xf, .int .i64 xa, .bool xg] 23)); have K1 := Lib.hid ((K0.out.below hb K0.out.lt).alloc (.cells #[.int .i64 xo, .int .i64 xc, .int .i64 xb, .int .i64 xe, .bool xh, .bool xf, .int .i64 xa, .bool xg] 23)); have X1 := Lib.hid (Blk.new w1 23 #[.int .i64 xo, .int .i64 xc, .int .i64 xb, .int .i64 xe, .bool xh, .bool xf, .int .i64 xa, .bool xg]); obtain ⟨k0, k1, k2, k3, k4, k5, k6, k7, _⟩ := blk_cells8 (K0.out.below hb K0.out.lt); clear hb NT)
    | (go_at_call 12; refine (NC.out _).mono ?_; rintro e w2 ⟨rfl, hb⟩; have HB2 := Lib.hid ((low_low HB1.out hb).alloc (low_low HB1.out hb).size (.cells zrC 23)); have K2 := Lib.hid ((K1.out.below hb K1.out.lt).alloc (.cells zrC 23)); have X2 := Lib.hid ((X1.out.below hb X1.out.lt).alloc (.cells zrC 23)); have Y2 := Lib.hid (Blk.new w2 23 zrC); obtain ⟨l0, l1, l2, l3, l4, l5, l6, l7, _⟩ := blk_cells8 (K1.out.below hb K1.out.lt); clear hb NC)
    | (go_at_call 8; refine (MY.out _).mono ?_; rintro e w3 ⟨rfl, hb⟩; have HB3 := Lib.hid (low_low HB2.out hb); have K3 := Lib.hid (K2.out.below hb K2.out.lt); have X3 := Lib.hid (X2.out.below hb X2.out.lt); have Y3 := Lib.hid (Y2.out.below hb Y2.out.lt); obtain ⟨m0, m1, m2, m3, m4, m5, m6, m7, _⟩ := blk_cells8 K3.out; obtain ⟨p0, p1, p2, p3, p4, p5, p6, p7, _⟩ := blk_cells8 X3.out; obtain ⟨q0, q1, q2, q3, q4, q5, q6, q7, _⟩ := blk_cells8 Y3.out; clear hb MY)
    | (go_at_call 13; refine (RT.out _).mono ?_; rintro e w4 ⟨rfl, hb⟩; have HB4 := Lib.hid ((low_low HB3.out hb).alloc (low_low HB3.out hb).size (.cells #[.int .i64 xo, .int .i64 xc, .int .i64 xb, .int .i64 xe, .bool xh, .bool xf, .int .i64 xa, .bool xg] 23)); have K4 := Lib.hid ((K3.out.below hb K3.out.lt).alloc (.cells #[.int .i64 xo, .int .i64 xc, .int .i64 xb, .int .i64 xe, .bool xh, .bool xf, .int .i64 xa, .bool xg] 23)); have X4 := Lib.hid ((X3.out.below hb X3.out.lt).alloc (.cells #[.int .i64 xo, .int .i64 xc, .int .i64 xb, .int .i64 xe, .bool xh, .bool xf, .int .i64 xa, .bool xg] 23)); have Y4 := Lib.hid ((Y3.out.below hb Y3.out.lt).alloc (.cells #[.int .i64 xo, .int .i64 xc, .int .i64 xb, .int .i64 xe, .bool xh, .bool xf, .int .i64 xa, .bool xg] 23)); obtain ⟨r0, r1, r2, r3, r4, r5, r6, r7, _⟩ := blk_cells8 (X3.out.below hb X3.out.lt); clear hb RT)
    | (have HZ := CX; go_at_call 7; refine (CX.out _).mono ?_; rintro e w5 ⟨rfl, hb⟩; have HB5 := Lib.hid (low_low HB4.out hb); have K5 := Lib.hid (K4.out.below hb K4.out.lt); have Y5 := Lib.hid (Y4.out.below hb Y4.out.lt); obtain ⟨s0, s1, s2, s3, s4, s5, s6, s7, _⟩ := blk_cells8 K5.out; obtain ⟨t0, t1, t2, t3, t4, t5, t6, t7, _⟩ := blk_cells8 Y5.out; clear hb CX HZ)
    | (go_at_call 9; refine (awake17_any _).mono ?_; rintro e w9 ⟨rfl, hb⟩; have HB9 := Lib.hid (low_low HB5.out hb); clear hb))
  go_ret
  exact ⟨rfl, HB9.out⟩
set_option maxRecDepth 100000 in
set_option maxHeartbeats 16000000 in
theorem tells_yes (n : Nr) (c : Int) (w : World) (hm : mayN n = true) (h1 : 0 ≤ c) (h2 : c ≤ 1073741824) : Calls Try.prog 4 #[.agg (nrC n), .int .i64 c] w fun e w' => e = .returned (.bool true) ∧ Below w.heap.size w w' := by
  have HB0 := Lib.hid (below1 w (.cells (nrC n) 23))
  have K0 := Lib.hid (Blk.new w 23 (nrC n))
  have NT := fun (W : World) => ntick_any n W
  have NC := fun (W : World) => ncost_any n c W
  have MY := fun (W : World) => rmay_any n W
  simp only [hm] at MY
  have hx := may_tick hm
  have RT := fun (W : World) => rtick_any n (by have := (mayN_iff n).1 hm; omega) W
  generalize hz : tickN n = x at *
  have ht : tickC n = (x.1, x.2, 0) := by unfold tickC; rw [if_pos hm, hz]
  obtain ⟨x, d⟩ := x
  have CX := fun (W : World) => ncheck_any x W
  simp only at hx
  simp only [hx, errN, if_true] at CX
  obtain ⟨xo, xc, xb, xe, xh, xf, xa, xg⟩ := x
  have hy := may_cost hm h1 h2
  have RC := fun (W : World) => rcost_any n c W
  generalize hv : costN n c = y at *
  have hc : costC n c = (y.1, y.2, 0) := by unfold costC; rw [if_pos (by simp [hm]; omega), hv]
  obtain ⟨y, u⟩ := y
  have CY := fun (W : World) => ncheck_any y W
  simp only at hy
  simp only [hy, errN, if_true] at CY
  obtain ⟨yo, yc, yb, ye, yh, yf, ya, yg⟩ := y
  have d1 : decide (c < 0) = false := by simp; omega
  have d2 : decide ((1073741824 : Int) < c) = false := by simp; omega
  simp only [ht] at NT
  simp only [hc] at NC
  clear ht hc hm hx hz hy hv h1 h2
  obtain ⟨no, nc, nb, ne, nh, nf, na, ng⟩ := n
  unfold nrC at NT NC MY RT CX RC CY K0 HB0 ⊢
  simp only at NT NC MY RT CX RC CY K0 HB0 ⊢
  have t1 : (d == d) = true := by simp
  have t2 : (d != d) = false := by simp
  have t3 : (u == u) = true := by simp
  have NT := Lib.hid NT
  have NC := Lib.hid NC
  have MY := Lib.hid MY
  have RT := Lib.hid RT
  have CX := Lib.hid CX
  have RC := Lib.hid RC
  have CY := Lib.hid CY
  go_enter Try.func4, Try.ntmps4
  go_wp2_with (first
    | (go_at_call 11; refine (NT.out _).mono ?_; rintro e w1 ⟨rfl, hb⟩; have HB1 := Lib.hid ((low_low HB0.out hb).alloc (low_low HB0.out hb).size (.cells #[.int .i64 xo, .int .i64 xc, .int .i64 xb, .int .i64 xe, .bool xh, .bool xf, .int .i64 xa, .bool xg] 23)); have K1 := Lib.hid ((K0.out.below hb K0.out.lt).alloc (.cells #[.int .i64 xo, .int .i64 xc, .int .i64 xb, .int .i64 xe, .bool xh, .bool xf, .int .i64 xa, .bool xg] 23)); have X1 := Lib.hid (Blk.new w1 23 #[.int .i64 xo, .int .i64 xc, .int .i64 xb, .int .i64 xe, .bool xh, .bool xf, .int .i64 xa, .bool xg]); obtain ⟨k0, k1, k2, k3, k4, k5, k6, k7, _⟩ := blk_cells8 (K0.out.below hb K0.out.lt); clear hb NT)
    | (go_at_call 12; refine (NC.out _).mono ?_; rintro e w2 ⟨rfl, hb⟩; have HB2 := Lib.hid ((low_low HB1.out hb).alloc (low_low HB1.out hb).size (.cells #[.int .i64 yo, .int .i64 yc, .int .i64 yb, .int .i64 ye, .bool yh, .bool yf, .int .i64 ya, .bool yg] 23)); have K2 := Lib.hid ((K1.out.below hb K1.out.lt).alloc (.cells #[.int .i64 yo, .int .i64 yc, .int .i64 yb, .int .i64 ye, .bool yh, .bool yf, .int .i64 ya, .bool yg] 23)); have X2 := Lib.hid ((X1.out.below hb X1.out.lt).alloc (.cells #[.int .i64 yo, .int .i64 yc, .int .i64 yb, .int .i64 ye, .bool yh, .bool yf, .int .i64 ya, .bool yg] 23)); have Y2 := Lib.hid (Blk.new w2 23 #[.int .i64 yo, .int .i64 yc, .int .i64 yb, .int .i64 ye, .bool yh, .bool yf, .int .i64 ya, .bool yg]); obtain ⟨l0, l1, l2, l3, l4, l5, l6, l7, _⟩ := blk_cells8 (K1.out.below hb K1.out.lt); clear hb NC)
    | (go_at_call 8; refine (MY.out _).mono ?_; rintro e w3 ⟨rfl, hb⟩; have HB3 := Lib.hid (low_low HB2.out hb); have K3 := Lib.hid (K2.out.below hb K2.out.lt); have X3 := Lib.hid (X2.out.below hb X2.out.lt); have Y3 := Lib.hid (Y2.out.below hb Y2.out.lt); obtain ⟨m0, m1, m2, m3, m4, m5, m6, m7, _⟩ := blk_cells8 K3.out; obtain ⟨p0, p1, p2, p3, p4, p5, p6, p7, _⟩ := blk_cells8 X3.out; obtain ⟨q0, q1, q2, q3, q4, q5, q6, q7, _⟩ := blk_cells8 Y3.out; clear hb MY)
    | (go_at_call 13; refine (RT.out _).mono ?_; rintro e w4 ⟨rfl, hb⟩; have HB4 := Lib.hid ((low_low HB3.out hb).alloc (low_low HB3.out hb).size (.cells #[.int .i64 xo, .int .i64 xc, .int .i64 xb, .int .i64 xe, .bool xh, .bool xf, .int .i64 xa, .bool xg] 23)); have K4 := Lib.hid ((K3.out.below hb K3.out.lt).alloc (.cells #[.int .i64 xo, .int .i64 xc, .int .i64 xb, .int .i64 xe, .bool xh, .bool xf, .int .i64 xa, .bool xg] 23)); have X4 := Lib.hid ((X3.out.below hb X3.out.lt).alloc (.cells #[.int .i64 xo, .int .i64 xc, .int .i64 xb, .int .i64 xe, .bool xh, .bool xf, .int .i64 xa, .bool xg] 23)); have Y4 := Lib.hid ((Y3.out.below hb Y3.out.lt).alloc (.cells #[.int .i64 xo, .int .i64 xc, .int .i64 xb, .int .i64 xe, .bool xh, .bool xf, .int .i64 xa, .bool xg] 23)); obtain ⟨r0, r1, r2, r3, r4, r5, r6, r7, _⟩ := blk_cells8 (X3.out.below hb X3.out.lt); clear hb RT)
    | (have HZ := CX; go_at_call 7; refine (CX.out _).mono ?_; rintro e w5 ⟨rfl, hb⟩; have HB5 := Lib.hid (low_low HB4.out hb); have K5 := Lib.hid (K4.out.below hb K4.out.lt); have Y5 := Lib.hid (Y4.out.below hb Y4.out.lt); obtain ⟨s0, s1, s2, s3, s4, s5, s6, s7, _⟩ := blk_cells8 K5.out; obtain ⟨t0, t1, t2, t3, t4, t5, t6, t7, _⟩ := blk_cells8 Y5.out; clear hb CX HZ)
    | (go_at_call 14; refine (RC.out _).mono ?_; rintro e w6 ⟨rfl, hb⟩; have HB6 := Lib.hid ((low_low HB5.out hb).alloc (low_low HB5.out hb).size (.cells #[.int .i64 yo, .int .i64 yc, .int .i64 yb, .int .i64 ye, .bool yh, .bool yf, .int .i64 ya, .bool yg] 23)); have Y6 := Lib.hid ((Y5.out.below hb Y5.out.lt).alloc (.cells #[.int .i64 yo, .int .i64 yc, .int .i64 yb, .int .i64 ye, .bool yh, .bool yf, .int .i64 ya, .bool yg] 23)); obtain ⟨u0, u1, u2, u3, u4, u5, u6, u7, _⟩ := blk_cells8 (Y5.out.below hb Y5.out.lt); clear hb RC)
    | (go_at_call 7; refine (CY.out _).mono ?_; rintro e w7 ⟨rfl, hb⟩; have HB7 := Lib.hid (low_low HB6.out hb); clear hb)
    | (go_at_call 9; refine (awake17_any _).mono ?_; rintro e w9 ⟨rfl, hb⟩; have HB9 := Lib.hid (low_low HB7.out hb); clear hb))
  go_ret
  exact ⟨rfl, HB9.out⟩
end Go.Proofs.Ytgfoadldghcdeaa.Nea
namespace Go.Proofs.Ytgfoadldghcdeaa.nearTells
open Go.RowKit Go.Proofs.Ytgfoadldghcdeaa.Mem Go.Proofs.Ytgfoadldghcdeaa.Nea
set_option linter.unusedVariables false
set_option linter.unusedSimpArgs false
theorem walk (o c b e : Int) (h f : Bool) (a : Int) (g : Bool) (cost : Int) (w : World) (w0 : (Lit.int .i64 o).wf = true) (w1 : (Lit.int .i64 c).wf = true) (w2 : (Lit.int .i64 b).wf = true) (w3 : (Lit.int .i64 e).wf = true) (w4 : (Lit.int .i64 a).wf = true) (w5 : (Lit.int .i64 cost).wf = true) :
    Calls Try.prog 4 #[.agg #[.int .i64 o, .int .i64 c, .int .i64 b, .int .i64 e, .bool h, .bool f, .int .i64 a, .bool g], .int .i64 cost] w fun e w' => e = .returned (.bool true) ∧ Below w.heap.size w w' := by
  cases hm : mayN ⟨o, c, b, e, h, f, a, g⟩
  · exact tells_no ⟨o, c, b, e, h, f, a, g⟩ cost w hm
  · by_cases h1 : cost < 0
    · exact tells_low ⟨o, c, b, e, h, f, a, g⟩ cost w hm h1
    · by_cases h2 : 1073741824 < cost
      · exact tells_high ⟨o, c, b, e, h, f, a, g⟩ cost w hm (by omega) h2
      · exact tells_yes ⟨o, c, b, e, h, f, a, g⟩ cost w hm (by omega) (by omega)
open Go.ChangeShapes Go.WideShapes Go.ChangeAt Go.RowKit
theorem own : ownKnob Try.prog.godebug = none := by kernel_rfl
theorem laidOut : laidOutB Try.prog = true := by kernel_rfl
/-! the step from the walk to the row -/
set_option maxRecDepth 100000 in
theorem lifted (os : Os) (started : os.Started) (H : Type) (enc : TypeId × Value → H) :
    ReturnsInHanded {} Try.checked os 4 .any (Rows.nearTellsSpec.pre6 enc Try.prog Try.f4 Rows.nearTellsRow.domain false) (Rows.nearTellsSpec.post enc Try.prog Try.f4 false true false false) := by
  refine returnsInHanded_of_change (C := Try.checked) own started (by kernel_rfl) Try.func4
    (ChangeSpec.witness6 (enc := enc) (C := Try.checked) false ⟨#[], #[.agg #[.int .i64 0, .int .i64 0, .int .i64 0, .int .i64 0, .bool false, .bool false, .int .i64 0, .bool false], .int .i64 0], []⟩ 8 (by kernel_rfl) (by kernel_rfl) (by kernel_rfl) (by kernel_rfl)) ?_
  intro W base args ds gs before hval0 hW hcnd _
  have hval : ∀ (j : Nat) t v, Try.f4.params[j]? = some t → args[j]? = some v → Value.okWide Try.prog W .any base t v := hval0
  have hW' := hW
  obtain ⟨p, q, hA0, hV, rfl, hfz, hnd⟩ := hW
  have hA : DataW.TrodAll enc Try.prog W 0 (fun _ => true) true Try.f4.params.toList args.toList ds p := hA0
  rw [Try.params4] at hA hval
  obtain ⟨v0, vs0, d0, ds0, p0, q0, hargs, rfl, rfl, h0, r0⟩ := trodAll_cons hA
  obtain ⟨v1, vs1, d1, ds1, p1, q1, rfl, rfl, rfl, h1, r1⟩ := trodAll_cons r0
  obtain ⟨rfl, rfl, rfl⟩ := trodAll_nil r1
  obtain rfl : args = #[v0, v1] := by cases args; simp_all
  obtain ⟨rfl, rfl⟩ := trodVars_none hV
  have k0 := h0
  have lt0 : ∀ x ∈ p0, x.block < W.heap.size := by obtain ⟨m, hm⟩ := k0; exact DataW.trod_lt m _ _ _ hm
  obtain ⟨u0a, u0b, u0c, u0d, u0e, u0f, u0g, u0h, _, _, _, _, _, _, _, _, _, rfl, _, _, g0a, g0b, g0c, g0d, g0e, g0f, g0g, g0h⟩ := open_agg8 Try.underlying23 (by kernel_rfl) (by kernel_rfl) (hval 0 23 v0 rfl rfl) h0
  obtain ⟨a0a, rfl, w0a⟩ := open_num_at Try.underlying3 g0a
  obtain ⟨a0b, rfl, w0b⟩ := open_num_at Try.underlying3 g0b
  obtain ⟨a0c, rfl, w0c⟩ := open_num_at Try.underlying3 g0c
  obtain ⟨a0d, rfl, w0d⟩ := open_num_at Try.underlying3 g0d
  obtain ⟨a0e, rfl⟩ := open_bool_at Try.underlying4 g0e
  obtain ⟨a0f, rfl⟩ := open_bool_at Try.underlying4 g0f
  obtain ⟨a0g, rfl, w0g⟩ := open_num_at Try.underlying3 g0g
  obtain ⟨a0h, rfl⟩ := open_bool_at Try.underlying4 g0h
  obtain ⟨a1, rfl, rfl, rfl, w1⟩ := open_int Try.underlying3 (hval 1 3 v1 rfl rfl) h1
  clear hA0 hval0
  refine (walk a0a a0b a0c a0d a0e a0f a0g a0h a1 W w0a w0b w0c w0d w0g w1).mono fun e W' ⟨he, bel⟩ => ?_
  subst he
  exact ⟨_, rfl, _, _, _, [], _, [], hW', trodAll_mk1 (shut_bool Try.underlying4 _), (trodAll_cons_mk (Below.trod laidOut (by kernel_rfl) (of_decide_eq_true (by kernel_rfl)) k0 bel lt0) (trodAll_cons_mk (shut_int Try.underlying3 w1) trodAll_mk0)), rfl, bel.frame _, fun h => by cases h⟩

theorem over : Rows.nearTellsRow.holds Try.pinned (OpenSpec.ofChange Rows.nearTellsSpec) :=
  OpenClaim.holds_of_wide 4 Try.f4 rfl rfl rfl rfl rfl rfl rfl ⟨rfl, rfl, rfl, rfl, rfl⟩ rfl rfl rfl rfl rfl (by kernel_rfl) Try.func4 (by kernel_rfl)
    (of_decide_eq_true (by kernel_rfl)) (by unfold Func.isWrapper; first | (rw [if_pos (by decide +kernel)]; kernel_rfl) | (rw [if_neg (by decide +kernel)]; exact ⟨rfl, rfl⟩))
    (fun os started H enc _ => lifted os started H enc)

/-- the statement -/
theorem proved : Rows.NearTellsSaid := over
end Go.Proofs.Ytgfoadldghcdeaa.nearTells
