/- PlotMakes: for every number of sectors, every plot and every pair of a generation and a place, the law returns true and its arguments read as before. No condition. -/
import Derived.Test.YthidcgjbefpeoaaPlotMay
import Derived.Test.YthidcgjbefpeoaaOpen
import Derived.WalkKit
import Derived.ProofKit
import Derived.OpenShut
import Derived.ShutString
import Derived.ChangeOld
import Derived.Below
namespace Go.Proofs.Ythidcgjbefpeoaa.plotMakes
open Go.Proofs.Ythidcgjbefpeoaa.Mem Go.Proofs.Ythidcgjbefpeoaa.Plt
open Go.ChangeShapes Go.WideShapes Go.ChangeAt Go.RowKit
set_option linter.unusedVariables false
set_option linter.unusedSimpArgs false
theorem own : ownKnob Try.prog.godebug = none := by kernel_rfl
theorem laidOut : laidOutB Try.prog = true := by kernel_rfl
theorem from_no {s f l gen : Int} (h : may s f l = false) : fromI s f l gen = 0 ∧ toI s f l gen = 0 := by
  unfold fromI toI; rw [if_pos (.inr h), if_pos (.inr h)]; exact ⟨rfl, rfl⟩
theorem from_low {s f l gen : Int} (h : gen < 0) : fromI s f l gen = 0 ∧ toI s f l gen = 0 := by
  unfold fromI toI; rw [if_pos (.inl h), if_pos (.inl h)]; exact ⟨rfl, rfl⟩
theorem from_yes {s f l gen : Int} (h : 0 ≤ gen) (hm : may s f l = true) : fromI s f l gen = gen % 2 * s ∧ toI s f l gen = gen % 2 * s + s := by
  have hc : ¬ (gen < 0 ∨ may s f l = false) := by rw [hm]; simp; omega
  unfold fromI toI; rw [if_neg hc, if_neg hc]; exact ⟨rfl, rfl⟩
theorem at_no {s f l i : Int} (h : may s f l = false) : atI s f l i = -1 := by unfold atI; rw [if_pos (.inr (.inr h))]
theorem at_low {s f l i : Int} (h : i < 0 ∨ l ≤ i) : atI s f l i = -1 := by unfold atI; rw [if_pos (h.elim .inl fun h => .inr (.inl h))]
theorem at_yes {s f l i : Int} (h : 0 ≤ i) (h2 : i < l) (hm : may s f l = true) : atI s f l i = f + i := by
  have hc : ¬ (i < 0 ∨ l ≤ i ∨ may s f l = false) := by rw [hm]; simp; omega
  unfold atI; rw [if_neg hc]
theorem keepB {w1 w2 : World} {g : Nat} {t : TypeId} {cs : Array Value} (h : Blk w1 g t cs) (hb : Below w1.heap.size w1 w2) : Blk w2 g t cs := h.below hb h.lt
/-- the ways of a plot, a generation and a place -/
def Cases (s f l gen i : Int) : Prop := may s f l = false ∨ may s f l = true ∧ (gen < 0 ∨ 0 ≤ gen) ∧ (i < 0 ∨ 0 ≤ i ∧ l ≤ i ∨ 0 ≤ i ∧ i < l)
theorem cases_all (s f l gen i : Int) : Cases s f l gen i := by
  cases h : may s f l
  · exact .inl h
  · exact .inr ⟨h, by omega, by omega⟩
theorem may_bounds {s f l : Int} (h : may s f l = true) : 0 ≤ s ∧ s ≤ 16 ∧ 0 ≤ f ∧ f ≤ 32 ∧ l ≤ 1024 := by
  obtain ⟨k, h1, h2, rfl, rfl, rfl⟩ := may_yes h
  have := (sl_le k).1
  omega
theorem rem_bounds {gen s : Int} (h : 0 ≤ gen) (h0 : 0 ≤ s) (h1 : s ≤ 16) : 0 ≤ gen % 2 * s ∧ gen % 2 * s ≤ 16 := by
  have hm : gen % 2 = 0 ∨ gen % 2 = 1 := by omega
  rcases hm with e | e <;> rw [e] <;> omega
set_option maxHeartbeats 4000000 in
theorem walk_in (k : Nat) (s f l gen i : Int) (w : World) (hk6 : 6 ≤ k) (hk2 : k ≤ 1024) (hgen : gen ≤ 9223372036854775807) (hcs : Cases s f l gen i) :
    Calls Try.prog 3 #[.int .i64 k, plV s f l, .agg #[.int .i64 gen, .int .i64 i]] w fun e w' => e = .returned (.bool true) ∧ Below w.heap.size w w' := by
  have h0 : decide ((k : Int) < 6) = false := by simp; omega
  have h1 : decide (1024 < (k : Int)) = false := by simp; omega
  obtain ⟨x, y, z, mk, rmk⟩ : ∃ x y z : Int, (∀ W, Calls Try.prog 5 #[.int .i64 k] W fun e w' => e = .returned (.tuple #[plV x y z, .int .i64 0]) ∧ Below W.heap.size W w') ∧ ∀ W, Calls Try.prog 6 #[.int .i64 k] W fun e w' => e = .returned (plV x y z) ∧ Below W.heap.size W w' :=
    ⟨_, _, _, fun W => make_yes k W hk6 hk2, fun W => rmake_yes k W hk6 hk2⟩
  have MK := Lib.hid mk; clear mk
  have RMK := Lib.hid rmk; clear rmk
  have kp := (Blk.new w 23 #[.int .i64 s, .int .i64 f, .int .i64 l]).alloc (.cells #[.int .i64 gen, .int .i64 i] 24)
  have kx := Blk.new (w.alloc (.cells #[.int .i64 s, .int .i64 f, .int .i64 l] 23)) 24 #[.int .i64 gen, .int .i64 i]
  rw [show (w.alloc (.cells #[.int .i64 s, .int .i64 f, .int .i64 l] 23)).heap.size = w.heap.size + 1 from by simp] at kx
  have KP := Lib.hid kp; clear kp
  have KX := Lib.hid kx; clear kx
  have HB := Lib.hid (((Below.refl w.heap.size w).alloc (Nat.le_refl _) (.cells #[.int .i64 s, .int .i64 f, .int .i64 l] 23)).alloc (by simp) (.cells #[.int .i64 gen, .int .i64 i] 24))
  go_enter Try.func3, Try.ntmps3
  go_wp2_with (go_at_call 5; go_loud (refine (MK.out _).mono ?_; rintro e w1 ⟨rfl, hb⟩; have KP1 := Lib.hid (keepB KP.out hb); have KX1 := Lib.hid (keepB KX.out hb); have HB1 := Lib.hid (HB.out.trans (hb.mono HB.out.size)); clear hb; clear KP KX HB))
  obtain ⟨Q, hQ⟩ : ∃ Q : Obj, Q = .cells #[.int .i64 x, .int .i64 y, .int .i64 z] 23 := ⟨_, rfl⟩
  have kq : Blk (w1.alloc Q) w1.heap.size 23 #[.int .i64 x, .int .i64 y, .int .i64 z] := by rw [hQ]; exact Blk.new w1 _ _
  have c_0 := kq.cell 0; have c_1 := kq.cell 1; have c_2 := kq.cell 2
  simp at c_0 c_1 c_2
  have HQ := Lib.hid kq; clear kq
  have KP2 := Lib.hid (KP1.out.alloc Q)
  have KX2 := Lib.hid (KX1.out.alloc Q)
  have HB2 := Lib.hid (HB1.out.alloc HB1.out.size Q)
  rw [← hQ]
  have HQe := Lib.hid hQ; clear hQ
  clear KP1 KX1 HB1
  have G1 : w1.heap.size < (w1.alloc Q).heap.size := by simp
  generalize w1.heap.size = gq at *
  generalize w1.alloc Q = W at *
  go_region_held3 (fun V => V.cell? ⟨gq, 0, none⟩ = some (.int .i64 x) ∧ V.cell? ⟨gq, 1, none⟩ = some (.int .i64 y) ∧ V.cell? ⟨gq, 2, none⟩ = some (.int .i64 z))
    (first | with_reducible exact ⟨c_0, c_1, c_2⟩ | with_reducible exact ⟨d_0, d_1, d_2⟩ | go_keep)
    (first | (go_at_call 6; refine (RMK.out _).mono ?_; rintro e w2 ⟨rfl, hb⟩; have hb : Below W.heap.size W w2 := ⟨hb.os, hb.tape, hb.output, hb.size, hb.block⟩; have KP3 := Lib.hid (keepB KP2.out hb); have KX3 := Lib.hid (keepB KX2.out hb); have HB3 := Lib.hid (HB2.out.trans (hb.mono HB2.out.size)); obtain ⟨d_0, d_1, d_2⟩ := keep3 ⟨c_0, c_1, c_2⟩ hb G1; clear hb))
  go_wp2
  have x_0 := KX3.out.cell 0; have x_1 := KX3.out.cell 1
  have p_0 := KP3.out.cell 0; have p_1 := KP3.out.cell 1; have p_2 := KP3.out.cell 2
  simp at x_0 x_1 p_0 p_1 p_2
  have G3 := KX3.out.lt
  go_quiet (fail)
  have slot := fun (V : World) => slot_any s f l gen V hgen
  have at_ := fun (V : World) => at_any s f l i V
  have rmay := fun (V : World) => rmay_any s f l V
  rcases hcs with hm | ⟨hm, hg, hi⟩
  · rw [(from_no hm).1, (from_no hm).2] at slot
    rw [at_no hm] at at_
    rw [hm] at rmay
    have SLOT := Lib.hid slot; clear slot
    have AT := Lib.hid at_; clear at_
    have RMAY := Lib.hid rmay; clear rmay hm
    go_wp2_with (first
      | (go_at_call 7; refine (SLOT.out _).mono ?_; rintro e w3 ⟨rfl, hb⟩; have hb : Below w2.heap.size w2 w3 := ⟨hb.os, hb.tape, hb.output, hb.size, hb.block⟩; have KP4 := Lib.hid (keepB KP3.out hb); have HB4 := Lib.hid (HB3.out.trans (hb.mono HB3.out.size)); clear hb; clear x_0 x_1 p_0 p_1 p_2; have p_0 := KP4.out.cell 0; have p_1 := KP4.out.cell 1; have p_2 := KP4.out.cell 2; simp at p_0 p_1 p_2)
      | (go_at_call 8; refine (AT.out _).mono ?_; rintro e w4 ⟨rfl, hb⟩; have KP5 := Lib.hid (keepB KP4.out hb); have HB5 := Lib.hid (HB4.out.trans (hb.mono HB4.out.size)); clear hb; clear p_0 p_1 p_2; have p_0 := KP5.out.cell 0; have p_1 := KP5.out.cell 1; have p_2 := KP5.out.cell 2; simp at p_0 p_1 p_2)
      | (go_at_call 9; refine (RMAY.out _).mono ?_; rintro e w5 ⟨rfl, hb⟩; have KP6 := Lib.hid (keepB KP5.out hb); have HB6 := Lib.hid (HB5.out.trans (hb.mono HB5.out.size)); clear hb; clear p_0 p_1 p_2; have p_0 := KP6.out.cell 0; have p_1 := KP6.out.cell 1; have p_2 := KP6.out.cell 2; simp at p_0 p_1 p_2)
      | (go_at_call 10; refine (awake6_any _).mono ?_; rintro e w6 ⟨rfl, hb6⟩))
    go_ret
    exact ⟨rfl, HB6.out.trans (hb6.mono HB6.out.size)⟩
  · have hb5 := may_bounds hm
    obtain ⟨s0, s1, f0, f1, l1⟩ := hb5
    rw [hm] at rmay
    rcases hg with hg | hg <;> rcases hi with hi | ⟨hi, hi2⟩ | ⟨hi, hi2⟩
    · rw [(from_low hg).1, (from_low hg).2] at slot
      rw [at_low (.inl hi)] at at_
      have hd0 : decide (gen < 0) = true := by simp; omega
      have hd2 : decide (0 ≤ gen) = false := by simp; omega
      have hd1 : decide (i < 0) = true := by simp; omega
      have SLOT := Lib.hid slot; clear slot
      have AT := Lib.hid at_; clear at_
      have RMAY := Lib.hid rmay; clear rmay hm
      go_wp2_with (first
        | (go_at_call 7; refine (SLOT.out _).mono ?_; rintro e w3 ⟨rfl, hb⟩; have hb : Below w2.heap.size w2 w3 := ⟨hb.os, hb.tape, hb.output, hb.size, hb.block⟩; have KP4 := Lib.hid (keepB KP3.out hb); have HB4 := Lib.hid (HB3.out.trans (hb.mono HB3.out.size)); clear hb; clear x_0 x_1 p_0 p_1 p_2; have p_0 := KP4.out.cell 0; have p_1 := KP4.out.cell 1; have p_2 := KP4.out.cell 2; simp at p_0 p_1 p_2)
        | (go_at_call 8; refine (AT.out _).mono ?_; rintro e w4 ⟨rfl, hb⟩; have KP5 := Lib.hid (keepB KP4.out hb); have HB5 := Lib.hid (HB4.out.trans (hb.mono HB4.out.size)); clear hb; clear p_0 p_1 p_2; have p_0 := KP5.out.cell 0; have p_1 := KP5.out.cell 1; have p_2 := KP5.out.cell 2; simp at p_0 p_1 p_2)
        | (go_at_call 9; refine (RMAY.out _).mono ?_; rintro e w5 ⟨rfl, hb⟩; have KP6 := Lib.hid (keepB KP5.out hb); have HB6 := Lib.hid (HB5.out.trans (hb.mono HB5.out.size)); clear hb; clear p_0 p_1 p_2; have p_0 := KP6.out.cell 0; have p_1 := KP6.out.cell 1; have p_2 := KP6.out.cell 2; simp at p_0 p_1 p_2)
        | (go_at_call 10; refine (awake6_any _).mono ?_; rintro e w6 ⟨rfl, hb6⟩))
      go_ret
      exact ⟨rfl, HB6.out.trans (hb6.mono HB6.out.size)⟩
    · rw [(from_low hg).1, (from_low hg).2] at slot
      rw [at_low (.inr hi2)] at at_
      have hd0 : decide (gen < 0) = true := by simp; omega
      have hd2 : decide (0 ≤ gen) = false := by simp; omega
      have hd1 : decide (i < 0) = false := by simp; omega
      have hd3 : decide (l ≤ i) = true := by simp; omega
      have SLOT := Lib.hid slot; clear slot
      have AT := Lib.hid at_; clear at_
      have RMAY := Lib.hid rmay; clear rmay hm
      go_wp2_with (first
        | (go_at_call 7; refine (SLOT.out _).mono ?_; rintro e w3 ⟨rfl, hb⟩; have hb : Below w2.heap.size w2 w3 := ⟨hb.os, hb.tape, hb.output, hb.size, hb.block⟩; have KP4 := Lib.hid (keepB KP3.out hb); have HB4 := Lib.hid (HB3.out.trans (hb.mono HB3.out.size)); clear hb; clear x_0 x_1 p_0 p_1 p_2; have p_0 := KP4.out.cell 0; have p_1 := KP4.out.cell 1; have p_2 := KP4.out.cell 2; simp at p_0 p_1 p_2)
        | (go_at_call 8; refine (AT.out _).mono ?_; rintro e w4 ⟨rfl, hb⟩; have KP5 := Lib.hid (keepB KP4.out hb); have HB5 := Lib.hid (HB4.out.trans (hb.mono HB4.out.size)); clear hb; clear p_0 p_1 p_2; have p_0 := KP5.out.cell 0; have p_1 := KP5.out.cell 1; have p_2 := KP5.out.cell 2; simp at p_0 p_1 p_2)
        | (go_at_call 9; refine (RMAY.out _).mono ?_; rintro e w5 ⟨rfl, hb⟩; have KP6 := Lib.hid (keepB KP5.out hb); have HB6 := Lib.hid (HB5.out.trans (hb.mono HB5.out.size)); clear hb; clear p_0 p_1 p_2; have p_0 := KP6.out.cell 0; have p_1 := KP6.out.cell 1; have p_2 := KP6.out.cell 2; simp at p_0 p_1 p_2)
        | (go_at_call 10; refine (awake6_any _).mono ?_; rintro e w6 ⟨rfl, hb6⟩))
      go_ret
      exact ⟨rfl, HB6.out.trans (hb6.mono HB6.out.size)⟩
    · rw [(from_low hg).1, (from_low hg).2] at slot
      rw [at_yes hi hi2 hm] at at_
      have hd0 : decide (gen < 0) = true := by simp; omega
      have hd2 : decide (0 ≤ gen) = false := by simp; omega
      have hd1 : decide (i < 0) = false := by simp; omega
      have hd3 : decide (l ≤ i) = false := by simp; omega
      have SLOT := Lib.hid slot; clear slot
      have AT := Lib.hid at_; clear at_
      have RMAY := Lib.hid rmay; clear rmay hm
      go_wp2_with (first
        | (go_at_call 7; refine (SLOT.out _).mono ?_; rintro e w3 ⟨rfl, hb⟩; have hb : Below w2.heap.size w2 w3 := ⟨hb.os, hb.tape, hb.output, hb.size, hb.block⟩; have KP4 := Lib.hid (keepB KP3.out hb); have HB4 := Lib.hid (HB3.out.trans (hb.mono HB3.out.size)); clear hb; clear x_0 x_1 p_0 p_1 p_2; have p_0 := KP4.out.cell 0; have p_1 := KP4.out.cell 1; have p_2 := KP4.out.cell 2; simp at p_0 p_1 p_2)
        | (go_at_call 8; refine (AT.out _).mono ?_; rintro e w4 ⟨rfl, hb⟩; have KP5 := Lib.hid (keepB KP4.out hb); have HB5 := Lib.hid (HB4.out.trans (hb.mono HB4.out.size)); clear hb; clear p_0 p_1 p_2; have p_0 := KP5.out.cell 0; have p_1 := KP5.out.cell 1; have p_2 := KP5.out.cell 2; simp at p_0 p_1 p_2)
        | (go_at_call 9; refine (RMAY.out _).mono ?_; rintro e w5 ⟨rfl, hb⟩; have KP6 := Lib.hid (keepB KP5.out hb); have HB6 := Lib.hid (HB5.out.trans (hb.mono HB5.out.size)); clear hb; clear p_0 p_1 p_2; have p_0 := KP6.out.cell 0; have p_1 := KP6.out.cell 1; have p_2 := KP6.out.cell 2; simp at p_0 p_1 p_2)
        | (go_at_call 10; refine (awake6_any _).mono ?_; rintro e w6 ⟨rfl, hb6⟩))
      go_ret
      exact ⟨rfl, HB6.out.trans (hb6.mono HB6.out.size)⟩
    · rw [(from_yes hg hm).1, (from_yes hg hm).2] at slot
      have hm1 := rem_bounds hg s0 s1
      rw [at_low (.inl hi)] at at_
      have hd0 : decide (gen < 0) = false := by simp; omega
      have hd2 : decide (0 ≤ gen) = true := by simp; omega
      have hd1 : decide (i < 0) = true := by simp; omega
      have SLOT := Lib.hid slot; clear slot
      have AT := Lib.hid at_; clear at_
      have RMAY := Lib.hid rmay; clear rmay hm
      go_wp2_with (first
        | (go_at_call 7; refine (SLOT.out _).mono ?_; rintro e w3 ⟨rfl, hb⟩; have hb : Below w2.heap.size w2 w3 := ⟨hb.os, hb.tape, hb.output, hb.size, hb.block⟩; have KP4 := Lib.hid (keepB KP3.out hb); have HB4 := Lib.hid (HB3.out.trans (hb.mono HB3.out.size)); clear hb; clear x_0 x_1 p_0 p_1 p_2; have p_0 := KP4.out.cell 0; have p_1 := KP4.out.cell 1; have p_2 := KP4.out.cell 2; simp at p_0 p_1 p_2)
        | (go_at_call 8; refine (AT.out _).mono ?_; rintro e w4 ⟨rfl, hb⟩; have KP5 := Lib.hid (keepB KP4.out hb); have HB5 := Lib.hid (HB4.out.trans (hb.mono HB4.out.size)); clear hb; clear p_0 p_1 p_2; have p_0 := KP5.out.cell 0; have p_1 := KP5.out.cell 1; have p_2 := KP5.out.cell 2; simp at p_0 p_1 p_2)
        | (go_at_call 9; refine (RMAY.out _).mono ?_; rintro e w5 ⟨rfl, hb⟩; have KP6 := Lib.hid (keepB KP5.out hb); have HB6 := Lib.hid (HB5.out.trans (hb.mono HB5.out.size)); clear hb; clear p_0 p_1 p_2; have p_0 := KP6.out.cell 0; have p_1 := KP6.out.cell 1; have p_2 := KP6.out.cell 2; simp at p_0 p_1 p_2)
        | (go_at_call 10; refine (awake6_any _).mono ?_; rintro e w6 ⟨rfl, hb6⟩))
      go_ret
      exact ⟨rfl, HB6.out.trans (hb6.mono HB6.out.size)⟩
    · rw [(from_yes hg hm).1, (from_yes hg hm).2] at slot
      have hm1 := rem_bounds hg s0 s1
      rw [at_low (.inr hi2)] at at_
      have hd0 : decide (gen < 0) = false := by simp; omega
      have hd2 : decide (0 ≤ gen) = true := by simp; omega
      have hd1 : decide (i < 0) = false := by simp; omega
      have hd3 : decide (l ≤ i) = true := by simp; omega
      have SLOT := Lib.hid slot; clear slot
      have AT := Lib.hid at_; clear at_
      have RMAY := Lib.hid rmay; clear rmay hm
      go_wp2_with (first
        | (go_at_call 7; refine (SLOT.out _).mono ?_; rintro e w3 ⟨rfl, hb⟩; have hb : Below w2.heap.size w2 w3 := ⟨hb.os, hb.tape, hb.output, hb.size, hb.block⟩; have KP4 := Lib.hid (keepB KP3.out hb); have HB4 := Lib.hid (HB3.out.trans (hb.mono HB3.out.size)); clear hb; clear x_0 x_1 p_0 p_1 p_2; have p_0 := KP4.out.cell 0; have p_1 := KP4.out.cell 1; have p_2 := KP4.out.cell 2; simp at p_0 p_1 p_2)
        | (go_at_call 8; refine (AT.out _).mono ?_; rintro e w4 ⟨rfl, hb⟩; have KP5 := Lib.hid (keepB KP4.out hb); have HB5 := Lib.hid (HB4.out.trans (hb.mono HB4.out.size)); clear hb; clear p_0 p_1 p_2; have p_0 := KP5.out.cell 0; have p_1 := KP5.out.cell 1; have p_2 := KP5.out.cell 2; simp at p_0 p_1 p_2)
        | (go_at_call 9; refine (RMAY.out _).mono ?_; rintro e w5 ⟨rfl, hb⟩; have KP6 := Lib.hid (keepB KP5.out hb); have HB6 := Lib.hid (HB5.out.trans (hb.mono HB5.out.size)); clear hb; clear p_0 p_1 p_2; have p_0 := KP6.out.cell 0; have p_1 := KP6.out.cell 1; have p_2 := KP6.out.cell 2; simp at p_0 p_1 p_2)
        | (go_at_call 10; refine (awake6_any _).mono ?_; rintro e w6 ⟨rfl, hb6⟩))
      go_ret
      exact ⟨rfl, HB6.out.trans (hb6.mono HB6.out.size)⟩
    · rw [(from_yes hg hm).1, (from_yes hg hm).2] at slot
      have hm1 := rem_bounds hg s0 s1
      rw [at_yes hi hi2 hm] at at_
      have hd0 : decide (gen < 0) = false := by simp; omega
      have hd2 : decide (0 ≤ gen) = true := by simp; omega
      have hd1 : decide (i < 0) = false := by simp; omega
      have hd3 : decide (l ≤ i) = false := by simp; omega
      have SLOT := Lib.hid slot; clear slot
      have AT := Lib.hid at_; clear at_
      have RMAY := Lib.hid rmay; clear rmay hm
      go_wp2_with (first
        | (go_at_call 7; refine (SLOT.out _).mono ?_; rintro e w3 ⟨rfl, hb⟩; have hb : Below w2.heap.size w2 w3 := ⟨hb.os, hb.tape, hb.output, hb.size, hb.block⟩; have KP4 := Lib.hid (keepB KP3.out hb); have HB4 := Lib.hid (HB3.out.trans (hb.mono HB3.out.size)); clear hb; clear x_0 x_1 p_0 p_1 p_2; have p_0 := KP4.out.cell 0; have p_1 := KP4.out.cell 1; have p_2 := KP4.out.cell 2; simp at p_0 p_1 p_2)
        | (go_at_call 8; refine (AT.out _).mono ?_; rintro e w4 ⟨rfl, hb⟩; have KP5 := Lib.hid (keepB KP4.out hb); have HB5 := Lib.hid (HB4.out.trans (hb.mono HB4.out.size)); clear hb; clear p_0 p_1 p_2; have p_0 := KP5.out.cell 0; have p_1 := KP5.out.cell 1; have p_2 := KP5.out.cell 2; simp at p_0 p_1 p_2)
        | (go_at_call 9; refine (RMAY.out _).mono ?_; rintro e w5 ⟨rfl, hb⟩; have KP6 := Lib.hid (keepB KP5.out hb); have HB6 := Lib.hid (HB5.out.trans (hb.mono HB5.out.size)); clear hb; clear p_0 p_1 p_2; have p_0 := KP6.out.cell 0; have p_1 := KP6.out.cell 1; have p_2 := KP6.out.cell 2; simp at p_0 p_1 p_2)
        | (go_at_call 10; refine (awake6_any _).mono ?_; rintro e w6 ⟨rfl, hb6⟩))
      go_ret
      exact ⟨rfl, HB6.out.trans (hb6.mono HB6.out.size)⟩
set_option maxHeartbeats 4000000 in
theorem walk_low (n : Int) (s f l gen i : Int) (w : World) (h : n < 6) (hgen : gen ≤ 9223372036854775807) (hcs : Cases s f l gen i) :
    Calls Try.prog 3 #[.int .i64 n, plV s f l, .agg #[.int .i64 gen, .int .i64 i]] w fun e w' => e = .returned (.bool true) ∧ Below w.heap.size w w' := by
  have h0 : decide (n < 6) = true := by simpa using h
  have mk := fun (W : World) => make_no n W (by omega)
  have MK := Lib.hid mk; clear mk
  have kp := (Blk.new w 23 #[.int .i64 s, .int .i64 f, .int .i64 l]).alloc (.cells #[.int .i64 gen, .int .i64 i] 24)
  have kx := Blk.new (w.alloc (.cells #[.int .i64 s, .int .i64 f, .int .i64 l] 23)) 24 #[.int .i64 gen, .int .i64 i]
  rw [show (w.alloc (.cells #[.int .i64 s, .int .i64 f, .int .i64 l] 23)).heap.size = w.heap.size + 1 from by simp] at kx
  have KP := Lib.hid kp; clear kp
  have KX := Lib.hid kx; clear kx
  have HB := Lib.hid (((Below.refl w.heap.size w).alloc (Nat.le_refl _) (.cells #[.int .i64 s, .int .i64 f, .int .i64 l] 23)).alloc (by simp) (.cells #[.int .i64 gen, .int .i64 i] 24))
  go_enter Try.func3, Try.ntmps3
  go_wp2_with (go_at_call 5; go_loud (refine (MK.out _).mono ?_; rintro e w1 ⟨rfl, hb⟩; have KP1 := Lib.hid (keepB KP.out hb); have KX1 := Lib.hid (keepB KX.out hb); have HB1 := Lib.hid (HB.out.trans (hb.mono HB.out.size)); clear hb; clear KP KX HB))
  have KP3 := Lib.hid (KP1.out.alloc (Obj.cells #[.int .i64 0, .int .i64 0, .int .i64 0] 23))
  have KX3 := Lib.hid (KX1.out.alloc (Obj.cells #[.int .i64 0, .int .i64 0, .int .i64 0] 23))
  have HB3 := Lib.hid (HB1.out.alloc HB1.out.size (Obj.cells #[.int .i64 0, .int .i64 0, .int .i64 0] 23))
  clear KP1 KX1 HB1
  generalize w1.alloc (Obj.cells #[.int .i64 0, .int .i64 0, .int .i64 0] 23) = w2 at *
  generalize w1.heap.size = gq at *
  have x_0 := KX3.out.cell 0; have x_1 := KX3.out.cell 1
  have p_0 := KP3.out.cell 0; have p_1 := KP3.out.cell 1; have p_2 := KP3.out.cell 2
  simp at x_0 x_1 p_0 p_1 p_2
  have G3 := KX3.out.lt
  go_quiet (fail)
  have slot := fun (V : World) => slot_any s f l gen V hgen
  have at_ := fun (V : World) => at_any s f l i V
  have rmay := fun (V : World) => rmay_any s f l V
  rcases hcs with hm | ⟨hm, hg, hi⟩
  · rw [(from_no hm).1, (from_no hm).2] at slot
    rw [at_no hm] at at_
    rw [hm] at rmay
    have SLOT := Lib.hid slot; clear slot
    have AT := Lib.hid at_; clear at_
    have RMAY := Lib.hid rmay; clear rmay hm
    go_wp2_with (first
      | (go_at_call 7; refine (SLOT.out _).mono ?_; rintro e w3 ⟨rfl, hb⟩; have hb : Below w2.heap.size w2 w3 := ⟨hb.os, hb.tape, hb.output, hb.size, hb.block⟩; have KP4 := Lib.hid (keepB KP3.out hb); have HB4 := Lib.hid (HB3.out.trans (hb.mono HB3.out.size)); clear hb; clear x_0 x_1 p_0 p_1 p_2; have p_0 := KP4.out.cell 0; have p_1 := KP4.out.cell 1; have p_2 := KP4.out.cell 2; simp at p_0 p_1 p_2)
      | (go_at_call 8; refine (AT.out _).mono ?_; rintro e w4 ⟨rfl, hb⟩; have KP5 := Lib.hid (keepB KP4.out hb); have HB5 := Lib.hid (HB4.out.trans (hb.mono HB4.out.size)); clear hb; clear p_0 p_1 p_2; have p_0 := KP5.out.cell 0; have p_1 := KP5.out.cell 1; have p_2 := KP5.out.cell 2; simp at p_0 p_1 p_2)
      | (go_at_call 9; refine (RMAY.out _).mono ?_; rintro e w5 ⟨rfl, hb⟩; have KP6 := Lib.hid (keepB KP5.out hb); have HB6 := Lib.hid (HB5.out.trans (hb.mono HB5.out.size)); clear hb; clear p_0 p_1 p_2; have p_0 := KP6.out.cell 0; have p_1 := KP6.out.cell 1; have p_2 := KP6.out.cell 2; simp at p_0 p_1 p_2)
      | (go_at_call 10; refine (awake6_any _).mono ?_; rintro e w6 ⟨rfl, hb6⟩))
    go_ret
    exact ⟨rfl, HB6.out.trans (hb6.mono HB6.out.size)⟩
  · have hb5 := may_bounds hm
    obtain ⟨s0, s1, f0, f1, l1⟩ := hb5
    rw [hm] at rmay
    rcases hg with hg | hg <;> rcases hi with hi | ⟨hi, hi2⟩ | ⟨hi, hi2⟩
    · rw [(from_low hg).1, (from_low hg).2] at slot
      rw [at_low (.inl hi)] at at_
      have hd0 : decide (gen < 0) = true := by simp; omega
      have hd2 : decide (0 ≤ gen) = false := by simp; omega
      have hd1 : decide (i < 0) = true := by simp; omega
      have SLOT := Lib.hid slot; clear slot
      have AT := Lib.hid at_; clear at_
      have RMAY := Lib.hid rmay; clear rmay hm
      go_wp2_with (first
        | (go_at_call 7; refine (SLOT.out _).mono ?_; rintro e w3 ⟨rfl, hb⟩; have hb : Below w2.heap.size w2 w3 := ⟨hb.os, hb.tape, hb.output, hb.size, hb.block⟩; have KP4 := Lib.hid (keepB KP3.out hb); have HB4 := Lib.hid (HB3.out.trans (hb.mono HB3.out.size)); clear hb; clear x_0 x_1 p_0 p_1 p_2; have p_0 := KP4.out.cell 0; have p_1 := KP4.out.cell 1; have p_2 := KP4.out.cell 2; simp at p_0 p_1 p_2)
        | (go_at_call 8; refine (AT.out _).mono ?_; rintro e w4 ⟨rfl, hb⟩; have KP5 := Lib.hid (keepB KP4.out hb); have HB5 := Lib.hid (HB4.out.trans (hb.mono HB4.out.size)); clear hb; clear p_0 p_1 p_2; have p_0 := KP5.out.cell 0; have p_1 := KP5.out.cell 1; have p_2 := KP5.out.cell 2; simp at p_0 p_1 p_2)
        | (go_at_call 9; refine (RMAY.out _).mono ?_; rintro e w5 ⟨rfl, hb⟩; have KP6 := Lib.hid (keepB KP5.out hb); have HB6 := Lib.hid (HB5.out.trans (hb.mono HB5.out.size)); clear hb; clear p_0 p_1 p_2; have p_0 := KP6.out.cell 0; have p_1 := KP6.out.cell 1; have p_2 := KP6.out.cell 2; simp at p_0 p_1 p_2)
        | (go_at_call 10; refine (awake6_any _).mono ?_; rintro e w6 ⟨rfl, hb6⟩))
      go_ret
      exact ⟨rfl, HB6.out.trans (hb6.mono HB6.out.size)⟩
    · rw [(from_low hg).1, (from_low hg).2] at slot
      rw [at_low (.inr hi2)] at at_
      have hd0 : decide (gen < 0) = true := by simp; omega
      have hd2 : decide (0 ≤ gen) = false := by simp; omega
      have hd1 : decide (i < 0) = false := by simp; omega
      have hd3 : decide (l ≤ i) = true := by simp; omega
      have SLOT := Lib.hid slot; clear slot
      have AT := Lib.hid at_; clear at_
      have RMAY := Lib.hid rmay; clear rmay hm
      go_wp2_with (first
        | (go_at_call 7; refine (SLOT.out _).mono ?_; rintro e w3 ⟨rfl, hb⟩; have hb : Below w2.heap.size w2 w3 := ⟨hb.os, hb.tape, hb.output, hb.size, hb.block⟩; have KP4 := Lib.hid (keepB KP3.out hb); have HB4 := Lib.hid (HB3.out.trans (hb.mono HB3.out.size)); clear hb; clear x_0 x_1 p_0 p_1 p_2; have p_0 := KP4.out.cell 0; have p_1 := KP4.out.cell 1; have p_2 := KP4.out.cell 2; simp at p_0 p_1 p_2)
        | (go_at_call 8; refine (AT.out _).mono ?_; rintro e w4 ⟨rfl, hb⟩; have KP5 := Lib.hid (keepB KP4.out hb); have HB5 := Lib.hid (HB4.out.trans (hb.mono HB4.out.size)); clear hb; clear p_0 p_1 p_2; have p_0 := KP5.out.cell 0; have p_1 := KP5.out.cell 1; have p_2 := KP5.out.cell 2; simp at p_0 p_1 p_2)
        | (go_at_call 9; refine (RMAY.out _).mono ?_; rintro e w5 ⟨rfl, hb⟩; have KP6 := Lib.hid (keepB KP5.out hb); have HB6 := Lib.hid (HB5.out.trans (hb.mono HB5.out.size)); clear hb; clear p_0 p_1 p_2; have p_0 := KP6.out.cell 0; have p_1 := KP6.out.cell 1; have p_2 := KP6.out.cell 2; simp at p_0 p_1 p_2)
        | (go_at_call 10; refine (awake6_any _).mono ?_; rintro e w6 ⟨rfl, hb6⟩))
      go_ret
      exact ⟨rfl, HB6.out.trans (hb6.mono HB6.out.size)⟩
    · rw [(from_low hg).1, (from_low hg).2] at slot
      rw [at_yes hi hi2 hm] at at_
      have hd0 : decide (gen < 0) = true := by simp; omega
      have hd2 : decide (0 ≤ gen) = false := by simp; omega
      have hd1 : decide (i < 0) = false := by simp; omega
      have hd3 : decide (l ≤ i) = false := by simp; omega
      have SLOT := Lib.hid slot; clear slot
      have AT := Lib.hid at_; clear at_
      have RMAY := Lib.hid rmay; clear rmay hm
      go_wp2_with (first
        | (go_at_call 7; refine (SLOT.out _).mono ?_; rintro e w3 ⟨rfl, hb⟩; have hb : Below w2.heap.size w2 w3 := ⟨hb.os, hb.tape, hb.output, hb.size, hb.block⟩; have KP4 := Lib.hid (keepB KP3.out hb); have HB4 := Lib.hid (HB3.out.trans (hb.mono HB3.out.size)); clear hb; clear x_0 x_1 p_0 p_1 p_2; have p_0 := KP4.out.cell 0; have p_1 := KP4.out.cell 1; have p_2 := KP4.out.cell 2; simp at p_0 p_1 p_2)
        | (go_at_call 8; refine (AT.out _).mono ?_; rintro e w4 ⟨rfl, hb⟩; have KP5 := Lib.hid (keepB KP4.out hb); have HB5 := Lib.hid (HB4.out.trans (hb.mono HB4.out.size)); clear hb; clear p_0 p_1 p_2; have p_0 := KP5.out.cell 0; have p_1 := KP5.out.cell 1; have p_2 := KP5.out.cell 2; simp at p_0 p_1 p_2)
        | (go_at_call 9; refine (RMAY.out _).mono ?_; rintro e w5 ⟨rfl, hb⟩; have KP6 := Lib.hid (keepB KP5.out hb); have HB6 := Lib.hid (HB5.out.trans (hb.mono HB5.out.size)); clear hb; clear p_0 p_1 p_2; have p_0 := KP6.out.cell 0; have p_1 := KP6.out.cell 1; have p_2 := KP6.out.cell 2; simp at p_0 p_1 p_2)
        | (go_at_call 10; refine (awake6_any _).mono ?_; rintro e w6 ⟨rfl, hb6⟩))
      go_ret
      exact ⟨rfl, HB6.out.trans (hb6.mono HB6.out.size)⟩
    · rw [(from_yes hg hm).1, (from_yes hg hm).2] at slot
      have hm1 := rem_bounds hg s0 s1
      rw [at_low (.inl hi)] at at_
      have hd0 : decide (gen < 0) = false := by simp; omega
      have hd2 : decide (0 ≤ gen) = true := by simp; omega
      have hd1 : decide (i < 0) = true := by simp; omega
      have SLOT := Lib.hid slot; clear slot
      have AT := Lib.hid at_; clear at_
      have RMAY := Lib.hid rmay; clear rmay hm
      go_wp2_with (first
        | (go_at_call 7; refine (SLOT.out _).mono ?_; rintro e w3 ⟨rfl, hb⟩; have hb : Below w2.heap.size w2 w3 := ⟨hb.os, hb.tape, hb.output, hb.size, hb.block⟩; have KP4 := Lib.hid (keepB KP3.out hb); have HB4 := Lib.hid (HB3.out.trans (hb.mono HB3.out.size)); clear hb; clear x_0 x_1 p_0 p_1 p_2; have p_0 := KP4.out.cell 0; have p_1 := KP4.out.cell 1; have p_2 := KP4.out.cell 2; simp at p_0 p_1 p_2)
        | (go_at_call 8; refine (AT.out _).mono ?_; rintro e w4 ⟨rfl, hb⟩; have KP5 := Lib.hid (keepB KP4.out hb); have HB5 := Lib.hid (HB4.out.trans (hb.mono HB4.out.size)); clear hb; clear p_0 p_1 p_2; have p_0 := KP5.out.cell 0; have p_1 := KP5.out.cell 1; have p_2 := KP5.out.cell 2; simp at p_0 p_1 p_2)
        | (go_at_call 9; refine (RMAY.out _).mono ?_; rintro e w5 ⟨rfl, hb⟩; have KP6 := Lib.hid (keepB KP5.out hb); have HB6 := Lib.hid (HB5.out.trans (hb.mono HB5.out.size)); clear hb; clear p_0 p_1 p_2; have p_0 := KP6.out.cell 0; have p_1 := KP6.out.cell 1; have p_2 := KP6.out.cell 2; simp at p_0 p_1 p_2)
        | (go_at_call 10; refine (awake6_any _).mono ?_; rintro e w6 ⟨rfl, hb6⟩))
      go_ret
      exact ⟨rfl, HB6.out.trans (hb6.mono HB6.out.size)⟩
    · rw [(from_yes hg hm).1, (from_yes hg hm).2] at slot
      have hm1 := rem_bounds hg s0 s1
      rw [at_low (.inr hi2)] at at_
      have hd0 : decide (gen < 0) = false := by simp; omega
      have hd2 : decide (0 ≤ gen) = true := by simp; omega
      have hd1 : decide (i < 0) = false := by simp; omega
      have hd3 : decide (l ≤ i) = true := by simp; omega
      have SLOT := Lib.hid slot; clear slot
      have AT := Lib.hid at_; clear at_
      have RMAY := Lib.hid rmay; clear rmay hm
      go_wp2_with (first
        | (go_at_call 7; refine (SLOT.out _).mono ?_; rintro e w3 ⟨rfl, hb⟩; have hb : Below w2.heap.size w2 w3 := ⟨hb.os, hb.tape, hb.output, hb.size, hb.block⟩; have KP4 := Lib.hid (keepB KP3.out hb); have HB4 := Lib.hid (HB3.out.trans (hb.mono HB3.out.size)); clear hb; clear x_0 x_1 p_0 p_1 p_2; have p_0 := KP4.out.cell 0; have p_1 := KP4.out.cell 1; have p_2 := KP4.out.cell 2; simp at p_0 p_1 p_2)
        | (go_at_call 8; refine (AT.out _).mono ?_; rintro e w4 ⟨rfl, hb⟩; have KP5 := Lib.hid (keepB KP4.out hb); have HB5 := Lib.hid (HB4.out.trans (hb.mono HB4.out.size)); clear hb; clear p_0 p_1 p_2; have p_0 := KP5.out.cell 0; have p_1 := KP5.out.cell 1; have p_2 := KP5.out.cell 2; simp at p_0 p_1 p_2)
        | (go_at_call 9; refine (RMAY.out _).mono ?_; rintro e w5 ⟨rfl, hb⟩; have KP6 := Lib.hid (keepB KP5.out hb); have HB6 := Lib.hid (HB5.out.trans (hb.mono HB5.out.size)); clear hb; clear p_0 p_1 p_2; have p_0 := KP6.out.cell 0; have p_1 := KP6.out.cell 1; have p_2 := KP6.out.cell 2; simp at p_0 p_1 p_2)
        | (go_at_call 10; refine (awake6_any _).mono ?_; rintro e w6 ⟨rfl, hb6⟩))
      go_ret
      exact ⟨rfl, HB6.out.trans (hb6.mono HB6.out.size)⟩
    · rw [(from_yes hg hm).1, (from_yes hg hm).2] at slot
      have hm1 := rem_bounds hg s0 s1
      rw [at_yes hi hi2 hm] at at_
      have hd0 : decide (gen < 0) = false := by simp; omega
      have hd2 : decide (0 ≤ gen) = true := by simp; omega
      have hd1 : decide (i < 0) = false := by simp; omega
      have hd3 : decide (l ≤ i) = false := by simp; omega
      have SLOT := Lib.hid slot; clear slot
      have AT := Lib.hid at_; clear at_
      have RMAY := Lib.hid rmay; clear rmay hm
      go_wp2_with (first
        | (go_at_call 7; refine (SLOT.out _).mono ?_; rintro e w3 ⟨rfl, hb⟩; have hb : Below w2.heap.size w2 w3 := ⟨hb.os, hb.tape, hb.output, hb.size, hb.block⟩; have KP4 := Lib.hid (keepB KP3.out hb); have HB4 := Lib.hid (HB3.out.trans (hb.mono HB3.out.size)); clear hb; clear x_0 x_1 p_0 p_1 p_2; have p_0 := KP4.out.cell 0; have p_1 := KP4.out.cell 1; have p_2 := KP4.out.cell 2; simp at p_0 p_1 p_2)
        | (go_at_call 8; refine (AT.out _).mono ?_; rintro e w4 ⟨rfl, hb⟩; have KP5 := Lib.hid (keepB KP4.out hb); have HB5 := Lib.hid (HB4.out.trans (hb.mono HB4.out.size)); clear hb; clear p_0 p_1 p_2; have p_0 := KP5.out.cell 0; have p_1 := KP5.out.cell 1; have p_2 := KP5.out.cell 2; simp at p_0 p_1 p_2)
        | (go_at_call 9; refine (RMAY.out _).mono ?_; rintro e w5 ⟨rfl, hb⟩; have KP6 := Lib.hid (keepB KP5.out hb); have HB6 := Lib.hid (HB5.out.trans (hb.mono HB5.out.size)); clear hb; clear p_0 p_1 p_2; have p_0 := KP6.out.cell 0; have p_1 := KP6.out.cell 1; have p_2 := KP6.out.cell 2; simp at p_0 p_1 p_2)
        | (go_at_call 10; refine (awake6_any _).mono ?_; rintro e w6 ⟨rfl, hb6⟩))
      go_ret
      exact ⟨rfl, HB6.out.trans (hb6.mono HB6.out.size)⟩
set_option maxHeartbeats 4000000 in
theorem walk_high (n : Int) (s f l gen i : Int) (w : World) (h : 1024 < n) (hgen : gen ≤ 9223372036854775807) (hcs : Cases s f l gen i) :
    Calls Try.prog 3 #[.int .i64 n, plV s f l, .agg #[.int .i64 gen, .int .i64 i]] w fun e w' => e = .returned (.bool true) ∧ Below w.heap.size w w' := by
  have h0 : decide (n < 6) = false := by simp; omega
  have h1 : decide (1024 < n) = true := by simpa using h
  have mk := fun (W : World) => make_no n W (by omega)
  have MK := Lib.hid mk; clear mk
  have kp := (Blk.new w 23 #[.int .i64 s, .int .i64 f, .int .i64 l]).alloc (.cells #[.int .i64 gen, .int .i64 i] 24)
  have kx := Blk.new (w.alloc (.cells #[.int .i64 s, .int .i64 f, .int .i64 l] 23)) 24 #[.int .i64 gen, .int .i64 i]
  rw [show (w.alloc (.cells #[.int .i64 s, .int .i64 f, .int .i64 l] 23)).heap.size = w.heap.size + 1 from by simp] at kx
  have KP := Lib.hid kp; clear kp
  have KX := Lib.hid kx; clear kx
  have HB := Lib.hid (((Below.refl w.heap.size w).alloc (Nat.le_refl _) (.cells #[.int .i64 s, .int .i64 f, .int .i64 l] 23)).alloc (by simp) (.cells #[.int .i64 gen, .int .i64 i] 24))
  go_enter Try.func3, Try.ntmps3
  go_wp2_with (go_at_call 5; go_loud (refine (MK.out _).mono ?_; rintro e w1 ⟨rfl, hb⟩; have KP1 := Lib.hid (keepB KP.out hb); have KX1 := Lib.hid (keepB KX.out hb); have HB1 := Lib.hid (HB.out.trans (hb.mono HB.out.size)); clear hb; clear KP KX HB))
  have KP3 := Lib.hid (KP1.out.alloc (Obj.cells #[.int .i64 0, .int .i64 0, .int .i64 0] 23))
  have KX3 := Lib.hid (KX1.out.alloc (Obj.cells #[.int .i64 0, .int .i64 0, .int .i64 0] 23))
  have HB3 := Lib.hid (HB1.out.alloc HB1.out.size (Obj.cells #[.int .i64 0, .int .i64 0, .int .i64 0] 23))
  clear KP1 KX1 HB1
  generalize w1.alloc (Obj.cells #[.int .i64 0, .int .i64 0, .int .i64 0] 23) = w2 at *
  generalize w1.heap.size = gq at *
  have x_0 := KX3.out.cell 0; have x_1 := KX3.out.cell 1
  have p_0 := KP3.out.cell 0; have p_1 := KP3.out.cell 1; have p_2 := KP3.out.cell 2
  simp at x_0 x_1 p_0 p_1 p_2
  have G3 := KX3.out.lt
  go_quiet (fail)
  have slot := fun (V : World) => slot_any s f l gen V hgen
  have at_ := fun (V : World) => at_any s f l i V
  have rmay := fun (V : World) => rmay_any s f l V
  rcases hcs with hm | ⟨hm, hg, hi⟩
  · rw [(from_no hm).1, (from_no hm).2] at slot
    rw [at_no hm] at at_
    rw [hm] at rmay
    have SLOT := Lib.hid slot; clear slot
    have AT := Lib.hid at_; clear at_
    have RMAY := Lib.hid rmay; clear rmay hm
    go_wp2_with (first
      | (go_at_call 7; refine (SLOT.out _).mono ?_; rintro e w3 ⟨rfl, hb⟩; have hb : Below w2.heap.size w2 w3 := ⟨hb.os, hb.tape, hb.output, hb.size, hb.block⟩; have KP4 := Lib.hid (keepB KP3.out hb); have HB4 := Lib.hid (HB3.out.trans (hb.mono HB3.out.size)); clear hb; clear x_0 x_1 p_0 p_1 p_2; have p_0 := KP4.out.cell 0; have p_1 := KP4.out.cell 1; have p_2 := KP4.out.cell 2; simp at p_0 p_1 p_2)
      | (go_at_call 8; refine (AT.out _).mono ?_; rintro e w4 ⟨rfl, hb⟩; have KP5 := Lib.hid (keepB KP4.out hb); have HB5 := Lib.hid (HB4.out.trans (hb.mono HB4.out.size)); clear hb; clear p_0 p_1 p_2; have p_0 := KP5.out.cell 0; have p_1 := KP5.out.cell 1; have p_2 := KP5.out.cell 2; simp at p_0 p_1 p_2)
      | (go_at_call 9; refine (RMAY.out _).mono ?_; rintro e w5 ⟨rfl, hb⟩; have KP6 := Lib.hid (keepB KP5.out hb); have HB6 := Lib.hid (HB5.out.trans (hb.mono HB5.out.size)); clear hb; clear p_0 p_1 p_2; have p_0 := KP6.out.cell 0; have p_1 := KP6.out.cell 1; have p_2 := KP6.out.cell 2; simp at p_0 p_1 p_2)
      | (go_at_call 10; refine (awake6_any _).mono ?_; rintro e w6 ⟨rfl, hb6⟩))
    go_ret
    exact ⟨rfl, HB6.out.trans (hb6.mono HB6.out.size)⟩
  · have hb5 := may_bounds hm
    obtain ⟨s0, s1, f0, f1, l1⟩ := hb5
    rw [hm] at rmay
    rcases hg with hg | hg <;> rcases hi with hi | ⟨hi, hi2⟩ | ⟨hi, hi2⟩
    · rw [(from_low hg).1, (from_low hg).2] at slot
      rw [at_low (.inl hi)] at at_
      have hd0 : decide (gen < 0) = true := by simp; omega
      have hd2 : decide (0 ≤ gen) = false := by simp; omega
      have hd1 : decide (i < 0) = true := by simp; omega
      have SLOT := Lib.hid slot; clear slot
      have AT := Lib.hid at_; clear at_
      have RMAY := Lib.hid rmay; clear rmay hm
      go_wp2_with (first
        | (go_at_call 7; refine (SLOT.out _).mono ?_; rintro e w3 ⟨rfl, hb⟩; have hb : Below w2.heap.size w2 w3 := ⟨hb.os, hb.tape, hb.output, hb.size, hb.block⟩; have KP4 := Lib.hid (keepB KP3.out hb); have HB4 := Lib.hid (HB3.out.trans (hb.mono HB3.out.size)); clear hb; clear x_0 x_1 p_0 p_1 p_2; have p_0 := KP4.out.cell 0; have p_1 := KP4.out.cell 1; have p_2 := KP4.out.cell 2; simp at p_0 p_1 p_2)
        | (go_at_call 8; refine (AT.out _).mono ?_; rintro e w4 ⟨rfl, hb⟩; have KP5 := Lib.hid (keepB KP4.out hb); have HB5 := Lib.hid (HB4.out.trans (hb.mono HB4.out.size)); clear hb; clear p_0 p_1 p_2; have p_0 := KP5.out.cell 0; have p_1 := KP5.out.cell 1; have p_2 := KP5.out.cell 2; simp at p_0 p_1 p_2)
        | (go_at_call 9; refine (RMAY.out _).mono ?_; rintro e w5 ⟨rfl, hb⟩; have KP6 := Lib.hid (keepB KP5.out hb); have HB6 := Lib.hid (HB5.out.trans (hb.mono HB5.out.size)); clear hb; clear p_0 p_1 p_2; have p_0 := KP6.out.cell 0; have p_1 := KP6.out.cell 1; have p_2 := KP6.out.cell 2; simp at p_0 p_1 p_2)
        | (go_at_call 10; refine (awake6_any _).mono ?_; rintro e w6 ⟨rfl, hb6⟩))
      go_ret
      exact ⟨rfl, HB6.out.trans (hb6.mono HB6.out.size)⟩
    · rw [(from_low hg).1, (from_low hg).2] at slot
      rw [at_low (.inr hi2)] at at_
      have hd0 : decide (gen < 0) = true := by simp; omega
      have hd2 : decide (0 ≤ gen) = false := by simp; omega
      have hd1 : decide (i < 0) = false := by simp; omega
      have hd3 : decide (l ≤ i) = true := by simp; omega
      have SLOT := Lib.hid slot; clear slot
      have AT := Lib.hid at_; clear at_
      have RMAY := Lib.hid rmay; clear rmay hm
      go_wp2_with (first
        | (go_at_call 7; refine (SLOT.out _).mono ?_; rintro e w3 ⟨rfl, hb⟩; have hb : Below w2.heap.size w2 w3 := ⟨hb.os, hb.tape, hb.output, hb.size, hb.block⟩; have KP4 := Lib.hid (keepB KP3.out hb); have HB4 := Lib.hid (HB3.out.trans (hb.mono HB3.out.size)); clear hb; clear x_0 x_1 p_0 p_1 p_2; have p_0 := KP4.out.cell 0; have p_1 := KP4.out.cell 1; have p_2 := KP4.out.cell 2; simp at p_0 p_1 p_2)
        | (go_at_call 8; refine (AT.out _).mono ?_; rintro e w4 ⟨rfl, hb⟩; have KP5 := Lib.hid (keepB KP4.out hb); have HB5 := Lib.hid (HB4.out.trans (hb.mono HB4.out.size)); clear hb; clear p_0 p_1 p_2; have p_0 := KP5.out.cell 0; have p_1 := KP5.out.cell 1; have p_2 := KP5.out.cell 2; simp at p_0 p_1 p_2)
        | (go_at_call 9; refine (RMAY.out _).mono ?_; rintro e w5 ⟨rfl, hb⟩; have KP6 := Lib.hid (keepB KP5.out hb); have HB6 := Lib.hid (HB5.out.trans (hb.mono HB5.out.size)); clear hb; clear p_0 p_1 p_2; have p_0 := KP6.out.cell 0; have p_1 := KP6.out.cell 1; have p_2 := KP6.out.cell 2; simp at p_0 p_1 p_2)
        | (go_at_call 10; refine (awake6_any _).mono ?_; rintro e w6 ⟨rfl, hb6⟩))
      go_ret
      exact ⟨rfl, HB6.out.trans (hb6.mono HB6.out.size)⟩
    · rw [(from_low hg).1, (from_low hg).2] at slot
      rw [at_yes hi hi2 hm] at at_
      have hd0 : decide (gen < 0) = true := by simp; omega
      have hd2 : decide (0 ≤ gen) = false := by simp; omega
      have hd1 : decide (i < 0) = false := by simp; omega
      have hd3 : decide (l ≤ i) = false := by simp; omega
      have SLOT := Lib.hid slot; clear slot
      have AT := Lib.hid at_; clear at_
      have RMAY := Lib.hid rmay; clear rmay hm
      go_wp2_with (first
        | (go_at_call 7; refine (SLOT.out _).mono ?_; rintro e w3 ⟨rfl, hb⟩; have hb : Below w2.heap.size w2 w3 := ⟨hb.os, hb.tape, hb.output, hb.size, hb.block⟩; have KP4 := Lib.hid (keepB KP3.out hb); have HB4 := Lib.hid (HB3.out.trans (hb.mono HB3.out.size)); clear hb; clear x_0 x_1 p_0 p_1 p_2; have p_0 := KP4.out.cell 0; have p_1 := KP4.out.cell 1; have p_2 := KP4.out.cell 2; simp at p_0 p_1 p_2)
        | (go_at_call 8; refine (AT.out _).mono ?_; rintro e w4 ⟨rfl, hb⟩; have KP5 := Lib.hid (keepB KP4.out hb); have HB5 := Lib.hid (HB4.out.trans (hb.mono HB4.out.size)); clear hb; clear p_0 p_1 p_2; have p_0 := KP5.out.cell 0; have p_1 := KP5.out.cell 1; have p_2 := KP5.out.cell 2; simp at p_0 p_1 p_2)
        | (go_at_call 9; refine (RMAY.out _).mono ?_; rintro e w5 ⟨rfl, hb⟩; have KP6 := Lib.hid (keepB KP5.out hb); have HB6 := Lib.hid (HB5.out.trans (hb.mono HB5.out.size)); clear hb; clear p_0 p_1 p_2; have p_0 := KP6.out.cell 0; have p_1 := KP6.out.cell 1; have p_2 := KP6.out.cell 2; simp at p_0 p_1 p_2)
        | (go_at_call 10; refine (awake6_any _).mono ?_; rintro e w6 ⟨rfl, hb6⟩))
      go_ret
      exact ⟨rfl, HB6.out.trans (hb6.mono HB6.out.size)⟩
    · rw [(from_yes hg hm).1, (from_yes hg hm).2] at slot
      have hm1 := rem_bounds hg s0 s1
      rw [at_low (.inl hi)] at at_
      have hd0 : decide (gen < 0) = false := by simp; omega
      have hd2 : decide (0 ≤ gen) = true := by simp; omega
      have hd1 : decide (i < 0) = true := by simp; omega
      have SLOT := Lib.hid slot; clear slot
      have AT := Lib.hid at_; clear at_
      have RMAY := Lib.hid rmay; clear rmay hm
      go_wp2_with (first
        | (go_at_call 7; refine (SLOT.out _).mono ?_; rintro e w3 ⟨rfl, hb⟩; have hb : Below w2.heap.size w2 w3 := ⟨hb.os, hb.tape, hb.output, hb.size, hb.block⟩; have KP4 := Lib.hid (keepB KP3.out hb); have HB4 := Lib.hid (HB3.out.trans (hb.mono HB3.out.size)); clear hb; clear x_0 x_1 p_0 p_1 p_2; have p_0 := KP4.out.cell 0; have p_1 := KP4.out.cell 1; have p_2 := KP4.out.cell 2; simp at p_0 p_1 p_2)
        | (go_at_call 8; refine (AT.out _).mono ?_; rintro e w4 ⟨rfl, hb⟩; have KP5 := Lib.hid (keepB KP4.out hb); have HB5 := Lib.hid (HB4.out.trans (hb.mono HB4.out.size)); clear hb; clear p_0 p_1 p_2; have p_0 := KP5.out.cell 0; have p_1 := KP5.out.cell 1; have p_2 := KP5.out.cell 2; simp at p_0 p_1 p_2)
        | (go_at_call 9; refine (RMAY.out _).mono ?_; rintro e w5 ⟨rfl, hb⟩; have KP6 := Lib.hid (keepB KP5.out hb); have HB6 := Lib.hid (HB5.out.trans (hb.mono HB5.out.size)); clear hb; clear p_0 p_1 p_2; have p_0 := KP6.out.cell 0; have p_1 := KP6.out.cell 1; have p_2 := KP6.out.cell 2; simp at p_0 p_1 p_2)
        | (go_at_call 10; refine (awake6_any _).mono ?_; rintro e w6 ⟨rfl, hb6⟩))
      go_ret
      exact ⟨rfl, HB6.out.trans (hb6.mono HB6.out.size)⟩
    · rw [(from_yes hg hm).1, (from_yes hg hm).2] at slot
      have hm1 := rem_bounds hg s0 s1
      rw [at_low (.inr hi2)] at at_
      have hd0 : decide (gen < 0) = false := by simp; omega
      have hd2 : decide (0 ≤ gen) = true := by simp; omega
      have hd1 : decide (i < 0) = false := by simp; omega
      have hd3 : decide (l ≤ i) = true := by simp; omega
      have SLOT := Lib.hid slot; clear slot
      have AT := Lib.hid at_; clear at_
      have RMAY := Lib.hid rmay; clear rmay hm
      go_wp2_with (first
        | (go_at_call 7; refine (SLOT.out _).mono ?_; rintro e w3 ⟨rfl, hb⟩; have hb : Below w2.heap.size w2 w3 := ⟨hb.os, hb.tape, hb.output, hb.size, hb.block⟩; have KP4 := Lib.hid (keepB KP3.out hb); have HB4 := Lib.hid (HB3.out.trans (hb.mono HB3.out.size)); clear hb; clear x_0 x_1 p_0 p_1 p_2; have p_0 := KP4.out.cell 0; have p_1 := KP4.out.cell 1; have p_2 := KP4.out.cell 2; simp at p_0 p_1 p_2)
        | (go_at_call 8; refine (AT.out _).mono ?_; rintro e w4 ⟨rfl, hb⟩; have KP5 := Lib.hid (keepB KP4.out hb); have HB5 := Lib.hid (HB4.out.trans (hb.mono HB4.out.size)); clear hb; clear p_0 p_1 p_2; have p_0 := KP5.out.cell 0; have p_1 := KP5.out.cell 1; have p_2 := KP5.out.cell 2; simp at p_0 p_1 p_2)
        | (go_at_call 9; refine (RMAY.out _).mono ?_; rintro e w5 ⟨rfl, hb⟩; have KP6 := Lib.hid (keepB KP5.out hb); have HB6 := Lib.hid (HB5.out.trans (hb.mono HB5.out.size)); clear hb; clear p_0 p_1 p_2; have p_0 := KP6.out.cell 0; have p_1 := KP6.out.cell 1; have p_2 := KP6.out.cell 2; simp at p_0 p_1 p_2)
        | (go_at_call 10; refine (awake6_any _).mono ?_; rintro e w6 ⟨rfl, hb6⟩))
      go_ret
      exact ⟨rfl, HB6.out.trans (hb6.mono HB6.out.size)⟩
    · rw [(from_yes hg hm).1, (from_yes hg hm).2] at slot
      have hm1 := rem_bounds hg s0 s1
      rw [at_yes hi hi2 hm] at at_
      have hd0 : decide (gen < 0) = false := by simp; omega
      have hd2 : decide (0 ≤ gen) = true := by simp; omega
      have hd1 : decide (i < 0) = false := by simp; omega
      have hd3 : decide (l ≤ i) = false := by simp; omega
      have SLOT := Lib.hid slot; clear slot
      have AT := Lib.hid at_; clear at_
      have RMAY := Lib.hid rmay; clear rmay hm
      go_wp2_with (first
        | (go_at_call 7; refine (SLOT.out _).mono ?_; rintro e w3 ⟨rfl, hb⟩; have hb : Below w2.heap.size w2 w3 := ⟨hb.os, hb.tape, hb.output, hb.size, hb.block⟩; have KP4 := Lib.hid (keepB KP3.out hb); have HB4 := Lib.hid (HB3.out.trans (hb.mono HB3.out.size)); clear hb; clear x_0 x_1 p_0 p_1 p_2; have p_0 := KP4.out.cell 0; have p_1 := KP4.out.cell 1; have p_2 := KP4.out.cell 2; simp at p_0 p_1 p_2)
        | (go_at_call 8; refine (AT.out _).mono ?_; rintro e w4 ⟨rfl, hb⟩; have KP5 := Lib.hid (keepB KP4.out hb); have HB5 := Lib.hid (HB4.out.trans (hb.mono HB4.out.size)); clear hb; clear p_0 p_1 p_2; have p_0 := KP5.out.cell 0; have p_1 := KP5.out.cell 1; have p_2 := KP5.out.cell 2; simp at p_0 p_1 p_2)
        | (go_at_call 9; refine (RMAY.out _).mono ?_; rintro e w5 ⟨rfl, hb⟩; have KP6 := Lib.hid (keepB KP5.out hb); have HB6 := Lib.hid (HB5.out.trans (hb.mono HB5.out.size)); clear hb; clear p_0 p_1 p_2; have p_0 := KP6.out.cell 0; have p_1 := KP6.out.cell 1; have p_2 := KP6.out.cell 2; simp at p_0 p_1 p_2)
        | (go_at_call 10; refine (awake6_any _).mono ?_; rintro e w6 ⟨rfl, hb6⟩))
      go_ret
      exact ⟨rfl, HB6.out.trans (hb6.mono HB6.out.size)⟩
theorem walk (a0 a1a a1b a1c a2a a2b : Int) (w : World) (w0 : (Lit.int .i64 a0).wf = true) (w1a : (Lit.int .i64 a1a).wf = true) (w1b : (Lit.int .i64 a1b).wf = true) (w1c : (Lit.int .i64 a1c).wf = true) (w2a : (Lit.int .i64 a2a).wf = true) (w2b : (Lit.int .i64 a2b).wf = true) :
    Calls Try.prog 3 #[.int .i64 a0, .agg #[.int .i64 a1a, .int .i64 a1b, .int .i64 a1c], .agg #[.int .i64 a2a, .int .i64 a2b]] w fun e w' => e = .returned (.bool true) ∧ Below w.heap.size w w' := by
  have hg := (Go.bounds_i64 w2a).2
  have hc := cases_all a1a a1b a1c a2a a2b
  rcases Int.lt_or_le a0 6 with h | h
  · exact walk_low a0 a1a a1b a1c a2a a2b w h hg hc
  · rcases Int.lt_or_le 1024 a0 with h2 | h2
    · exact walk_high a0 a1a a1b a1c a2a a2b w h2 hg hc
    · obtain ⟨k, rfl⟩ : ∃ k : Nat, a0 = k := ⟨a0.toNat, by omega⟩
      exact walk_in k a1a a1b a1c a2a a2b w (by omega) (by omega) hg hc
/-! the step from the walk to the row -/
set_option maxRecDepth 100000 in
theorem lifted (os : Os) (started : os.Started) (H : Type) (enc : TypeId × Value → H) :
    ReturnsInHanded {} Try.checked os 3 .any (Rows.plotMakesSpec.pre6 enc Try.prog Try.f3 Rows.plotMakesRow.domain false) (Rows.plotMakesSpec.post enc Try.prog Try.f3 false true false false) := by
  refine returnsInHanded_of_change (C := Try.checked) own started (by kernel_rfl) Try.func3
    (ChangeSpec.witness6 (enc := enc) (C := Try.checked) false ⟨#[], #[.int .i64 0, .agg #[.int .i64 0, .int .i64 0, .int .i64 0], .agg #[.int .i64 0, .int .i64 0]], []⟩ 8 (by kernel_rfl) (by kernel_rfl) (by kernel_rfl) (by kernel_rfl)) ?_
  intro W base args ds gs before hval0 hW hcnd _
  have hval : ∀ (j : Nat) t v, Try.f3.params[j]? = some t → args[j]? = some v → Value.okWide Try.prog W .any base t v := hval0
  have hW' := hW
  obtain ⟨p, q, hA0, hV, rfl, hfz, hnd⟩ := hW
  have hA : DataW.TrodAll enc Try.prog W 0 (fun _ => true) true Try.f3.params.toList args.toList ds p := hA0
  rw [Try.params3] at hA hval
  obtain ⟨v0, vs0, d0, ds0, p0, q0, hargs, rfl, rfl, h0, r0⟩ := trodAll_cons hA
  obtain ⟨v1, vs1, d1, ds1, p1, q1, rfl, rfl, rfl, h1, r1⟩ := trodAll_cons r0
  obtain ⟨v2, vs2, d2, ds2, p2, q2, rfl, rfl, rfl, h2, r2⟩ := trodAll_cons r1
  obtain ⟨rfl, rfl, rfl⟩ := trodAll_nil r2
  obtain rfl : args = #[v0, v1, v2] := by cases args; simp_all
  obtain ⟨rfl, rfl⟩ := trodVars_none hV
  obtain ⟨a0, rfl, rfl, rfl, w0⟩ := open_int Try.underlying3 (hval 0 3 v0 rfl rfl) h0
  have k1 := h1
  have lt1 : ∀ x ∈ p1, x.block < W.heap.size := by obtain ⟨m, hm⟩ := k1; exact DataW.trod_lt m _ _ _ hm
  obtain ⟨u1a, u1b, u1c, _, _, _, _, rfl, _, _, g1a, g1b, g1c⟩ := Go.Joins.open_agg3 Try.underlying23 (by kernel_rfl) (by kernel_rfl) (hval 1 23 v1 rfl rfl) h1
  obtain ⟨a1a, rfl, w1a⟩ := open_num_at Try.underlying3 g1a
  obtain ⟨a1b, rfl, w1b⟩ := open_num_at Try.underlying3 g1b
  obtain ⟨a1c, rfl, w1c⟩ := open_num_at Try.underlying3 g1c
  have k2 := h2
  have lt2 : ∀ x ∈ p2, x.block < W.heap.size := by obtain ⟨m, hm⟩ := k2; exact DataW.trod_lt m _ _ _ hm
  obtain ⟨a2a, a2b, rfl, w2a, w2b⟩ := open_arr2 Try.underlying24 Try.underlying3 (by kernel_rfl) (by kernel_rfl) (hval 2 24 v2 rfl rfl) h2
  clear hA0 hval0
  refine (walk a0 a1a a1b a1c a2a a2b W w0 w1a w1b w1c w2a w2b).mono fun e W' ⟨he, bel⟩ => ?_
  subst he
  exact ⟨_, rfl, _, _, _, [], _, [], hW', trodAll_mk1 (shut_bool Try.underlying4 _), (trodAll_cons_mk (shut_int Try.underlying3 w0) (trodAll_cons_mk (Below.trod laidOut (by kernel_rfl) (of_decide_eq_true (by kernel_rfl)) k1 bel lt1) (trodAll_cons_mk (Below.trod laidOut (by kernel_rfl) (of_decide_eq_true (by kernel_rfl)) k2 bel lt2) trodAll_mk0))), rfl, bel.frame _, fun h => by cases h⟩

theorem over : Rows.plotMakesRow.holds Try.pinned (OpenSpec.ofChange Rows.plotMakesSpec) :=
  OpenClaim.holds_of_wide 3 Try.f3 rfl rfl rfl rfl rfl rfl rfl ⟨rfl, rfl, rfl, rfl, rfl⟩ rfl rfl rfl rfl rfl (by kernel_rfl) Try.func3 (by kernel_rfl)
    (of_decide_eq_true (by kernel_rfl)) (by unfold Func.isWrapper; first | (rw [if_pos (by decide +kernel)]; kernel_rfl) | (rw [if_neg (by decide +kernel)]; exact ⟨rfl, rfl⟩))
    (fun os started H enc _ => lifted os started H enc)

/-- the statement -/
theorem proved : Rows.PlotMakesSaid := over
end Go.Proofs.Ythidcgjbefpeoaa.plotMakes
