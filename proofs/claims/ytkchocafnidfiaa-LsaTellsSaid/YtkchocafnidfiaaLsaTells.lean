/- LsaTells: for every two Lsas and every number the law returns true and its arguments read as before: which is newer, whether they are alike, what a link costs, and a copy, are as the document says. No condition. -/
import Derived.Test.YtkchocafnidfiaaLsaAwake
import Derived.Deep.RegionHeld3
import Derived.IntWalk
import Derived.WalkKit
import Derived.ProofKit
import Derived.OpenShut
import Derived.ShutString
import Derived.ChangeOld
import Derived.Below
namespace Go.Proofs.Ytkchocafnidfiaa.lsaTells
open Go.RowKit Go.Proofs.Ytkchocafnidfiaa.Mem Go.Proofs.Ytkchocafnidfiaa.Oct Go.Proofs.Ytkchocafnidfiaa.Lsa
set_option linter.unusedVariables false
set_option linter.unusedSimpArgs false
theorem undrew {B : Nat} {w w' : World} (h : Below B w.drew w') : Below B w w' := ⟨h.os, h.tape, h.output, h.size, h.block⟩
theorem step_low {wz w w' : World} (h : Below wz.heap.size wz w) (k : Below w.heap.size w w') : Below wz.heap.size wz w' := h.trans (k.mono h.size)
set_option maxHeartbeats 4000000 in
theorem walk_long (a0a a0b : Int) (a0c : Option Addr) (len0c cap0c : Nat) (a1a a1b : Int) (a1c : Option Addr) (len1c cap1c : Nat) (a2 : Int) (w : World) (h : 40 < len0c ∨ 40 < len1c) :
    Calls Try.prog 6 #[lsaV a0a a0b (.slice a0c len0c cap0c), lsaV a1a a1b (.slice a1c len1c cap1c), .int .i64 a2] w fun e w' => e = .returned (.bool true) ∧ Below w.heap.size w w' := by
  have hb := two_boxes w a0a a0b a1a a1b (.slice a0c len0c cap0c) (.slice a1c len1c cap1c)
  have HB := Lib.hid hb; clear hb
  have k0 := (Blk.new w 47 #[.int .i64 a0a, .int .i64 a0b, .slice a0c len0c cap0c]).alloc (.cells #[.int .i64 a1a, .int .i64 a1b, .slice a1c len1c cap1c] 47)
  have k1 : Blk ((w.alloc (.cells #[.int .i64 a0a, .int .i64 a0b, .slice a0c len0c cap0c] 47)).alloc (.cells #[.int .i64 a1a, .int .i64 a1b, .slice a1c len1c cap1c] 47)) (w.heap.size + 1) 47 #[.int .i64 a1a, .int .i64 a1b, .slice a1c len1c cap1c] := by
    have := Blk.new (w.alloc (.cells #[.int .i64 a0a, .int .i64 a0b, .slice a0c len0c cap0c] 47)) 47 #[.int .i64 a1a, .int .i64 a1b, .slice a1c len1c cap1c]
    simpa using this
  have K1 := Lib.hid k1; clear k1 k0
  by_cases h0 : 40 < len0c
  · have hd : decide ((len0c : Int) ≤ 40) = false := by simp; omega
    go_enter Try.func6, Try.ntmps6
    go_wp2_with (first
      | (go_at_call 19; refine (light_any _ _ _ _ _ _ false hd).mono ?_; rintro e w3 ⟨rfl, hb⟩; have HB3 := Lib.hid (step_low HB.out hb); clear hb)
      | (go_at_call 20; refine (awake_any _).mono ?_; rintro e w4 ⟨rfl, hb⟩; have HB4 := Lib.hid (step_low HB3.out hb); clear hb))
    go_ret
    exact ⟨rfl, HB4.out⟩
  · have h1 : 40 < len1c := by omega
    have hd : decide ((len0c : Int) ≤ 40) = true := by simp; omega
    have hd1 : decide ((len1c : Int) ≤ 40) = false := by simp; omega
    go_enter Try.func6, Try.ntmps6
    go_wp2_with (first
      | (have HM := HB; go_at_call 19; refine (light_any _ _ _ _ _ _ true hd).mono ?_; rintro e w3 ⟨rfl, hb⟩; have HB3 := Lib.hid (step_low HB.out hb); have k3 := K1.out.below hb K1.out.lt; obtain ⟨x0, x1, x2, x3⟩ := blk_cells3 k3; clear hb k3 HM HB)
      | (go_at_call 19; refine (light_any _ _ _ _ _ _ false hd1).mono ?_; rintro e w4 ⟨rfl, hb⟩; have HB4 := Lib.hid (step_low HB3.out hb); clear hb)
      | (go_at_call 20; refine (awake_any _).mono ?_; rintro e w5 ⟨rfl, hb⟩; have HB5 := Lib.hid (step_low HB4.out hb); clear hb))
    go_ret
    exact ⟨rfl, HB5.out⟩
set_option maxRecDepth 20000 in
set_option maxHeartbeats 32000000 in
theorem walk_short (a0a a0b : Int) (a0c : Option Addr) (len0c cap0c : Nat) (a1a a1b : Int) (a1c : Option Addr) (len1c cap1c : Nat) (a2 : Int) (w : World) (ls0 ls1 : List Lk) (h0 : len0c ≤ 40) (h1 : len1c ≤ 40) (l0 : Lks w w.heap.size (.slice a0c len0c cap0c) ls0) (l1 : Lks w w.heap.size (.slice a1c len1c cap1c) ls1) :
    Calls Try.prog 6 #[lsaV a0a a0b (.slice a0c len0c cap0c), lsaV a1a a1b (.slice a1c len1c cap1c), .int .i64 a2] w fun e w' => e = .returned (.bool true) ∧ Below w.heap.size w w' := by
  have hb := two_boxes w a0a a0b a1a a1b (.slice a0c len0c cap0c) (.slice a1c len1c cap1c)
  have k0 := (Blk.new w 47 #[.int .i64 a0a, .int .i64 a0b, .slice a0c len0c cap0c]).alloc (.cells #[.int .i64 a1a, .int .i64 a1b, .slice a1c len1c cap1c] 47)
  have k1 : Blk ((w.alloc (.cells #[.int .i64 a0a, .int .i64 a0b, .slice a0c len0c cap0c] 47)).alloc (.cells #[.int .i64 a1a, .int .i64 a1b, .slice a1c len1c cap1c] 47)) (w.heap.size + 1) 47 #[.int .i64 a1a, .int .i64 a1b, .slice a1c len1c cap1c] := by
    have := Blk.new (w.alloc (.cells #[.int .i64 a0a, .int .i64 a0b, .slice a0c len0c cap0c] 47)) 47 #[.int .i64 a1a, .int .i64 a1b, .slice a1c len1c cap1c]
    simpa using this
  have hn0 : ls0.length = len0c := (lks_len l0).1
  have cp := fun (W : World) (hW : Below w.heap.size w W) => copy_any a0a a0b (.slice a0c len0c cap0c) ls0 W (by omega) ((l0.below hW (Nat.le_refl _)).more hW.size)
  have LA := Lib.hid (fun (W : World) (hW : Below w.heap.size w W) => ((l0.below hW (Nat.le_refl _)).more hW.size : Lks W W.heap.size _ _))
  have LB := Lib.hid (fun (W : World) (hW : Below w.heap.size w W) => ((l1.below hW (Nat.le_refl _)).more hW.size : Lks W W.heap.size _ _))
  have CP := Lib.hid cp; clear cp l0 l1 hn0
  have HB := Lib.hid hb; clear hb
  have K0 := Lib.hid k0; clear k0
  have K1 := Lib.hid k1; clear k1
  have hd : decide ((len0c : Int) ≤ 40) = true := by simp; omega
  have hd1 : decide ((len1c : Int) ≤ 40) = true := by simp; omega
  have nw := fun (W : World) => newer_any a0a a0b a1a a1b (.slice a0c len0c cap0c) (.slice a1c len1c cap1c) W
  have ls := fun (W : World) (hW : Below w.heap.size w W) => lsame_any a0a a0b a1a a1b (.slice a0c len0c cap0c) (.slice a1c len1c cap1c) ls0 ls1 W (LA.out W hW) (LB.out W hW)
  have rs := fun (W : World) (hW : Below w.heap.size w W) => rsame_lsa a0a a0b a1a a1b (.slice a0c len0c cap0c) (.slice a1c len1c cap1c) ls0 ls1 W (LA.out W hW) (LB.out W hW)
  have lc := fun (W : World) (hW : Below w.heap.size w W) => cost_any a0a a0b a2 (.slice a0c len0c cap0c) ls0 W (LA.out W hW)
  have rc := fun (W : World) (hW : Below w.heap.size w W) => rcost_any a0a a0b a2 (.slice a0c len0c cap0c) ls0 W (LA.out W hW)
  have rs2 := fun (v : Value) (W : World) (hW : Below w.heap.size w W) (hv : Lks W W.heap.size v ls0) => rsame_lsa a0a a0b a0a a0b (.slice a0c len0c cap0c) v ls0 ls0 W (LA.out W hW) hv
  have ls2 := fun (v : Value) (W : World) (hW : Below w.heap.size w W) (hv : Lks W W.heap.size v ls0) => lsame_any a0a a0b a0a a0b (.slice a0c len0c cap0c) v ls0 ls0 W (LA.out W hW) hv
  rw [sameB_self] at rs2 ls2
  generalize costOf a2 ls0 = co at *
  generalize sameB a0a a0b ls0 a1a a1b ls1 = sb at *
  have hcc : (co == co) = true := by simp
  unfold newerB at nw
  have LC := Lib.hid lc; clear lc
  have RC := Lib.hid rc; clear rc
  have RS2 := Lib.hid rs2; clear rs2
  have LS2 := Lib.hid ls2; clear ls2
  have HSB := Lib.hid ls; clear ls
  have RSB := Lib.hid rs; clear rs
  obtain ⟨nb, hnb⟩ : ∃ nb, nb = (a0a == a1a && decide (a1b < a0b)) := ⟨_, rfl⟩
  rw [← hnb] at nw
  have NW := Lib.hid nw; clear nw
  have step : ∀ (q : Bool) (r : Bool), (a0a == a1a) = q → decide (a1b < a0b) = r → nb = (q && r) := fun q r h1 h2 => by rw [hnb, h1, h2]
  clear hnb
  have STEP := Lib.hid step; clear step
  cases q : (a0a == a1a)
  · have hq := STEP.out false _ q rfl
    rw [Bool.false_and] at hq
    subst hq
    clear STEP
    have hsb : (sb == sb) = true := by simp
    as_aux_lemma =>
      go_enter Try.func6, Try.ntmps6
      go_wp2_with (first
        | (have HM := HB; go_at_call 19; refine (light_any _ _ _ _ _ _ true hd).mono ?_; rintro e w3 ⟨rfl, hb⟩; have HB3 := Lib.hid (step_low HB.out hb); have K03 := Lib.hid (K0.out.below hb K0.out.lt); have K13 := Lib.hid (K1.out.below hb K1.out.lt); obtain ⟨x0, x1, x2, x3⟩ := blk_cells3 K13.out; clear hb HM HB)
        | (go_at_call 19; refine (light_any _ _ _ _ _ _ true hd1).mono ?_; rintro e w4 ⟨rfl, hb⟩; have HB4 := Lib.hid (step_low HB3.out hb); have K04 := Lib.hid (K03.out.below hb K03.out.lt); have K14 := Lib.hid (K13.out.below hb K13.out.lt); obtain ⟨y0, y1, y2, y3⟩ := blk_cells3 K04.out; clear hb)
        | (go_at_call 31; refine (CP.out _ HB4.out).mono ?_; rintro e w5 ⟨v5, rfl, hl5, hb⟩; obtain ⟨A5, n5, c5, rfl, _⟩ := id hl5; have HB5 := Lib.hid (step_low HB4.out hb); have K05 := Lib.hid (K04.out.below hb K04.out.lt); have K15 := Lib.hid (K14.out.below hb K14.out.lt); have HL5 := Lib.hid hl5; have hl5n := (lks_len hl5).1; have HN5 := Lib.hid hl5n; obtain ⟨z0, z1, z2, z3⟩ := blk_cells3 K05.out; obtain ⟨q0, q1, q2, q3⟩ := blk_cells3 K15.out; clear hb hl5 hl5n))
      have hbz := up1 HB5.out (.cells #[.int .i64 a0a, .int .i64 a0b, .slice A5 n5 c5] 47)
      have k0z := K05.out.alloc (.cells #[.int .i64 a0a, .int .i64 a0b, .slice A5 n5 c5] 47)
      have k1z := K15.out.alloc (.cells #[.int .i64 a0a, .int .i64 a0b, .slice A5 n5 c5] 47)
      have k2z := Blk.new w5 47 #[.int .i64 a0a, .int .i64 a0b, .slice A5 n5 c5]
      have l2z := (HL5.out.below ((Below.refl w5.heap.size w5).alloc (Nat.le_refl _) (.cells #[.int .i64 a0a, .int .i64 a0b, .slice A5 n5 c5] 47)) (Nat.le_refl _)).more (show w5.heap.size ≤ (w5.alloc (.cells #[.int .i64 a0a, .int .i64 a0b, .slice A5 n5 c5] 47)).heap.size by simp)
      obtain ⟨wz, hwz⟩ : ∃ wz, wz = w5.alloc (.cells #[.int .i64 a0a, .int .i64 a0b, .slice A5 n5 c5] 47) := ⟨_, rfl⟩
      rewrite [← hwz] at hbz k0z k1z k2z l2z
      rewrite [← hwz]
      clear hwz
      have hs : ∀ W : World, Below wz.heap.size wz W → (W.cell? ⟨w.heap.size, 0, none⟩ = some (.int .i64 a0a) ∧ W.cell? ⟨w.heap.size, 1, none⟩ = some (.int .i64 a0b) ∧ W.cell? ⟨w.heap.size, 2, none⟩ = some (.slice a0c len0c cap0c) ∧ W.cell? ⟨w.heap.size + 1, 0, none⟩ = some (.int .i64 a1a) ∧ W.cell? ⟨w.heap.size + 1, 1, none⟩ = some (.int .i64 a1b) ∧ W.cell? ⟨w.heap.size + 1, 2, none⟩ = some (.slice a1c len1c cap1c) ∧ W.cell? ⟨w5.heap.size, 0, none⟩ = some (.int .i64 a0a) ∧ W.cell? ⟨w5.heap.size, 1, none⟩ = some (.int .i64 a0b) ∧ W.cell? ⟨w5.heap.size, 2, none⟩ = some (.slice A5 n5 c5)) := fun W hW => by
        obtain ⟨r0, r1, r2, _⟩ := blk_cells3 (k0z.below hW k0z.lt)
        obtain ⟨r3, r4, r5, _⟩ := blk_cells3 (k1z.below hW k1z.lt)
        obtain ⟨r6, r7, r8, _⟩ := blk_cells3 (k2z.below hW k2z.lt)
        exact ⟨r0, r1, r2, r3, r4, r5, r6, r7, r8⟩
      have LZ := Lib.hid (fun (W : World) (hW : Below wz.heap.size wz W) => ((l2z.below hW (Nat.le_refl _)).more hW.size : Lks W W.heap.size _ _))
      have HS := Lib.hid hs; clear hs k0z k1z k2z l2z
      have HBZ := Lib.hid hbz; clear hbz
      have HW0 := Lib.hid (Below.refl wz.heap.size wz)
      clear x0 x1 x2 x3 y0 y1 y2 y3 z0 z1 z2 z3 q0 q1 q2 q3
      go_region_held3 (fun W => W.cell? ⟨w.heap.size, 0, none⟩ = some (.int .i64 a0a) ∧ W.cell? ⟨w.heap.size, 1, none⟩ = some (.int .i64 a0b) ∧ W.cell? ⟨w.heap.size, 2, none⟩ = some (.slice a0c len0c cap0c) ∧ W.cell? ⟨w.heap.size + 1, 0, none⟩ = some (.int .i64 a1a) ∧ W.cell? ⟨w.heap.size + 1, 1, none⟩ = some (.int .i64 a1b) ∧ W.cell? ⟨w.heap.size + 1, 2, none⟩ = some (.slice a1c len1c cap1c) ∧ W.cell? ⟨w5.heap.size, 0, none⟩ = some (.int .i64 a0a) ∧ W.cell? ⟨w5.heap.size, 1, none⟩ = some (.int .i64 a0b) ∧ W.cell? ⟨w5.heap.size, 2, none⟩ = some (.slice A5 n5 c5))
        (first
          | with_reducible exact HS.out _ (Below.drew HW0.out)
          | with_reducible exact HS.out _ HW1.out
          | with_reducible exact HS.out _ HW2.out
          | with_reducible exact HS.out _ HW3.out
          | with_reducible exact HS.out _ HW4.out
          | with_reducible exact HS.out _ HW5.out
          | with_reducible exact HS.out _ HW6.out
          | with_reducible exact HS.out _ HW7.out
          | with_reducible exact HS.out _ HW8.out)
        (first
          | (have HM0 := HW0; go_at_call 32; refine (NW.out _).mono ?_; rintro e w11 ⟨rfl, hb⟩; have HW1 := Lib.hid (step_low HW0.out (undrew hb)); clear hb HM0 HW0)
          | (have HM1 := HW1; go_at_call 33; refine (HSB.out _ (step_low HBZ.out HW1.out)).mono ?_; rintro e w12 ⟨rfl, hb⟩; have HW2 := Lib.hid (step_low HW1.out hb); clear hb HM1 HW1)
          | (have HM2 := HW2; go_at_call 28; refine (RSB.out _ (step_low HBZ.out HW2.out)).mono ?_; rintro e w13 ⟨rfl, hb⟩; have HW3 := Lib.hid (step_low HW2.out hb); clear hb HM2 HW2)
          | (have HM3 := HW3; go_at_call 34; refine (LC.out _ (step_low HBZ.out HW3.out)).mono ?_; rintro e w14 ⟨rfl, hb⟩; have HW4 := Lib.hid (step_low HW3.out hb); clear hb HM3 HW3)
          | (have HM4 := HW4; go_at_call 35; refine (RC.out _ (step_low HBZ.out HW4.out)).mono ?_; rintro e w15 ⟨rfl, hb⟩; have HW5 := Lib.hid (step_low HW4.out hb); clear hb HM4 HW4)
          | (have HM5 := HW5; go_at_call 28; refine (RS2.out _ _ (step_low HBZ.out HW5.out) (LZ.out _ HW5.out)).mono ?_; rintro e w16 ⟨rfl, hb⟩; have HW6 := Lib.hid (step_low HW5.out hb); clear hb HM5 HW5)
          | (have HM6 := HW6; go_at_call 33; refine (LS2.out _ _ (step_low HBZ.out HW6.out) (LZ.out _ HW6.out)).mono ?_; rintro e w17 ⟨rfl, hb⟩; have HW7 := Lib.hid (step_low HW6.out hb); clear hb HM6 HW6)
          | (have HM7 := HW7; go_at_call 20; refine (awake_any _).mono ?_; rintro e w18 ⟨rfl, hb⟩; have HW8 := Lib.hid (step_low HW7.out hb); clear hb HM7 HW7))
      go_wp2
      go_ret
      exact ⟨rfl, step_low HBZ.out HW8.out⟩
  · cases r : decide (a1b < a0b)
    all_goals
      have hq := STEP.out true _ q r
      simp only [Bool.true_and] at hq
      subst hq
      clear STEP
      have hsb : (sb == sb) = true := by simp
      as_aux_lemma =>
        go_enter Try.func6, Try.ntmps6
        go_wp2_with (first
          | (have HM := HB; go_at_call 19; refine (light_any _ _ _ _ _ _ true hd).mono ?_; rintro e w3 ⟨rfl, hb⟩; have HB3 := Lib.hid (step_low HB.out hb); have K03 := Lib.hid (K0.out.below hb K0.out.lt); have K13 := Lib.hid (K1.out.below hb K1.out.lt); obtain ⟨x0, x1, x2, x3⟩ := blk_cells3 K13.out; clear hb HM HB)
          | (go_at_call 19; refine (light_any _ _ _ _ _ _ true hd1).mono ?_; rintro e w4 ⟨rfl, hb⟩; have HB4 := Lib.hid (step_low HB3.out hb); have K04 := Lib.hid (K03.out.below hb K03.out.lt); have K14 := Lib.hid (K13.out.below hb K13.out.lt); obtain ⟨y0, y1, y2, y3⟩ := blk_cells3 K04.out; clear hb)
          | (go_at_call 31; refine (CP.out _ HB4.out).mono ?_; rintro e w5 ⟨v5, rfl, hl5, hb⟩; obtain ⟨A5, n5, c5, rfl, _⟩ := id hl5; have HB5 := Lib.hid (step_low HB4.out hb); have K05 := Lib.hid (K04.out.below hb K04.out.lt); have K15 := Lib.hid (K14.out.below hb K14.out.lt); have HL5 := Lib.hid hl5; have hl5n := (lks_len hl5).1; have HN5 := Lib.hid hl5n; obtain ⟨z0, z1, z2, z3⟩ := blk_cells3 K05.out; obtain ⟨q0, q1, q2, q3⟩ := blk_cells3 K15.out; clear hb hl5 hl5n))
        have hbz := up1 HB5.out (.cells #[.int .i64 a0a, .int .i64 a0b, .slice A5 n5 c5] 47)
        have k0z := K05.out.alloc (.cells #[.int .i64 a0a, .int .i64 a0b, .slice A5 n5 c5] 47)
        have k1z := K15.out.alloc (.cells #[.int .i64 a0a, .int .i64 a0b, .slice A5 n5 c5] 47)
        have k2z := Blk.new w5 47 #[.int .i64 a0a, .int .i64 a0b, .slice A5 n5 c5]
        have l2z := (HL5.out.below ((Below.refl w5.heap.size w5).alloc (Nat.le_refl _) (.cells #[.int .i64 a0a, .int .i64 a0b, .slice A5 n5 c5] 47)) (Nat.le_refl _)).more (show w5.heap.size ≤ (w5.alloc (.cells #[.int .i64 a0a, .int .i64 a0b, .slice A5 n5 c5] 47)).heap.size by simp)
        obtain ⟨wz, hwz⟩ : ∃ wz, wz = w5.alloc (.cells #[.int .i64 a0a, .int .i64 a0b, .slice A5 n5 c5] 47) := ⟨_, rfl⟩
        rewrite [← hwz] at hbz k0z k1z k2z l2z
        rewrite [← hwz]
        clear hwz
        have hs : ∀ W : World, Below wz.heap.size wz W → (W.cell? ⟨w.heap.size, 0, none⟩ = some (.int .i64 a0a) ∧ W.cell? ⟨w.heap.size, 1, none⟩ = some (.int .i64 a0b) ∧ W.cell? ⟨w.heap.size, 2, none⟩ = some (.slice a0c len0c cap0c) ∧ W.cell? ⟨w.heap.size + 1, 0, none⟩ = some (.int .i64 a1a) ∧ W.cell? ⟨w.heap.size + 1, 1, none⟩ = some (.int .i64 a1b) ∧ W.cell? ⟨w.heap.size + 1, 2, none⟩ = some (.slice a1c len1c cap1c) ∧ W.cell? ⟨w5.heap.size, 0, none⟩ = some (.int .i64 a0a) ∧ W.cell? ⟨w5.heap.size, 1, none⟩ = some (.int .i64 a0b) ∧ W.cell? ⟨w5.heap.size, 2, none⟩ = some (.slice A5 n5 c5)) := fun W hW => by
          obtain ⟨r0, r1, r2, _⟩ := blk_cells3 (k0z.below hW k0z.lt)
          obtain ⟨r3, r4, r5, _⟩ := blk_cells3 (k1z.below hW k1z.lt)
          obtain ⟨r6, r7, r8, _⟩ := blk_cells3 (k2z.below hW k2z.lt)
          exact ⟨r0, r1, r2, r3, r4, r5, r6, r7, r8⟩
        have LZ := Lib.hid (fun (W : World) (hW : Below wz.heap.size wz W) => ((l2z.below hW (Nat.le_refl _)).more hW.size : Lks W W.heap.size _ _))
        have HS := Lib.hid hs; clear hs k0z k1z k2z l2z
        have HBZ := Lib.hid hbz; clear hbz
        have HW0 := Lib.hid (Below.refl wz.heap.size wz)
        clear x0 x1 x2 x3 y0 y1 y2 y3 z0 z1 z2 z3 q0 q1 q2 q3
        go_region_held3 (fun W => W.cell? ⟨w.heap.size, 0, none⟩ = some (.int .i64 a0a) ∧ W.cell? ⟨w.heap.size, 1, none⟩ = some (.int .i64 a0b) ∧ W.cell? ⟨w.heap.size, 2, none⟩ = some (.slice a0c len0c cap0c) ∧ W.cell? ⟨w.heap.size + 1, 0, none⟩ = some (.int .i64 a1a) ∧ W.cell? ⟨w.heap.size + 1, 1, none⟩ = some (.int .i64 a1b) ∧ W.cell? ⟨w.heap.size + 1, 2, none⟩ = some (.slice a1c len1c cap1c) ∧ W.cell? ⟨w5.heap.size, 0, none⟩ = some (.int .i64 a0a) ∧ W.cell? ⟨w5.heap.size, 1, none⟩ = some (.int .i64 a0b) ∧ W.cell? ⟨w5.heap.size, 2, none⟩ = some (.slice A5 n5 c5))
          (first
            | with_reducible exact HS.out _ (Below.drew HW0.out)
            | with_reducible exact HS.out _ HW1.out
            | with_reducible exact HS.out _ HW2.out
            | with_reducible exact HS.out _ HW3.out
            | with_reducible exact HS.out _ HW4.out
            | with_reducible exact HS.out _ HW5.out
            | with_reducible exact HS.out _ HW6.out
            | with_reducible exact HS.out _ HW7.out
            | with_reducible exact HS.out _ HW8.out)
          (first
            | (have HM0 := HW0; go_at_call 32; refine (NW.out _).mono ?_; rintro e w11 ⟨rfl, hb⟩; have HW1 := Lib.hid (step_low HW0.out (undrew hb)); clear hb HM0 HW0)
            | (have HM1 := HW1; go_at_call 33; refine (HSB.out _ (step_low HBZ.out HW1.out)).mono ?_; rintro e w12 ⟨rfl, hb⟩; have HW2 := Lib.hid (step_low HW1.out hb); clear hb HM1 HW1)
            | (have HM2 := HW2; go_at_call 28; refine (RSB.out _ (step_low HBZ.out HW2.out)).mono ?_; rintro e w13 ⟨rfl, hb⟩; have HW3 := Lib.hid (step_low HW2.out hb); clear hb HM2 HW2)
            | (have HM3 := HW3; go_at_call 34; refine (LC.out _ (step_low HBZ.out HW3.out)).mono ?_; rintro e w14 ⟨rfl, hb⟩; have HW4 := Lib.hid (step_low HW3.out hb); clear hb HM3 HW3)
            | (have HM4 := HW4; go_at_call 35; refine (RC.out _ (step_low HBZ.out HW4.out)).mono ?_; rintro e w15 ⟨rfl, hb⟩; have HW5 := Lib.hid (step_low HW4.out hb); clear hb HM4 HW4)
            | (have HM5 := HW5; go_at_call 28; refine (RS2.out _ _ (step_low HBZ.out HW5.out) (LZ.out _ HW5.out)).mono ?_; rintro e w16 ⟨rfl, hb⟩; have HW6 := Lib.hid (step_low HW5.out hb); clear hb HM5 HW5)
            | (have HM6 := HW6; go_at_call 33; refine (LS2.out _ _ (step_low HBZ.out HW6.out) (LZ.out _ HW6.out)).mono ?_; rintro e w17 ⟨rfl, hb⟩; have HW7 := Lib.hid (step_low HW6.out hb); clear hb HM6 HW6)
            | (have HM7 := HW7; go_at_call 20; refine (awake_any _).mono ?_; rintro e w18 ⟨rfl, hb⟩; have HW8 := Lib.hid (step_low HW7.out hb); clear hb HM7 HW7))
        go_wp2
        go_ret
        exact ⟨rfl, step_low HBZ.out HW8.out⟩
theorem walk (a0a a0b : Int) (a0c : Option Addr) (len0c cap0c : Nat) (a1a a1b : Int) (a1c : Option Addr) (len1c cap1c : Nat) (a2 : Int) (w : World) (w0a : (Lit.int .i64 a0a).wf = true) (w0b : (Lit.int .i64 a0b).wf = true) (w0c : IsRecs w a0c len0c cap0c 2 (fun _ v => NumOf .i64 v)) (w1a : (Lit.int .i64 a1a).wf = true) (w1b : (Lit.int .i64 a1b).wf = true) (w1c : IsRecs w a1c len1c cap1c 2 (fun _ v => NumOf .i64 v)) (w2 : (Lit.int .i64 a2).wf = true) :
    Calls Try.prog 6 #[lsaV a0a a0b (.slice a0c len0c cap0c), lsaV a1a a1b (.slice a1c len1c cap1c), .int .i64 a2] w fun e w' => e = .returned (.bool true) ∧ Below w.heap.size w w' := by
  by_cases h : 40 < len0c ∨ 40 < len1c
  · exact walk_long a0a a0b a0c len0c cap0c a1a a1b a1c len1c cap1c a2 w h
  · obtain ⟨ls0, l0⟩ := lks_in w0c
    obtain ⟨ls1, l1⟩ := lks_in w1c
    exact walk_short a0a a0b a0c len0c cap0c a1a a1b a1c len1c cap1c a2 w ls0 ls1 (by omega) (by omega) l0 l1
open Go.ChangeShapes Go.WideShapes Go.ChangeAt Go.RowKit
theorem own : ownKnob Try.prog.godebug = none := by kernel_rfl
theorem laidOut : laidOutB Try.prog = true := by kernel_rfl
/-! the step from the walk to the row -/
set_option maxRecDepth 100000 in
theorem lifted (os : Os) (started : os.Started) (H : Type) (enc : TypeId × Value → H) :
    ReturnsInHanded {} Try.checked os 6 .any (Rows.lsaTellsSpec.pre6 enc Try.prog Try.f6 Rows.lsaTellsRow.domain false) (Rows.lsaTellsSpec.post enc Try.prog Try.f6 false true false false) := by
  refine returnsInHanded_of_change (C := Try.checked) own started (by kernel_rfl) Try.func6
    (ChangeSpec.witness6 (enc := enc) (C := Try.checked) false ⟨#[], #[.agg #[.int .i64 0, .int .i64 0, .slice none 0 0], .agg #[.int .i64 0, .int .i64 0, .slice none 0 0], .int .i64 0], []⟩ 8 (by kernel_rfl) (by kernel_rfl) (by kernel_rfl) (by kernel_rfl)) ?_
  intro W base args ds gs before hval0 hW hcnd _
  have hval : ∀ (j : Nat) t v, Try.f6.params[j]? = some t → args[j]? = some v → Value.okWide Try.prog W .any base t v := hval0
  have hW' := hW
  obtain ⟨p, q, hA0, hV, rfl, hfz, hnd⟩ := hW
  have hA : DataW.TrodAll enc Try.prog W 0 (fun _ => true) true Try.f6.params.toList args.toList ds p := hA0
  rw [Try.params6] at hA hval
  obtain ⟨v0, vs0, d0, ds0, p0, q0, hargs, rfl, rfl, h0, r0⟩ := trodAll_cons hA
  obtain ⟨v1, vs1, d1, ds1, p1, q1, rfl, rfl, rfl, h1, r1⟩ := trodAll_cons r0
  obtain ⟨v2, vs2, d2, ds2, p2, q2, rfl, rfl, rfl, h2, r2⟩ := trodAll_cons r1
  obtain ⟨rfl, rfl, rfl⟩ := trodAll_nil r2
  obtain rfl : args = #[v0, v1, v2] := by cases args; simp_all
  obtain ⟨rfl, rfl⟩ := trodVars_none hV
  have k0 := h0
  have lt0 : ∀ x ∈ p0, x.block < W.heap.size := by obtain ⟨m, hm⟩ := k0; exact DataW.trod_lt m _ _ _ hm
  obtain ⟨u0a, u0b, u0c, _, _, _, _, rfl, _, _, g0a, g0b, g0c⟩ := Go.Joins.open_agg3 Try.underlying47 (by kernel_rfl) (by kernel_rfl) (hval 0 47 v0 rfl rfl) h0
  obtain ⟨a0a, rfl, w0a⟩ := open_num_at Try.underlying3 g0a
  obtain ⟨a0b, rfl, w0b⟩ := open_num_at Try.underlying3 g0b
  obtain ⟨a0c, len0c, cap0c, rfl, w0c⟩ : ∃ a l c, u0c = .slice a l c ∧ IsRecs W a l c 2 (fun _ v => NumOf .i64 v) := by
    rcases open_slice_fields Try.underlying45 Try.underlying94 (by kernel_rfl) (by kernel_rfl) g0c with ⟨hcs, _⟩ | ⟨x, l, c, m, D, Pl, hcs, _, hl, hm, hmm, _, hh⟩
    · injection hcs with hcs _
      exact ⟨none, 0, 0, hcs, .inl ⟨rfl, rfl, rfl⟩⟩
    · injection hcs with hcs _
      refine ⟨some x, l, c, hcs, .inr ⟨_, rfl, hl, hm, fun i hi j hj => ?_⟩⟩
      obtain ⟨ys, n, _, _, _, hg⟩ := hh i (by rw [hmm, if_pos rfl]; exact hi)
      match j, hj with
      | 0, _ =>
        obtain ⟨v, y, hc, _, ht⟩ := hg 0 _ rfl
        exact ⟨v, hc, open_num_at Try.underlying3 ht⟩
      | 1, _ =>
        obtain ⟨v, y, hc, _, ht⟩ := hg 1 _ rfl
        exact ⟨v, hc, open_num_at Try.underlying3 ht⟩
  have k1 := h1
  have lt1 : ∀ x ∈ p1, x.block < W.heap.size := by obtain ⟨m, hm⟩ := k1; exact DataW.trod_lt m _ _ _ hm
  obtain ⟨u1a, u1b, u1c, _, _, _, _, rfl, _, _, g1a, g1b, g1c⟩ := Go.Joins.open_agg3 Try.underlying47 (by kernel_rfl) (by kernel_rfl) (hval 1 47 v1 rfl rfl) h1
  obtain ⟨a1a, rfl, w1a⟩ := open_num_at Try.underlying3 g1a
  obtain ⟨a1b, rfl, w1b⟩ := open_num_at Try.underlying3 g1b
  obtain ⟨a1c, len1c, cap1c, rfl, w1c⟩ : ∃ a l c, u1c = .slice a l c ∧ IsRecs W a l c 2 (fun _ v => NumOf .i64 v) := by
    rcases open_slice_fields Try.underlying45 Try.underlying94 (by kernel_rfl) (by kernel_rfl) g1c with ⟨hcs, _⟩ | ⟨x, l, c, m, D, Pl, hcs, _, hl, hm, hmm, _, hh⟩
    · injection hcs with hcs _
      exact ⟨none, 0, 0, hcs, .inl ⟨rfl, rfl, rfl⟩⟩
    · injection hcs with hcs _
      refine ⟨some x, l, c, hcs, .inr ⟨_, rfl, hl, hm, fun i hi j hj => ?_⟩⟩
      obtain ⟨ys, n, _, _, _, hg⟩ := hh i (by rw [hmm, if_pos rfl]; exact hi)
      match j, hj with
      | 0, _ =>
        obtain ⟨v, y, hc, _, ht⟩ := hg 0 _ rfl
        exact ⟨v, hc, open_num_at Try.underlying3 ht⟩
      | 1, _ =>
        obtain ⟨v, y, hc, _, ht⟩ := hg 1 _ rfl
        exact ⟨v, hc, open_num_at Try.underlying3 ht⟩
  obtain ⟨a2, rfl, rfl, rfl, w2⟩ := open_int Try.underlying3 (hval 2 3 v2 rfl rfl) h2
  clear hA0 hval0
  refine (walk a0a a0b a0c len0c cap0c a1a a1b a1c len1c cap1c a2 W w0a w0b w0c w1a w1b w1c w2).mono fun e W' ⟨he, bel⟩ => ?_
  subst he
  exact ⟨_, rfl, _, _, _, [], _, [], hW', trodAll_mk1 (shut_bool Try.underlying4 _), (trodAll_cons_mk (Below.trod laidOut (by kernel_rfl) (of_decide_eq_true (by kernel_rfl)) k0 bel lt0) (trodAll_cons_mk (Below.trod laidOut (by kernel_rfl) (of_decide_eq_true (by kernel_rfl)) k1 bel lt1) (trodAll_cons_mk (shut_int Try.underlying3 w2) trodAll_mk0))), rfl, bel.frame _, fun h => by cases h⟩

theorem over : Rows.lsaTellsRow.holds Try.pinned (OpenSpec.ofChange Rows.lsaTellsSpec) :=
  OpenClaim.holds_of_wide 6 Try.f6 rfl rfl rfl rfl rfl rfl rfl ⟨rfl, rfl, rfl, rfl, rfl⟩ rfl rfl rfl rfl rfl (by kernel_rfl) Try.func6 (by kernel_rfl)
    (of_decide_eq_true (by kernel_rfl)) (by unfold Func.isWrapper; first | (rw [if_pos (by decide +kernel)]; kernel_rfl) | (rw [if_neg (by decide +kernel)]; exact ⟨rfl, rfl⟩))
    (fun os started H enc _ => lifted os started H enc)

/-- the statement -/
theorem proved : Rows.LsaTellsSaid := over
end Go.Proofs.Ytkchocafnidfiaa.lsaTells
