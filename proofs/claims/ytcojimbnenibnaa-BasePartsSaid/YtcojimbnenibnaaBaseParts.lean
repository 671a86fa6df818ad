/- BaseParts: for every state, every changes and every number the law returns true and its arguments read as before: changes done in two parts are as done in one. No condition. -/
import Derived.Test.YtcojimbnenibnaaBasAwake
import Derived.Test.YtcojimbnenibnaaBasRefSame
import Derived.Test.YtcojimbnenibnaaBasIn
import Derived.Test.YtcojimbnenibnaaChgCut
import Derived.IntWalk
import Derived.WalkKit
import Derived.ProofKit
import Derived.OpenShut
import Derived.ShutString
import Derived.ChangeOld
import Derived.Below
import Derived.Deep.RegionHeld3
import Derived.Deep.RegionLaw
import Derived.Deep.Cut
namespace Go.Proofs.Ytcojimbnenibnaa.baseParts
open Go.RowKit Go.Proofs.Ytcojimbnenibnaa.Mem Go.Proofs.Ytcojimbnenibnaa.Oct Go.Proofs.Ytcojimbnenibnaa.Lsa Go.Proofs.Ytcojimbnenibnaa.Chg Go.Proofs.Ytcojimbnenibnaa.Bas
set_option linter.unusedVariables false
set_option linter.unusedSimpArgs false
theorem parts_yes {s t : Sta} {l : List Ch} (k : Nat) (h : applyS s l = (t, 0)) : ∃ u, applyS s (l.take k) = (u, 0) ∧ applyS u (l.drop k) = (t, 0) := apply_parts (by rw [List.take_append_drop]; exact h)
theorem parts_no {s u : Sta} {l : List Ch} (k : Nat) (h : (applyS s l).2 ≠ 0) (hu : applyS s (l.take k) = (u, 0)) : (applyS u (l.drop k)).2 ≠ 0 := apply_parts_no (l := l.take k) (m := l.drop k) (by rw [List.take_append_drop]; exact h) hu
theorem lightB_len {l : List Ch} (h : lightB l = true) : l.length ≤ 50 := by
  unfold lightB at h
  simp only [Bool.and_eq_true, decide_eq_true_eq] at h
  exact h.2
/-- a state in a local's block, its rows of the call's own -/
def Held (w : World) (base g : Nat) (t : Sta) (dv ev : Value) : Prop := Blk w g 25 #[dv, .int .i64 t.up, .int .i64 t.bo, ev] ∧ OwnL w base dv t.db ∧ OwnE w base ev t.ep
section
variable {w w' : World} {base g g' : Nat} {t : Sta} {dv ev : Value} {cs : Array Value}
theorem Held.below (h : Held w base g t dv ev) (hb : Below w.heap.size w w') : Held w' base g t dv ev := ⟨h.1.below hb h.1.lt, h.2.1.below hb, own_below h.2.2 hb⟩
theorem Held.far (h : Held w base g t dv ev) (hk : Blk w g' 25 cs) (hne : g ≠ g') (hg : w.grownBy w' (some g')) : Held w' base g t dv ev :=
  ⟨h.1.grown hg (by simp; omega), h.2.1.blk hk (by decide) (by decide) hg, World.ownsRow.kept h.2.2 hg (own_off h.2.2 hk (by decide))⟩
theorem held_new (hd : OwnL w base dv t.db) (he : OwnE w base ev t.ep) : Held (w.alloc (.cells #[dv, .int .i64 t.up, .int .i64 t.bo, ev] 25)) base w.heap.size t dv ev :=
  ⟨Blk.new _ _ _, hd.below (low1 (Below.refl _ _) _), own_below he (low1 (Below.refl _ _) _)⟩
theorem held_set {a b c d : Value} (hk : Blk w g 25 #[a, b, c, d]) (hd : OwnL w base dv t.db) (he : OwnE w base ev t.ep) : Held (upd4 w g dv (.int .i64 t.up) (.int .i64 t.bo) ev) base g t dv ev :=
  ⟨upd4_blk hk, hd.blk hk (by decide) (by decide) (upd4_grown _ _ _ _ _ _), World.ownsRow.kept he (upd4_grown _ _ _ _ _ _) (own_off he hk (by decide))⟩
theorem Held.stm (h : Held w base g t dv ev) : StM w w.heap.size dv ev t := ⟨h.2.1.las, ownE_lks h.2.2⟩
end
set_option maxRecDepth 20000 in
set_option maxHeartbeats 4000000 in
theorem walk_dark (s : Sta) (A1 A2 A : Option Addr) (n1 c1 n2 c2 n c : Nat) (l : List Ch) (m : Int) (w : World) (h : StM w w.heap.size (.slice A1 n1 c1) (.slice A2 n2 c2) s) (hc : Chs w w.heap.size (.slice A n c) l) (hd : (lightS s && lightB l) = false) :
    Calls Try.prog 6 #[.agg #[.slice A1 n1 c1, .int .i64 s.up, .int .i64 s.bo, .slice A2 n2 c2], .slice A n c, .int .u8 m] w fun e w' => e = .returned (.bool true) ∧ Below w.heap.size w w' := by
  have hb := low1 (Below.refl w.heap.size w) (.cells #[.slice A1 n1 c1, .int .i64 s.up, .int .i64 s.bo, .slice A2 n2 c2] 25)
  have k0 := Blk.new w 25 #[.slice A1 n1 c1, .int .i64 s.up, .int .i64 s.bo, .slice A2 n2 c2]
  obtain ⟨x0, x1, x2, x3, x4⟩ := blk_cells4 k0
  have lt := light11_any s (.slice A1 n1 c1) (.slice A2 n2 c2) _ (h.up hb)
  have lt2 := fun (W : World) (hW : Below w.heap.size w W) => light10_any A n c l W (hc.up hW)
  simp only [stV] at lt
  cases h1 : lightS s
  · rw [h1] at lt
    have LT := Lib.hid lt; clear lt lt2 h1 hd h hc
    have HB := Lib.hid hb; clear hb
    have K0 := Lib.hid k0; clear k0
    go_enter Try.func6, Try.ntmps6
    go_wp2_with (first
      | (go_at_call 7; refine (LT.out).mono ?_; rintro e w1 ⟨rfl, hb1⟩; have HB1 := Lib.hid (low_low HB.out hb1); have K1 := Lib.hid (K0.out.below hb1 K0.out.lt); obtain ⟨y0, y1, y2, y3, y4⟩ := blk_cells4 K1.out; clear hb1)
      | (go_at_call 9; refine (awake11_any _).mono ?_; rintro e w9 ⟨rfl, hb9⟩; have HB9 := Lib.hid (low_low HB1.out hb9); clear hb9))
    go_ret
    exact ⟨rfl, HB9.out⟩
  · rw [h1] at lt
    rw [h1, Bool.true_and] at hd
    rw [hd] at lt2
    have LT := Lib.hid lt; clear lt h1 hd h hc
    have LT2 := Lib.hid lt2; clear lt2
    have HB := Lib.hid hb; clear hb
    have K0 := Lib.hid k0; clear k0
    go_enter Try.func6, Try.ntmps6
    go_wp2_with (first
      | (go_at_call 7; refine (LT.out).mono ?_; rintro e w1 ⟨rfl, hb1⟩; have HB1 := Lib.hid (low_low HB.out hb1); have K1 := Lib.hid (K0.out.below hb1 K0.out.lt); obtain ⟨y0, y1, y2, y3, y4⟩ := blk_cells4 K1.out; clear hb1)
      | (go_at_call 8; refine (LT2.out _ HB1.out).mono ?_; rintro e w2 ⟨rfl, hb2⟩; have HB2 := Lib.hid (low_low HB1.out hb2); have K2 := Lib.hid (K1.out.below hb2 K1.out.lt); obtain ⟨z0, z1, z2, z3, z4⟩ := blk_cells4 K2.out; clear hb2)
      | (go_at_call 9; refine (awake11_any _).mono ?_; rintro e w9 ⟨rfl, hb9⟩; have HB9 := Lib.hid (low_low HB2.out hb9); clear hb9))
    go_ret
    exact ⟨rfl, HB9.out⟩

set_option maxRecDepth 20000 in
set_option maxHeartbeats 8000000 in
theorem walk_yes (s : Sta) (A1 A2 A : Option Addr) (n1 c1 n2 c2 n c : Nat) (l : List Ch) (m : Int) (w : World) (h : StM w w.heap.size (.slice A1 n1 c1) (.slice A2 n2 c2) s) (hc : Chs w w.heap.size (.slice A n c) l) (hm0 : 0 ≤ m) (hm256 : m < 256) (hlt : lightS s = true) (hlt2 : lightB l = true) (t : Sta) (hap : applyS s l = (t, 0)) :
    Calls Try.prog 6 #[.agg #[.slice A1 n1 c1, .int .i64 s.up, .int .i64 s.bo, .slice A2 n2 c2], .slice A n c, .int .u8 m] w fun e w' => e = .returned (.bool true) ∧ Below w.heap.size w w' := by
  have hb := low1 (Below.refl w.heap.size w) (.cells #[.slice A1 n1 c1, .int .i64 s.up, .int .i64 s.bo, .slice A2 n2 c2] 25)
  have k0 := Blk.new w 25 #[.slice A1 n1 c1, .int .i64 s.up, .int .i64 s.bo, .slice A2 n2 c2]
  obtain ⟨x0, x1, x2, x3, x4⟩ := blk_cells4 k0
  have lt := light11_any s (.slice A1 n1 c1) (.slice A2 n2 c2) _ (h.up hb)
  have lt2 := fun (W : World) (hW : Below w.heap.size w W) => light10_any A n c l W (hc.up hW)
  simp only [stV] at lt
  rw [hlt] at lt
  rw [hlt2] at lt2
  obtain ⟨hln, hnc, hcm⟩ := chs_len hc
  unfold maxLen at hcm
  have hl50 := lightB_len hlt2
  have LT := Lib.hid lt; clear lt
  have LT2 := Lib.hid lt2; clear lt2
  have HB := Lib.hid hb; clear hb
  have K0 := Lib.hid k0; clear k0
  obtain ⟨m, rfl⟩ : ∃ m' : Nat, m = (m' : Int) := ⟨m.toNat, by omega⟩
  obtain ⟨k, hkd⟩ : ∃ k, k = m % (n + 1) := ⟨_, rfl⟩
  have hk : k ≤ n := by have := Nat.mod_lt m (show 0 < n + 1 by omega); omega
  have htm : ((m : Nat) : Int).tmod ((n : Int) + 1) = (k : Int) := by rw [hkd]; exact (Int.ofNat_tmod m (n + 1)).symm
  have hmod : ((m : Nat) : Int) % ((n : Int) + 1) = (k : Int) := by rw [hkd]; exact (Int.natCast_emod m (n + 1)).symm
  have e1 : IntKind.i64.wrap (m : Int) = (m : Int) := IntWalk.i64_in _ (by omega)
  have e2 : IntKind.i64.wrap ((n : Int) + 1) = (n : Int) + 1 := IntWalk.i64_in _ (by omega)
  have e3 : IntKind.i64.wrap (k : Int) = (k : Int) := IntWalk.i64_in _ (by omega)
  have hn0 : ((n : Int) + 1 == 0) = false := beq_false_of_ne (by omega)
  clear hkd hm0 hm256
  obtain ⟨u, hu1, hu2⟩ := parts_yes k hap
  obtain ⟨A3, hsl1, hc1⟩ := chs_hi hc k hk
  obtain ⟨A4, hsl2, hc2⟩ := chs_lo hc k hk
  have ap1 := fun (W : World) (hW : Below w.heap.size w W) => apply_own s (.slice A1 n1 c1) (.slice A2 n2 c2) A n c l W (h.up hW) (hc.up hW)
  have ap2 := fun (W : World) (hW : Below w.heap.size w W) => apply_own s (.slice A1 n1 c1) (.slice A2 n2 c2) A3 k c (l.take k) W (h.up hW) (hc1.up hW)
  have ap3 := fun (dv ev : Value) (W : World) (hs : StM W W.heap.size dv ev u) (hW : Below w.heap.size w W) => apply_own u dv ev A4 (n - k) (c - k) (l.drop k) W hs (hc2.up hW)
  unfold ApplyOwn at ap1 ap2 ap3
  rw [hap] at ap1
  rw [hu1] at ap2
  rw [hu2] at ap3
  simp only [stV] at ap1 ap2 ap3
  have AP1 := Lib.hid ap1; clear ap1
  have AP2 := Lib.hid ap2; clear ap2
  have AP3 := Lib.hid ap3; clear ap3
  have HLN := Lib.hid hln; clear hln hc hc1 hc2 h hap hu1 hu2 hlt hlt2
  generalize n - k = nk at *
  generalize c - k = ck at *
  have HEN := Lib.hid (enters_of Try.func10 (by kernel_rfl) rfl)
  go_enter Try.func6, Try.ntmps6
  go_upto_region 5 with (first
    | (go_at_call 7; refine (LT.out).mono ?_; rintro e w1 ⟨rfl, hb1⟩; have HB1 := Lib.hid (low_low HB.out hb1); have K1 := Lib.hid (K0.out.below hb1 K0.out.lt); obtain ⟨y0, y1, y2, y3, y4⟩ := blk_cells4 K1.out; clear hb1)
    | (go_at_call 8; refine (LT2.out _ HB1.out).mono ?_; rintro e w2 ⟨rfl, hb2⟩; have HB2 := Lib.hid (low_low HB1.out hb2); have K2 := Lib.hid (K1.out.below hb2 K1.out.lt); obtain ⟨z0, z1, z2, z3, z4⟩ := blk_cells4 K2.out; clear hb2)
    | (have HM1 := AP1; go_at_call 10; refine (AP1.out _ HB2.out).mono ?_; rintro e w3 ⟨dv3, ev3, rfl, hd3, he3, hb3⟩; obtain ⟨A5, n5, c5, rfl⟩ := ownL_sl hd3; obtain ⟨A6, n6, c6, rfl⟩ := ownE_sl he3; have HB3 := Lib.hid (low_low HB2.out hb3); have K3 := Lib.hid (K2.out.below hb3 K2.out.lt); have HD3 := Lib.hid hd3; have HE3 := Lib.hid he3; obtain ⟨q0, q1, q2, q3, q4⟩ := blk_cells4 K3.out; clear hd3 he3 hb3 AP1 HM1))
  have X4 := Lib.hid (held_new HD3.out HE3.out)
  have HB4 := Lib.hid (low1 HB3.out (.cells #[.slice A5 n5 c5, .int .i64 t.up, .int .i64 t.bo, .slice A6 n6 c6] 25))
  have K4 := Lib.hid (K3.out.alloc (.cells #[.slice A5 n5 c5, .int .i64 t.up, .int .i64 t.bo, .slice A6 n6 c6] 25))
  have hgx : w.heap.size < w3.heap.size := K3.out.lt
  generalize w3.alloc (.cells #[.slice A5 n5 c5, .int .i64 t.up, .int .i64 t.bo, .slice A6 n6 c6] 25) = w4 at *
  have hgy : w3.heap.size < w4.heap.size := X4.out.1.lt
  generalize w3.heap.size = gx at *
  obtain ⟨q0, q1, q2, q3, q4⟩ := blk_cells4 K4.out
  go_region_held3 (fun W => W.cell? ⟨w.heap.size, 0, none⟩ = some (.slice A1 n1 c1) ∧ W.cell? ⟨w.heap.size, 1, none⟩ = some (.int .i64 s.up) ∧ W.cell? ⟨w.heap.size, 2, none⟩ = some (.int .i64 s.bo) ∧ W.cell? ⟨w.heap.size, 3, none⟩ = some (.slice A2 n2 c2))
    (first
      | with_reducible exact ⟨q0, q1, q2, q3⟩
      | with_reducible exact ⟨r0, r1, r2, r3⟩
      | with_reducible exact ⟨v0, v1, v2, v3⟩
      | go_keep)
    (first
      | (go_at_call 10; refine (AP2.out _ ?hw).mono ?_; (case hw => with_reducible exact HB4.out.drew); rintro e w5 ⟨dv5, ev5, rfl, hd5, he5, hb5⟩; have hb5 : Below w4.heap.size w4 w5 := ⟨hb5.os, hb5.tape, hb5.output, hb5.size, hb5.block⟩; obtain ⟨A7, n7, c7, rfl⟩ := ownL_sl hd5; obtain ⟨A8, n8, c8, rfl⟩ := ownE_sl he5; have HB5 := Lib.hid (low_low HB4.out hb5); have X5 := Lib.hid (X4.out.below hb5); have HD5 := Lib.hid hd5; have HE5 := Lib.hid he5; obtain ⟨r0, r1, r2, r3, r4⟩ := blk_cells4 (K4.out.below hb5 K4.out.lt); clear hd5 he5 hb5)
      | (go_at_call 10; refine (AP2.out _ ?hw).mono ?_; (case hw => exact (low1 HB4.out _).drew); rintro e w5 ⟨dv5, ev5, rfl, hd5, he5, hb5⟩; have hb5' : Below (w4.alloc (.cells zSt 25)).heap.size (w4.alloc (.cells zSt 25)) w5 := ⟨hb5.os, hb5.tape, hb5.output, hb5.size, hb5.block⟩; obtain ⟨A7, n7, c7, rfl⟩ := ownL_sl hd5; obtain ⟨A8, n8, c8, rfl⟩ := ownE_sl he5; have YZ := Lib.hid ((Blk.new w4 25 zSt).below hb5' (by simp)); have HB5 := Lib.hid (low_low (low1 HB4.out _) hb5'); have X5 := Lib.hid ((X4.out.below (low1 (Below.refl _ _) _)).below hb5'); have HD5 := Lib.hid hd5; have HE5 := Lib.hid he5; have k5 := (K4.out.alloc (.cells zSt 25)).below hb5' (by have := K4.out.lt; simp; omega); obtain ⟨r0, r1, r2, r3, r4⟩ := blk_cells4 k5; obtain ⟨v0, v1, v2, v3, v4⟩ := blk_cells4 (k5.grown (upd4_grown w5 w4.heap.size (.slice A7 n7 c7) (.int .i64 u.up) (.int .i64 u.bo) (.slice A8 n8 c8)) (by have := K4.out.lt; simp; omega)); clear k5; obtain ⟨s0, s1, s2, s3, s4⟩ := blk_cells4 YZ.out; obtain ⟨t0, t1, t2, t3⟩ := blk_fz4 YZ.out; clear hd5 he5 hb5 hb5'))
  · have y6 := held_new (HD5.out.more (Nat.zero_le _)) (own_mono HE5.out (Nat.zero_le _))
    have x6 := X5.out.below (low1 (Below.refl _ _) (.cells #[.slice A7 n7 c7, .int .i64 u.up, .int .i64 u.bo, .slice A8 n8 c8] 25))
    have hb6 := low1 HB5.out (.cells #[.slice A7 n7 c7, .int .i64 u.up, .int .i64 u.bo, .slice A8 n8 c8] 25)
    have hxy : gx < w5.heap.size := X5.out.1.lt
    have hwy : w.heap.size ≤ w5.heap.size := HB5.out.size
    have Y6 := Lib.hid y6; clear y6
    have X6 := Lib.hid x6; clear x6
    have HB6 := Lib.hid hb6; clear hb6
    clear r0 r1 r2 r3 r4 HB5 X5 HD5 HE5 q0 q1 q2 q3 q4 HD3 HE3 K3 HB3 AP2 hgy HB4 X4 K4
    generalize w5.alloc (.cells #[.slice A7 n7 c7, .int .i64 u.up, .int .i64 u.bo, .slice A8 n8 c8] 25) = w6 at *
    generalize w5.heap.size = gy at *
    obtain ⟨a0, a1, a2, a3, a4⟩ := blk_cells4 Y6.out.1
    obtain ⟨f0, f1, f2, f3⟩ := blk_fz4 Y6.out.1
    go_wp2_with (fail)
    go_region_law (refine step_calls rfl 10 _ _ rfl #[.agg #[.slice A7 n7 c7, .int .i64 u.up, .int .i64 u.bo, .slice A8 n8 c8], .slice A4 nk ck] (by simp [Act.eval, Act.put]) HEN.out (by exact AP3.out (.slice A7 n7 c7) (.slice A8 n8 c8) w6.drew Y6.out.stm HB6.out.drew) ?_; rintro e w7 ⟨dv7, ev7, rfl, hd7, he7, hb7⟩; refine ⟨_, rfl, ?_⟩; have hb7 : Below w6.heap.size w6 w7 := ⟨hb7.os, hb7.tape, hb7.output, hb7.size, hb7.block⟩; obtain ⟨A9, n9, c9, rfl⟩ := ownL_sl hd7; obtain ⟨A10, n10, c10, rfl⟩ := ownE_sl he7; have y7 := Y6.out.below hb7; obtain ⟨g0, g1, g2, g3⟩ := blk_fz4 y7.1; obtain ⟨b0, b1, b2, b3, b4⟩ := blk_cells4 y7.1; have x8 := (X6.out.below hb7).far y7.1 (Nat.ne_of_lt hxy) (upd4_grown w7 gy (.slice A9 n9 c9) (.int .i64 t.up) (.int .i64 t.bo) (.slice A10 n10 c10)); have y8 := held_set y7.1 (hd7.more (Nat.zero_le _)) (own_mono he7 (Nat.zero_le _)); have hb8 := (low_low HB6.out hb7).grown (upd4_grown w7 gy (.slice A9 n9 c9) (.int .i64 t.up) (.int .i64 t.bo) (.slice A10 n10 c10)) (low_low HB6.out hb7).size (fun q hq => by cases hq; exact hwy); dsimp only [upd4] at x8 y8 hb8; have X8 := Lib.hid x8; have Y8 := Lib.hid y8; have HB8 := Lib.hid hb8; clear hd7 he7 hb7 y7 x8 y8 hb8)
    clear b0 b1 b2 b3 b4 a0 a1 a2 a3 a4 f0 f1 f2 f3 g0 g1 g2 g3 Y6 X6 HB6
    generalize (((w7.setCell ⟨gy, 0, none⟩ (.slice A9 n9 c9)).setCell ⟨gy, 1, none⟩ (.int .i64 t.up)).setCell ⟨gy, 2, none⟩ (.int .i64 t.bo)).setCell ⟨gy, 3, none⟩ (.slice A10 n10 c10) = w8 at *
    obtain ⟨a0, a1, a2, a3, a4⟩ := blk_cells4 X8.out.1
    obtain ⟨b0, b1, b2, b3, b4⟩ := blk_cells4 Y8.out.1
    have sm := rsame_st t t (.slice A5 n5 c5) (.slice A6 n6 c6) (.slice A9 n9 c9) (.slice A10 n10 c10) w8 X8.out.stm Y8.out.stm
    rewrite [sameS_self] at sm
    have SM := Lib.hid sm; clear sm
    go_wp2_with (first
      | (go_at_call 14; refine (SM.out).mono ?_; rintro e w0 ⟨rfl, hb0⟩; have HB0 := Lib.hid (low_low HB8.out hb0); clear hb0)
      | (go_at_call 9; refine (awake11_any _).mono ?_; rintro e w9 ⟨rfl, hb9⟩; have HB9 := Lib.hid (low_low HB0.out hb9); clear hb9))
    go_ret
    exact ⟨rfl, HB9.out⟩
  · have y6 := held_set YZ.out (HD5.out.more (Nat.zero_le _)) (own_mono HE5.out (Nat.zero_le _))
    have x6 := X5.out.far YZ.out (Nat.ne_of_lt hgy) (upd4_grown w5 w4.heap.size (.slice A7 n7 c7) (.int .i64 u.up) (.int .i64 u.bo) (.slice A8 n8 c8))
    have hb6 := HB5.out.grown (upd4_grown w5 w4.heap.size (.slice A7 n7 c7) (.int .i64 u.up) (.int .i64 u.bo) (.slice A8 n8 c8)) HB5.out.size (fun q hq => by cases hq; exact HB4.out.size)
    have hxy : gx < w4.heap.size := hgy
    have hwy : w.heap.size ≤ w4.heap.size := HB4.out.size
    dsimp only [upd4] at y6 x6 hb6
    have Y6 := Lib.hid y6; clear y6
    have X6 := Lib.hid x6; clear x6
    have HB6 := Lib.hid hb6; clear hb6
    clear r0 r1 r2 r3 r4 v0 v1 v2 v3 v4 s0 s1 s2 s3 s4 t0 t1 t2 t3 HB5 X5 HD5 HE5 YZ q0 q1 q2 q3 q4 HD3 HE3 K3 HB3 AP2 hgy HB4 X4 K4
    generalize (((w5.setCell ⟨w4.heap.size, 0, none⟩ (.slice A7 n7 c7)).setCell ⟨w4.heap.size, 1, none⟩ (.int .i64 u.up)).setCell ⟨w4.heap.size, 2, none⟩ (.int .i64 u.bo)).setCell ⟨w4.heap.size, 3, none⟩ (.slice A8 n8 c8) = w6 at *
    generalize w4.heap.size = gy at *
    obtain ⟨a0, a1, a2, a3, a4⟩ := blk_cells4 Y6.out.1
    obtain ⟨f0, f1, f2, f3⟩ := blk_fz4 Y6.out.1
    go_wp2_with (fail)
    go_region_law (refine step_calls rfl 10 _ _ rfl #[.agg #[.slice A7 n7 c7, .int .i64 u.up, .int .i64 u.bo, .slice A8 n8 c8], .slice A4 nk ck] (by simp [Act.eval, Act.put]) HEN.out (by exact AP3.out (.slice A7 n7 c7) (.slice A8 n8 c8) w6.drew Y6.out.stm HB6.out.drew) ?_; rintro e w7 ⟨dv7, ev7, rfl, hd7, he7, hb7⟩; refine ⟨_, rfl, ?_⟩; have hb7 : Below w6.heap.size w6 w7 := ⟨hb7.os, hb7.tape, hb7.output, hb7.size, hb7.block⟩; obtain ⟨A9, n9, c9, rfl⟩ := ownL_sl hd7; obtain ⟨A10, n10, c10, rfl⟩ := ownE_sl he7; have y7 := Y6.out.below hb7; obtain ⟨g0, g1, g2, g3⟩ := blk_fz4 y7.1; obtain ⟨b0, b1, b2, b3, b4⟩ := blk_cells4 y7.1; have x8 := (X6.out.below hb7).far y7.1 (Nat.ne_of_lt hxy) (upd4_grown w7 gy (.slice A9 n9 c9) (.int .i64 t.up) (.int .i64 t.bo) (.slice A10 n10 c10)); have y8 := held_set y7.1 (hd7.more (Nat.zero_le _)) (own_mono he7 (Nat.zero_le _)); have hb8 := (low_low HB6.out hb7).grown (upd4_grown w7 gy (.slice A9 n9 c9) (.int .i64 t.up) (.int .i64 t.bo) (.slice A10 n10 c10)) (low_low HB6.out hb7).size (fun q hq => by cases hq; exact hwy); dsimp only [upd4] at x8 y8 hb8; have X8 := Lib.hid x8; have Y8 := Lib.hid y8; have HB8 := Lib.hid hb8; clear hd7 he7 hb7 y7 x8 y8 hb8)
    clear b0 b1 b2 b3 b4 a0 a1 a2 a3 a4 f0 f1 f2 f3 g0 g1 g2 g3 Y6 X6 HB6
    generalize (((w7.setCell ⟨gy, 0, none⟩ (.slice A9 n9 c9)).setCell ⟨gy, 1, none⟩ (.int .i64 t.up)).setCell ⟨gy, 2, none⟩ (.int .i64 t.bo)).setCell ⟨gy, 3, none⟩ (.slice A10 n10 c10) = w8 at *
    obtain ⟨a0, a1, a2, a3, a4⟩ := blk_cells4 X8.out.1
    obtain ⟨b0, b1, b2, b3, b4⟩ := blk_cells4 Y8.out.1
    have sm := rsame_st t t (.slice A5 n5 c5) (.slice A6 n6 c6) (.slice A9 n9 c9) (.slice A10 n10 c10) w8 X8.out.stm Y8.out.stm
    rewrite [sameS_self] at sm
    have SM := Lib.hid sm; clear sm
    go_wp2_with (first
      | (go_at_call 14; refine (SM.out).mono ?_; rintro e w0 ⟨rfl, hb0⟩; have HB0 := Lib.hid (low_low HB8.out hb0); clear hb0)
      | (go_at_call 9; refine (awake11_any _).mono ?_; rintro e w9 ⟨rfl, hb9⟩; have HB9 := Lib.hid (low_low HB0.out hb9); clear hb9))
    go_ret
    exact ⟨rfl, HB9.out⟩
set_option maxRecDepth 20000 in
set_option maxHeartbeats 8000000 in
theorem walk_no (s : Sta) (A1 A2 A : Option Addr) (n1 c1 n2 c2 n c : Nat) (l : List Ch) (m : Int) (w : World) (h : StM w w.heap.size (.slice A1 n1 c1) (.slice A2 n2 c2) s) (hc : Chs w w.heap.size (.slice A n c) l) (hm0 : 0 ≤ m) (hm256 : m < 256) (hlt : lightS s = true) (hlt2 : lightB l = true) (t : Sta) (e : Int) (he : e ≠ 0) (hap : applyS s l = (t, e)) :
    Calls Try.prog 6 #[.agg #[.slice A1 n1 c1, .int .i64 s.up, .int .i64 s.bo, .slice A2 n2 c2], .slice A n c, .int .u8 m] w fun e w' => e = .returned (.bool true) ∧ Below w.heap.size w w' := by
  have hb := low1 (Below.refl w.heap.size w) (.cells #[.slice A1 n1 c1, .int .i64 s.up, .int .i64 s.bo, .slice A2 n2 c2] 25)
  have k0 := Blk.new w 25 #[.slice A1 n1 c1, .int .i64 s.up, .int .i64 s.bo, .slice A2 n2 c2]
  obtain ⟨x0, x1, x2, x3, x4⟩ := blk_cells4 k0
  have lt := light11_any s (.slice A1 n1 c1) (.slice A2 n2 c2) _ (h.up hb)
  have lt2 := fun (W : World) (hW : Below w.heap.size w W) => light10_any A n c l W (hc.up hW)
  simp only [stV] at lt
  rw [hlt] at lt
  rw [hlt2] at lt2
  obtain ⟨hln, hnc, hcm⟩ := chs_len hc
  unfold maxLen at hcm
  have hl50 := lightB_len hlt2
  have LT := Lib.hid lt; clear lt
  have LT2 := Lib.hid lt2; clear lt2
  have HB := Lib.hid hb; clear hb
  have K0 := Lib.hid k0; clear k0
  obtain ⟨m, rfl⟩ : ∃ m' : Nat, m = (m' : Int) := ⟨m.toNat, by omega⟩
  obtain ⟨k, hkd⟩ : ∃ k, k = m % (n + 1) := ⟨_, rfl⟩
  have hk : k ≤ n := by have := Nat.mod_lt m (show 0 < n + 1 by omega); omega
  have htm : ((m : Nat) : Int).tmod ((n : Int) + 1) = (k : Int) := by rw [hkd]; exact (Int.ofNat_tmod m (n + 1)).symm
  have hmod : ((m : Nat) : Int) % ((n : Int) + 1) = (k : Int) := by rw [hkd]; exact (Int.natCast_emod m (n + 1)).symm
  have e1 : IntKind.i64.wrap (m : Int) = (m : Int) := IntWalk.i64_in _ (by omega)
  have e2 : IntKind.i64.wrap ((n : Int) + 1) = (n : Int) + 1 := IntWalk.i64_in _ (by omega)
  have e3 : IntKind.i64.wrap (k : Int) = (k : Int) := IntWalk.i64_in _ (by omega)
  have hn0 : ((n : Int) + 1 == 0) = false := beq_false_of_ne (by omega)
  clear hkd hm0 hm256
  have he0 : (e != 0) = true := by simp [he]
  obtain ⟨u, f1, hu1⟩ : ∃ u f1, applyS s (l.take k) = (u, f1) := ⟨_, _, rfl⟩
  by_cases hf1 : f1 = 0
  · subst hf1
    have hv := parts_no k (by rw [hap]; exact he) hu1
    obtain ⟨v, f, hu2⟩ : ∃ v f, applyS u (l.drop k) = (v, f) := ⟨_, _, rfl⟩
    rw [hu2] at hv
    have hf0 : (f != 0) = true := by simpa using hv
    obtain ⟨A3, hsl1, hc1⟩ := chs_hi hc k hk
    obtain ⟨A4, hsl2, hc2⟩ := chs_lo hc k hk
    have ap1 := fun (W : World) (hW : Below w.heap.size w W) => apply_own s (.slice A1 n1 c1) (.slice A2 n2 c2) A n c l W (h.up hW) (hc.up hW)
    have ap2 := fun (W : World) (hW : Below w.heap.size w W) => apply_own s (.slice A1 n1 c1) (.slice A2 n2 c2) A3 k c (l.take k) W (h.up hW) (hc1.up hW)
    have ap3 := fun (dv ev : Value) (W : World) (hs : StM W W.heap.size dv ev u) (hW : Below w.heap.size w W) => apply_own u dv ev A4 (n - k) (c - k) (l.drop k) W hs (hc2.up hW)
    unfold ApplyOwn at ap1 ap2 ap3
    rw [hap] at ap1
    rw [hu1] at ap2
    rw [hu2] at ap3
    simp only [stV] at ap1 ap2 ap3
    have AP1 := Lib.hid ap1; clear ap1
    have AP2 := Lib.hid ap2; clear ap2
    have AP3 := Lib.hid ap3; clear ap3
    have HLN := Lib.hid hln; clear hln hc hc1 hc2 h hap hu1 hu2 hlt hlt2 he hv
    generalize n - k = nk at *
    generalize c - k = ck at *
    have HEN := Lib.hid (enters_of Try.func10 (by kernel_rfl) rfl)
    go_enter Try.func6, Try.ntmps6
    go_upto_region 5 with (first
      | (go_at_call 7; refine (LT.out).mono ?_; rintro e w1 ⟨rfl, hb1⟩; have HB1 := Lib.hid (low_low HB.out hb1); have K1 := Lib.hid (K0.out.below hb1 K0.out.lt); obtain ⟨y0, y1, y2, y3, y4⟩ := blk_cells4 K1.out; clear hb1)
      | (go_at_call 8; refine (LT2.out _ HB1.out).mono ?_; rintro e w2 ⟨rfl, hb2⟩; have HB2 := Lib.hid (low_low HB1.out hb2); have K2 := Lib.hid (K1.out.below hb2 K1.out.lt); obtain ⟨z0, z1, z2, z3, z4⟩ := blk_cells4 K2.out; clear hb2)
      | (have HM1 := AP1; go_at_call 10; refine (AP1.out _ HB2.out).mono ?_; rintro e w3 ⟨dv3, ev3, rfl, hd3, he3, hb3⟩; obtain ⟨A5, n5, c5, rfl⟩ := ownL_sl hd3; obtain ⟨A6, n6, c6, rfl⟩ := ownE_sl he3; have HB3 := Lib.hid (low_low HB2.out hb3); have K3 := Lib.hid (K2.out.below hb3 K2.out.lt); have HD3 := Lib.hid hd3; have HE3 := Lib.hid he3; obtain ⟨q0, q1, q2, q3, q4⟩ := blk_cells4 K3.out; clear hd3 he3 hb3 AP1 HM1))
    have X4 := Lib.hid (held_new HD3.out HE3.out)
    have HB4 := Lib.hid (low1 HB3.out (.cells #[.slice A5 n5 c5, .int .i64 t.up, .int .i64 t.bo, .slice A6 n6 c6] 25))
    have K4 := Lib.hid (K3.out.alloc (.cells #[.slice A5 n5 c5, .int .i64 t.up, .int .i64 t.bo, .slice A6 n6 c6] 25))
    have hgx : w.heap.size < w3.heap.size := K3.out.lt
    generalize w3.alloc (.cells #[.slice A5 n5 c5, .int .i64 t.up, .int .i64 t.bo, .slice A6 n6 c6] 25) = w4 at *
    have hgy : w3.heap.size < w4.heap.size := X4.out.1.lt
    generalize w3.heap.size = gx at *
    obtain ⟨q0, q1, q2, q3, q4⟩ := blk_cells4 K4.out
    go_region_held3 (fun W => W.cell? ⟨w.heap.size, 0, none⟩ = some (.slice A1 n1 c1) ∧ W.cell? ⟨w.heap.size, 1, none⟩ = some (.int .i64 s.up) ∧ W.cell? ⟨w.heap.size, 2, none⟩ = some (.int .i64 s.bo) ∧ W.cell? ⟨w.heap.size, 3, none⟩ = some (.slice A2 n2 c2))
      (first
        | with_reducible exact ⟨q0, q1, q2, q3⟩
        | with_reducible exact ⟨r0, r1, r2, r3⟩
        | with_reducible exact ⟨v0, v1, v2, v3⟩
        | go_keep)
      (first
        | (go_at_call 10; refine (AP2.out _ ?hw).mono ?_; (case hw => with_reducible exact HB4.out.drew); rintro e w5 ⟨dv5, ev5, rfl, hd5, he5, hb5⟩; have hb5 : Below w4.heap.size w4 w5 := ⟨hb5.os, hb5.tape, hb5.output, hb5.size, hb5.block⟩; obtain ⟨A7, n7, c7, rfl⟩ := ownL_sl hd5; obtain ⟨A8, n8, c8, rfl⟩ := ownE_sl he5; have HB5 := Lib.hid (low_low HB4.out hb5); have X5 := Lib.hid (X4.out.below hb5); have HD5 := Lib.hid hd5; have HE5 := Lib.hid he5; obtain ⟨r0, r1, r2, r3, r4⟩ := blk_cells4 (K4.out.below hb5 K4.out.lt); clear hd5 he5 hb5)
        | (go_at_call 10; refine (AP2.out _ ?hw).mono ?_; (case hw => exact (low1 HB4.out _).drew); rintro e w5 ⟨dv5, ev5, rfl, hd5, he5, hb5⟩; have hb5' : Below (w4.alloc (.cells zSt 25)).heap.size (w4.alloc (.cells zSt 25)) w5 := ⟨hb5.os, hb5.tape, hb5.output, hb5.size, hb5.block⟩; obtain ⟨A7, n7, c7, rfl⟩ := ownL_sl hd5; obtain ⟨A8, n8, c8, rfl⟩ := ownE_sl he5; have YZ := Lib.hid ((Blk.new w4 25 zSt).below hb5' (by simp)); have HB5 := Lib.hid (low_low (low1 HB4.out _) hb5'); have X5 := Lib.hid ((X4.out.below (low1 (Below.refl _ _) _)).below hb5'); have HD5 := Lib.hid hd5; have HE5 := Lib.hid he5; have k5 := (K4.out.alloc (.cells zSt 25)).below hb5' (by have := K4.out.lt; simp; omega); obtain ⟨r0, r1, r2, r3, r4⟩ := blk_cells4 k5; obtain ⟨v0, v1, v2, v3, v4⟩ := blk_cells4 (k5.grown (upd4_grown w5 w4.heap.size (.slice A7 n7 c7) (.int .i64 u.up) (.int .i64 u.bo) (.slice A8 n8 c8)) (by have := K4.out.lt; simp; omega)); clear k5; obtain ⟨s0, s1, s2, s3, s4⟩ := blk_cells4 YZ.out; obtain ⟨t0, t1, t2, t3⟩ := blk_fz4 YZ.out; clear hd5 he5 hb5 hb5'))
    · have y6 := held_new (HD5.out.more (Nat.zero_le _)) (own_mono HE5.out (Nat.zero_le _))
      have x6 := X5.out.below (low1 (Below.refl _ _) (.cells #[.slice A7 n7 c7, .int .i64 u.up, .int .i64 u.bo, .slice A8 n8 c8] 25))
      have hb6 := low1 HB5.out (.cells #[.slice A7 n7 c7, .int .i64 u.up, .int .i64 u.bo, .slice A8 n8 c8] 25)
      have hxy : gx < w5.heap.size := X5.out.1.lt
      have hwy : w.heap.size ≤ w5.heap.size := HB5.out.size
      have Y6 := Lib.hid y6; clear y6
      have X6 := Lib.hid x6; clear x6
      have HB6 := Lib.hid hb6; clear hb6
      clear r0 r1 r2 r3 r4 HB5 X5 HD5 HE5 q0 q1 q2 q3 q4 HD3 HE3 K3 HB3 AP2 hgy HB4 X4 K4
      generalize w5.alloc (.cells #[.slice A7 n7 c7, .int .i64 u.up, .int .i64 u.bo, .slice A8 n8 c8] 25) = w6 at *
      generalize w5.heap.size = gy at *
      obtain ⟨a0, a1, a2, a3, a4⟩ := blk_cells4 Y6.out.1
      obtain ⟨f0, f1, f2, f3⟩ := blk_fz4 Y6.out.1
      go_wp2_with (fail)
      go_region_law (refine step_calls rfl 10 _ _ rfl #[.agg #[.slice A7 n7 c7, .int .i64 u.up, .int .i64 u.bo, .slice A8 n8 c8], .slice A4 nk ck] (by simp [Act.eval, Act.put]) HEN.out (by exact AP3.out (.slice A7 n7 c7) (.slice A8 n8 c8) w6.drew Y6.out.stm HB6.out.drew) ?_; rintro e w7 ⟨dv7, ev7, rfl, hd7, he7, hb7⟩; refine ⟨_, rfl, ?_⟩; have hb7 : Below w6.heap.size w6 w7 := ⟨hb7.os, hb7.tape, hb7.output, hb7.size, hb7.block⟩; obtain ⟨A9, n9, c9, rfl⟩ := ownL_sl hd7; obtain ⟨A10, n10, c10, rfl⟩ := ownE_sl he7; have y7 := Y6.out.below hb7; obtain ⟨g0, g1, g2, g3⟩ := blk_fz4 y7.1; obtain ⟨b0, b1, b2, b3, b4⟩ := blk_cells4 y7.1; have x8 := (X6.out.below hb7).far y7.1 (Nat.ne_of_lt hxy) (upd4_grown w7 gy (.slice A9 n9 c9) (.int .i64 v.up) (.int .i64 v.bo) (.slice A10 n10 c10)); have y8 := held_set y7.1 (hd7.more (Nat.zero_le _)) (own_mono he7 (Nat.zero_le _)); have hb8 := (low_low HB6.out hb7).grown (upd4_grown w7 gy (.slice A9 n9 c9) (.int .i64 v.up) (.int .i64 v.bo) (.slice A10 n10 c10)) (low_low HB6.out hb7).size (fun q hq => by cases hq; exact hwy); dsimp only [upd4] at x8 y8 hb8; have X8 := Lib.hid x8; have Y8 := Lib.hid y8; have HB8 := Lib.hid hb8; clear hd7 he7 hb7 y7 x8 y8 hb8)
      clear b0 b1 b2 b3 b4 a0 a1 a2 a3 a4 f0 f1 f2 f3 g0 g1 g2 g3 Y6 X6 HB6
      generalize (((w7.setCell ⟨gy, 0, none⟩ (.slice A9 n9 c9)).setCell ⟨gy, 1, none⟩ (.int .i64 v.up)).setCell ⟨gy, 2, none⟩ (.int .i64 v.bo)).setCell ⟨gy, 3, none⟩ (.slice A10 n10 c10) = w8 at *
      go_wp2_with (go_at_call 9; refine (awake11_any _).mono ?_; rintro e w9 ⟨rfl, hb9⟩; have HB9 := Lib.hid (low_low HB8.out hb9); clear hb9)
      go_ret
      exact ⟨rfl, HB9.out⟩
    · have y6 := held_set YZ.out (HD5.out.more (Nat.zero_le _)) (own_mono HE5.out (Nat.zero_le _))
      have x6 := X5.out.far YZ.out (Nat.ne_of_lt hgy) (upd4_grown w5 w4.heap.size (.slice A7 n7 c7) (.int .i64 u.up) (.int .i64 u.bo) (.slice A8 n8 c8))
      have hb6 := HB5.out.grown (upd4_grown w5 w4.heap.size (.slice A7 n7 c7) (.int .i64 u.up) (.int .i64 u.bo) (.slice A8 n8 c8)) HB5.out.size (fun q hq => by cases hq; exact HB4.out.size)
      have hxy : gx < w4.heap.size := hgy
      have hwy : w.heap.size ≤ w4.heap.size := HB4.out.size
      dsimp only [upd4] at y6 x6 hb6
      have Y6 := Lib.hid y6; clear y6
      have X6 := Lib.hid x6; clear x6
      have HB6 := Lib.hid hb6; clear hb6
      clear r0 r1 r2 r3 r4 v0 v1 v2 v3 v4 s0 s1 s2 s3 s4 t0 t1 t2 t3 HB5 X5 HD5 HE5 YZ q0 q1 q2 q3 q4 HD3 HE3 K3 HB3 AP2 hgy HB4 X4 K4
      generalize (((w5.setCell ⟨w4.heap.size, 0, none⟩ (.slice A7 n7 c7)).setCell ⟨w4.heap.size, 1, none⟩ (.int .i64 u.up)).setCell ⟨w4.heap.size, 2, none⟩ (.int .i64 u.bo)).setCell ⟨w4.heap.size, 3, none⟩ (.slice A8 n8 c8) = w6 at *
      generalize w4.heap.size = gy at *
      obtain ⟨a0, a1, a2, a3, a4⟩ := blk_cells4 Y6.out.1
      obtain ⟨f0, f1, f2, f3⟩ := blk_fz4 Y6.out.1
      go_wp2_with (fail)
      go_region_law (refine step_calls rfl 10 _ _ rfl #[.agg #[.slice A7 n7 c7, .int .i64 u.up, .int .i64 u.bo, .slice A8 n8 c8], .slice A4 nk ck] (by simp [Act.eval, Act.put]) HEN.out (by exact AP3.out (.slice A7 n7 c7) (.slice A8 n8 c8) w6.drew Y6.out.stm HB6.out.drew) ?_; rintro e w7 ⟨dv7, ev7, rfl, hd7, he7, hb7⟩; refine ⟨_, rfl, ?_⟩; have hb7 : Below w6.heap.size w6 w7 := ⟨hb7.os, hb7.tape, hb7.output, hb7.size, hb7.block⟩; obtain ⟨A9, n9, c9, rfl⟩ := ownL_sl hd7; obtain ⟨A10, n10, c10, rfl⟩ := ownE_sl he7; have y7 := Y6.out.below hb7; obtain ⟨g0, g1, g2, g3⟩ := blk_fz4 y7.1; obtain ⟨b0, b1, b2, b3, b4⟩ := blk_cells4 y7.1; have x8 := (X6.out.below hb7).far y7.1 (Nat.ne_of_lt hxy) (upd4_grown w7 gy (.slice A9 n9 c9) (.int .i64 v.up) (.int .i64 v.bo) (.slice A10 n10 c10)); have y8 := held_set y7.1 (hd7.more (Nat.zero_le _)) (own_mono he7 (Nat.zero_le _)); have hb8 := (low_low HB6.out hb7).grown (upd4_grown w7 gy (.slice A9 n9 c9) (.int .i64 v.up) (.int .i64 v.bo) (.slice A10 n10 c10)) (low_low HB6.out hb7).size (fun q hq => by cases hq; exact hwy); dsimp only [upd4] at x8 y8 hb8; have X8 := Lib.hid x8; have Y8 := Lib.hid y8; have HB8 := Lib.hid hb8; clear hd7 he7 hb7 y7 x8 y8 hb8)
      clear b0 b1 b2 b3 b4 a0 a1 a2 a3 a4 f0 f1 f2 f3 g0 g1 g2 g3 Y6 X6 HB6
      generalize (((w7.setCell ⟨gy, 0, none⟩ (.slice A9 n9 c9)).setCell ⟨gy, 1, none⟩ (.int .i64 v.up)).setCell ⟨gy, 2, none⟩ (.int .i64 v.bo)).setCell ⟨gy, 3, none⟩ (.slice A10 n10 c10) = w8 at *
      go_wp2_with (go_at_call 9; refine (awake11_any _).mono ?_; rintro e w9 ⟨rfl, hb9⟩; have HB9 := Lib.hid (low_low HB8.out hb9); clear hb9)
      go_ret
      exact ⟨rfl, HB9.out⟩
  · have hf0 : (f1 != 0) = true := by simp [hf1]
    have hf2 : (f1 == 0) = false := by simp [hf1]
    obtain ⟨A3, hsl1, hc1⟩ := chs_hi hc k hk
    obtain ⟨A4, hsl2, hc2⟩ := chs_lo hc k hk
    have ap1 := fun (W : World) (hW : Below w.heap.size w W) => apply_own s (.slice A1 n1 c1) (.slice A2 n2 c2) A n c l W (h.up hW) (hc.up hW)
    have ap2 := fun (W : World) (hW : Below w.heap.size w W) => apply_own s (.slice A1 n1 c1) (.slice A2 n2 c2) A3 k c (l.take k) W (h.up hW) (hc1.up hW)
    unfold ApplyOwn at ap1 ap2
    rw [hap] at ap1
    rw [hu1] at ap2
    simp only [stV] at ap1 ap2
    have AP1 := Lib.hid ap1; clear ap1
    have AP2 := Lib.hid ap2; clear ap2
    have HLN := Lib.hid hln; clear hln hc hc1 hc2 h hap hu1 hlt hlt2 he hf1
    go_enter Try.func6, Try.ntmps6
    go_upto_region 5 with (first
      | (go_at_call 7; refine (LT.out).mono ?_; rintro e w1 ⟨rfl, hb1⟩; have HB1 := Lib.hid (low_low HB.out hb1); have K1 := Lib.hid (K0.out.below hb1 K0.out.lt); obtain ⟨y0, y1, y2, y3, y4⟩ := blk_cells4 K1.out; clear hb1)
      | (go_at_call 8; refine (LT2.out _ HB1.out).mono ?_; rintro e w2 ⟨rfl, hb2⟩; have HB2 := Lib.hid (low_low HB1.out hb2); have K2 := Lib.hid (K1.out.below hb2 K1.out.lt); obtain ⟨z0, z1, z2, z3, z4⟩ := blk_cells4 K2.out; clear hb2)
      | (have HM1 := AP1; go_at_call 10; refine (AP1.out _ HB2.out).mono ?_; rintro e w3 ⟨dv3, ev3, rfl, hd3, he3, hb3⟩; obtain ⟨A5, n5, c5, rfl⟩ := ownL_sl hd3; obtain ⟨A6, n6, c6, rfl⟩ := ownE_sl he3; have HB3 := Lib.hid (low_low HB2.out hb3); have K3 := Lib.hid (K2.out.below hb3 K2.out.lt); have HD3 := Lib.hid hd3; have HE3 := Lib.hid he3; obtain ⟨q0, q1, q2, q3, q4⟩ := blk_cells4 K3.out; clear hd3 he3 hb3 AP1 HM1))
    have X4 := Lib.hid (held_new HD3.out HE3.out)
    have HB4 := Lib.hid (low1 HB3.out (.cells #[.slice A5 n5 c5, .int .i64 t.up, .int .i64 t.bo, .slice A6 n6 c6] 25))
    have K4 := Lib.hid (K3.out.alloc (.cells #[.slice A5 n5 c5, .int .i64 t.up, .int .i64 t.bo, .slice A6 n6 c6] 25))
    have hgx : w.heap.size < w3.heap.size := K3.out.lt
    generalize w3.alloc (.cells #[.slice A5 n5 c5, .int .i64 t.up, .int .i64 t.bo, .slice A6 n6 c6] 25) = w4 at *
    have hgy : w3.heap.size < w4.heap.size := X4.out.1.lt
    generalize w3.heap.size = gx at *
    obtain ⟨q0, q1, q2, q3, q4⟩ := blk_cells4 K4.out
    go_region_held3 (fun W => W.cell? ⟨w.heap.size, 0, none⟩ = some (.slice A1 n1 c1) ∧ W.cell? ⟨w.heap.size, 1, none⟩ = some (.int .i64 s.up) ∧ W.cell? ⟨w.heap.size, 2, none⟩ = some (.int .i64 s.bo) ∧ W.cell? ⟨w.heap.size, 3, none⟩ = some (.slice A2 n2 c2))
      (first
        | with_reducible exact ⟨q0, q1, q2, q3⟩
        | with_reducible exact ⟨r0, r1, r2, r3⟩
        | with_reducible exact ⟨v0, v1, v2, v3⟩
        | go_keep)
      (first
        | (go_at_call 10; refine (AP2.out _ ?hw).mono ?_; (case hw => with_reducible exact HB4.out.drew); rintro e w5 ⟨dv5, ev5, rfl, hd5, he5, hb5⟩; have hb5 : Below w4.heap.size w4 w5 := ⟨hb5.os, hb5.tape, hb5.output, hb5.size, hb5.block⟩; obtain ⟨A7, n7, c7, rfl⟩ := ownL_sl hd5; obtain ⟨A8, n8, c8, rfl⟩ := ownE_sl he5; have HB5 := Lib.hid (low_low HB4.out hb5); have X5 := Lib.hid (X4.out.below hb5); have HD5 := Lib.hid hd5; have HE5 := Lib.hid he5; obtain ⟨r0, r1, r2, r3, r4⟩ := blk_cells4 (K4.out.below hb5 K4.out.lt); clear hd5 he5 hb5)
        | (go_at_call 10; refine (AP2.out _ ?hw).mono ?_; (case hw => exact (low1 HB4.out _).drew); rintro e w5 ⟨dv5, ev5, rfl, hd5, he5, hb5⟩; have hb5' : Below (w4.alloc (.cells zSt 25)).heap.size (w4.alloc (.cells zSt 25)) w5 := ⟨hb5.os, hb5.tape, hb5.output, hb5.size, hb5.block⟩; obtain ⟨A7, n7, c7, rfl⟩ := ownL_sl hd5; obtain ⟨A8, n8, c8, rfl⟩ := ownE_sl he5; have YZ := Lib.hid ((Blk.new w4 25 zSt).below hb5' (by simp)); have HB5 := Lib.hid (low_low (low1 HB4.out _) hb5'); have X5 := Lib.hid ((X4.out.below (low1 (Below.refl _ _) _)).below hb5'); have HD5 := Lib.hid hd5; have HE5 := Lib.hid he5; have k5 := (K4.out.alloc (.cells zSt 25)).below hb5' (by have := K4.out.lt; simp; omega); obtain ⟨r0, r1, r2, r3, r4⟩ := blk_cells4 k5; obtain ⟨v0, v1, v2, v3, v4⟩ := blk_cells4 (k5.grown (upd4_grown w5 w4.heap.size (.slice A7 n7 c7) (.int .i64 u.up) (.int .i64 u.bo) (.slice A8 n8 c8)) (by have := K4.out.lt; simp; omega)); clear k5; obtain ⟨s0, s1, s2, s3, s4⟩ := blk_cells4 YZ.out; obtain ⟨t0, t1, t2, t3⟩ := blk_fz4 YZ.out; clear hd5 he5 hb5 hb5'))
    · have y6 := held_new (HD5.out.more (Nat.zero_le _)) (own_mono HE5.out (Nat.zero_le _))
      have x6 := X5.out.below (low1 (Below.refl _ _) (.cells #[.slice A7 n7 c7, .int .i64 u.up, .int .i64 u.bo, .slice A8 n8 c8] 25))
      have hb6 := low1 HB5.out (.cells #[.slice A7 n7 c7, .int .i64 u.up, .int .i64 u.bo, .slice A8 n8 c8] 25)
      have hxy : gx < w5.heap.size := X5.out.1.lt
      have hwy : w.heap.size ≤ w5.heap.size := HB5.out.size
      have Y6 := Lib.hid y6; clear y6
      have X6 := Lib.hid x6; clear x6
      have HB6 := Lib.hid hb6; clear hb6
      clear r0 r1 r2 r3 r4 HB5 X5 HD5 HE5 q0 q1 q2 q3 q4 HD3 HE3 K3 HB3 AP2 hgy HB4 X4 K4
      generalize w5.alloc (.cells #[.slice A7 n7 c7, .int .i64 u.up, .int .i64 u.bo, .slice A8 n8 c8] 25) = w6 at *
      generalize w5.heap.size = gy at *
      go_wp2_with (go_at_call 9; refine (awake11_any _).mono ?_; rintro e w9 ⟨rfl, hb9⟩; have HB9 := Lib.hid (low_low HB6.out hb9); clear hb9)
      go_ret
      exact ⟨rfl, HB9.out⟩
    · have y6 := held_set YZ.out (HD5.out.more (Nat.zero_le _)) (own_mono HE5.out (Nat.zero_le _))
      have x6 := X5.out.far YZ.out (Nat.ne_of_lt hgy) (upd4_grown w5 w4.heap.size (.slice A7 n7 c7) (.int .i64 u.up) (.int .i64 u.bo) (.slice A8 n8 c8))
      have hb6 := HB5.out.grown (upd4_grown w5 w4.heap.size (.slice A7 n7 c7) (.int .i64 u.up) (.int .i64 u.bo) (.slice A8 n8 c8)) HB5.out.size (fun q hq => by cases hq; exact HB4.out.size)
      have hxy : gx < w4.heap.size := hgy
      have hwy : w.heap.size ≤ w4.heap.size := HB4.out.size
      dsimp only [upd4] at y6 x6 hb6
      have Y6 := Lib.hid y6; clear y6
      have X6 := Lib.hid x6; clear x6
      have HB6 := Lib.hid hb6; clear hb6
      clear r0 r1 r2 r3 r4 v0 v1 v2 v3 v4 s0 s1 s2 s3 s4 t0 t1 t2 t3 HB5 X5 HD5 HE5 YZ q0 q1 q2 q3 q4 HD3 HE3 K3 HB3 AP2 hgy HB4 X4 K4
      generalize (((w5.setCell ⟨w4.heap.size, 0, none⟩ (.slice A7 n7 c7)).setCell ⟨w4.heap.size, 1, none⟩ (.int .i64 u.up)).setCell ⟨w4.heap.size, 2, none⟩ (.int .i64 u.bo)).setCell ⟨w4.heap.size, 3, none⟩ (.slice A8 n8 c8) = w6 at *
      generalize w4.heap.size = gy at *
      go_wp2_with (go_at_call 9; refine (awake11_any _).mono ?_; rintro e w9 ⟨rfl, hb9⟩; have HB9 := Lib.hid (low_low HB6.out hb9); clear hb9)
      go_ret
      exact ⟨rfl, HB9.out⟩
theorem walk (u0a u0b u0c u0d : Value) (a1 : Option Addr) (len1 cap1 : Nat) (a2 : Int) (w : World) (w0a : LasR w u0a) (w0b : NumOf .i64 u0b) (w0c : NumOf .i64 u0c) (w0d : LkR w u0d) (w1 : IsRecs w a1 len1 cap1 6 (ChR w)) (w2 : (Lit.int .u8 a2).wf = true) :
    Calls Try.prog 6 #[.agg #[u0a, u0b, u0c, u0d], .slice a1 len1 cap1, .int .u8 a2] w fun e w' => e = .returned (.bool true) ∧ Below w.heap.size w w' := by
  obtain ⟨l, hc⟩ := chs_in w1
  obtain ⟨s, rfl, rfl, h⟩ := st_in w0a w0b w0c w0d
  obtain ⟨A1, n1, c1, rfl, hr_⟩ := id h.1
  obtain ⟨A2, n2, c2, rfl, hs_⟩ := id h.2
  clear hr_ hs_
  have wf : 0 ≤ a2 ∧ a2 < 256 := (by have := Go.bounds_u8 w2; omega)
  cases hd : (lightS s && lightB l)
  · exact walk_dark s A1 A2 a1 n1 c1 n2 c2 len1 cap1 l a2 w h hc hd
  · simp only [Bool.and_eq_true] at hd
    obtain ⟨t, e, hap⟩ : ∃ t e, applyS s l = (t, e) := ⟨_, _, rfl⟩
    by_cases he : e = 0
    · subst he
      exact walk_yes s A1 A2 a1 n1 c1 n2 c2 len1 cap1 l a2 w h hc wf.1 wf.2 hd.1 hd.2 t hap
    · exact walk_no s A1 A2 a1 n1 c1 n2 c2 len1 cap1 l a2 w h hc wf.1 wf.2 hd.1 hd.2 t e he hap
open Go.ChangeShapes Go.WideShapes Go.ChangeAt Go.RowKit
theorem own : ownKnob Try.prog.godebug = none := by kernel_rfl
theorem laidOut : laidOutB Try.prog = true := by kernel_rfl
/-! the step from the walk to the row -/
set_option maxRecDepth 100000 in
theorem lifted (os : Os) (started : os.Started) (H : Type) (enc : TypeId × Value → H) :
    ReturnsInHanded {} Try.checked os 6 .any (Rows.basePartsSpec.pre6 enc Try.prog Try.f6 Rows.basePartsRow.domain false) (Rows.basePartsSpec.post enc Try.prog Try.f6 false true false false) := by
  refine returnsInHanded_of_change (C := Try.checked) own started (by kernel_rfl) Try.func6
    (ChangeSpec.witness6 (enc := enc) (C := Try.checked) false ⟨#[], #[.agg #[.slice none 0 0, .int .i64 0, .int .i64 0, .slice none 0 0], .slice none 0 0, .int .u8 0], []⟩ 8 (by kernel_rfl) (by kernel_rfl) (by kernel_rfl) (by kernel_rfl)) ?_
  intro W base args ds gs before hval0 hW hcnd _
  have hval : ∀ (j : Nat) t v, Try.f6.params[j]? = some t → args[j]? = some v → Value.okWide Try.prog W .any base t v := hval0
  have hW' := hW
  obtain ⟨p, q, hA0, hV, rfl, hfz, hnd⟩ := hW
  have hA : DataW.TrodAll enc Try.prog W 0 (fun _ => true) true Try.f6.params.toList args.toList ds p := hA0
  rw [Try.params6] at hA hval
  obtain ⟨v0, vs0, d0, ds0, p0, q0, hargs, rfl, rfl, h0, r0⟩ := trodAll_cons hA
  obtain ⟨v1, vs1, d1, ds1, p1, q1, rfl, rfl, rfl, h1, r1⟩ := trodAll_cons r0
  obtain ⟨v2, vs2, d2, ds2, p2, q2, rfl, rfl, rfl, h2, r2⟩ := trodAll_cons r1
  obtain ⟨rfl, rfl, rfl⟩ := trodAll_nil r2
  obtain rfl : args = #[v0, v1, v2] := by cases args; simp_all
  obtain ⟨rfl, rfl⟩ := trodVars_none hV
  have k0 := h0
  have lt0 : ∀ x ∈ p0, x.block < W.heap.size := by obtain ⟨m, hm⟩ := k0; exact DataW.trod_lt m _ _ _ hm
  obtain ⟨u0a, u0b, u0c, u0d, rfl, w0a, w0b, w0c, w0d⟩ := open_state_at (hval 0 25 v0 rfl rfl) h0
  obtain ⟨a1, len1, cap1, rfl⟩ := okWide_slice Try.underlying26 (hval 1 26 v1 rfl rfl)
  have k1 := h1
  have lt1 : ∀ x ∈ p1, x.block < W.heap.size := by obtain ⟨m, hm⟩ := k1; exact DataW.trod_lt m _ _ _ hm
  have w1 : IsRecs W a1 len1 cap1 6 (ChR W) := by
    obtain ⟨fuel, hf⟩ := h1
    obtain ⟨A, l, c, e, hr⟩ := open_changes_at (v := .slice a1 len1 cap1) hf
    injection e with e1 e2 e3
    subst e1 e2 e3
    exact hr
  obtain ⟨a2, rfl, rfl, rfl, w2⟩ := open_int Try.underlying5 (hval 2 5 v2 rfl rfl) h2
  clear hA0 hval0
  refine (walk u0a u0b u0c u0d a1 len1 cap1 a2 W w0a w0b w0c w0d w1 w2).mono fun e W' ⟨he, bel⟩ => ?_
  subst he
  exact ⟨_, rfl, _, _, _, [], _, [], hW', trodAll_mk1 (shut_bool Try.underlying4 _), (trodAll_cons_mk (Below.trod laidOut (by kernel_rfl) (of_decide_eq_true (by kernel_rfl)) k0 bel lt0) (trodAll_cons_mk (Below.trod laidOut (by kernel_rfl) (of_decide_eq_true (by kernel_rfl)) k1 bel lt1) (trodAll_cons_mk (shut_int Try.underlying5 w2) trodAll_mk0))), rfl, bel.frame _, fun h => by cases h⟩

theorem over : Rows.basePartsRow.holds Try.pinned (OpenSpec.ofChange Rows.basePartsSpec) :=
  OpenClaim.holds_of_wide 6 Try.f6 rfl rfl rfl rfl rfl rfl rfl ⟨rfl, rfl, rfl, rfl, rfl⟩ rfl rfl rfl rfl rfl (by kernel_rfl) Try.func6 (by kernel_rfl)
    (of_decide_eq_true (by kernel_rfl)) (by unfold Func.isWrapper; first | (rw [if_pos (by decide +kernel)]; kernel_rfl) | (rw [if_neg (by decide +kernel)]; exact ⟨rfl, rfl⟩))
    (fun os started H enc _ => lifted os started H enc)

/-- the statement -/
theorem proved : Rows.BasePartsSaid := over
end Go.Proofs.Ytcojimbnenibnaa.baseParts
