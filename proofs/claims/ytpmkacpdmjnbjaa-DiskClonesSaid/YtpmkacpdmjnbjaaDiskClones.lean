/- DiskClones: a clone is as it was and turns by itself; nobody's disk is dead: the walk, and the law. -/
import Derived.Test.YtpmkacpdmjnbjaaNone
import Derived.Test.YtpmkacpdmjnbjaaArgs
import Derived.IntWalk
import Derived.WalkKit
import Derived.ProofKit
import Derived.OpenShut
import Derived.ShutString
import Derived.ChangeOld
import Derived.Below
namespace Go.Proofs.Ytpmkacpdmjnbjaa.Dsk
open Go.RowKit Go.Maps Go.Shelf Go.Proofs.Ytpmkacpdmjnbjaa.Mem
set_option linter.unusedVariables false
set_option linter.unusedSimpArgs false
set_option maxRecDepth 20000 in
set_option maxHeartbeats 16000000 in
theorem clones_true (A0 A9 : Option Addr) (len0 cap0 len1 cap1 : Nat) (l m : List Ac) (w : World) (h40 : len0 ≤ 40) (h41 : len1 ≤ 40) (hL : Calls Try.prog 10 #[.slice A0 len0 cap0] w fun e w' => e = .returned (.bool true) ∧ w = w')
    (hM : Calls Try.prog 10 #[.slice A9 len1 cap1] w fun e w' => e = .returned (.bool true) ∧ w = w') (hA : ActsAt w w.heap.size A0 len0 l) (hA' : ActsAt w w.heap.size A9 len1 m) :
    Calls Try.prog 6 #[.slice A0 len0 cap0, .slice A9 len1 cap1] w fun e w' => e = .returned (.bool true) ∧ Below w.heap.size w w' := by
  have LT := Lib.hid hL; clear hL
  have MT := Lib.hid hM; clear hM
  have HA := Lib.hid hA; clear hA
  have HA' := Lib.hid hA'; clear hA'
  have HEN := Lib.hid (enters_of Try.func14 (by kernel_rfl) rfl)
  obtain ⟨n, hn5⟩ : ∃ n : Nat, n = 5 := ⟨_, rfl⟩
  have hne : ((n : Nat) : Int) = 5 := by omega
  have cN := new_ok n w (by omega) (by omega)
  rw [hne] at cN
  have CN := Lib.hid cN; clear cN
  have HNE := Lib.hid hne; clear hne
  have HN5 := Lib.hid hn5; clear hn5
  go_enter Try.func6, Try.ntmps6
  go_wp2_with (first
    | (go_at_call 10; first | (have L2 := L1; clear L1; refine (MT.out).mono ?_; rintro e w' ⟨rfl, rfl⟩) | (refine (LT.out).mono ?_; rintro e w' ⟨rfl, rfl⟩; have L1 := Lib.hid trivial))
    | (go_at_call 12; refine (CN.out).mono ?_; rintro e w1 ⟨g, bs, bw, rfl, hD, hb, hS⟩; have hlt := hD.lt; have rn := ref_new [g, bs, bw] n w1 (by have := HN5.out; omega) (by have := HN5.out; omega) (by simp; omega); rw [HNE.out] at rn; have RN := Lib.hid rn; clear rn; have HD1 := Lib.hid hD; clear hD; have HB1 := Lib.hid hb; clear hb; have HS := Lib.hid hS; clear hS)
    | (go_at_call 13; refine (RN.out).mono ?_; rintro e w2 ⟨v2, rfl, hR, hb⟩; obtain ⟨A1, A2, c1, c2, hv2⟩ := ref_form hR; subst hv2; have HR2 := Lib.hid hR; clear hR; have HD2 := Lib.hid (HD1.out.below hb); have HB2 := Lib.hid (HB1.out.trans (hb.mono HB1.out.size)); have hz2 := hb.size; clear hb; unfold refV at HR2; unfold refV))
  have hk7 := Blk.new w2 31 #[.slice A1 (St.new n).n c1, .slice A2 (St.new n).n c2, .int .i64 (armedOf (St.new n).left), .bool (St.new n).dead]
  have hal := (Below.refl w2.heap.size w2).alloc (Nat.le_refl _) (Obj.cells #[.slice A1 (St.new n).n c1, .slice A2 (St.new n).n c2, .int .i64 (armedOf (St.new n).left), .bool (St.new n).dead] 31)
  have HD3 := Lib.hid (HD2.out.below hal)
  have HR3 := Lib.hid ((HR2.out.raise (raise_cons (x := w2.heap.size) (Nat.le_refl _))).below hal)
  have HB3 := Lib.hid (HB2.out.trans (hal.mono HB2.out.size))
  have HK3 := Lib.hid hk7; clear hk7 hal
  have hlt3 := HD2.out.lt
  have hx7l := HK3.out.lt
  generalize w2.alloc (Obj.cells #[.slice A1 (St.new n).n c1, .slice A2 (St.new n).n c2, .int .i64 (armedOf (St.new n).left), .bool (St.new n).dead] 31) = w3 at *
  generalize hx7 : w2.heap.size = x7 at *
  have hxw : w.heap.size ≤ x7 := by have := HB2.out.size; omega
  clear hx7 hlt
  go_wp2
  go_loopw [8] (fun i wr => ∃ (k : Nat) (B1 B2 : Option Addr) (d1 d2 : Nat), k ≤ len0 ∧ i = .int .i64 k ∧ Blk wr x7 31 #[.slice B1 n d1, .slice B2 n d2, .int .i64 (armedOf ((St.new n).run (l.take k)).left), .bool ((St.new n).run (l.take k)).dead] ∧ DiskAt wr g bs bw ((St.new n).run (l.take k)) ∧ RefAt wr (x7 :: [g, bs, bw]) (.agg #[.slice B1 n d1, .slice B2 n d2, .int .i64 (armedOf ((St.new n).run (l.take k)).left), .bool ((St.new n).run (l.take k)).dead]) ((St.new n).run (l.take k)) ∧ Below w.heap.size w wr) (fun i _ => len0 - (intOf i).toNat)
  case atStart => exact ⟨0, A1, A2, c1, c2, Nat.zero_le _, rfl, HK3.out, HD3.out, HR3.out, HB3.out⟩
  case round =>
    obtain ⟨k, B1, B2, d1, d2, hk, rfl, hk7, hd, hr, hb⟩ := hrel
    have a0 := hk7.cell 0
    have a1 := hk7.cell 1
    have a2 := hk7.cell 2
    have a3 := hk7.cell 3
    have a4 := hk7.lt
    simp at a0 a1 a2 a3
    have hn' : ((St.new n).run (l.take k)).n = n := run_n _ _
    generalize hs : ((St.new n).run (l.take k)) = s at *
    have HK := Lib.hid hk7; clear hk7
    have HD := Lib.hid hd; clear hd
    have HR := Lib.hid hr; clear hr
    have HB := Lib.hid hb; clear hb
    have HN := Lib.hid hn'; clear hn'
    have HSE := Lib.hid hs; clear hs
    by_cases hlt : k < len0
    · obtain ⟨b, off, a, Ab, At, nb, cb, nt, ct, rfl, hbB, hlk, g0, g1, g2, g3, g4, hact⟩ := acts_at HA.out HB.out hlt
      have hbw : b < wr.heap.size := by have := HB.out.size; omega
      have hdo := fun (W : World) (hW : Below wr.heap.size wr W) => do_any (x7 :: [g, bs, bw]) g bs bw w.heap.size s (refV (.slice B1 s.n d1) (.slice B2 s.n d2) s) _ a W (HD.out.below hW) (by have h := HR.out.below hW; rw [← HN.out] at h; exact h) (by simp) (by have h1 := hW.size; have h2 := HD.out.lt; intro y hy; simp at hy; omega) (by obtain ⟨vb, vt, e, q1, q2, q3⟩ := hact; exact ⟨vb, vt, e, q1.below hW (by have := HB.out.size; omega), q2.below hW (by have := HB.out.size; omega), q3⟩) HS.out
      have DO := Lib.hid hdo; clear hdo
      have HST := Lib.hid (run_step (St.new n) l k a hlk); clear hlk hact
      unfold refV at DO
      rw [HN.out] at DO
      have hgl := HD.out.lt
      go_wp2
      go_region_law (refine step_calls rfl 14 _ _ rfl #[ptr g, .agg #[.slice B1 n d1, .slice B2 n d2, .int .i64 (armedOf s.left), .bool s.dead], .agg #[.int .i64 a.what, .int .i64 a.n, .slice Ab nb cb, .bool a.short, .slice At nt ct]] (by simp [Act.eval]) HEN.out (by exact DO.out wr.drew (by exact (Below.refl wr.heap.size wr).drew)) ?_; rintro e w4 ⟨v4, rfl, hD, hR, hK⟩; refine ⟨_, rfl, ?_⟩; obtain ⟨E1, E2, e1, e2, hv4⟩ := ref_form hR; subst hv4; have hn4 : (s.step a).n = n := (step_n s a).trans HN.out; rw [hn4] at hR; have x7k := hK.blk HK.out.drew (by simp; omega); have m0 := x7k.cell 0; have m1 := x7k.cell 1; have m2 := x7k.cell 2; have m3 := x7k.cell 3; have mf0 := x7k.frozen 0; have mf1 := x7k.frozen 1; have mf2 := x7k.frozen 2; have mf3 := x7k.frozen 3; have ml := x7k.lt; simp at m0 m1 m2 m3; have hbl4 : Below w.heap.size wr w4 := (Below.mono (Below.refl wr.heap.size wr).drew (by have := HB.out.size; omega)).trans (hK.below HS.out (by have := HB.out.size; simp; omega)); have m4 := (hbl4.cell (p := ⟨b, off + k * 5, none⟩) hbB).trans g0; have m5 := (hbl4.cell (p := ⟨b, off + k * 5 + 1, none⟩) hbB).trans g1; have m6 := (hbl4.cell (p := ⟨b, off + k * 5 + 2, none⟩) hbB).trans g2; have m7 := (hbl4.cell (p := ⟨b, off + k * 5 + 3, none⟩) hbB).trans g3; have m8 := (hbl4.cell (p := ⟨b, off + k * 5 + 4, none⟩) hbB).trans g4; have HX4 := Lib.hid x7k; clear x7k; have HD4 := Lib.hid hD; clear hD; have HR4 := Lib.hid hR; clear hR; have HB4 := Lib.hid (HB.out.trans hbl4); clear hbl4; have HK4 : Hid (KeptBut wr w4 [g, bs, bw]) := kept_drew.trans hK; clear hK; unfold refV at HR4; unfold refV; try rw [hn4])
      all_goals
        (have gX := set4_blk (a' := .slice E1 n e1) (b' := .slice E2 n e2) (c' := .int .i64 (armedOf (s.step a).left)) (d' := .bool (s.step a).dead) HX4.out
         have gk := set4_kept (g := x7) (S := [x7]) (a := .slice E1 n e1) (b := .slice E2 n e2) (c := .int .i64 (armedOf (s.step a).left)) (d := .bool (s.step a).dead) (KeptBut.refl w4 [x7]) (by simp)
         have gD := HD4.out.kept gk (by simp; omega) (by simp; omega) (by simp; omega)
         have gR := HR4.out.kept (gk.more (S' := x7 :: [g, bs, bw]) (by simp))
         have gB := set4_below (a := .slice E1 n e1) (b := .slice E2 n e2) (c := .int .i64 (armedOf (s.step a).left)) (d := .bool (s.step a).dead) HB4.out hxw
         go_wp2
         go_roundw
         case rel =>
           refine ⟨k + 1, E1, E2, e1, e2, by omega, by go_num, ?_, ?_, ?_, ?_⟩
           · rw [HST.out, HSE.out]; exact gX
           · rw [HST.out, HSE.out]; exact gD
           · rw [HST.out, HSE.out]; exact gR
           · exact gB
         case measure => simp [intOf]; omega)
    · obtain rfl : k = len0 := by omega
      have hfull : l.take k = l := List.take_of_length_le (by have := HA.out.1; omega)
      rw [hfull] at HSE
      have CL := Lib.hid (clone_any g bs bw s wr HD.out)
      go_wp2_with (go_at_call 25; refine (CL.out).mono ?_; rintro e w5 ⟨g', bs', bw', rfl, hDc, hbc, hSc⟩; have y0 := (hbc.cell (p := ⟨x7, 0, none⟩) a4).trans a0; have y1 := (hbc.cell (p := ⟨x7, 1, none⟩) a4).trans a1; have y2 := (hbc.cell (p := ⟨x7, 2, none⟩) a4).trans a2; have y3 := (hbc.cell (p := ⟨x7, 3, none⟩) a4).trans a3; have y4 := Nat.lt_of_lt_of_le a4 hbc.size; have HDC := Lib.hid hDc; clear hDc; have HBC := Lib.hid hbc; clear hbc; have HSC := Lib.hid hSc; clear hSc)
      have hk10 := Blk.new w5 31 #[.slice B1 n d1, .slice B2 n d2, .int .i64 (armedOf s.left), .bool s.dead]
      have hal := (Below.refl w5.heap.size w5).alloc (Nat.le_refl _) (Obj.cells #[.slice B1 n d1, .slice B2 n d2, .int .i64 (armedOf s.left), .bool s.dead] 31)
      have hcl := HDC.out.lt
      have hcs : wr.heap.size ≤ g' ∧ wr.heap.size ≤ bs' ∧ wr.heap.size ≤ bw' := ⟨HSC.out g' (by simp), HSC.out bs' (by simp), HSC.out bw' (by simp)⟩
      have hgx : x7 < g' ∧ x7 < bs' ∧ x7 < bw' := by omega
      have hx710 : x7 < w5.heap.size := by omega
      have hr6 := ((HR.out.raise (S' := w5.heap.size :: x7 :: [g, bs, bw, g', bs', bw']) (by have := HBC.out.size; intro y hy; simp at hy ⊢; omega)).below HBC.out).below hal
      have hw7' := (HK.out.below HBC.out a4).alloc (Obj.cells #[.slice B1 n d1, .slice B2 n d2, .int .i64 (armedOf s.left), .bool s.dead] 31)
      have hd6 := (HD.out.below HBC.out).below hal
      have hdc6 := HDC.out.below hal
      have hb6 := (HB.out.trans (HBC.out.mono HB.out.size)).trans (hal.mono (by have := HB.out.size; have := HBC.out.size; omega))
      have K10 := Lib.hid hk10; clear hk10
      have R6 := Lib.hid hr6; clear hr6
      have W6 := Lib.hid hw7'; clear hw7'
      have D6 := Lib.hid hd6; clear hd6
      have DC6 := Lib.hid hdc6; clear hdc6
      have B6 := Lib.hid hb6; clear hb6 hal
      clear HSC HBC HDC CL
      generalize w5.alloc (Obj.cells #[.slice B1 n d1, .slice B2 n d2, .int .i64 (armedOf s.left), .bool s.dead] 31) = w6 at *
      generalize w5.heap.size = x10 at *
      clear y0 y1 y2 y3 y4 a0 a1 a2 a3 a4
      have hxw0 := hxw
      have hxw : w.heap.size ≤ x10 := by omega
      clear HK HR HD HB hcs
      generalize B1 = F1 at *
      generalize B2 = F2 at *
      generalize d1 = f1 at *
      generalize d2 = f2 at *
      generalize s = s0 at *
      generalize k = len0 at *
      go_loopw [11] (fun i wr => ∃ (k : Nat) (B1 B2 : Option Addr) (d1 d2 : Nat), k ≤ len1 ∧ i = .int .i64 k ∧ Blk wr x10 31 #[.slice B1 n d1, .slice B2 n d2, .int .i64 (armedOf ((s0).run (m.take k)).left), .bool ((s0).run (m.take k)).dead] ∧ DiskAt wr g bs bw ((s0).run (m.take k)) ∧ RefAt wr (x10 :: x7 :: [g, bs, bw, g', bs', bw']) (.agg #[.slice B1 n d1, .slice B2 n d2, .int .i64 (armedOf ((s0).run (m.take k)).left), .bool ((s0).run (m.take k)).dead]) ((s0).run (m.take k)) ∧ Below w.heap.size w wr ∧ Blk wr x7 31 #[.slice F1 n f1, .slice F2 n f2, .int .i64 (armedOf s0.left), .bool s0.dead] ∧ DiskAt wr g' bs' bw' s0 ∧ RefAt wr (x10 :: x7 :: [g, bs, bw, g', bs', bw']) (.agg #[.slice F1 n f1, .slice F2 n f2, .int .i64 (armedOf s0.left), .bool s0.dead]) s0) (fun i _ => len1 - (intOf i).toNat)
      case atStart => exact ⟨0, F1, F2, f1, f2, Nat.zero_le _, rfl, K10.out, D6.out, R6.out, B6.out, W6.out, DC6.out, R6.out⟩
      case round =>
        obtain ⟨k, B1, B2, d1, d2, hk, rfl, hk7, hd, hr, hb, hw7, hd', hr'⟩ := hrel
        have a0 := hk7.cell 0
        have a1 := hk7.cell 1
        have a2 := hk7.cell 2
        have a3 := hk7.cell 3
        have a4 := hk7.lt
        simp at a0 a1 a2 a3
        have hn' : ((s0).run (m.take k)).n = n := (run_n _ _).trans HN.out
        generalize hs : ((s0).run (m.take k)) = s at *
        have HK := Lib.hid hk7; clear hk7
        have HD := Lib.hid hd; clear hd
        have HR := Lib.hid hr; clear hr
        have HB := Lib.hid hb; clear hb
        have HN := Lib.hid hn'; clear hn'
        have HSE := Lib.hid hs; clear hs
        have HW7 := Lib.hid hw7; clear hw7
        have HD' := Lib.hid hd'; clear hd'
        have HR' := Lib.hid hr'; clear hr'
        by_cases hlt : k < len1
        · obtain ⟨b, off, a, Ab, At, nb, cb, nt, ct, rfl, hbB, hlk, g0, g1, g2, g3, g4, hact⟩ := acts_at HA'.out HB.out hlt
          have hbw : b < wr.heap.size := by have := HB.out.size; omega
          have hdo := fun (W : World) (hW : Below wr.heap.size wr W) => do_any (x10 :: x7 :: [g, bs, bw, g', bs', bw']) g bs bw w.heap.size s (refV (.slice B1 s.n d1) (.slice B2 s.n d2) s) _ a W (HD.out.below hW) (by have h := HR.out.below hW; rw [← HN.out] at h; exact h) (by simp) (by have h1 := hW.size; have h2 := HD.out.lt; intro y hy; simp at hy; omega) (by obtain ⟨vb, vt, e, q1, q2, q3⟩ := hact; exact ⟨vb, vt, e, q1.below hW (by have := HB.out.size; omega), q2.below hW (by have := HB.out.size; omega), q3⟩) HS.out
          have DO := Lib.hid hdo; clear hdo
          have HST := Lib.hid (run_step (s0) m k a hlk); clear hlk hact
          unfold refV at DO
          rw [HN.out] at DO
          have hgl := HD.out.lt
          go_wp2
          go_region_law (refine step_calls rfl 14 _ _ rfl #[ptr g, .agg #[.slice B1 n d1, .slice B2 n d2, .int .i64 (armedOf s.left), .bool s.dead], .agg #[.int .i64 a.what, .int .i64 a.n, .slice Ab nb cb, .bool a.short, .slice At nt ct]] (by simp [Act.eval]) HEN.out (by exact DO.out wr.drew (by exact (Below.refl wr.heap.size wr).drew)) ?_; rintro e w4 ⟨v4, rfl, hD, hR, hK⟩; refine ⟨_, rfl, ?_⟩; obtain ⟨E1, E2, e1, e2, hv4⟩ := ref_form hR; subst hv4; have hn4 : (s.step a).n = n := (step_n s a).trans HN.out; rw [hn4] at hR; have x7k := hK.blk HK.out.drew (by simp; omega); have m0 := x7k.cell 0; have m1 := x7k.cell 1; have m2 := x7k.cell 2; have m3 := x7k.cell 3; have mf0 := x7k.frozen 0; have mf1 := x7k.frozen 1; have mf2 := x7k.frozen 2; have mf3 := x7k.frozen 3; have ml := x7k.lt; simp at m0 m1 m2 m3; have hbl4 : Below w.heap.size wr w4 := (Below.mono (Below.refl wr.heap.size wr).drew (by have := HB.out.size; omega)).trans (hK.below HS.out (by have := HB.out.size; simp; omega)); have m4 := (hbl4.cell (p := ⟨b, off + k * 5, none⟩) hbB).trans g0; have m5 := (hbl4.cell (p := ⟨b, off + k * 5 + 1, none⟩) hbB).trans g1; have m6 := (hbl4.cell (p := ⟨b, off + k * 5 + 2, none⟩) hbB).trans g2; have m7 := (hbl4.cell (p := ⟨b, off + k * 5 + 3, none⟩) hbB).trans g3; have m8 := (hbl4.cell (p := ⟨b, off + k * 5 + 4, none⟩) hbB).trans g4; have HX4 := Lib.hid x7k; clear x7k; have HD4 := Lib.hid hD; clear hD; have HR4 := Lib.hid hR; clear hR; have HB4 := Lib.hid (HB.out.trans hbl4); clear hbl4; have HK4 : Hid (KeptBut wr w4 [g, bs, bw]) := kept_drew.trans hK; clear hK; unfold refV at HR4; unfold refV; try rw [hn4])
          all_goals
            (have gX := set4_blk (a' := .slice E1 n e1) (b' := .slice E2 n e2) (c' := .int .i64 (armedOf (s.step a).left)) (d' := .bool (s.step a).dead) HX4.out
             have gk := set4_kept (g := x10) (S := [x10]) (a := .slice E1 n e1) (b := .slice E2 n e2) (c := .int .i64 (armedOf (s.step a).left)) (d := .bool (s.step a).dead) (KeptBut.refl w4 [x10]) (by simp)
             have gD := HD4.out.kept gk (by simp; omega) (by simp; omega) (by simp; omega)
             have gR := HR4.out.kept (gk.more (S' := x10 :: x7 :: [g, bs, bw, g', bs', bw']) (by simp))
             have gB := set4_below (a := .slice E1 n e1) (b := .slice E2 n e2) (c := .int .i64 (armedOf (s.step a).left)) (d := .bool (s.step a).dead) HB4.out hxw
             go_wp2
             go_roundw
             case rel =>
               refine ⟨k + 1, E1, E2, e1, e2, by omega, by go_num, ?_, ?_, ?_, ?_, ?_, ?_, ?_⟩
               · rw [HST.out, HSE.out]; exact gX
               · rw [HST.out, HSE.out]; exact gD
               · rw [HST.out, HSE.out]; exact gR
               · exact gB
               · exact set4_far (HK4.out.blk HW7.out (by simp; omega)) (by omega)
               · exact (HD'.out.kept HK4.out (by simp; omega) (by simp; omega) (by simp; omega)).kept gk (by simp; omega) (by simp; omega) (by simp; omega)
               · exact (HR'.out.kept (HK4.out.more (by simp))).kept (gk.more (by simp))
             case measure => simp [intOf]; omega)
        · obtain rfl : k = len1 := by omega
          have hfull : m.take k = m := List.take_of_length_le (by have := HA'.out.1; omega)
          rw [hfull] at HSE
          go_wp2
          have hzw := HB.out.size
          have hgl := HD.out.lt
          have b0 := HW7.out.cell 0
          have b1 := HW7.out.cell 1
          have b2 := HW7.out.cell 2
          have b3 := HW7.out.cell 3
          have b4 := HW7.out.lt
          simp at b0 b1 b2 b3
          generalize wr = w10 at *
          generalize k = len1 at *
          go_loopw [12] (fun i wr => (∃ k : Nat, k ≤ 2 ∧ i = .int .i64 k) ∧ Below w10.heap.size w10 wr) (fun i _ => 2 - (intOf i).toNat)
          case atStart => exact ⟨⟨0, by omega, rfl⟩, Below.refl _ _⟩
          case round =>
            obtain ⟨⟨k, hk, rfl⟩, hb12⟩ := hrel
            have HL := Lib.hid hb12; clear hb12
            by_cases hk0 : k = 0
            · subst hk0
              go_wp2_with (first
                | (go_at_call 26; refine (none_arm _ _ _ (.inl rfl)).mono ?_; rintro e w' ⟨rfl, rfl⟩)
                | (go_at_call 17; refine (none_crash _ _ _ (.inl rfl)).mono ?_; rintro e w' ⟨rfl, rfl⟩)
                | (go_at_call 16; refine (none_read _ _ _ (.inl rfl)).mono ?_; rintro e w' ⟨rfl, rfl⟩)
                | (go_at_call 24; refine (none_dead _ _ (.inl rfl)).mono ?_; rintro e w' ⟨rfl, rfl⟩)
                | (go_at_call 19; refine (fill_any (.slice none 0 0) [] _ (sl_nil _ _)).mono ?_; rintro e w11 ⟨rfl, hF, hbF⟩; skip; have BF := Lib.hid hbF; clear hbF hF)
                | (go_at_call 18; refine (none_write _ _ _ _ (.inl rfl)).mono ?_; rintro e w' ⟨rfl, rfl⟩)
                | (go_at_call 20; refine (none_flush _ _ (.inl rfl)).mono ?_; rintro e w' ⟨rfl, rfl⟩)
                | (go_at_call 27; refine (none_size _ _ (.inl rfl)).mono ?_; rintro e w' ⟨rfl, rfl⟩)
                | (go_at_call 23; refine (none_waits _ _ (.inl rfl)).mono ?_; rintro e w' ⟨rfl, rfl⟩)
                | (go_at_call 25; refine (none_clone _ _ (.inl rfl)).mono ?_; rintro e w' ⟨rfl, rfl⟩; have CLD := Lib.hid trivial))
              go_roundw
              case rel => exact ⟨⟨1, by omega, by first | rfl | go_num⟩, HL.out.trans (BF.out.mono HL.out.size)⟩
              case measure => simp [intOf]
            · by_cases hk1 : k = 1
              · subst hk1
                have hz : NoneAt (wr.alloc (.cells #[.int .i64 0, .map none, .map none, .int .i64 0, .bool false] 60)) (ptr wr.heap.size) := .inr ⟨_, rfl, Blk.new _ _ _⟩
                have HZ := Lib.hid hz; clear hz
                go_wp2_with (first
                  | (go_at_call 26; refine (none_arm _ _ _ HZ.out).mono ?_; rintro e w' ⟨rfl, rfl⟩)
                  | (go_at_call 17; refine (none_crash _ _ _ HZ.out).mono ?_; rintro e w' ⟨rfl, rfl⟩)
                  | (go_at_call 16; refine (none_read _ _ _ HZ.out).mono ?_; rintro e w' ⟨rfl, rfl⟩)
                  | (go_at_call 24; first | (have q := CLD; refine (none_dead _ _ (.inl rfl)).mono ?_; rintro e w' ⟨rfl, rfl⟩) | (refine (none_dead _ _ HZ.out).mono ?_; rintro e w' ⟨rfl, rfl⟩))
                  | (go_at_call 19; refine (fill_any (.slice none 0 0) [] _ (sl_nil _ _)).mono ?_; rintro e w11 ⟨rfl, hF, hbF⟩; have HZ2 : Hid (NoneAt w11 (ptr wr.heap.size)) := .inr ⟨_, rfl, (Blk.new wr 60 #[.int .i64 0, .map none, .map none, .int .i64 0, .bool false]).below hbF (by simp)⟩; have BF := Lib.hid hbF; clear hbF hF)
                  | (go_at_call 18; refine (none_write _ _ _ _ HZ2.out).mono ?_; rintro e w' ⟨rfl, rfl⟩)
                  | (go_at_call 20; refine (none_flush _ _ HZ2.out).mono ?_; rintro e w' ⟨rfl, rfl⟩)
                  | (go_at_call 27; refine (none_size _ _ HZ2.out).mono ?_; rintro e w' ⟨rfl, rfl⟩)
                  | (go_at_call 23; refine (none_waits _ _ HZ2.out).mono ?_; rintro e w' ⟨rfl, rfl⟩)
                  | (go_at_call 25; refine (none_clone _ _ HZ2.out).mono ?_; rintro e w' ⟨rfl, rfl⟩; have CLD := Lib.hid trivial))
                go_roundw
                case rel => exact ⟨⟨2, by omega, by first | rfl | go_num⟩, HL.out.trans (((Below.refl _ wr).alloc (Nat.le_refl _) _).trans (BF.out.mono (by simp)) |>.mono HL.out.size)⟩
                case measure => simp [intOf]
              · obtain rfl : k = 2 := by omega
                have e0 := (HL.out.cell (p := ⟨x7, 0, none⟩) b4).trans b0
                have e1 := (HL.out.cell (p := ⟨x7, 1, none⟩) b4).trans b1
                have e2 := (HL.out.cell (p := ⟨x7, 2, none⟩) b4).trans b2
                have e3 := (HL.out.cell (p := ⟨x7, 3, none⟩) b4).trans b3
                have e4 := Nat.lt_of_lt_of_le b4 HL.out.size
                have f0 := (HL.out.cell (p := ⟨x10, 0, none⟩) a4).trans a0
                have f1' := (HL.out.cell (p := ⟨x10, 1, none⟩) a4).trans a1
                have f2' := (HL.out.cell (p := ⟨x10, 2, none⟩) a4).trans a2
                have f3 := (HL.out.cell (p := ⟨x10, 3, none⟩) a4).trans a3
                have f4 := Nat.lt_of_lt_of_le a4 HL.out.size
                have LK1 := Lib.hid (like_any g' bs' bw' _ _ _ wr (HD'.out.below HL.out) (HR'.out.below HL.out))
                have lk2 := fun (W : World) (hW : Below wr.heap.size wr W) => like_any g bs bw _ _ _ W ((HD.out.below HL.out).below hW) ((HR.out.below HL.out).below hW)
                have LK2 := Lib.hid lk2; clear lk2
                go_wp2_with (first
                  | (go_at_call 15; first
                    | (refine (LK2.out _ LB.out).mono ?_; rintro e w14 ⟨rfl, hb14⟩; have LC := Lib.hid (LB.out.trans (hb14.mono LB.out.size)); clear hb14)
                    | (refine (LK1.out).mono ?_; rintro e w13 ⟨rfl, hb13⟩; have y0 := (hb13.cell (p := ⟨x10, 0, none⟩) f4).trans f0; have y1 := (hb13.cell (p := ⟨x10, 1, none⟩) f4).trans f1'; have y2 := (hb13.cell (p := ⟨x10, 2, none⟩) f4).trans f2'; have y3 := (hb13.cell (p := ⟨x10, 3, none⟩) f4).trans f3; have y4 := Nat.lt_of_lt_of_le f4 hb13.size; have LB := Lib.hid hb13; clear hb13))
                  | (go_at_call 11; refine (awake_any _).mono ?_; rintro e w15 ⟨rfl, hb15⟩))
                go_ret
                exact ⟨rfl, (HB.out.trans ((HL.out.trans (LC.out.mono HL.out.size)).mono hzw)).trans (hb15.mono (by have := HL.out.size; have := LC.out.size; omega))⟩
set_option maxHeartbeats 1000000 in
theorem clones_awake0 (A0 A9 : Option Addr) (len0 cap0 len1 cap1 : Nat) (w : World) (hL : Calls Try.prog 10 #[.slice A0 len0 cap0] w fun e w' => e = .returned (.bool false) ∧ w = w') :
    Calls Try.prog 6 #[.slice A0 len0 cap0, .slice A9 len1 cap1] w fun e w' => e = .returned (.bool true) ∧ Below w.heap.size w w' := by
  have LT := Lib.hid hL; clear hL
  go_enter Try.func6, Try.ntmps6
  go_wp2_with (first
    | (go_at_call 10; refine (LT.out).mono ?_; rintro e w' ⟨rfl, rfl⟩)
    | (go_at_call 11; refine (awake_any _).mono ?_; rintro e w8 ⟨rfl, hb8⟩))
  go_ret
  exact ⟨rfl, hb8⟩
set_option maxHeartbeats 1000000 in
theorem clones_awake1 (A0 A9 : Option Addr) (len0 cap0 len1 cap1 : Nat) (w : World) (hL : Calls Try.prog 10 #[.slice A0 len0 cap0] w fun e w' => e = .returned (.bool true) ∧ w = w') (hM : Calls Try.prog 10 #[.slice A9 len1 cap1] w fun e w' => e = .returned (.bool false) ∧ w = w') :
    Calls Try.prog 6 #[.slice A0 len0 cap0, .slice A9 len1 cap1] w fun e w' => e = .returned (.bool true) ∧ Below w.heap.size w w' := by
  have LT := Lib.hid hL; clear hL
  have MT := Lib.hid hM; clear hM
  go_enter Try.func6, Try.ntmps6
  go_wp2_with (first
    | (go_at_call 10; first | (have L2 := L1; clear L1; refine (MT.out).mono ?_; rintro e w' ⟨rfl, rfl⟩) | (refine (LT.out).mono ?_; rintro e w' ⟨rfl, rfl⟩; have L1 := Lib.hid trivial))
    | (go_at_call 11; refine (awake_any _).mono ?_; rintro e w8 ⟨rfl, hb8⟩))
  go_ret
  exact ⟨rfl, hb8⟩
end Go.Proofs.Ytpmkacpdmjnbjaa.Dsk
namespace Go.Proofs.Ytpmkacpdmjnbjaa.diskClones
open Go.Proofs.Ytpmkacpdmjnbjaa.Mem Go.Proofs.Ytpmkacpdmjnbjaa.Dsk
open Go.ChangeShapes Go.WideShapes Go.ChangeAt Go.RowKit
set_option linter.unusedVariables false
theorem own : ownKnob Try.prog.godebug = none := by kernel_rfl
theorem laidOut : laidOutB Try.prog = true := by kernel_rfl
theorem walk (a0 : Option Addr) (len0 cap0 : Nat) (a1 : Option Addr) (len1 cap1 : Nat) (w : World) (w0 : IsRecs w a0 len0 cap0 5 (ActR w)) (w1 : IsRecs w a1 len1 cap1 5 (ActR w)) :
    Calls Try.prog 6 #[.slice a0 len0 cap0, .slice a1 len1 cap1] w fun e w' => e = .returned (.bool true) ∧ Below w.heap.size w w' := by
  by_cases hf : len0 ≤ 40 ∧ ∀ b off, a0 = some ⟨b, off, none⟩ → ∀ i, i < len0 → ActFits w b off i
  · by_cases hg : len1 ≤ 40 ∧ ∀ b off, a1 = some ⟨b, off, none⟩ → ∀ i, i < len1 → ActFits w b off i
    · obtain ⟨l, hA⟩ := acts_of w0 hf.2
      obtain ⟨m, hA'⟩ := acts_of w1 hg.2
      exact clones_true a0 a1 len0 cap0 len1 cap1 l m w hf.1 hg.1 (light_yes w0 hf) (light_yes w1 hg) hA hA'
    · exact clones_awake1 a0 a1 len0 cap0 len1 cap1 w (light_yes w0 hf) (light_not w1 hg)
  · exact clones_awake0 a0 a1 len0 cap0 len1 cap1 w (light_not w0 hf)
/-! the step from the walk to the row -/
set_option maxRecDepth 100000 in
theorem lifted (os : Os) (started : os.Started) (H : Type) (enc : TypeId × Value → H) :
    ReturnsInHanded {} Try.checked os 6 .any (Rows.diskClonesSpec.pre6 enc Try.prog Try.f6 Rows.diskClonesRow.domain false) (Rows.diskClonesSpec.post enc Try.prog Try.f6 false true false false) := by
  refine returnsInHanded_of_change (C := Try.checked) own started (by kernel_rfl) Try.func6
    (ChangeSpec.witness6 (enc := enc) (C := Try.checked) false ⟨#[], #[.slice none 0 0, .slice none 0 0], []⟩ 8 (by kernel_rfl) (by kernel_rfl) (by kernel_rfl) (by kernel_rfl)) ?_
  intro W base args ds gs before hval0 hW hcnd _
  have hval : ∀ (j : Nat) t v, Try.f6.params[j]? = some t → args[j]? = some v → Value.okWide Try.prog W .any base t v := hval0
  have hW' := hW
  obtain ⟨p, q, hA0, hV, rfl, hfz, hnd⟩ := hW
  have hA : DataW.TrodAll enc Try.prog W 0 (fun _ => true) true Try.f6.params.toList args.toList ds p := hA0
  rw [Try.params6] at hA hval
  obtain ⟨v0, vs0, d0, ds0, p0, q0, hargs, rfl, rfl, h0, r0⟩ := trodAll_cons hA
  obtain ⟨v1, vs1, d1, ds1, p1, q1, rfl, rfl, rfl, h1, r1⟩ := trodAll_cons r0
  obtain ⟨rfl, rfl, rfl⟩ := trodAll_nil r1
  obtain rfl : args = #[v0, v1] := by cases args; simp_all
  obtain ⟨rfl, rfl⟩ := trodVars_none hV
  obtain ⟨a0, len0, cap0, rfl⟩ := okWide_slice Try.underlying22 (hval 0 22 v0 rfl rfl)
  have k0 := h0
  have lt0 : ∀ x ∈ p0, x.block < W.heap.size := by obtain ⟨m, hm⟩ := k0; exact DataW.trod_lt m _ _ _ hm
  have w0 : IsRecs W a0 len0 cap0 5 (ActR W) := by
    obtain ⟨fuel, hf⟩ := h0
    rcases open_slice_fields Try.underlying22 Try.underlying38 (by kernel_rfl) (by kernel_rfl) hf with ⟨hcs, _⟩ | ⟨x, l, c, m, D, Pl, hcs, _, hl, hm, hmm, _, hh⟩
    · simp [Value.cells] at hcs
      obtain ⟨rfl, rfl, rfl⟩ := hcs
      exact .inl ⟨rfl, rfl, rfl⟩
    · simp [Value.cells] at hcs
      obtain ⟨rfl, rfl, rfl⟩ := hcs
      refine .inr ⟨_, rfl, hl, hm, fun i hi j hj => ?_⟩
      obtain ⟨ys, n, _, _, _, hg⟩ := hh i (by rw [hmm, if_pos rfl]; exact hi)
      match j, hj with
      | 0, _ =>
        obtain ⟨v, y, hc, _, ht⟩ := hg 0 _ rfl
        exact ⟨v, hc, open_num_at Try.underlying3 ht⟩
      | 1, _ =>
        obtain ⟨v, y, hc, _, ht⟩ := hg 1 _ rfl
        exact ⟨v, hc, open_num_at Try.underlying3 ht⟩
      | 2, _ =>
        obtain ⟨v, y, hc, _, ht⟩ := hg 2 _ rfl
        exact ⟨v, hc, open_row_at Try.underlying35 Try.underlying5 (by kernel_rfl) ht⟩
      | 3, _ =>
        obtain ⟨v, y, hc, _, ht⟩ := hg 3 _ rfl
        exact ⟨v, hc, open_bool_at Try.underlying4 ht⟩
      | 4, _ =>
        obtain ⟨v, y, hc, _, ht⟩ := hg 4 _ rfl
        refine ⟨v, hc, ?_⟩
        rcases open_slice_fields Try.underlying36 Try.underlying52 (by kernel_rfl) (by kernel_rfl) ht with ⟨hcs', _⟩ | ⟨x', l', c', m', D', Pl', hcs', _, hl', hm', hmm', _, hh'⟩
        · obtain rfl : v = .slice none 0 0 := by simpa using hcs'
          exact ⟨_, _, _, rfl, .inl ⟨rfl, rfl, rfl⟩⟩
        · obtain rfl : v = .slice (some x') l' c' := by simpa using hcs'
          refine ⟨_, _, _, rfl, ?_⟩
          refine .inr ⟨_, rfl, hl', hm', fun i' hi' j' hj' => ?_⟩
          obtain ⟨ys', n', _, _, _, hg'⟩ := hh' i' (by rw [hmm', if_pos rfl]; exact hi')
          match j', hj' with
          | 0, _ =>
            obtain ⟨v, y, hc, _, ht⟩ := hg' 0 _ rfl
            exact ⟨v, hc, open_num_at Try.underlying3 ht⟩
          | 1, _ =>
            obtain ⟨v, y, hc, _, ht⟩ := hg' 1 _ rfl
            exact ⟨v, hc, open_row_at Try.underlying35 Try.underlying5 (by kernel_rfl) ht⟩
  obtain ⟨a1, len1, cap1, rfl⟩ := okWide_slice Try.underlying22 (hval 1 22 v1 rfl rfl)
  have k1 := h1
  have lt1 : ∀ x ∈ p1, x.block < W.heap.size := by obtain ⟨m, hm⟩ := k1; exact DataW.trod_lt m _ _ _ hm
  have w1 : IsRecs W a1 len1 cap1 5 (ActR W) := by
    obtain ⟨fuel, hf⟩ := h1
    rcases open_slice_fields Try.underlying22 Try.underlying38 (by kernel_rfl) (by kernel_rfl) hf with ⟨hcs, _⟩ | ⟨x, l, c, m, D, Pl, hcs, _, hl, hm, hmm, _, hh⟩
    · simp [Value.cells] at hcs
      obtain ⟨rfl, rfl, rfl⟩ := hcs
      exact .inl ⟨rfl, rfl, rfl⟩
    · simp [Value.cells] at hcs
      obtain ⟨rfl, rfl, rfl⟩ := hcs
      refine .inr ⟨_, rfl, hl, hm, fun i hi j hj => ?_⟩
      obtain ⟨ys, n, _, _, _, hg⟩ := hh i (by rw [hmm, if_pos rfl]; exact hi)
      match j, hj with
      | 0, _ =>
        obtain ⟨v, y, hc, _, ht⟩ := hg 0 _ rfl
        exact ⟨v, hc, open_num_at Try.underlying3 ht⟩
      | 1, _ =>
        obtain ⟨v, y, hc, _, ht⟩ := hg 1 _ rfl
        exact ⟨v, hc, open_num_at Try.underlying3 ht⟩
      | 2, _ =>
        obtain ⟨v, y, hc, _, ht⟩ := hg 2 _ rfl
        exact ⟨v, hc, open_row_at Try.underlying35 Try.underlying5 (by kernel_rfl) ht⟩
      | 3, _ =>
        obtain ⟨v, y, hc, _, ht⟩ := hg 3 _ rfl
        exact ⟨v, hc, open_bool_at Try.underlying4 ht⟩
      | 4, _ =>
        obtain ⟨v, y, hc, _, ht⟩ := hg 4 _ rfl
        refine ⟨v, hc, ?_⟩
        rcases open_slice_fields Try.underlying36 Try.underlying52 (by kernel_rfl) (by kernel_rfl) ht with ⟨hcs', _⟩ | ⟨x', l', c', m', D', Pl', hcs', _, hl', hm', hmm', _, hh'⟩
        · obtain rfl : v = .slice none 0 0 := by simpa using hcs'
          exact ⟨_, _, _, rfl, .inl ⟨rfl, rfl, rfl⟩⟩
        · obtain rfl : v = .slice (some x') l' c' := by simpa using hcs'
          refine ⟨_, _, _, rfl, ?_⟩
          refine .inr ⟨_, rfl, hl', hm', fun i' hi' j' hj' => ?_⟩
          obtain ⟨ys', n', _, _, _, hg'⟩ := hh' i' (by rw [hmm', if_pos rfl]; exact hi')
          match j', hj' with
          | 0, _ =>
            obtain ⟨v, y, hc, _, ht⟩ := hg' 0 _ rfl
            exact ⟨v, hc, open_num_at Try.underlying3 ht⟩
          | 1, _ =>
            obtain ⟨v, y, hc, _, ht⟩ := hg' 1 _ rfl
            exact ⟨v, hc, open_row_at Try.underlying35 Try.underlying5 (by kernel_rfl) ht⟩
  clear hA0 hval0
  refine (walk a0 len0 cap0 a1 len1 cap1 W w0 w1).mono fun e W' ⟨he, bel⟩ => ?_
  subst he
  exact ⟨_, rfl, _, _, _, [], _, [], hW', trodAll_mk1 (shut_bool Try.underlying4 _), (trodAll_cons_mk (Below.trod laidOut (by kernel_rfl) (of_decide_eq_true (by kernel_rfl)) k0 bel lt0) (trodAll_cons_mk (Below.trod laidOut (by kernel_rfl) (of_decide_eq_true (by kernel_rfl)) k1 bel lt1) trodAll_mk0)), rfl, bel.frame _, fun h => by cases h⟩

theorem over : Rows.diskClonesRow.holds Try.pinned (OpenSpec.ofChange Rows.diskClonesSpec) :=
  OpenClaim.holds_of_wide 6 Try.f6 rfl rfl rfl rfl rfl rfl rfl ⟨rfl, rfl, rfl, rfl, rfl⟩ rfl rfl rfl rfl rfl (by kernel_rfl) Try.func6 (by kernel_rfl)
    (of_decide_eq_true (by kernel_rfl)) (by unfold Func.isWrapper; first | (rw [if_pos (by decide +kernel)]; kernel_rfl) | (rw [if_neg (by decide +kernel)]; exact ⟨rfl, rfl⟩))
    (fun os started H enc _ => lifted os started H enc)

/-- the statement -/
theorem proved : Rows.DiskClonesSaid := over
end Go.Proofs.Ytpmkacpdmjnbjaa.diskClones
