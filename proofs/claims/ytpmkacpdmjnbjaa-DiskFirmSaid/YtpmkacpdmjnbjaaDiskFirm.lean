/- DiskFirm: what is flushed, and not written since, is there behind whatever is done: the walk, and the law. -/
import Derived.Test.YtpmkacpdmjnbjaaFirm
import Derived.Test.YtpmkacpdmjnbjaaArgs
import Derived.IntWalk
import Derived.WalkKit
import Derived.ProofKit
import Derived.OpenShut
import Derived.ShutString
import Derived.ChangeOld
import Derived.Below
namespace Go.Proofs.Ytpmkacpdmjnbjaa.Dsk
open Go.RowKit Go.Maps Go.Shelf Go.Proofs.Ytpmkacpdmjnbjaa.Mem
set_option linter.unusedVariables false
set_option linter.unusedSimpArgs false
set_option maxRecDepth 20000 in
set_option maxHeartbeats 32000000 in
theorem firm_true (A0 A9 A7 : Option Addr) (len0 cap0 len1 cap1 n7 c7 x : Nat) (l m : List Ac) (xb : List Nat) (v : World) (h40 : len0 ≤ 40) (h41 : len1 ≤ 40) (hn7 : n7 ≤ 512) (hx : x < 256)
    (hL : ∀ q, Calls Try.prog 10 #[.slice A0 len0 cap0] ((v.alloc (.cells #[.int .u8 (x : Nat), .slice A7 n7 c7] 44)).drewN q) fun e w' => e = .returned (.bool true) ∧ ((v.alloc (.cells #[.int .u8 (x : Nat), .slice A7 n7 c7] 44)).drewN q) = w')
    (hM : ∀ q, Calls Try.prog 10 #[.slice A9 len1 cap1] ((v.alloc (.cells #[.int .u8 (x : Nat), .slice A7 n7 c7] 44)).drewN q) fun e w' => e = .returned (.bool true) ∧ ((v.alloc (.cells #[.int .u8 (x : Nat), .slice A7 n7 c7] 44)).drewN q) = w')
    (hA : ∀ q, ActsAt ((v.alloc (.cells #[.int .u8 (x : Nat), .slice A7 n7 c7] 44)).drewN q) ((v.alloc (.cells #[.int .u8 (x : Nat), .slice A7 n7 c7] 44)).drewN q).heap.size A0 len0 l) (hA' : ∀ q, ActsAt ((v.alloc (.cells #[.int .u8 (x : Nat), .slice A7 n7 c7] 44)).drewN q) ((v.alloc (.cells #[.int .u8 (x : Nat), .slice A7 n7 c7] 44)).drewN q).heap.size A9 len1 m) (hS : ∀ q, Sl ((v.alloc (.cells #[.int .u8 (x : Nat), .slice A7 n7 c7] 44)).drewN q) ((v.alloc (.cells #[.int .u8 (x : Nat), .slice A7 n7 c7] 44)).drewN q).heap.size (.slice A7 n7 c7) xb) :
    Calls Try.prog 4 #[.slice A0 len0 cap0, .slice A9 len1 cap1, .agg #[.int .u8 (x : Nat), .slice A7 n7 c7]] v fun e w' => e = .returned (.bool true) ∧ Below v.heap.size v w' := by
  have LT0 := Lib.hid hL; clear hL
  have MT0 := Lib.hid hM; clear hM
  have HA0 := Lib.hid hA; clear hA
  have HA0' := Lib.hid hA'; clear hA'
  have HS0 := Lib.hid hS; clear hS
  have HEN := Lib.hid (enters_of Try.func14 (by kernel_rfl) rfl)
  have hd7 : decide (512 < (n7 : Int)) = false := by simp; omega
  have HV0 := Lib.hid ((Below.refl v.heap.size v).alloc (Nat.le_refl _) (.cells #[.int .u8 (x : Nat), .slice A7 n7 c7] 44))
  go_enter Try.func4, Try.ntmps4
  go_wp2
  go_quiet (fail)
  generalize hq : World.drewN (v.alloc (.cells #[.int .u8 (x : Nat), .slice A7 n7 c7] 44)) _ = w
  have LT := Lib.hid (show Calls Try.prog 10 #[.slice A0 len0 cap0] w fun e w' => e = .returned (.bool true) ∧ w = w' by rw [← hq]; exact LT0.out _)
  have MT := Lib.hid (show Calls Try.prog 10 #[.slice A9 len1 cap1] w fun e w' => e = .returned (.bool true) ∧ w = w' by rw [← hq]; exact MT0.out _)
  have HA := Lib.hid (show ActsAt w w.heap.size A0 len0 l by rw [← hq]; exact HA0.out _)
  have HA' := Lib.hid (show ActsAt w w.heap.size A9 len1 m by rw [← hq]; exact HA0'.out _)
  have HSB := Lib.hid (show Sl w w.heap.size (.slice A7 n7 c7) xb by rw [← hq]; exact HS0.out _)
  have HV := Lib.hid (show Below v.heap.size v w by rw [← hq]; exact below_drewN HV0.out _)
  clear hq LT0 MT0 HA0 HA0' HS0 HV0
  obtain ⟨n, hn5⟩ : ∃ n : Nat, n = 6 := ⟨_, rfl⟩
  have hne : ((n : Nat) : Int) = 6 := by omega
  have cN := new_ok n w (by omega) (by omega)
  rw [hne] at cN
  have CN := Lib.hid cN; clear cN
  have HNE := Lib.hid hne; clear hne
  have HN5 := Lib.hid hn5; clear hn5
  go_wp2_with (first
    | (go_at_call 10; first | (have L2 := L1; clear L1; refine (MT.out).mono ?_; rintro e w' ⟨rfl, rfl⟩) | (refine (LT.out).mono ?_; rintro e w' ⟨rfl, rfl⟩; have L1 := Lib.hid trivial))
    | (go_at_call 12; refine (CN.out).mono ?_; rintro e w1 ⟨g, bs, bw, rfl, hD, hb, hS⟩; have hlt := hD.lt; have rn := ref_new [g, bs, bw] n w1 (by have := HN5.out; omega) (by have := HN5.out; omega) (by simp; omega); rw [HNE.out] at rn; have RN := Lib.hid rn; clear rn; have HD1 := Lib.hid hD; clear hD; have HB1 := Lib.hid hb; clear hb; have HS := Lib.hid hS; clear hS)
    | (go_at_call 13; refine (RN.out).mono ?_; rintro e w2 ⟨v2, rfl, hR, hb⟩; obtain ⟨A1, A2, c1, c2, hv2⟩ := ref_form hR; subst hv2; have HR2 := Lib.hid hR; clear hR; have HD2 := Lib.hid (HD1.out.below hb); have HB2 := Lib.hid (HB1.out.trans (hb.mono HB1.out.size)); have hz2 := hb.size; clear hb; unfold refV at HR2; unfold refV))
  have hk7 := Blk.new w2 31 #[.slice A1 (St.new n).n c1, .slice A2 (St.new n).n c2, .int .i64 (armedOf (St.new n).left), .bool (St.new n).dead]
  have hal := (Below.refl w2.heap.size w2).alloc (Nat.le_refl _) (Obj.cells #[.slice A1 (St.new n).n c1, .slice A2 (St.new n).n c2, .int .i64 (armedOf (St.new n).left), .bool (St.new n).dead] 31)
  have HD3 := Lib.hid (HD2.out.below hal)
  have HR3 := Lib.hid ((HR2.out.raise (raise_cons (x := w2.heap.size) (Nat.le_refl _))).below hal)
  have HB3 := Lib.hid (HB2.out.trans (hal.mono HB2.out.size))
  have HK3 := Lib.hid hk7; clear hk7 hal
  have hlt3 := HD2.out.lt
  have hx7l := HK3.out.lt
  generalize w2.alloc (Obj.cells #[.slice A1 (St.new n).n c1, .slice A2 (St.new n).n c2, .int .i64 (armedOf (St.new n).left), .bool (St.new n).dead] 31) = w3 at *
  generalize hx7 : w2.heap.size = x7 at *
  have hxw : w.heap.size ≤ x7 := by have := HB2.out.size; omega
  clear hx7 hlt
  go_wp2
  go_loopw [12] (fun i wr => ∃ (k : Nat) (B1 B2 : Option Addr) (d1 d2 : Nat), k ≤ len0 ∧ i = .int .i64 k ∧ Blk wr x7 31 #[.slice B1 n d1, .slice B2 n d2, .int .i64 (armedOf ((St.new n).run (l.take k)).left), .bool ((St.new n).run (l.take k)).dead] ∧ DiskAt wr g bs bw ((St.new n).run (l.take k)) ∧ RefAt wr (x7 :: [g, bs, bw]) (.agg #[.slice B1 n d1, .slice B2 n d2, .int .i64 (armedOf ((St.new n).run (l.take k)).left), .bool ((St.new n).run (l.take k)).dead]) ((St.new n).run (l.take k)) ∧ Below w.heap.size w wr) (fun i _ => len0 - (intOf i).toNat)
  case atStart => exact ⟨0, A1, A2, c1, c2, Nat.zero_le _, rfl, HK3.out, HD3.out, HR3.out, HB3.out⟩
  case round =>
    obtain ⟨k, B1, B2, d1, d2, hk, rfl, hk7, hd, hr, hb⟩ := hrel
    have a0 := hk7.cell 0
    have a1 := hk7.cell 1
    have a2 := hk7.cell 2
    have a3 := hk7.cell 3
    have a4 := hk7.lt
    simp at a0 a1 a2 a3
    have hn' : ((St.new n).run (l.take k)).n = n := run_n _ _
    generalize hs : ((St.new n).run (l.take k)) = s at *
    have HK := Lib.hid hk7; clear hk7
    have HD := Lib.hid hd; clear hd
    have HR := Lib.hid hr; clear hr
    have HB := Lib.hid hb; clear hb
    have HN := Lib.hid hn'; clear hn'
    have HSE := Lib.hid hs; clear hs
    by_cases hlt : k < len0
    · obtain ⟨b, off, a, Ab, At, nb, cb, nt, ct, rfl, hbB, hlk, g0, g1, g2, g3, g4, hact⟩ := acts_at HA.out HB.out hlt
      have hbw : b < wr.heap.size := by have := HB.out.size; omega
      have hdo := fun (W : World) (hW : Below wr.heap.size wr W) => do_any (x7 :: [g, bs, bw]) g bs bw w.heap.size s (refV (.slice B1 s.n d1) (.slice B2 s.n d2) s) _ a W (HD.out.below hW) (by have h := HR.out.below hW; rw [← HN.out] at h; exact h) (by simp) (by have h1 := hW.size; have h2 := HD.out.lt; intro y hy; simp at hy; omega) (by obtain ⟨vb, vt, e, q1, q2, q3⟩ := hact; exact ⟨vb, vt, e, q1.below hW (by have := HB.out.size; omega), q2.below hW (by have := HB.out.size; omega), q3⟩) HS.out
      have DO := Lib.hid hdo; clear hdo
      have HST := Lib.hid (run_step (St.new n) l k a hlk); clear hlk hact
      unfold refV at DO
      rw [HN.out] at DO
      have hgl := HD.out.lt
      go_wp2
      go_region_law (refine step_calls rfl 14 _ _ rfl #[ptr g, .agg #[.slice B1 n d1, .slice B2 n d2, .int .i64 (armedOf s.left), .bool s.dead], .agg #[.int .i64 a.what, .int .i64 a.n, .slice Ab nb cb, .bool a.short, .slice At nt ct]] (by simp [Act.eval]) HEN.out (by exact DO.out wr.drew (by exact (Below.refl wr.heap.size wr).drew)) ?_; rintro e w4 ⟨v4, rfl, hD, hR, hK⟩; refine ⟨_, rfl, ?_⟩; obtain ⟨E1, E2, e1, e2, hv4⟩ := ref_form hR; subst hv4; have hn4 : (s.step a).n = n := (step_n s a).trans HN.out; rw [hn4] at hR; have x7k := hK.blk HK.out.drew (by simp; omega); have m0 := x7k.cell 0; have m1 := x7k.cell 1; have m2 := x7k.cell 2; have m3 := x7k.cell 3; have mf0 := x7k.frozen 0; have mf1 := x7k.frozen 1; have mf2 := x7k.frozen 2; have mf3 := x7k.frozen 3; have ml := x7k.lt; simp at m0 m1 m2 m3; have hbl4 : Below w.heap.size wr w4 := (Below.mono (Below.refl wr.heap.size wr).drew (by have := HB.out.size; omega)).trans (hK.below HS.out (by have := HB.out.size; simp; omega)); have m4 := (hbl4.cell (p := ⟨b, off + k * 5, none⟩) hbB).trans g0; have m5 := (hbl4.cell (p := ⟨b, off + k * 5 + 1, none⟩) hbB).trans g1; have m6 := (hbl4.cell (p := ⟨b, off + k * 5 + 2, none⟩) hbB).trans g2; have m7 := (hbl4.cell (p := ⟨b, off + k * 5 + 3, none⟩) hbB).trans g3; have m8 := (hbl4.cell (p := ⟨b, off + k * 5 + 4, none⟩) hbB).trans g4; have HX4 := Lib.hid x7k; clear x7k; have HD4 := Lib.hid hD; clear hD; have HR4 := Lib.hid hR; clear hR; have HB4 := Lib.hid (HB.out.trans hbl4); clear hbl4; have HK4 : Hid (KeptBut wr w4 [g, bs, bw]) := kept_drew.trans hK; clear hK; unfold refV at HR4; unfold refV; try rw [hn4])
      all_goals
        (have gX := set4_blk (a' := .slice E1 n e1) (b' := .slice E2 n e2) (c' := .int .i64 (armedOf (s.step a).left)) (d' := .bool (s.step a).dead) HX4.out
         have gk := set4_kept (g := x7) (S := [x7]) (a := .slice E1 n e1) (b := .slice E2 n e2) (c := .int .i64 (armedOf (s.step a).left)) (d := .bool (s.step a).dead) (KeptBut.refl w4 [x7]) (by simp)
         have gD := HD4.out.kept gk (by simp; omega) (by simp; omega) (by simp; omega)
         have gR := HR4.out.kept (gk.more (S' := x7 :: [g, bs, bw]) (by simp))
         have gB := set4_below (a := .slice E1 n e1) (b := .slice E2 n e2) (c := .int .i64 (armedOf (s.step a).left)) (d := .bool (s.step a).dead) HB4.out hxw
         go_wp2
         go_roundw
         case rel =>
           refine ⟨k + 1, E1, E2, e1, e2, by omega, by go_num, ?_, ?_, ?_, ?_⟩
           · rw [HST.out, HSE.out]; exact gX
           · rw [HST.out, HSE.out]; exact gD
           · rw [HST.out, HSE.out]; exact gR
           · exact gB
         case measure => simp [intOf]; omega)
    · obtain rfl : k = len0 := by omega
      have hfull : l.take k = l := List.take_of_length_le (by have := HA.out.1; omega)
      rw [hfull] at HSE
      have hkn : x % 6 < n := by have := HN5.out; omega
      have hys := torn_sec HSB.out.lt isSec_noughts
      generalize hyy : torn xb noughts = ys at hys
      have HY := Lib.hid hys; clear hys
      have HYY := Lib.hid hyy; clear hyy
      have hfine := HD.out.fine
      have HFN := Lib.hid hfine; clear hfine
      have CR := Lib.hid (crash_any g bs bw w.heap.size s (.slice none 0 0) [] wr HD.out (tears_nil _ _) HS.out)
      obtain ⟨K, hK⟩ : ∃ K, K = x % 6 := ⟨_, rfl⟩
      have htm : ((x : Nat) : Int).tmod 6 = ((K : Nat) : Int) := by rw [hK]; exact (Int.ofNat_tmod x 6).symm
      rw [← hK] at hkn
      have HKX := Lib.hid hK; clear hK
      have hksn : K < s.n := by rw [HN.out]; exact hkn
      have PF := Lib.hid (put_flush (s := s) hksn HY.out.1)
      have hgl := HD.out.lt
      generalize k = len0 at *
      go_wp2_with (first
        | (go_at_call 17; refine (CR.out).mono ?_; rintro e w5 ⟨rfl, hD, hK⟩; have FL := Lib.hid (fill_any (.slice A7 n7 c7) xb w5 ((HSB.out.below (HB.out.trans (hK.below HS.out HB.out.size)) (Nat.le_refl _)).more (HB.out.trans (hK.below HS.out HB.out.size)).size)); rw [HYY.out] at FL; have hz5 := hK.size; have HD5 := Lib.hid hD; clear hD; have HK5 := Lib.hid hK; clear hK)
        | (go_at_call 19; refine (FL.out).mono ?_; rintro e w6 ⟨rfl, hF, hbF⟩; have wr6 := fill_put g bs bw _ K s ys w6 (HD5.out.below hbF) hF HY.out (by omega) hksn; have WR := Lib.hid wr6; have HK6 := Lib.hid (HK5.out.trans (kept_of_below hbF (Nat.le_refl _))); clear wr6 hbF hF)
        | (go_at_call 18; refine (WR.out).mono ?_; rintro e w7 ⟨rfl, hD, hK⟩; have fl := flush_any g bs bw (s.put K ys) w7 hD; rw [PF.out.1] at fl; have FU := Lib.hid fl; have HK7 := Lib.hid (HK6.out.trans hK); clear fl hD hK)
        | (go_at_call 20; refine (FU.out).mono ?_; rintro e w8 ⟨rfl, hD, hK⟩; have HD8 := Lib.hid hD; have HK8 := Lib.hid (HK7.out.trans hK); clear hD hK))
      have gK := HK8.out.blk HK.out (by simp; omega)
      have gR := HR.out.kept (HK8.out.more (S' := x7 :: [g, bs, bw]) (by simp))
      have gB := HB.out.trans (HK8.out.below HS.out HB.out.size)
      have gF := PF.out.2.1
      have gN := PF.out.2.2.trans HN.out
      have gS := HFN.out
      have gM := HN.out
      generalize (s.put K ys).flush.1 = sd at *
      have GK := Lib.hid gK; clear gK
      have GR := Lib.hid gR; clear gR
      have GB := Lib.hid gB; clear gB
      have GF := Lib.hid gF; clear gF
      have GN := Lib.hid gN; clear gN
      have GS := Lib.hid gS; clear gS
      have GM := Lib.hid gM; clear gM
      clear HK HR HB HD HN HSE HFN PF HK8 a0 a1 a2 a3 a4 hksn hgl
      generalize B1 = F1 at *
      generalize B2 = F2 at *
      generalize d1 = f1 at *
      generalize d2 = f2 at *
      go_loopw [14] (fun i wr => ∃ (k : Nat) (B1 B2 : Option Addr) (d1 d2 : Nat) (s s' : St), k ≤ len1 ∧ i = .int .i64 k ∧ Blk wr x7 31 #[.slice B1 n d1, .slice B2 n d2, .int .i64 (armedOf s'.left), .bool s'.dead] ∧ DiskAt wr g bs bw s ∧ RefAt wr (x7 :: [g, bs, bw]) (.agg #[.slice B1 n d1, .slice B2 n d2, .int .i64 (armedOf s'.left), .bool s'.dead]) s' ∧ Below w.heap.size w wr ∧ FirmAt s K ys ∧ s.n = n ∧ Fine s' ∧ s'.n = n) (fun i _ => len1 - (intOf i).toNat)
      case atStart => exact ⟨0, F1, F2, f1, f2, sd, s, Nat.zero_le _, rfl, GK.out, HD8.out, GR.out, GB.out, GF.out, GN.out, GS.out, GM.out⟩
      case round =>
        clear GK HD8 GR GB GF GN GS GM
        obtain ⟨k, B1, B2, d1, d2, s, s', hk, rfl, hk7, hd, hr, hb, hfirm, hnd, hfine, hn'⟩ := hrel
        have a0 := hk7.cell 0
        have a1 := hk7.cell 1
        have a2 := hk7.cell 2
        have a3 := hk7.cell 3
        have a4 := hk7.lt
        simp at a0 a1 a2 a3
        have HK := Lib.hid hk7; clear hk7
        have HD := Lib.hid hd; clear hd
        have HR := Lib.hid hr; clear hr
        have HB := Lib.hid hb; clear hb
        have HN := Lib.hid hn'; clear hn'
        have HND := Lib.hid hnd; clear hnd
        have HF := Lib.hid hfirm; clear hfirm
        have HFN := Lib.hid hfine; clear hfine
        by_cases hlt : k < len1
        · obtain ⟨b, off, a, Ab, At, nb, cb, nt, ct, rfl, hbB, hlk, g0, g1, g2, g3, g4, hact⟩ := acts_at HA'.out HB.out hlt
          have hbw : b < wr.heap.size := by have := HB.out.size; omega
          by_cases hstop : a.what = 0 ∧ a.n = (K : Int)
          · obtain ⟨s1, s2⟩ := hstop
            rw [s1] at g0
            rw [s2] at g1
            clear s1 s2 hact
            go_wp2_with (go_at_call 11; refine (awake_any _).mono ?_; rintro e w15 ⟨rfl, hb15⟩)
            go_ret
            exact ⟨rfl, (HV.out.trans (HB.out.mono HV.out.size)).trans (hb15.mono (by have := HV.out.size; have := HB.out.size; omega))⟩
          · have hfs := fine_step HFN.out hact
            have HFS := Lib.hid hfs; clear hfs
            have hdo := fun (W : World) (hW : Below wr.heap.size wr W) => do_two (x7 :: [g, bs, bw]) g bs bw w.heap.size s s' (refV (.slice B1 s'.n d1) (.slice B2 s'.n d2) s') _ a W (HD.out.below hW) (by have h := HR.out.below hW; rw [← HN.out] at h; exact h) HFN.out (by simp) (by have h1 := hW.size; have h2 := HD.out.lt; intro y hy; simp at hy; omega) (by obtain ⟨vb, vt, e, q1, q2, q3⟩ := hact; exact ⟨vb, vt, e, q1.below hW (by have := HB.out.size; omega), q2.below hW (by have := HB.out.size; omega), q3⟩) HS.out
            have DO := Lib.hid hdo; clear hdo
            have HFI := Lib.hid (firm_step HF.out hstop)
            clear hlk hact
            unfold refV at DO
            rw [HN.out] at DO
            have hgl := HD.out.lt
            have hst : Hid ((a.what == 0) = false) ∨ Hid ((a.what == 0) = true ∧ (a.n == (K : Int)) = false) := by
              by_cases e0 : a.what = 0
              · exact .inr ⟨by rw [e0]; rfl, beq_false_of_ne (fun e => hstop ⟨e0, e⟩)⟩
              · exact .inl (beq_false_of_ne e0)
            clear hstop
            rcases hst with hst | hst
            · have st1 := hst.out
              clear hst
              go_wp2
              go_region_law (refine step_calls rfl 14 _ _ rfl #[ptr g, .agg #[.slice B1 n d1, .slice B2 n d2, .int .i64 (armedOf s'.left), .bool s'.dead], .agg #[.int .i64 a.what, .int .i64 a.n, .slice Ab nb cb, .bool a.short, .slice At nt ct]] (by simp [Act.eval]) HEN.out (by exact DO.out wr.drew (by exact (Below.refl wr.heap.size wr).drew)) ?_; rintro e w4 ⟨v4, tt, rfl, hD, hR, hK, _⟩; refine ⟨_, rfl, ?_⟩; obtain ⟨E1, E2, e1, e2, hv4⟩ := ref_form hR; subst hv4; have hn4 : (s'.step a).n = n := (step_n s' a).trans HN.out; rw [hn4] at hR; have x7k := hK.blk HK.out.drew (by simp; omega); have mf0 := x7k.frozen 0; have mf1 := x7k.frozen 1; have mf2 := x7k.frozen 2; have mf3 := x7k.frozen 3; have ml := x7k.lt; have m0 := x7k.cell 0; have m1 := x7k.cell 1; have m2 := x7k.cell 2; have m3 := x7k.cell 3; simp at m0 m1 m2 m3; have hbl4 : Below w.heap.size wr w4 := (Below.mono (Below.refl wr.heap.size wr).drew (by have := HB.out.size; omega)).trans (hK.below HS.out (by have := HB.out.size; simp; omega)); have HX4 := Lib.hid x7k; clear x7k; have HD4 := Lib.hid hD; clear hD; have HR4 := Lib.hid hR; clear hR; have HB4 := Lib.hid (HB.out.trans hbl4); clear hbl4 hK; unfold refV at HR4; unfold refV; try rw [hn4])
              all_goals
                (have gX := set4_blk (a' := .slice E1 n e1) (b' := .slice E2 n e2) (c' := .int .i64 (armedOf (s'.step a).left)) (d' := .bool (s'.step a).dead) HX4.out
                 have gk := set4_kept (g := x7) (S := [x7]) (a := .slice E1 n e1) (b := .slice E2 n e2) (c := .int .i64 (armedOf (s'.step a).left)) (d := .bool (s'.step a).dead) (KeptBut.refl w4 [x7]) (by simp)
                 have gD := HD4.out.kept gk (by simp; omega) (by simp; omega) (by simp; omega)
                 have gR := HR4.out.kept (gk.more (S' := x7 :: [g, bs, bw]) (by simp))
                 have gB := set4_below (a := .slice E1 n e1) (b := .slice E2 n e2) (c := .int .i64 (armedOf (s'.step a).left)) (d := .bool (s'.step a).dead) HB4.out hxw
                 go_wp2
                 go_roundw
                 case rel => exact ⟨k + 1, E1, E2, e1, e2, s.step a, s'.step a, by omega, by go_num, gX, gD, gR, gB, HFI.out, (step_n s a).trans HND.out, HFS.out, hn4⟩
                 case measure => simp [intOf]; omega)
            · obtain ⟨st1, st2⟩ := hst.out
              clear hst
              go_wp2
              go_region_law (refine step_calls rfl 14 _ _ rfl #[ptr g, .agg #[.slice B1 n d1, .slice B2 n d2, .int .i64 (armedOf s'.left), .bool s'.dead], .agg #[.int .i64 a.what, .int .i64 a.n, .slice Ab nb cb, .bool a.short, .slice At nt ct]] (by simp [Act.eval]) HEN.out (by exact DO.out wr.drew (by exact (Below.refl wr.heap.size wr).drew)) ?_; rintro e w4 ⟨v4, tt, rfl, hD, hR, hK, _⟩; refine ⟨_, rfl, ?_⟩; obtain ⟨E1, E2, e1, e2, hv4⟩ := ref_form hR; subst hv4; have hn4 : (s'.step a).n = n := (step_n s' a).trans HN.out; rw [hn4] at hR; have x7k := hK.blk HK.out.drew (by simp; omega); have mf0 := x7k.frozen 0; have mf1 := x7k.frozen 1; have mf2 := x7k.frozen 2; have mf3 := x7k.frozen 3; have ml := x7k.lt; have m0 := x7k.cell 0; have m1 := x7k.cell 1; have m2 := x7k.cell 2; have m3 := x7k.cell 3; simp at m0 m1 m2 m3; have hbl4 : Below w.heap.size wr w4 := (Below.mono (Below.refl wr.heap.size wr).drew (by have := HB.out.size; omega)).trans (hK.below HS.out (by have := HB.out.size; simp; omega)); have HX4 := Lib.hid x7k; clear x7k; have HD4 := Lib.hid hD; clear hD; have HR4 := Lib.hid hR; clear hR; have HB4 := Lib.hid (HB.out.trans hbl4); clear hbl4 hK; unfold refV at HR4; unfold refV; try rw [hn4])
              all_goals
                (have gX := set4_blk (a' := .slice E1 n e1) (b' := .slice E2 n e2) (c' := .int .i64 (armedOf (s'.step a).left)) (d' := .bool (s'.step a).dead) HX4.out
                 have gk := set4_kept (g := x7) (S := [x7]) (a := .slice E1 n e1) (b := .slice E2 n e2) (c := .int .i64 (armedOf (s'.step a).left)) (d := .bool (s'.step a).dead) (KeptBut.refl w4 [x7]) (by simp)
                 have gD := HD4.out.kept gk (by simp; omega) (by simp; omega) (by simp; omega)
                 have gR := HR4.out.kept (gk.more (S' := x7 :: [g, bs, bw]) (by simp))
                 have gB := set4_below (a := .slice E1 n e1) (b := .slice E2 n e2) (c := .int .i64 (armedOf (s'.step a).left)) (d := .bool (s'.step a).dead) HB4.out hxw
                 go_wp2
                 go_roundw
                 case rel => exact ⟨k + 1, E1, E2, e1, e2, s.step a, s'.step a, by omega, by go_num, gX, gD, gR, gB, HFI.out, (step_n s a).trans HND.out, HFS.out, hn4⟩
                 case measure => simp [intOf]; omega)
        · obtain rfl : k = len1 := by omega
          have hgl := HD.out.lt
          have CR2 := Lib.hid (crash_any g bs bw w.heap.size s (.slice none 0 0) [] wr HD.out (tears_nil _ _) HS.out)
          have RDE := Lib.hid (firm_read HF.out (by rw [HND.out]; exact hkn))
          go_wp2_with (first
            | (go_at_call 17; refine (CR2.out).mono ?_; rintro e w5 ⟨rfl, hD, hK⟩; have rd := read_any g bs bw (s.crash []) ((K : Nat) : Int) w5 hD; rw [RDE.out] at rd; have RD := Lib.hid rd; have hb5 := HB.out.trans (hK.below HS.out HB.out.size); have HB5 := Lib.hid hb5; clear rd hb5 hD hK)
            | (go_at_call 16; refine (RD.out).mono ?_; rintro e w6 ⟨v6, rfl, hs, hb⟩; obtain ⟨Ar, nr, cr, rfl, hbt, _⟩ := hs; have hb6 := HB5.out.trans (hb.mono HB5.out.size); have fl := fill_any (.slice A7 n7 c7) xb w6 ((HSB.out.below hb6 (Nat.le_refl _)).more hb6.size); rw [HYY.out] at fl; have FL2 := Lib.hid fl; have HBT := Lib.hid hbt; have HB6 := Lib.hid hb6; clear fl hbt hb6 hb)
            | (go_at_call 19; refine (FL2.out).mono ?_; rintro e w7 ⟨rfl, hF, hbF⟩; have sm := rsame_any Ar (some ⟨w6.heap.size, 0, none⟩) nr 512 cr 512 _ _ ys ys w7 (HBT.out.below hbF (Nat.le_refl _)) (fill_sl hF HY.out); rw [decide_eq_true rfl] at sm; have SM := Lib.hid sm; have HB7 := Lib.hid (HB6.out.trans (hbF.mono HB6.out.size)); clear sm hbF hF)
            | (go_at_call 21; refine (SM.out).mono ?_; rintro e w8 ⟨rfl, q8, hq8⟩; have hb8 : Below w.heap.size w w8 := hq8 ▸ below_drewN HB7.out q8; have HB8 := Lib.hid hb8; clear hb8 hq8)
            | (go_at_call 11; refine (awake_any _).mono ?_; rintro e w15 ⟨rfl, hb15⟩))
          go_ret
          exact ⟨rfl, (HV.out.trans (HB8.out.mono HV.out.size)).trans (hb15.mono (by have := HV.out.size; have := HB8.out.size; omega))⟩
set_option maxRecDepth 20000 in
set_option maxHeartbeats 2000000 in
theorem firm_awake0 (A0 A9 A7 : Option Addr) (len0 cap0 len1 cap1 n7 c7 x : Nat) (v : World) (hL : ∀ q, Calls Try.prog 10 #[.slice A0 len0 cap0] ((v.alloc (.cells #[.int .u8 (x : Nat), .slice A7 n7 c7] 44)).drewN q) fun e w' => e = .returned (.bool false) ∧ ((v.alloc (.cells #[.int .u8 (x : Nat), .slice A7 n7 c7] 44)).drewN q) = w') :
    Calls Try.prog 4 #[.slice A0 len0 cap0, .slice A9 len1 cap1, .agg #[.int .u8 (x : Nat), .slice A7 n7 c7]] v fun e w' => e = .returned (.bool true) ∧ Below v.heap.size v w' := by
  have LT0 := Lib.hid hL; clear hL
  have HV0 := Lib.hid ((Below.refl v.heap.size v).alloc (Nat.le_refl _) (.cells #[.int .u8 (x : Nat), .slice A7 n7 c7] 44))
  go_enter Try.func4, Try.ntmps4
  go_wp2
  go_quiet (fail)
  generalize hq : World.drewN (v.alloc (.cells #[.int .u8 (x : Nat), .slice A7 n7 c7] 44)) _ = w
  have LT := Lib.hid (show Calls Try.prog 10 #[.slice A0 len0 cap0] w fun e w' => e = .returned (.bool false) ∧ w = w' by rw [← hq]; exact LT0.out _)
  have HV := Lib.hid (show Below v.heap.size v w by rw [← hq]; exact below_drewN HV0.out _)
  clear hq
  go_wp2_with (first
    | (go_at_call 10; refine (LT.out).mono ?_; rintro e w' ⟨rfl, rfl⟩)
    | (go_at_call 11; refine (awake_any _).mono ?_; rintro e w8 ⟨rfl, hb8⟩))
  go_ret
  exact ⟨rfl, HV.out.trans (hb8.mono HV.out.size)⟩
set_option maxRecDepth 20000 in
set_option maxHeartbeats 2000000 in
theorem firm_awake1 (A0 A9 A7 : Option Addr) (len0 cap0 len1 cap1 n7 c7 x : Nat) (v : World) (hL : ∀ q, Calls Try.prog 10 #[.slice A0 len0 cap0] ((v.alloc (.cells #[.int .u8 (x : Nat), .slice A7 n7 c7] 44)).drewN q) fun e w' => e = .returned (.bool true) ∧ ((v.alloc (.cells #[.int .u8 (x : Nat), .slice A7 n7 c7] 44)).drewN q) = w') (hM : ∀ q, Calls Try.prog 10 #[.slice A9 len1 cap1] ((v.alloc (.cells #[.int .u8 (x : Nat), .slice A7 n7 c7] 44)).drewN q) fun e w' => e = .returned (.bool false) ∧ ((v.alloc (.cells #[.int .u8 (x : Nat), .slice A7 n7 c7] 44)).drewN q) = w') :
    Calls Try.prog 4 #[.slice A0 len0 cap0, .slice A9 len1 cap1, .agg #[.int .u8 (x : Nat), .slice A7 n7 c7]] v fun e w' => e = .returned (.bool true) ∧ Below v.heap.size v w' := by
  have LT0 := Lib.hid hL; clear hL
  have MT0 := Lib.hid hM; clear hM
  have HV0 := Lib.hid ((Below.refl v.heap.size v).alloc (Nat.le_refl _) (.cells #[.int .u8 (x : Nat), .slice A7 n7 c7] 44))
  go_enter Try.func4, Try.ntmps4
  go_wp2
  go_quiet (fail)
  generalize hq : World.drewN (v.alloc (.cells #[.int .u8 (x : Nat), .slice A7 n7 c7] 44)) _ = w
  have LT := Lib.hid (show Calls Try.prog 10 #[.slice A0 len0 cap0] w fun e w' => e = .returned (.bool true) ∧ w = w' by rw [← hq]; exact LT0.out _)
  have MT := Lib.hid (show Calls Try.prog 10 #[.slice A9 len1 cap1] w fun e w' => e = .returned (.bool false) ∧ w = w' by rw [← hq]; exact MT0.out _)
  have HV := Lib.hid (show Below v.heap.size v w by rw [← hq]; exact below_drewN HV0.out _)
  clear hq
  go_wp2_with (first
    | (go_at_call 10; first | (have L2 := L1; clear L1; refine (MT.out).mono ?_; rintro e w' ⟨rfl, rfl⟩) | (refine (LT.out).mono ?_; rintro e w' ⟨rfl, rfl⟩; have L1 := Lib.hid trivial))
    | (go_at_call 11; refine (awake_any _).mono ?_; rintro e w8 ⟨rfl, hb8⟩))
  go_ret
  exact ⟨rfl, HV.out.trans (hb8.mono HV.out.size)⟩
set_option maxRecDepth 20000 in
set_option maxHeartbeats 2000000 in
theorem firm_awake2 (A0 A9 A7 : Option Addr) (len0 cap0 len1 cap1 n7 c7 x : Nat) (v : World) (hL : ∀ q, Calls Try.prog 10 #[.slice A0 len0 cap0] ((v.alloc (.cells #[.int .u8 (x : Nat), .slice A7 n7 c7] 44)).drewN q) fun e w' => e = .returned (.bool true) ∧ ((v.alloc (.cells #[.int .u8 (x : Nat), .slice A7 n7 c7] 44)).drewN q) = w') (hM : ∀ q, Calls Try.prog 10 #[.slice A9 len1 cap1] ((v.alloc (.cells #[.int .u8 (x : Nat), .slice A7 n7 c7] 44)).drewN q) fun e w' => e = .returned (.bool true) ∧ ((v.alloc (.cells #[.int .u8 (x : Nat), .slice A7 n7 c7] 44)).drewN q) = w') (hn7 : 512 < n7) :
    Calls Try.prog 4 #[.slice A0 len0 cap0, .slice A9 len1 cap1, .agg #[.int .u8 (x : Nat), .slice A7 n7 c7]] v fun e w' => e = .returned (.bool true) ∧ Below v.heap.size v w' := by
  have LT0 := Lib.hid hL; clear hL
  have MT0 := Lib.hid hM; clear hM
  have hd7 : decide (512 < (n7 : Int)) = true := by simp; omega
  have HV0 := Lib.hid ((Below.refl v.heap.size v).alloc (Nat.le_refl _) (.cells #[.int .u8 (x : Nat), .slice A7 n7 c7] 44))
  go_enter Try.func4, Try.ntmps4
  go_wp2
  go_quiet (fail)
  generalize hq : World.drewN (v.alloc (.cells #[.int .u8 (x : Nat), .slice A7 n7 c7] 44)) _ = w
  have LT := Lib.hid (show Calls Try.prog 10 #[.slice A0 len0 cap0] w fun e w' => e = .returned (.bool true) ∧ w = w' by rw [← hq]; exact LT0.out _)
  have MT := Lib.hid (show Calls Try.prog 10 #[.slice A9 len1 cap1] w fun e w' => e = .returned (.bool true) ∧ w = w' by rw [← hq]; exact MT0.out _)
  have HV := Lib.hid (show Below v.heap.size v w by rw [← hq]; exact below_drewN HV0.out _)
  clear hq
  go_wp2_with (first
    | (go_at_call 10; first | (have L2 := L1; clear L1; refine (MT.out).mono ?_; rintro e w' ⟨rfl, rfl⟩) | (refine (LT.out).mono ?_; rintro e w' ⟨rfl, rfl⟩; have L1 := Lib.hid trivial))
    | (go_at_call 11; refine (awake_any _).mono ?_; rintro e w8 ⟨rfl, hb8⟩))
  go_ret
  exact ⟨rfl, HV.out.trans (hb8.mono HV.out.size)⟩
end Go.Proofs.Ytpmkacpdmjnbjaa.Dsk
namespace Go.Proofs.Ytpmkacpdmjnbjaa.diskFirm
open Go.Proofs.Ytpmkacpdmjnbjaa.Mem Go.Proofs.Ytpmkacpdmjnbjaa.Dsk
open Go.ChangeShapes Go.WideShapes Go.ChangeAt Go.RowKit
set_option linter.unusedVariables false
theorem own : ownKnob Try.prog.godebug = none := by kernel_rfl
theorem laidOut : laidOutB Try.prog = true := by kernel_rfl
theorem row_keep {k : IntKind} {w W : World} {A : Option Addr} {n c : Nat} {zs : List Int} (h : IsRow k w A n c zs) (hb : Below w.heap.size w W) : IsRow k W A n c zs := by
  rcases h with h | ⟨x, e, h1, h2, h3, hc, h4⟩
  · exact .inl h
  · exact .inr ⟨x, e, h1, h2, h3, fun i hi => (hb.cell (p := x.add i) (block_lt_of_cell (hc i hi))).trans (hc i hi), h4⟩
theorem rowOf_keep {k : IntKind} {w W : World} {v : Value} (h : RowOf k w v) (hb : Below w.heap.size w W) : RowOf k W v := by
  obtain ⟨A, l, c, zs, e, h⟩ := h
  exact ⟨A, l, c, zs, e, row_keep h hb⟩
theorem recs_keep {w W : World} {A : Option Addr} {n c m : Nat} {R R' : Nat → Value → Prop} (h : IsRecs w A n c m R) (hb : Below w.heap.size w W) (hR : ∀ j v, R j v → R' j v) : IsRecs W A n c m R' := by
  rcases h with h | ⟨x, e, h1, h2, hc⟩
  · exact .inl h
  · refine .inr ⟨x, e, h1, h2, fun i hi j hj => ?_⟩
    obtain ⟨v, h3, h4⟩ := hc i hi j hj
    exact ⟨v, (hb.cell (p := x.add (i * m + j)) (block_lt_of_cell h3)).trans h3, hR j v h4⟩
theorem acts_keep {w W : World} {A : Option Addr} {n c : Nat} (h : IsRecs w A n c 5 (ActR w)) (hb : Below w.heap.size w W) : IsRecs W A n c 5 (ActR W) :=
  recs_keep h hb fun j v hv => by
    match j, hv with
    | 0, hv => exact hv
    | 1, hv => exact hv
    | 2, hv => exact rowOf_keep (k := .u8) hv hb
    | 3, hv => exact hv
    | 4, hv =>
      obtain ⟨A, l, c, e, hr⟩ := hv
      exact ⟨A, l, c, e, recs_keep hr hb fun j v hv => by
        match j, hv with
        | 0, hv => exact hv
        | 1, hv => exact rowOf_keep (k := .u8) hv hb
        | _ + 2, hv => trivial⟩
    | _ + 5, hv => trivial
theorem walk (a0 : Option Addr) (len0 cap0 : Nat) (a1 : Option Addr) (len1 cap1 : Nat) (a2a : Int) (a2b : Option Addr) (len2b cap2b : Nat) (z2b : List Int) (w : World) (w0 : IsRecs w a0 len0 cap0 5 (ActR w)) (w1 : IsRecs w a1 len1 cap1 5 (ActR w))
    (w2a : (Lit.int .u8 a2a).wf = true) (w2b : IsRow .u8 w a2b len2b cap2b z2b) :
    Calls Try.prog 4 #[.slice a0 len0 cap0, .slice a1 len1 cap1, .agg #[.int .u8 a2a, .slice a2b len2b cap2b]] w fun e w' => e = .returned (.bool true) ∧ Below w.heap.size w w' := by
  have hx := Go.bounds_u8 w2a
  obtain ⟨x, rfl⟩ : ∃ x : Nat, a2a = x := ⟨a2a.toNat, by omega⟩
  have hb : Below w.heap.size w (w.alloc (.cells #[.int .u8 (x : Nat), .slice a2b len2b cap2b] 44)) := (Below.refl _ w).alloc (Nat.le_refl _) _
  have r0 := acts_keep w0 hb
  have r1 := acts_keep w1 hb
  have r2 := row_keep w2b hb
  generalize hW : w.alloc (.cells #[.int .u8 (x : Nat), .slice a2b len2b cap2b] 44) = W at r0 r1 r2
  by_cases hf : len0 ≤ 40 ∧ ∀ b off, a0 = some ⟨b, off, none⟩ → ∀ i, i < len0 → ActFits W b off i
  · have hl : ∀ q, Calls Try.prog 10 #[.slice a0 len0 cap0] (W.drewN q) fun e w' => e = .returned (.bool true) ∧ W.drewN q = w' := fun q => light_yes (w := W.drewN q) r0 hf
    by_cases hg : len1 ≤ 40 ∧ ∀ b off, a1 = some ⟨b, off, none⟩ → ∀ i, i < len1 → ActFits W b off i
    · have hm : ∀ q, Calls Try.prog 10 #[.slice a1 len1 cap1] (W.drewN q) fun e w' => e = .returned (.bool true) ∧ W.drewN q = w' := fun q => light_yes (w := W.drewN q) r1 hg
      by_cases hn : len2b ≤ 512
      · obtain ⟨l, hA⟩ := acts_of r0 hf.2
        obtain ⟨m, hA'⟩ := acts_of r1 hg.2
        obtain ⟨xs, hs, _⟩ := sl_of_row r2 (by omega)
        subst hW
        exact firm_true a0 a1 a2b len0 cap0 len1 cap1 len2b cap2b x l m xs w hf.1 hg.1 hn (by omega) hl hm (fun q => hA) (fun q => hA') (fun q => hs)
      · subst hW
        exact firm_awake2 a0 a1 a2b len0 cap0 len1 cap1 len2b cap2b x w hl hm (by omega)
    · have hm : ∀ q, Calls Try.prog 10 #[.slice a1 len1 cap1] (W.drewN q) fun e w' => e = .returned (.bool false) ∧ W.drewN q = w' := fun q => light_not (w := W.drewN q) r1 hg
      subst hW
      exact firm_awake1 a0 a1 a2b len0 cap0 len1 cap1 len2b cap2b x w hl hm
  · have hl : ∀ q, Calls Try.prog 10 #[.slice a0 len0 cap0] (W.drewN q) fun e w' => e = .returned (.bool false) ∧ W.drewN q = w' := fun q => light_not (w := W.drewN q) r0 hf
    subst hW
    exact firm_awake0 a0 a1 a2b len0 cap0 len1 cap1 len2b cap2b x w hl
/-! the step from the walk to the row -/
set_option maxRecDepth 100000 in
theorem lifted (os : Os) (started : os.Started) (H : Type) (enc : TypeId × Value → H) :
    ReturnsInHanded {} Try.checked os 4 .any (Rows.diskFirmSpec.pre6 enc Try.prog Try.f4 Rows.diskFirmRow.domain false) (Rows.diskFirmSpec.post enc Try.prog Try.f4 false true false false) := by
  refine returnsInHanded_of_change (C := Try.checked) own started (by kernel_rfl) Try.func4
    (ChangeSpec.witness6 (enc := enc) (C := Try.checked) false ⟨#[], #[.slice none 0 0, .slice none 0 0, .agg #[.int .u8 0, .slice none 0 0]], []⟩ 8 (by kernel_rfl) (by kernel_rfl) (by kernel_rfl) (by kernel_rfl)) ?_
  intro W base args ds gs before hval0 hW hcnd _
  have hval : ∀ (j : Nat) t v, Try.f4.params[j]? = some t → args[j]? = some v → Value.okWide Try.prog W .any base t v := hval0
  have hW' := hW
  obtain ⟨p, q, hA0, hV, rfl, hfz, hnd⟩ := hW
  have hA : DataW.TrodAll enc Try.prog W 0 (fun _ => true) true Try.f4.params.toList args.toList ds p := hA0
  rw [Try.params4] at hA hval
  obtain ⟨v0, vs0, d0, ds0, p0, q0, hargs, rfl, rfl, h0, r0⟩ := trodAll_cons hA
  obtain ⟨v1, vs1, d1, ds1, p1, q1, rfl, rfl, rfl, h1, r1⟩ := trodAll_cons r0
  obtain ⟨v2, vs2, d2, ds2, p2, q2, rfl, rfl, rfl, h2, r2⟩ := trodAll_cons r1
  obtain ⟨rfl, rfl, rfl⟩ := trodAll_nil r2
  obtain rfl : args = #[v0, v1, v2] := by cases args; simp_all
  obtain ⟨rfl, rfl⟩ := trodVars_none hV
  obtain ⟨a0, len0, cap0, rfl⟩ := okWide_slice Try.underlying22 (hval 0 22 v0 rfl rfl)
  have k0 := h0
  have lt0 : ∀ x ∈ p0, x.block < W.heap.size := by obtain ⟨m, hm⟩ := k0; exact DataW.trod_lt m _ _ _ hm
  have w0 : IsRecs W a0 len0 cap0 5 (ActR W) := by
    obtain ⟨fuel, hf⟩ := h0
    rcases open_slice_fields Try.underlying22 Try.underlying38 (by kernel_rfl) (by kernel_rfl) hf with ⟨hcs, _⟩ | ⟨x, l, c, m, D, Pl, hcs, _, hl, hm, hmm, _, hh⟩
    · simp [Value.cells] at hcs
      obtain ⟨rfl, rfl, rfl⟩ := hcs
      exact .inl ⟨rfl, rfl, rfl⟩
    · simp [Value.cells] at hcs
      obtain ⟨rfl, rfl, rfl⟩ := hcs
      refine .inr ⟨_, rfl, hl, hm, fun i hi j hj => ?_⟩
      obtain ⟨ys, n, _, _, _, hg⟩ := hh i (by rw [hmm, if_pos rfl]; exact hi)
      match j, hj with
      | 0, _ =>
        obtain ⟨v, y, hc, _, ht⟩ := hg 0 _ rfl
        exact ⟨v, hc, open_num_at Try.underlying3 ht⟩
      | 1, _ =>
        obtain ⟨v, y, hc, _, ht⟩ := hg 1 _ rfl
        exact ⟨v, hc, open_num_at Try.underlying3 ht⟩
      | 2, _ =>
        obtain ⟨v, y, hc, _, ht⟩ := hg 2 _ rfl
        exact ⟨v, hc, open_row_at Try.underlying35 Try.underlying5 (by kernel_rfl) ht⟩
      | 3, _ =>
        obtain ⟨v, y, hc, _, ht⟩ := hg 3 _ rfl
        exact ⟨v, hc, open_bool_at Try.underlying4 ht⟩
      | 4, _ =>
        obtain ⟨v, y, hc, _, ht⟩ := hg 4 _ rfl
        refine ⟨v, hc, ?_⟩
        rcases open_slice_fields Try.underlying36 Try.underlying52 (by kernel_rfl) (by kernel_rfl) ht with ⟨hcs', _⟩ | ⟨x', l', c', m', D', Pl', hcs', _, hl', hm', hmm', _, hh'⟩
        · obtain rfl : v = .slice none 0 0 := by simpa using hcs'
          exact ⟨_, _, _, rfl, .inl ⟨rfl, rfl, rfl⟩⟩
        · obtain rfl : v = .slice (some x') l' c' := by simpa using hcs'
          refine ⟨_, _, _, rfl, ?_⟩
          refine .inr ⟨_, rfl, hl', hm', fun i' hi' j' hj' => ?_⟩
          obtain ⟨ys', n', _, _, _, hg'⟩ := hh' i' (by rw [hmm', if_pos rfl]; exact hi')
          match j', hj' with
          | 0, _ =>
            obtain ⟨v, y, hc, _, ht⟩ := hg' 0 _ rfl
            exact ⟨v, hc, open_num_at Try.underlying3 ht⟩
          | 1, _ =>
            obtain ⟨v, y, hc, _, ht⟩ := hg' 1 _ rfl
            exact ⟨v, hc, open_row_at Try.underlying35 Try.underlying5 (by kernel_rfl) ht⟩
  obtain ⟨a1, len1, cap1, rfl⟩ := okWide_slice Try.underlying22 (hval 1 22 v1 rfl rfl)
  have k1 := h1
  have lt1 : ∀ x ∈ p1, x.block < W.heap.size := by obtain ⟨m, hm⟩ := k1; exact DataW.trod_lt m _ _ _ hm
  have w1 : IsRecs W a1 len1 cap1 5 (ActR W) := by
    obtain ⟨fuel, hf⟩ := h1
    rcases open_slice_fields Try.underlying22 Try.underlying38 (by kernel_rfl) (by kernel_rfl) hf with ⟨hcs, _⟩ | ⟨x, l, c, m, D, Pl, hcs, _, hl, hm, hmm, _, hh⟩
    · simp [Value.cells] at hcs
      obtain ⟨rfl, rfl, rfl⟩ := hcs
      exact .inl ⟨rfl, rfl, rfl⟩
    · simp [Value.cells] at hcs
      obtain ⟨rfl, rfl, rfl⟩ := hcs
      refine .inr ⟨_, rfl, hl, hm, fun i hi j hj => ?_⟩
      obtain ⟨ys, n, _, _, _, hg⟩ := hh i (by rw [hmm, if_pos rfl]; exact hi)
      match j, hj with
      | 0, _ =>
        obtain ⟨v, y, hc, _, ht⟩ := hg 0 _ rfl
        exact ⟨v, hc, open_num_at Try.underlying3 ht⟩
      | 1, _ =>
        obtain ⟨v, y, hc, _, ht⟩ := hg 1 _ rfl
        exact ⟨v, hc, open_num_at Try.underlying3 ht⟩
      | 2, _ =>
        obtain ⟨v, y, hc, _, ht⟩ := hg 2 _ rfl
        exact ⟨v, hc, open_row_at Try.underlying35 Try.underlying5 (by kernel_rfl) ht⟩
      | 3, _ =>
        obtain ⟨v, y, hc, _, ht⟩ := hg 3 _ rfl
        exact ⟨v, hc, open_bool_at Try.underlying4 ht⟩
      | 4, _ =>
        obtain ⟨v, y, hc, _, ht⟩ := hg 4 _ rfl
        refine ⟨v, hc, ?_⟩
        rcases open_slice_fields Try.underlying36 Try.underlying52 (by kernel_rfl) (by kernel_rfl) ht with ⟨hcs', _⟩ | ⟨x', l', c', m', D', Pl', hcs', _, hl', hm', hmm', _, hh'⟩
        · obtain rfl : v = .slice none 0 0 := by simpa using hcs'
          exact ⟨_, _, _, rfl, .inl ⟨rfl, rfl, rfl⟩⟩
        · obtain rfl : v = .slice (some x') l' c' := by simpa using hcs'
          refine ⟨_, _, _, rfl, ?_⟩
          refine .inr ⟨_, rfl, hl', hm', fun i' hi' j' hj' => ?_⟩
          obtain ⟨ys', n', _, _, _, hg'⟩ := hh' i' (by rw [hmm', if_pos rfl]; exact hi')
          match j', hj' with
          | 0, _ =>
            obtain ⟨v, y, hc, _, ht⟩ := hg' 0 _ rfl
            exact ⟨v, hc, open_num_at Try.underlying3 ht⟩
          | 1, _ =>
            obtain ⟨v, y, hc, _, ht⟩ := hg' 1 _ rfl
            exact ⟨v, hc, open_row_at Try.underlying35 Try.underlying5 (by kernel_rfl) ht⟩
  have k2 := h2
  have lt2 : ∀ x ∈ p2, x.block < W.heap.size := by obtain ⟨m, hm⟩ := k2; exact DataW.trod_lt m _ _ _ hm
  obtain ⟨u2a, u2b, _, _, _, rfl, _, _, g2a, g2b⟩ := Go.Joins.open_agg2 Try.underlying44 (by kernel_rfl) (by kernel_rfl) (hval 2 44 v2 rfl rfl) h2
  obtain ⟨a2a, rfl, w2a⟩ := open_num_at Try.underlying5 g2a
  obtain ⟨a2b, len2b, cap2b, z2b, rfl, w2b⟩ := open_row_at Try.underlying35 Try.underlying5 (by kernel_rfl) g2b
  clear hA0 hval0
  refine (walk a0 len0 cap0 a1 len1 cap1 a2a a2b len2b cap2b z2b W w0 w1 w2a w2b).mono fun e W' ⟨he, bel⟩ => ?_
  subst he
  exact ⟨_, rfl, _, _, _, [], _, [], hW', trodAll_mk1 (shut_bool Try.underlying4 _), (trodAll_cons_mk (Below.trod laidOut (by kernel_rfl) (of_decide_eq_true (by kernel_rfl)) k0 bel lt0) (trodAll_cons_mk (Below.trod laidOut (by kernel_rfl) (of_decide_eq_true (by kernel_rfl)) k1 bel lt1) (trodAll_cons_mk (Below.trod laidOut (by kernel_rfl) (of_decide_eq_true (by kernel_rfl)) k2 bel lt2) trodAll_mk0))), rfl, bel.frame _, fun h => by cases h⟩

theorem over : Rows.diskFirmRow.holds Try.pinned (OpenSpec.ofChange Rows.diskFirmSpec) :=
  OpenClaim.holds_of_wide 4 Try.f4 rfl rfl rfl rfl rfl rfl rfl ⟨rfl, rfl, rfl, rfl, rfl⟩ rfl rfl rfl rfl rfl (by kernel_rfl) Try.func4 (by kernel_rfl)
    (of_decide_eq_true (by kernel_rfl)) (by unfold Func.isWrapper; first | (rw [if_pos (by decide +kernel)]; kernel_rfl) | (rw [if_neg (by decide +kernel)]; exact ⟨rfl, rfl⟩))
    (fun os started H enc _ => lifted os started H enc)

/-- the statement -/
theorem proved : Rows.DiskFirmSaid := over
end Go.Proofs.Ytpmkacpdmjnbjaa.diskFirm
