/- CableActs: for every two numbers and every acts the law returns true and its arguments read as before: between which nodes there is a cable, and what any acts tell, and leave. No condition. Printed by tools/cable/acts.py. -/
import Derived.Test.YtkflbhaomoaonaaCabSteps
import Derived.Deep.RegionHeld3
import Derived.Deep.Cut
import Derived.Deep.CutBlock
import Derived.Deep.CutRange
import Derived.IntWalk
import Derived.WalkKit
import Derived.ProofKit
import Derived.OpenShut
import Derived.ShutString
import Derived.ChangeOld
import Derived.Below
namespace Go.Proofs.Ytkflbhaomoaonaa.cableActs
open Go.RowKit Go.Proofs.Ytkflbhaomoaonaa.Mem Go.Proofs.Ytkflbhaomoaonaa.Que Go.Proofs.Ytkflbhaomoaonaa.Cab
set_option linter.unusedVariables false
set_option linter.unusedSimpArgs false
set_option maxRecDepth 20000 in
set_option maxHeartbeats 2000000 in
theorem walk_long (a b : Int) (a0 : Option Addr) (n0 c0 : Nat) (w : World) (h : 60 < n0) :
    Calls Try.prog 3 #[.int .i64 a, .int .i64 b, .slice a0 n0 c0] w fun e w' => e = .returned (.bool true) ∧ Below w.heap.size w w' := by
  have hd : decide ((60 : Int) < n0) = true := by simp; omega
  go_enter Try.func3, Try.ntmps3
  go_wp2_with (go_at_call 5; refine (awake16_any _).mono ?_; rintro e w5 ⟨rfl, hb⟩; have HB5 := Lib.hid hb; clear hb)
  go_ret
  exact ⟨rfl, HB5.out⟩
set_option maxRecDepth 20000 in
set_option maxHeartbeats 2000000 in
theorem walk_no (a b : Int) (a0 : Option Addr) (n0 c0 : Nat) (w : World) (h : n0 ≤ 60) (ho : newOk a b = false) :
    Calls Try.prog 3 #[.int .i64 a, .int .i64 b, .slice a0 n0 c0] w fun e w' => e = .returned (.bool true) ∧ Below w.heap.size w w' := by
  have hd : decide ((60 : Int) < n0) = false := by simp; omega
  have NW := Lib.hid (new_no a b w ho)
  have hc : a < 1 ∨ (1 ≤ a ∧ b ≤ a) ∨ (1 ≤ a ∧ a < b ∧ 64 < b) := by
    unfold newOk at ho
    simp only [Bool.and_eq_false_iff, decide_eq_false_iff_not] at ho
    omega
  clear ho h
  rcases hc with hc | ⟨hc, hd1⟩ | ⟨hc, hd1, he⟩
  · have d1 : decide (a < 1) = true := by simp; omega
    clear hc
    go_enter Try.func3, Try.ntmps3
    go_wp2_with (first
      | (go_at_call 6; refine (NW.out).mono ?_; rintro e w1 ⟨rfl, hb1⟩; have HB1 := Lib.hid hb1; clear hb1)
      | (go_at_call 5; refine (awake16_any _).mono ?_; rintro e w5 ⟨rfl, hb⟩; have HB5 := Lib.hid (HB1.out.trans (hb.mono HB1.out.size)); clear hb))
    go_ret
    exact ⟨rfl, HB5.out⟩
  · have d1 : decide (a < 1) = false := by simp; omega
    have d2 : decide (b ≤ a) = true := by simp; omega
    clear hc hd1
    go_enter Try.func3, Try.ntmps3
    go_wp2_with (first
      | (go_at_call 6; refine (NW.out).mono ?_; rintro e w1 ⟨rfl, hb1⟩; have HB1 := Lib.hid hb1; clear hb1)
      | (go_at_call 5; refine (awake16_any _).mono ?_; rintro e w5 ⟨rfl, hb⟩; have HB5 := Lib.hid (HB1.out.trans (hb.mono HB1.out.size)); clear hb))
    go_ret
    exact ⟨rfl, HB5.out⟩
  · have d1 : decide (a < 1) = false := by simp; omega
    have d2 : decide (b ≤ a) = false := by simp; omega
    have d3 : decide ((64 : Int) < b) = true := by simp; omega
    clear hc hd1 he
    go_enter Try.func3, Try.ntmps3
    go_wp2_with (first
      | (go_at_call 6; refine (NW.out).mono ?_; rintro e w1 ⟨rfl, hb1⟩; have HB1 := Lib.hid hb1; clear hb1)
      | (go_at_call 5; refine (awake16_any _).mono ?_; rintro e w5 ⟨rfl, hb⟩; have HB5 := Lib.hid (HB1.out.trans (hb.mono HB1.out.size)); clear hb))
    go_ret
    exact ⟨rfl, HB5.out⟩
set_option maxRecDepth 20000 in
set_option maxHeartbeats 16000000 in
theorem walk_short (a b : Int) (a0 : Option Addr) (n0 c0 : Nat) (w : World) (h0 : n0 ≤ 60) (ho : newOk a b = true) (w0 : IsRecs w a0 n0 c0 7 (Act16R w)) :
    Calls Try.prog 3 #[.int .i64 a, .int .i64 b, .slice a0 n0 c0] w fun e w' => e = .returned (.bool true) ∧ Below w.heap.size w w' := by
  have hd : decide ((60 : Int) < n0) = false := by simp; omega
  have W0 := Lib.hid w0; clear w0
  have NW := Lib.hid (new_yes a b w ho)
  have RN := Lib.hid (fun W => rnew_any a b W)
  have AW := Lib.hid (fun (W : World) => awake16_any W)
  have hab : 1 ≤ a ∧ a < b ∧ b ≤ 64 := by
    unfold newOk at ho
    simp only [Bool.and_eq_true, decide_eq_true_eq] at ho
    omega
  obtain ⟨hc, hd1, he⟩ := hab
  have d1 : decide (a < 1) = false := by simp; omega
  have d2 : decide (b ≤ a) = false := by simp; omega
  have d3 : decide ((64 : Int) < b) = false := by simp; omega
  have ba : (b == a) = false := beq_false_of_ne (by omega)
  have BA := Lib.hid ba; clear ba
  have BN := Lib.hid (show b ≠ a by omega)
  clear ho hc hd1 he
  go_enter Try.func3, Try.ntmps3
  go_wp2_with (first
    | (go_at_call 6; refine (NW.out).mono ?_; rintro e w1 ⟨x, g1, g2, v1, v2, rfl, h1, hb1⟩; have H1 := Lib.hid h1; have HB1 := Lib.hid hb1; clear h1 hb1)
    | (go_at_call 7; refine (RN.out _).mono ?_; rintro e w2 ⟨rfl, hb2⟩; have HB2 := Lib.hid hb2; clear hb2))
  have hs1 := HB1.out.size
  have hs2 := HB2.out.size
  have hba := (Below.refl w2.heap.size w2).alloc (Nat.le_refl _) (.cells #[.int .i64 a, .int .i64 b, .bool false, .int .i64 1, .int .i64 1, .slice none 0 0, .slice none 0 0] 31)
  have hlc : LC w (w2.alloc (.cells #[.int .i64 a, .int .i64 b, .bool false, .int .i64 1, .int .i64 1, .slice none 0 0, .slice none 0 0] 31)) x g1 g2 v1 v2 ⟨a, b, false, 1, 1, [], []⟩ := (LC.mk H1.out HB1.out).up (HB2.out.trans (hba.mono hs2))
  have HLC := Lib.hid hlc; clear hlc
  have HYB := Lib.hid (Blk.new w2 31 #[.int .i64 a, .int .i64 b, .bool false, .int .i64 1, .int .i64 1, .slice none 0 0, .slice none 0 0])
  have HYL := Lib.hid (show w.heap.size ≤ w2.heap.size by omega)
  clear hs1 hs2 hba H1 HB1 HB2
  generalize w2.alloc (.cells #[.int .i64 a, .int .i64 b, .bool false, .int .i64 1, .int .i64 1, .slice none 0 0, .slice none 0 0] 31) = w3 at *
  generalize w2.heap.size = y at *
  go_loopw [10] (fun i wr => ∃ k : Nat, k ≤ n0 ∧ i = .int .i64 k ∧ ∃ v1 v2 c u v, c.a = a ∧ c.b = b ∧ SmallC c ∧ LC w wr x g1 g2 v1 v2 c ∧ Blk wr y 31 #[.int .i64 c.a, .int .i64 c.b, .bool c.up, .int .i64 c.p, .int .i64 c.q, u, v] ∧ Rows16 wr w.heap.size (CS x g1 g2 v1 v2) c u v) (fun i _ => n0 - (intOf i).toNat)
  case atStart => exact ⟨0, Nat.zero_le _, rfl, v1, v2, ⟨a, b, false, 1, 1, [], []⟩, _, _, rfl, rfl, ⟨⟨by simp, by simp⟩, ⟨by simp, by simp⟩⟩, HLC.out, HYB.out, ⟨slRow_nil _ _, slRow_nil _ _, fun q e => by simp [Value.ownBlock] at e, fun q e => by simp [Value.ownBlock] at e⟩⟩
  case round =>
    clear HLC HYB
    obtain ⟨k, hk, rfl, v1, v2, ⟨a', b', up, p, q, ta, tb⟩, u, v, ea, eb, hsm, hlc, hyb, hrw⟩ := hrel
    simp only at hyb ea eb
    subst ea eb
    have HSM := Lib.hid hsm; clear hsm
    have HLC := Lib.hid hlc; clear hlc
    by_cases hlt : k < n0
    · obtain ⟨bb, off, d, of_, qn, B, m, cb, up1, r1, s1, rfl, hb, c0, c1, c2, c3, c4, c5, c6, hx⟩ := act16_at W0.out hlt
      replace c0 := (HLC.out.low.cell (p := ⟨bb, off + k * 7, none⟩) hb).trans c0
      replace c1 := (HLC.out.low.cell (p := ⟨bb, off + k * 7 + 1, none⟩) hb).trans c1
      replace c2 := (HLC.out.low.cell (p := ⟨bb, off + k * 7 + 2, none⟩) hb).trans c2
      replace c3 := (HLC.out.low.cell (p := ⟨bb, off + k * 7 + 3, none⟩) hb).trans c3
      replace c4 := (HLC.out.low.cell (p := ⟨bb, off + k * 7 + 4, none⟩) hb).trans c4
      replace c5 := (HLC.out.low.cell (p := ⟨bb, off + k * 7 + 5, none⟩) hb).trans c5
      replace c6 := (HLC.out.low.cell (p := ⟨bb, off + k * 7 + 6, none⟩) hb).trans c6
      obtain ⟨Au, nu, cu, rfl, hnu, hu1, hu2⟩ := slRow_form2 hrw.a
      obtain ⟨Av, nv, cv, rfl, hnv, hv1, hv2⟩ := slRow_form2 hrw.b
      have hla : LA w (wr.alloc (.cells #[.int .i64 d, .int .i64 of_, .int .i64 qn, .slice B m cb, .bool up1, .int .i64 r1, .int .i64 s1] 35)) x g1 g2 y wr.heap.size v1 v2 ⟨a', b', up, p, q, ta, tb⟩ ⟨a', b', up, p, q, ta, tb⟩ (.slice Au nu cu) (.slice Av nv cv) #[.int .i64 d, .int .i64 of_, .int .i64 qn, .slice B m cb, .bool up1, .int .i64 r1, .int .i64 s1] := by
        have hbz := (Below.refl wr.heap.size wr).alloc (Nat.le_refl _) (.cells #[.int .i64 d, .int .i64 of_, .int .i64 qn, .slice B m cb, .bool up1, .int .i64 r1, .int .i64 s1] 35)
        exact ⟨HLC.out.up hbz, hyb.below hbz hyb.lt, hrw.up hbz, Blk.new wr _ _, HYL.out⟩
      have HLA := Lib.hid hla; clear hla
      have HRW := Lib.hid hrw
      have HNU := Lib.hid hnu
      have HNV := Lib.hid hnv
      clear hyb hrw hnu hnv
      by_cases hm : m ≤ 200
      · obtain ⟨xs, hxs, hxl⟩ := hx hm
        have HX := Lib.hid hxs; clear hxs hx
        have HXL := Lib.hid (show xs.length ≤ 200 by omega); clear hxl
        have dm : decide ((200 : Int) < m) = false := by simp; omega
        go_upto_block 2 with fail
        generalize wr.alloc (.cells #[.int .i64 d, .int .i64 of_, .int .i64 qn, .slice B m cb, .bool up1, .int .i64 r1, .int .i64 s1] 35) = W0 at *
        generalize wr.heap.size = z at *
        go_cut [12, 13, 14, 15, 16, 17, 18] from 77 to 216 (fun s12 s13 s14 s15 s16 s17 s18 wx => ∃ v1 v2 c u v, c.a = a' ∧ c.b = b' ∧ SmallC c ∧ LA w wx x g1 g2 y z v1 v2 c c u v #[.int .i64 d, .int .i64 of_, .int .i64 qn, .slice B m cb, .bool up1, .int .i64 r1, .int .i64 s1])
        case first =>
          by_cases w0_ : d = 0
          · subst w0_
            as_aux_lemma =>
              obtain ⟨-, z1, -, z3, -, -, -, zl, -, -, -, -, -, -, -⟩ := blk_cells7 HLA.out.zb
              obtain ⟨⟨a2, b2, up2, p2, q2, ta2, tb2⟩, f2, hS⟩ : ∃ c' f', sendP ⟨a', b', up, p, q, ta, tb⟩ of_ xs = (c', f') := ⟨_, _, rfl⟩
              have hab := sendP_ab ⟨a', b', up, p, q, ta, tb⟩ of_ xs
              have hsm2 : SmallC (sendP ⟨a', b', up, p, q, ta, tb⟩ of_ xs).1 := small_send HSM.out HXL.out
              rw [hS] at hab hsm2
              obtain ⟨rfl, rfl⟩ : a2 = a' ∧ b2 = b' := hab
              have HSM2 := Lib.hid hsm2; clear hsm2
              have HS := Lib.hid hS; clear hS
              go_wp2_with (first
                | ((refine wpList_load_blk rfl 31 (.tmp 9) rfl y rfl #[.int .i64 a2, .int .i64 b2, .bool up, .int .i64 p, .int .i64 q, .slice Au nu cu, .slice Av nv cv] HLA.out.yb _ Try.underlying31 rfl (by rw [size_cab]; rfl) ?_))
                | (go_at_call 8; refine (lsend HLA.out.lc HLA.out.rows ((HX.out.below HLA.out.lc.low (Nat.le_refl _)).more HLA.out.lc.low.size) HS.out).mono ?_; rintro e w3 ⟨A3, n3, k3, A4, n4, k4, rfl, hb3, hr3⟩; have hbb := (Below.refl w3.heap.size w3).alloc (Nat.le_refl _) (.cells #[.int .i64 a2, .int .i64 b2, .bool up2, .int .i64 p2, .int .i64 q2, .slice A3 n3 k3, .slice A4 n4 k4] 31); have HLA3 := Lib.hid ((HLA.out.up hb3).up hbb); have HR3 := Lib.hid (hr3.up hbb); have HP3 := Lib.hid (Blk.new w3 31 #[.int .i64 a2, .int .i64 b2, .bool up2, .int .i64 p2, .int .i64 q2, .slice A3 n3 k3, .slice A4 n4 k4]); clear hb3 hr3 hbb; clear z1 z3 zl; obtain ⟨-, z1, -, z3, -, -, -, zl, -, -, -, -, -, -, -⟩ := blk_cells7 HLA3.out.zb)
                | ((refine wpList_store_new rfl 31 (.tmp 12) (.tmp 86) rfl #[.int .i64 a2, .int .i64 b2, .bool up2, .int .i64 p2, .int .i64 q2, .slice A3 n3 k3, .slice A4 n4 k4] _ rfl rfl (by rw [size_cab]; rfl) rfl (by kernel_rfl) ?_))
                | (go_at_call 9; refine (lcsend HLA3.out.lc ((HX.out.below HLA3.out.lc.low (Nat.le_refl _)).more HLA3.out.lc.low.size) HXL.out HSM.out HS.out).mono ?_; rintro e w4 ⟨rfl, hd_⟩; obtain ⟨e1_, e2_, h_, ks_, li_⟩ := HLA3.out.did hd_; have HLA4 := Lib.hid h_; have HR4 := Lib.hid (HR3.out.did HLA3.out.lc ks_ li_); have HP4 := Lib.hid (ks_.blk HP3.out (HLA3.out.lc.out HP3.out (by decide) (by decide) (by decide))); clear hd_ h_ ks_ li_; clear z1 z3 zl; obtain ⟨-, z1, -, z3, -, -, -, zl, -, -, -, -, -, -, -⟩ := blk_cells7 HLA4.out.zb)
                | ((refine wpList_load_blk rfl 31 (.tmp 12) rfl w3.heap.size rfl #[.int .i64 a2, .int .i64 b2, .bool up2, .int .i64 p2, .int .i64 q2, .slice A3 n3 k3, .slice A4 n4 k4] HP4.out _ Try.underlying31 rfl (by rw [size_cab]; rfl) ?_))
                | ((refine wpList_store_blk rfl 31 (.tmp 9) (.tmp 96) rfl y #[.int .i64 a2, .int .i64 b2, .bool up2, .int .i64 p2, .int .i64 q2, .slice A3 n3 k3, .slice A4 n4 k4] rfl rfl #[.int .i64 a2, .int .i64 b2, .bool up, .int .i64 p, .int .i64 q, .slice Au nu cu, .slice Av nv cv] HLA4.out.yb (by rw [size_cab]; rfl) rfl (by kernel_rfl) ?_; intro w6 hg6 hb6; have HG6 := Lib.hid hg6; have HB6 := Lib.hid hb6; clear hg6 hb6)))
              go_meet
              case rel => exact ⟨_, _, ⟨a2, b2, up2, p2, q2, ta2, tb2⟩, _, _, rfl, rfl, HSM2.out, HLA4.out.store HR4.out HG6.out HB6.out⟩
          have e0 : (d == 0) = false := beq_false_of_ne w0_
          clear w0_
          by_cases w1_ : d = 1
          · subst w1_
            as_aux_lemma =>
              obtain ⟨-, -, -, -, z4, z5, z6, zl, -, -, -, -, -, -, -⟩ := blk_cells7 HLA.out.zb
              obtain ⟨⟨a2, b2, up2, p2, q2, ta2, tb2⟩, f2, hS⟩ : ∃ c' f', setP ⟨a', b', up, p, q, ta, tb⟩ up1 r1 s1 = (c', f') := ⟨_, _, rfl⟩
              have hab := setP_ab ⟨a', b', up, p, q, ta, tb⟩ up1 r1 s1
              have hsm2 : SmallC (setP ⟨a', b', up, p, q, ta, tb⟩ up1 r1 s1).1 := small_set HSM.out
              rw [hS] at hab hsm2
              obtain ⟨rfl, rfl⟩ : a2 = a' ∧ b2 = b' := hab
              have HSM2 := Lib.hid hsm2; clear hsm2
              have HS := Lib.hid hS; clear hS
              go_wp2_with (first
                | ((refine wpList_load_blk rfl 31 (.tmp 9) rfl y rfl #[.int .i64 a2, .int .i64 b2, .bool up, .int .i64 p, .int .i64 q, .slice Au nu cu, .slice Av nv cv] HLA.out.yb _ Try.underlying31 rfl (by rw [size_cab]; rfl) ?_))
                | (go_at_call 10; refine (lset HLA.out.rows HS.out).mono ?_; rintro e w3 ⟨A3, n3, k3, A4, n4, k4, rfl, hb3, hr3⟩; have hbb := (Below.refl w3.heap.size w3).alloc (Nat.le_refl _) (.cells #[.int .i64 a2, .int .i64 b2, .bool up2, .int .i64 p2, .int .i64 q2, .slice A3 n3 k3, .slice A4 n4 k4] 31); have HLA3 := Lib.hid ((HLA.out.up hb3).up hbb); have HR3 := Lib.hid (hr3.up hbb); have HP3 := Lib.hid (Blk.new w3 31 #[.int .i64 a2, .int .i64 b2, .bool up2, .int .i64 p2, .int .i64 q2, .slice A3 n3 k3, .slice A4 n4 k4]); clear hb3 hr3 hbb; clear z4 z5 z6 zl; obtain ⟨-, -, -, -, z4, z5, z6, zl, -, -, -, -, -, -, -⟩ := blk_cells7 HLA3.out.zb)
                | ((refine wpList_store_new rfl 31 (.tmp 14) (.tmp 106) rfl #[.int .i64 a2, .int .i64 b2, .bool up2, .int .i64 p2, .int .i64 q2, .slice A3 n3 k3, .slice A4 n4 k4] _ rfl rfl (by rw [size_cab]; rfl) rfl (by kernel_rfl) ?_))
                | (go_at_call 11; refine (lcset HLA3.out.lc HS.out).mono ?_; rintro e w4 ⟨rfl, hd_⟩; obtain ⟨e1_, e2_, h_, ks_, li_⟩ := HLA3.out.did hd_; have HLA4 := Lib.hid h_; have HR4 := Lib.hid (HR3.out.did HLA3.out.lc ks_ li_); have HP4 := Lib.hid (ks_.blk HP3.out (HLA3.out.lc.out HP3.out (by decide) (by decide) (by decide))); clear hd_ h_ ks_ li_; clear z4 z5 z6 zl; obtain ⟨-, -, -, -, z4, z5, z6, zl, -, -, -, -, -, -, -⟩ := blk_cells7 HLA4.out.zb)
                | ((refine wpList_load_blk rfl 31 (.tmp 14) rfl w3.heap.size rfl #[.int .i64 a2, .int .i64 b2, .bool up2, .int .i64 p2, .int .i64 q2, .slice A3 n3 k3, .slice A4 n4 k4] HP4.out _ Try.underlying31 rfl (by rw [size_cab]; rfl) ?_))
                | ((refine wpList_store_blk rfl 31 (.tmp 9) (.tmp 116) rfl y #[.int .i64 a2, .int .i64 b2, .bool up2, .int .i64 p2, .int .i64 q2, .slice A3 n3 k3, .slice A4 n4 k4] rfl rfl #[.int .i64 a2, .int .i64 b2, .bool up, .int .i64 p, .int .i64 q, .slice Au nu cu, .slice Av nv cv] HLA4.out.yb (by rw [size_cab]; rfl) rfl (by kernel_rfl) ?_; intro w6 hg6 hb6; have HG6 := Lib.hid hg6; have HB6 := Lib.hid hb6; clear hg6 hb6)))
              go_meet
              case rel => exact ⟨_, _, ⟨a2, b2, up2, p2, q2, ta2, tb2⟩, _, _, rfl, rfl, HSM2.out, HLA4.out.store HR4.out HG6.out HB6.out⟩
          have e1 : (d == 1) = false := beq_false_of_ne w1_
          clear w1_
          by_cases w2_ : d = 2
          · subst w2_
            have hto := to_any of_ HLA.out.lc.c
            unfold toP at hto
            simp only at hto
            by_cases o1 : of_ = a'
            · subst o1
              rw [if_pos rfl] at hto
              have TO := Lib.hid hto; clear hto
              cases ht : there qn ta
              · as_aux_lemma =>
                  obtain ⟨-, -, -, -, -, y5, -, yl, -, -, -, -, -, -, -⟩ := blk_cells7 HLA.out.yb
                  obtain ⟨-, z1, z2, -, -, -, -, zl, -, -, -, -, -, -, -⟩ := blk_cells7 HLA.out.zb
                  have HTH := Lib.hid ht; clear ht
                  have oab : (of_ == b') = false := beq_false_of_ne (fun e => BN.out e.symm)
                  by_cases hq0 : 0 ≤ qn
                  · have dq0 : decide (0 ≤ qn) = true := by simp [hq0]
                    have dq1 : decide (qn < (nu : Int)) = false := by have h := HTH.out; have h2 := HNU.out; simp only at h2; unfold there at h; rw [dq0, Bool.true_and, h2] at h; exact h
                    clear hq0
                    go_wp2_with (first
                      | (go_at_call 12; refine (TO.out).mono ?_; rintro e w' ⟨rfl, rfl⟩)
                      | (go_at_call 13; refine (ltakeA_no HLA.out.lc HTH.out HSM.out.1.1).mono ?_; rintro e w3 ⟨A3, n3, k3, rfl, hd_⟩; obtain ⟨e1_, e2_, h_, ks_, li_⟩ := HLA.out.did hd_; have HLA3 := Lib.hid h_; skip; clear hd_ h_ ks_ li_; clear y5 yl; clear z1 z2 zl; obtain ⟨-, -, -, -, -, y5, -, yl, -, -, -, -, -, -, -⟩ := blk_cells7 HLA3.out.yb; obtain ⟨-, z1, z2, -, -, -, -, zl, -, -, -, -, -, -, -⟩ := blk_cells7 HLA3.out.zb))
                    go_meet
                    case rel => exact ⟨_, _, ⟨of_, b', up, p, q, ta, tb⟩, _, _, rfl, rfl, HSM.out, HLA3.out⟩
                  · have dq0 : decide (0 ≤ qn) = false := by simp; omega
                    clear hq0
                    go_wp2_with (first
                      | (go_at_call 12; refine (TO.out).mono ?_; rintro e w' ⟨rfl, rfl⟩)
                      | (go_at_call 13; refine (ltakeA_no HLA.out.lc HTH.out HSM.out.1.1).mono ?_; rintro e w3 ⟨A3, n3, k3, rfl, hd_⟩; obtain ⟨e1_, e2_, h_, ks_, li_⟩ := HLA.out.did hd_; have HLA3 := Lib.hid h_; skip; clear hd_ h_ ks_ li_; clear y5 yl; clear z1 z2 zl; obtain ⟨-, -, -, -, -, y5, -, yl, -, -, -, -, -, -, -⟩ := blk_cells7 HLA3.out.yb; obtain ⟨-, z1, z2, -, -, -, -, zl, -, -, -, -, -, -, -⟩ := blk_cells7 HLA3.out.zb))
                    go_meet
                    case rel => exact ⟨_, _, ⟨of_, b', up, p, q, ta, tb⟩, _, _, rfl, rfl, HSM.out, HLA3.out⟩
              · as_aux_lemma =>
                  obtain ⟨-, -, -, -, -, y5, -, yl, -, -, -, -, -, yf5, -⟩ := blk_cells7 HLA.out.yb
                  obtain ⟨-, z1, z2, -, -, -, -, zl, -, -, -, -, -, -, -⟩ := blk_cells7 HLA.out.zb
                  obtain ⟨j, rfl, hj⟩ := there_iff.1 ht
                  have HJ := Lib.hid hj
                  rw [HNU.out] at hj
                  have hj0 : 0 < nu := by omega
                  have dq0 : decide (0 ≤ (j : Int)) = true := by simp
                  have dq1 : decide ((j : Int) < (nu : Int)) = true := by simp; omega
                  obtain ⟨bl, ol, el, _⟩ := sls_at (slRow_sls HLA.out.rows.a) (by omega)
                  subst el
                  clear ht
                  go_wp2_with (first
                    | (go_at_call 12; refine (TO.out).mono ?_; rintro e w' ⟨rfl, rfl⟩)
                    | (go_at_call 13; refine (ltakeA_yes HLA.out.lc HJ.out HSM.out.1.1).mono ?_; rintro e w3 ⟨A3, n3, k3, rfl, hs3, hd_⟩; have HS3 := Lib.hid hs3; clear hs3; obtain ⟨e1_, e2_, h_, ks_, li_⟩ := HLA.out.did hd_; have HLA3 := Lib.hid h_; skip; clear hd_ h_ ks_ li_; clear y5 yl yf5; clear z1 z2 zl; obtain ⟨-, -, -, -, -, y5, -, yl, -, -, -, -, -, yf5, -⟩ := blk_cells7 HLA3.out.yb; obtain ⟨-, z1, z2, -, -, -, -, zl, -, -, -, -, -, -, -⟩ := blk_cells7 HLA3.out.zb; obtain ⟨bl_, ol_, el_, _, hc_⟩ := sls_at (slRow_sls HLA3.out.rows.a) (by omega); cases el_; obtain ⟨ur, hur, hsr⟩ := hc_ j hj; obtain ⟨Ar, nr, cr, rfl, _⟩ := id hsr; have HSR := Lib.hid hsr; clear hc_ hsr)
                    | (go_at_call 14; refine (sl_same HS3.out HSR.out).mono ?_; rintro e w4 ⟨rfl, m4, rfl⟩; have HLA4 := Lib.hid (HLA3.out.up (below_drewN (Below.refl _ w3) m4)); clear hur; clear y5 yl yf5; clear z1 z2 zl; obtain ⟨-, -, -, -, -, y5, -, yl, -, -, -, -, -, yf5, -⟩ := blk_cells7 HLA4.out.yb; obtain ⟨-, z1, z2, -, -, -, -, zl, -, -, -, -, -, -, -⟩ := blk_cells7 HLA4.out.zb)
                    | (go_at_call 15; refine (without_any _ _ j _ (slRow_sls HLA4.out.rows.a) HJ.out (by have := HSM.out.1.1; simp only at this ⊢; omega)).mono ?_; rintro e w5 ⟨vn, rfl, hr5, hb5⟩; obtain ⟨A5, n5, k5, rfl, _⟩ := slRow_form2 hr5; have HLA5 := Lib.hid (HLA4.out.up hb5); have HN5 := Lib.hid (slRow_mono hr5 HLA4.out.lc.low.size); have HO5 := Lib.hid (row_new (base := 0) hr5 (fun q e => (HLA4.out.lc.c.from_ q e).2)); clear hr5 hb5; clear y5 yl yf5; clear z1 z2 zl; obtain ⟨-, -, -, -, -, y5, -, yl, -, -, -, -, -, yf5, -⟩ := blk_cells7 HLA5.out.yb; obtain ⟨-, z1, z2, -, -, -, -, zl, -, -, -, -, -, -, -⟩ := blk_cells7 HLA5.out.zb))
                  go_meet
                  have hg := grown_set w5 ⟨y, 5, none⟩ (.slice A5 n5 k5)
                  have hbx := set5_blk (n := .slice A5 n5 k5) HLA5.out.yb
                  case rel => exact ⟨_, _, ⟨of_, b', up, p, q, ta.eraseIdx j, tb⟩, _, _, rfl, rfl, ⟨small_erase HSM.out.1 j, HSM.out.2⟩, HLA5.out.store (c2 := ⟨of_, b', up, p, q, ta.eraseIdx j, tb⟩) ⟨HN5.out, HLA5.out.rows.b, HO5.out, HLA5.out.rows.sb⟩ hg hbx⟩
            · rw [if_neg o1] at hto
              have oa : (of_ == a') = false := beq_false_of_ne o1
              clear o1
              by_cases o2 : of_ = b'
              · subst o2
                rw [if_pos rfl] at hto
                have TO := Lib.hid hto; clear hto
                cases ht : there qn tb
                · as_aux_lemma =>
                    obtain ⟨-, -, -, -, -, -, y6, yl, -, -, -, -, -, -, -⟩ := blk_cells7 HLA.out.yb
                    obtain ⟨-, z1, z2, -, -, -, -, zl, -, -, -, -, -, -, -⟩ := blk_cells7 HLA.out.zb
                    have HTH := Lib.hid ht; clear ht
                    by_cases hq0 : 0 ≤ qn
                    · have dq0 : decide (0 ≤ qn) = true := by simp [hq0]
                      have dq1 : decide (qn < (nv : Int)) = false := by have h := HTH.out; have h2 := HNV.out; simp only at h2; unfold there at h; rw [dq0, Bool.true_and, h2] at h; exact h
                      clear hq0
                      go_wp2_with (first
                        | (go_at_call 12; refine (TO.out).mono ?_; rintro e w' ⟨rfl, rfl⟩)
                        | (go_at_call 13; refine (ltakeB_no HLA.out.lc HTH.out HSM.out.2.1).mono ?_; rintro e w3 ⟨A3, n3, k3, rfl, hd_⟩; obtain ⟨e1_, e2_, h_, ks_, li_⟩ := HLA.out.did hd_; have HLA3 := Lib.hid h_; skip; clear hd_ h_ ks_ li_; clear y6 yl; clear z1 z2 zl; obtain ⟨-, -, -, -, -, -, y6, yl, -, -, -, -, -, -, -⟩ := blk_cells7 HLA3.out.yb; obtain ⟨-, z1, z2, -, -, -, -, zl, -, -, -, -, -, -, -⟩ := blk_cells7 HLA3.out.zb))
                      go_meet
                      case rel => exact ⟨_, _, ⟨a', of_, up, p, q, ta, tb⟩, _, _, rfl, rfl, HSM.out, HLA3.out⟩
                    · have dq0 : decide (0 ≤ qn) = false := by simp; omega
                      clear hq0
                      go_wp2_with (first
                        | (go_at_call 12; refine (TO.out).mono ?_; rintro e w' ⟨rfl, rfl⟩)
                        | (go_at_call 13; refine (ltakeB_no HLA.out.lc HTH.out HSM.out.2.1).mono ?_; rintro e w3 ⟨A3, n3, k3, rfl, hd_⟩; obtain ⟨e1_, e2_, h_, ks_, li_⟩ := HLA.out.did hd_; have HLA3 := Lib.hid h_; skip; clear hd_ h_ ks_ li_; clear y6 yl; clear z1 z2 zl; obtain ⟨-, -, -, -, -, -, y6, yl, -, -, -, -, -, -, -⟩ := blk_cells7 HLA3.out.yb; obtain ⟨-, z1, z2, -, -, -, -, zl, -, -, -, -, -, -, -⟩ := blk_cells7 HLA3.out.zb))
                      go_meet
                      case rel => exact ⟨_, _, ⟨a', of_, up, p, q, ta, tb⟩, _, _, rfl, rfl, HSM.out, HLA3.out⟩
                · as_aux_lemma =>
                    obtain ⟨-, -, -, -, -, -, y6, yl, -, -, -, -, -, -, yf6⟩ := blk_cells7 HLA.out.yb
                    obtain ⟨-, z1, z2, -, -, -, -, zl, -, -, -, -, -, -, -⟩ := blk_cells7 HLA.out.zb
                    obtain ⟨j, rfl, hj⟩ := there_iff.1 ht
                    have HJ := Lib.hid hj
                    rw [HNV.out] at hj
                    have hj0 : 0 < nv := by omega
                    have dq0 : decide (0 ≤ (j : Int)) = true := by simp
                    have dq1 : decide ((j : Int) < (nv : Int)) = true := by simp; omega
                    obtain ⟨bl, ol, el, _⟩ := sls_at (slRow_sls HLA.out.rows.b) (by omega)
                    subst el
                    clear ht
                    go_wp2_with (first
                      | (go_at_call 12; refine (TO.out).mono ?_; rintro e w' ⟨rfl, rfl⟩)
                      | (go_at_call 13; refine (ltakeB_yes HLA.out.lc HJ.out HSM.out.2.1).mono ?_; rintro e w3 ⟨A3, n3, k3, rfl, hs3, hd_⟩; have HS3 := Lib.hid hs3; clear hs3; obtain ⟨e1_, e2_, h_, ks_, li_⟩ := HLA.out.did hd_; have HLA3 := Lib.hid h_; skip; clear hd_ h_ ks_ li_; clear y6 yl yf6; clear z1 z2 zl; obtain ⟨-, -, -, -, -, -, y6, yl, -, -, -, -, -, -, yf6⟩ := blk_cells7 HLA3.out.yb; obtain ⟨-, z1, z2, -, -, -, -, zl, -, -, -, -, -, -, -⟩ := blk_cells7 HLA3.out.zb; obtain ⟨bl_, ol_, el_, _, hc_⟩ := sls_at (slRow_sls HLA3.out.rows.b) (by omega); cases el_; obtain ⟨ur, hur, hsr⟩ := hc_ j hj; obtain ⟨Ar, nr, cr, rfl, _⟩ := id hsr; have HSR := Lib.hid hsr; clear hc_ hsr)
                      | (go_at_call 14; refine (sl_same HS3.out HSR.out).mono ?_; rintro e w4 ⟨rfl, m4, rfl⟩; have HLA4 := Lib.hid (HLA3.out.up (below_drewN (Below.refl _ w3) m4)); clear hur; clear y6 yl yf6; clear z1 z2 zl; obtain ⟨-, -, -, -, -, -, y6, yl, -, -, -, -, -, -, yf6⟩ := blk_cells7 HLA4.out.yb; obtain ⟨-, z1, z2, -, -, -, -, zl, -, -, -, -, -, -, -⟩ := blk_cells7 HLA4.out.zb)
                      | (go_at_call 15; refine (without_any _ _ j _ (slRow_sls HLA4.out.rows.b) HJ.out (by have := HSM.out.2.1; simp only at this ⊢; omega)).mono ?_; rintro e w5 ⟨vn, rfl, hr5, hb5⟩; obtain ⟨A5, n5, k5, rfl, _⟩ := slRow_form2 hr5; have HLA5 := Lib.hid (HLA4.out.up hb5); have HN5 := Lib.hid (slRow_mono hr5 HLA4.out.lc.low.size); have HO5 := Lib.hid (row_new (base := 0) hr5 (fun q e => (HLA4.out.lc.c.from_ q e).2)); clear hr5 hb5; clear y6 yl yf6; clear z1 z2 zl; obtain ⟨-, -, -, -, -, -, y6, yl, -, -, -, -, -, -, yf6⟩ := blk_cells7 HLA5.out.yb; obtain ⟨-, z1, z2, -, -, -, -, zl, -, -, -, -, -, -, -⟩ := blk_cells7 HLA5.out.zb))
                    go_meet
                    have hg := grown_set w5 ⟨y, 6, none⟩ (.slice A5 n5 k5)
                    have hbx := set6_blk (n := .slice A5 n5 k5) HLA5.out.yb
                    case rel => exact ⟨_, _, ⟨a', of_, up, p, q, ta, tb.eraseIdx j⟩, _, _, rfl, rfl, ⟨HSM.out.1, small_erase HSM.out.2 j⟩, HLA5.out.store (c2 := ⟨a', of_, up, p, q, ta, tb.eraseIdx j⟩) ⟨HLA5.out.rows.a, HN5.out, HLA5.out.rows.sa, HO5.out⟩ hg hbx⟩
              · rw [if_neg o2] at hto
                have ob : (of_ == b') = false := beq_false_of_ne o2
                clear o2
                have TO := Lib.hid hto; clear hto
                obtain ⟨-, z1, z2, -, -, -, -, zl, -, -, -, -, -, -, -⟩ := blk_cells7 HLA.out.zb
                go_wp2_with (first
                  | (go_at_call 12; refine (TO.out).mono ?_; rintro e w' ⟨rfl, rfl⟩)
                  | (go_at_call 13; refine (take_nil qn _).mono ?_; rintro e w' ⟨rfl, rfl⟩))
                go_meet
                case rel => exact ⟨_, _, ⟨a', b', up, p, q, ta, tb⟩, _, _, rfl, rfl, HSM.out, HLA.out⟩
          have e2 : (d == 2) = false := beq_false_of_ne w2_
          clear w2_
          go_wp2_with (fail)
          go_meet
          case rel => exact ⟨_, _, ⟨a', b', up, p, q, ta, tb⟩, _, _, rfl, rfl, HSM.out, HLA.out⟩
        case rest =>
          clear c0 c1 c2 c3 c4 c5 c6 HLA HRW HNU HNV HSM HX HXL hu1 hu2 hv1 hv2 HLC
          obtain ⟨V1, V2, ⟨A', B', up3, p3, q3, ta3, tb3⟩, U, V, ea, eb, hsm3, hla3⟩ := hcut
          simp only at ea eb
          subst ea eb
          have HSM := Lib.hid hsm3; clear hsm3
          obtain ⟨Au3, cu3, rfl, _⟩ := slRow_form hla3.rows.a
          obtain ⟨Av3, cv3, rfl, _⟩ := slRow_form hla3.rows.b
          have HLA := Lib.hid hla3; clear hla3
          simp only at HLA
          have hx : (1 : Nat) = 1 := rfl
          have M1 := Lib.hid hx
          have M2 := Lib.hid hx
          have M3 := Lib.hid hx
          have M4 := Lib.hid hx
          have M5 := Lib.hid hx; clear hx
          have UP := Lib.hid (fun (W : World) (h : LA w W x g1 g2 y z V1 V2 ⟨A', B', up3, p3, q3, ta3, tb3⟩ ⟨A', B', up3, p3, q3, ta3, tb3⟩ (.slice Au3 ta3.length cu3) (.slice Av3 tb3.length cv3) #[.int .i64 d, .int .i64 of_, .int .i64 qn, .slice B m cb, .bool up1, .int .i64 r1, .int .i64 s1]) => up_any h.lc.c)
          have CO := Lib.hid (fun (W : World) (i : Int) (h : LA w W x g1 g2 y z V1 V2 ⟨A', B', up3, p3, q3, ta3, tb3⟩ ⟨A', B', up3, p3, q3, ta3, tb3⟩ (.slice Au3 ta3.length cu3) (.slice Av3 tb3.length cv3) #[.int .i64 d, .int .i64 of_, .int .i64 qn, .slice B m cb, .bool up1, .int .i64 r1, .int .i64 s1]) => cost_any i h.lc.c)
          have RC := Lib.hid (fun (W : World) (i : Int) => rcost_any ⟨A', B', up3, p3, q3, ta3, tb3⟩ Au3 Av3 ta3.length tb3.length cu3 cv3 i W)
          have ta_ := fun (W : World) (h : LA w W x g1 g2 y z V1 V2 ⟨A', B', up3, p3, q3, ta3, tb3⟩ ⟨A', B', up3, p3, q3, ta3, tb3⟩ (.slice Au3 ta3.length cu3) (.slice Av3 tb3.length cv3) #[.int .i64 d, .int .i64 of_, .int .i64 qn, .slice B m cb, .bool up1, .int .i64 r1, .int .i64 s1]) => to_any A' h.lc.c
          have tb_ := fun (W : World) (h : LA w W x g1 g2 y z V1 V2 ⟨A', B', up3, p3, q3, ta3, tb3⟩ ⟨A', B', up3, p3, q3, ta3, tb3⟩ (.slice Au3 ta3.length cu3) (.slice Av3 tb3.length cv3) #[.int .i64 d, .int .i64 of_, .int .i64 qn, .slice B m cb, .bool up1, .int .i64 r1, .int .i64 s1]) => to_any B' h.lc.c
          simp only [show toP ⟨A', B', up3, p3, q3, ta3, tb3⟩ g1 g2 A' = ptr g1 from if_pos rfl] at ta_
          simp only [show toP ⟨A', B', up3, p3, q3, ta3, tb3⟩ g1 g2 B' = ptr g2 from (if_neg BN.out).trans (if_pos rfl)] at tb_
          have TA := Lib.hid ta_; clear ta_
          have TB := Lib.hid tb_; clear tb_
          have LA_ := Lib.hid (fun (W : World) (h : LA w W x g1 g2 y z V1 V2 ⟨A', B', up3, p3, q3, ta3, tb3⟩ ⟨A', B', up3, p3, q3, ta3, tb3⟩ (.slice Au3 ta3.length cu3) (.slice Av3 tb3.length cv3) #[.int .i64 d, .int .i64 of_, .int .i64 qn, .slice B m cb, .bool up1, .int .i64 r1, .int .i64 s1]) => all_any w.heap.size g1 V1 ta3 W h.lc.c.qa HSM.out.1.up HSM.out.1.1)
          have LB_ := Lib.hid (fun (W : World) (h : LA w W x g1 g2 y z V1 V2 ⟨A', B', up3, p3, q3, ta3, tb3⟩ ⟨A', B', up3, p3, q3, ta3, tb3⟩ (.slice Au3 ta3.length cu3) (.slice Av3 tb3.length cv3) #[.int .i64 d, .int .i64 of_, .int .i64 qn, .slice B m cb, .bool up1, .int .i64 r1, .int .i64 s1]) => all_any w.heap.size g2 V2 tb3 W h.lc.c.qb HSM.out.2.up HSM.out.2.1)
          obtain ⟨y0, y1, y2, y3, y4, y5, y6, yl, -, -, -, -, -, -, -⟩ := blk_cells7 HLA.out.yb; obtain ⟨-, z1, -, -, -, -, -, zl, -, -, -, -, -, -, -⟩ := blk_cells7 HLA.out.zb
          go_upto_region 42 with (go_at_call 16; refine (ends_any HLA.out.lc.c).mono ?_; rintro e w3 ⟨rfl, hb3⟩; have HLA3 := Lib.hid (HLA.out.up hb3); have HLAD := Lib.hid ((HLA.out.up hb3).up (Below.refl _ _).drew); clear hb3; clear y0 y1 y2 y3 y4 y5 y6 yl z1 zl; obtain ⟨y0, y1, y2, y3, y4, y5, y6, yl, -, -, -, -, -, -, -⟩ := blk_cells7 HLA3.out.yb; obtain ⟨-, z1, -, -, -, -, -, zl, -, -, -, -, -, -, -⟩ := blk_cells7 HLA3.out.zb)
          go_cut [256] from 222 to 255 (fun t256 wx => t256 = .bool false ∧ LA w wx x g1 g2 y z V1 V2 ⟨A', B', up3, p3, q3, ta3, tb3⟩ ⟨A', B', up3, p3, q3, ta3, tb3⟩ (.slice Au3 ta3.length cu3) (.slice Av3 tb3.length cv3) #[.int .i64 d, .int .i64 of_, .int .i64 qn, .slice B m cb, .bool up1, .int .i64 r1, .int .i64 s1])
          case first =>
            as_aux_lemma =>
              go_region_held3 (fun W => W.cell? ⟨y, 0, none⟩ = some (.int .i64 A') ∧ W.cell? ⟨y, 1, none⟩ = some (.int .i64 B') ∧ W.cell? ⟨y, 2, none⟩ = some (.bool up3) ∧ W.cell? ⟨y, 3, none⟩ = some (.int .i64 p3) ∧ W.cell? ⟨y, 4, none⟩ = some (.int .i64 q3) ∧ W.cell? ⟨y, 5, none⟩ = some (.slice Au3 ta3.length cu3) ∧ W.cell? ⟨y, 6, none⟩ = some (.slice Av3 tb3.length cv3) ∧ W.cell? ⟨z, 1, none⟩ = some (.int .i64 of_))
                (first | with_reducible exact ⟨y0, y1, y2, y3, y4, y5, y6, z1⟩ | go_keep)
                (first
                  | (go_at_call 17; refine (UP.out _ HLAD.out).mono ?_; rintro e w' ⟨rfl, rfl⟩)
                  | (have MX := M1; go_at_call 18; refine (CO.out _ of_ HLAD.out).mono ?_; rintro e w' ⟨rfl, rfl⟩; clear M1 MX)
                  | (have MX := M2; go_at_call 19; refine (RC.out _ of_).mono ?_; rintro e w4 ⟨rfl, hb4⟩; have HLA4 := Lib.hid (HLAD.out.up hb4); clear hb4 M2 MX; clear y0 y1 y2 y3 y4 y5 y6 yl z1 zl; obtain ⟨y0, y1, y2, y3, y4, y5, y6, yl, -, -, -, -, -, -, -⟩ := blk_cells7 HLA4.out.yb; obtain ⟨-, z1, -, -, -, -, -, zl, -, -, -, -, -, -, -⟩ := blk_cells7 HLA4.out.zb)
                  | (go_at_call 18; refine (CO.out _ A' HLA4.out).mono ?_; rintro e w' ⟨rfl, rfl⟩)
                  | (go_at_call 19; refine (RC.out _ A').mono ?_; rintro e w5 ⟨rfl, hb5⟩; have HLA5 := Lib.hid (HLA4.out.up hb5); have HLAE := Lib.hid ((HLA4.out.up hb5).up (Below.refl _ _).drew); clear hb5; clear y0 y1 y2 y3 y4 y5 y6 yl z1 zl; obtain ⟨y0, y1, y2, y3, y4, y5, y6, yl, -, -, -, -, -, -, -⟩ := blk_cells7 HLA5.out.yb; obtain ⟨-, z1, -, -, -, -, -, zl, -, -, -, -, -, -, -⟩ := blk_cells7 HLA5.out.zb))
              all_goals
                (go_wp2_with (fail)
                 go_meet
                 exact ⟨rfl, HLA5.out⟩)
          case rest =>
            obtain ⟨rfl, hla5⟩ := hcut
            have HLA5 := Lib.hid hla5
            have HLAE := Lib.hid (hla5.up (Below.refl _ _).drew)
            clear HLA HLA3 HLAD y0 y1 y2 y3 y4 y5 y6 yl z1 zl hla5
            obtain ⟨y0, y1, y2, y3, y4, y5, y6, yl, -, -, -, -, -, -, -⟩ := blk_cells7 HLA5.out.yb; obtain ⟨-, z1, -, -, -, -, -, zl, -, -, -, -, -, -, -⟩ := blk_cells7 HLA5.out.zb
            go_upto_region 44 with fail
            go_cut [274] from 257 to 273 (fun t274 wx => t274 = .bool false ∧ LA w wx x g1 g2 y z V1 V2 ⟨A', B', up3, p3, q3, ta3, tb3⟩ ⟨A', B', up3, p3, q3, ta3, tb3⟩ (.slice Au3 ta3.length cu3) (.slice Av3 tb3.length cv3) #[.int .i64 d, .int .i64 of_, .int .i64 qn, .slice B m cb, .bool up1, .int .i64 r1, .int .i64 s1])
            case first =>
              as_aux_lemma =>
                go_region_held3 (fun W => W.cell? ⟨y, 5, none⟩ = some (.slice Au3 ta3.length cu3) ∧ W.cell? ⟨y, 6, none⟩ = some (.slice Av3 tb3.length cv3))
                  (first | with_reducible exact ⟨y5, y6⟩ | go_keep)
                  (first
                    | (have MX := M3; go_at_call 12; refine (TA.out _ HLAE.out).mono ?_; rintro e w' ⟨rfl, rfl⟩; clear M3 MX)
                    | (have MX := M4; go_at_call 21; refine (LA_.out _ HLAE.out).mono ?_; rintro e w6 ⟨A6, c6, rfl, hs6, hb6⟩; have HS6 := Lib.hid hs6; have HLA6 := Lib.hid (HLAE.out.up hb6); clear hs6 hb6 M4 MX; clear y0 y1 y2 y3 y4 y5 y6 yl z1 zl; obtain ⟨y0, y1, y2, y3, y4, y5, y6, yl, -, -, -, -, -, -, -⟩ := blk_cells7 HLA6.out.yb; obtain ⟨-, z1, -, -, -, -, -, zl, -, -, -, -, -, -, -⟩ := blk_cells7 HLA6.out.zb)
                    | (have MX := M5; go_at_call 20; refine (same_yes15 A6 Au3 ta3.length c6 cu3 ta3 _ HS6.out (slRow_sls HLA6.out.rows.a)).mono ?_; rintro e w7 ⟨rfl, m7, rfl⟩; have HLA7 := Lib.hid (HLA6.out.up (below_drewN (Below.refl _ w6) m7)); clear M5 MX; clear y0 y1 y2 y3 y4 y5 y6 yl z1 zl; obtain ⟨y0, y1, y2, y3, y4, y5, y6, yl, -, -, -, -, -, -, -⟩ := blk_cells7 HLA7.out.yb; obtain ⟨-, z1, -, -, -, -, -, zl, -, -, -, -, -, -, -⟩ := blk_cells7 HLA7.out.zb)
                    | (go_at_call 12; refine (TB.out _ HLA7.out).mono ?_; rintro e w' ⟨rfl, rfl⟩)
                    | (go_at_call 21; refine (LB_.out _ HLA7.out).mono ?_; rintro e w8 ⟨A8, c8, rfl, hs8, hb8⟩; have HS8 := Lib.hid hs8; have HLA8 := Lib.hid (HLA7.out.up hb8); clear hs8 hb8; clear y0 y1 y2 y3 y4 y5 y6 yl z1 zl; obtain ⟨y0, y1, y2, y3, y4, y5, y6, yl, -, -, -, -, -, -, -⟩ := blk_cells7 HLA8.out.yb; obtain ⟨-, z1, -, -, -, -, -, zl, -, -, -, -, -, -, -⟩ := blk_cells7 HLA8.out.zb)
                    | (go_at_call 20; refine (same_yes15 A8 Av3 tb3.length c8 cv3 tb3 _ HS8.out (slRow_sls HLA8.out.rows.b)).mono ?_; rintro e w9 ⟨rfl, m9, rfl⟩; have HLA9 := Lib.hid (HLA8.out.up (below_drewN (Below.refl _ w8) m9)); clear y0 y1 y2 y3 y4 y5 y6 yl z1 zl; obtain ⟨y0, y1, y2, y3, y4, y5, y6, yl, -, -, -, -, -, -, -⟩ := blk_cells7 HLA9.out.yb; obtain ⟨-, z1, -, -, -, -, -, zl, -, -, -, -, -, -, -⟩ := blk_cells7 HLA9.out.zb))
                all_goals
                  (go_wp2_with (fail)
                   go_meet
                   exact ⟨rfl, HLA9.out⟩)
            case rest =>
              obtain ⟨rfl, hla9⟩ := hcut
              have HLA9 := Lib.hid hla9; clear hla9 y0 y1 y2 y3 y4 y5 y6 yl z1 zl
              go_wp2_with (fail)
              go_roundw
              case rel => exact ⟨k + 1, by omega, by go_num, V1, V2, ⟨A', B', up3, p3, q3, ta3, tb3⟩, _, _, rfl, rfl, HSM.out, HLA9.out.lc, HLA9.out.yb, HLA9.out.rows⟩
              case measure => simp [intOf]; omega
      · have dm : decide ((200 : Int) < m) = true := by simp; omega
        go_wp2_with (go_at_call 5; refine (AW.out _).mono ?_; rintro e w5 ⟨rfl, hb⟩; have HB5 := Lib.hid (HLA.out.lc.low.trans (hb.mono HLA.out.lc.low.size)); clear hb)
        go_ret
        exact ⟨rfl, HB5.out⟩
    · go_wp2_with (go_at_call 5; refine (AW.out _).mono ?_; rintro e w5 ⟨rfl, hb⟩; have HB5 := Lib.hid (HLC.out.low.trans (hb.mono HLC.out.low.size)); clear hb)
      go_ret
      exact ⟨rfl, HB5.out⟩
theorem walk (a b : Int) (a0 : Option Addr) (n0 c0 : Nat) (w : World) (_ : (Lit.int .i64 a).wf = true) (_ : (Lit.int .i64 b).wf = true) (w2 : IsRecs w a0 n0 c0 7 (Act16R w)) :
    Calls Try.prog 3 #[.int .i64 a, .int .i64 b, .slice a0 n0 c0] w fun e w' => e = .returned (.bool true) ∧ Below w.heap.size w w' := by
  by_cases h : n0 ≤ 60
  · cases ho : newOk a b
    · exact walk_no a b a0 n0 c0 w h ho
    · exact walk_short a b a0 n0 c0 w h ho w2
  · exact walk_long a b a0 n0 c0 w (by omega)
open Go.ChangeShapes Go.WideShapes Go.ChangeAt Go.RowKit
theorem own : ownKnob Try.prog.godebug = none := by kernel_rfl
theorem laidOut : laidOutB Try.prog = true := by kernel_rfl
/-! the step from the walk to the row -/
set_option maxRecDepth 100000 in
theorem lifted (os : Os) (started : os.Started) (H : Type) (enc : TypeId × Value → H) :
    ReturnsInHanded {} Try.checked os 3 .any (Rows.cableActsSpec.pre6 enc Try.prog Try.f3 Rows.cableActsRow.domain false) (Rows.cableActsSpec.post enc Try.prog Try.f3 false true false false) := by
  refine returnsInHanded_of_change (C := Try.checked) own started (by kernel_rfl) Try.func3
    (ChangeSpec.witness6 (enc := enc) (C := Try.checked) false ⟨#[], #[.int .i64 0, .int .i64 0, .slice none 0 0], []⟩ 8 (by kernel_rfl) (by kernel_rfl) (by kernel_rfl) (by kernel_rfl)) ?_
  intro W base args ds gs before hval0 hW hcnd _
  have hval : ∀ (j : Nat) t v, Try.f3.params[j]? = some t → args[j]? = some v → Value.okWide Try.prog W .any base t v := hval0
  have hW' := hW
  obtain ⟨p, q, hA0, hV, rfl, hfz, hnd⟩ := hW
  have hA : DataW.TrodAll enc Try.prog W 0 (fun _ => true) true Try.f3.params.toList args.toList ds p := hA0
  rw [Try.params3] at hA hval
  obtain ⟨v0, vs0, d0, ds0, p0, q0, hargs, rfl, rfl, h0, r0⟩ := trodAll_cons hA
  obtain ⟨v1, vs1, d1, ds1, p1, q1, rfl, rfl, rfl, h1, r1⟩ := trodAll_cons r0
  obtain ⟨v2, vs2, d2, ds2, p2, q2, rfl, rfl, rfl, h2, r2⟩ := trodAll_cons r1
  obtain ⟨rfl, rfl, rfl⟩ := trodAll_nil r2
  obtain rfl : args = #[v0, v1, v2] := by cases args; simp_all
  obtain ⟨rfl, rfl⟩ := trodVars_none hV
  obtain ⟨a0, rfl, rfl, rfl, w0⟩ := open_int Try.underlying3 (hval 0 3 v0 rfl rfl) h0
  obtain ⟨a1, rfl, rfl, rfl, w1⟩ := open_int Try.underlying3 (hval 1 3 v1 rfl rfl) h1
  obtain ⟨a2, len2, cap2, rfl⟩ := okWide_slice Try.underlying22 (hval 2 22 v2 rfl rfl)
  have k2 := h2
  have lt2 : ∀ x ∈ p2, x.block < W.heap.size := by obtain ⟨m, hm⟩ := k2; exact DataW.trod_lt m _ _ _ hm
  have w2 : IsRecs W a2 len2 cap2 7 (Act16R W) := by
    obtain ⟨fuel, hf⟩ := h2
    obtain ⟨A, l, c, e, hr⟩ := open_acts16_at (v := .slice a2 len2 cap2) hf
    injection e with e1 e2 e3
    subst e1 e2 e3
    exact hr
  clear hA0 hval0
  refine (walk a0 a1 a2 len2 cap2 W w0 w1 w2).mono fun e W' ⟨he, bel⟩ => ?_
  subst he
  exact ⟨_, rfl, _, _, _, [], _, [], hW', trodAll_mk1 (shut_bool Try.underlying4 _), (trodAll_cons_mk (shut_int Try.underlying3 w0) (trodAll_cons_mk (shut_int Try.underlying3 w1) (trodAll_cons_mk (Below.trod laidOut (by kernel_rfl) (of_decide_eq_true (by kernel_rfl)) k2 bel lt2) trodAll_mk0))), rfl, bel.frame _, fun h => by cases h⟩

theorem over : Rows.cableActsRow.holds Try.pinned (OpenSpec.ofChange Rows.cableActsSpec) :=
  OpenClaim.holds_of_wide 3 Try.f3 rfl rfl rfl rfl rfl rfl rfl ⟨rfl, rfl, rfl, rfl, rfl⟩ rfl rfl rfl rfl rfl (by kernel_rfl) Try.func3 (by kernel_rfl)
    (of_decide_eq_true (by kernel_rfl)) (by unfold Func.isWrapper; first | (rw [if_pos (by decide +kernel)]; kernel_rfl) | (rw [if_neg (by decide +kernel)]; exact ⟨rfl, rfl⟩))
    (fun os started H enc _ => lifted os started H enc)

/-- the statement -/
theorem proved : Rows.CableActsSaid := over
end Go.Proofs.Ytkflbhaomoaonaa.cableActs
