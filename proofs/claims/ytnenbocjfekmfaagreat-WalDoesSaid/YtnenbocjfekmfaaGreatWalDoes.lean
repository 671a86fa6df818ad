/- WalDoes: what any acts tell, on a disk of any size, and what it opens with. For every number and every acts. Printed by tools/wal/gendoes.py. -/
import Derived.Test.YtnenbocjfekmfaaGreatDiskAll
import Derived.Test.YtnenbocjfekmfaaGreatWalDid
import Derived.Below
import Derived.ChangeOld
import Derived.Deep.Cut
import Derived.Deep.CutBlock
import Derived.Deep.CutRange
import Derived.Deep.RegionHeld3
import Derived.IntWalk
import Derived.OpenShut
import Derived.ProofKit
import Derived.ShutString
import Derived.WalkKit
namespace Go.Proofs.YtnenbocjfekmfaaGreat.walDoes
open Go.RowKit Go.Maps Go.Proofs.YtnenbocjfekmfaaGreat.Mem Go.Proofs.YtnenbocjfekmfaaGreat.Rcd Go.Proofs.YtnenbocjfekmfaaGreat.Wl
open Go.Proofs.YtnenbocjfekmfaaGreat.Dsk (KeptBut SMap DiskAt St ptr kept_of_below kept_of_grown kept_drew IsSec NoneAt TearsAt TearR TearsR RefAt refV armedOf raise4)
open Go.Proofs.YtnenbocjfekmfaaGreat.Plt (sl)
open Go.Proofs.YtnenbocjfekmfaaGreat.Slt (sl_up)
set_option linter.unusedVariables false
set_option linter.unusedSimpArgs false
theorem free_wrap {N next : Nat} (h : N ≤ 1024) (hn : next ≤ 1024) : IntKind.i64.wrap ((lg N : Nat) - (next : Nat) : Int) = (lg N : Nat) - (next : Nat) := by
  have : lg N ≤ 1024 := by unfold lg; omega
  rw [IntKind.wrap_i64]
  omega
set_option maxRecDepth 20000 in
set_option maxHeartbeats 16000000 in
theorem walk_nat (a0 : Nat) (a1 : Option Addr) (len1 cap1 : Nat) (w : World) (h0 : a0 < 256) (w1 : IsRecs w a1 len1 cap1 4 (Act8R w)) :
    Calls Tryz.prog 3 #[.int .u8 (a0 : Nat), .slice a1 len1 cap1] w fun e w' => e = .returned (.bool true) ∧ Below w.heap.size w w' := by
  have h := light8_any a1 len1 cap1 w w1
  have W1 := Lib.hid w1; clear w1
  obtain ⟨h6, h41⟩ := place_bounds (a0 : Nat)
  have pl := fun (W : World) => place_any (a0 : Nat) W (by omega) (by omega)
  obtain ⟨N, hN⟩ : ∃ N, N = placeN (a0 : Nat) := ⟨_, rfl⟩
  rw [← hN] at h6 h41 pl
  have nw := fun (W : World) => Dsk.new_ok N W (by omega) (by omega)
  have PL := Lib.hid pl; clear pl
  have NW := Lib.hid nw; clear nw
  have H := Lib.hid h; clear h
  have AW := Lib.hid (fun (W : World) => awake8_any W)
  have hN1000 : N ≤ 1000 := by omega
  clear hN h41
  obtain ⟨s1, p1, p2, p3, p4⟩ := open_fresh N h6
  have oy := fun (g bs bw : Nat) (W : World) (hd : DiskAt W g bs bw (Dsk.St.new N)) => open_yes hd (by show N ≤ 1000; exact hN1000) p1
  have OY := Lib.hid oy; clear oy
  have ry := fun (S : List Nat) (B1 B2 : Option Addr) (d1 d2 : Nat) (W : World) (hf : Dsk.Fine (Dsk.St.new N)) (hr : RD W S B1 B2 d1 d2 N (Dsk.St.new N)) (hS : ∀ x ∈ S, x < W.heap.size) => ropen_yes hf hr hS h6 hN1000 p1 p2
  have RY := Lib.hid ry; clear ry
  have rn := fun (S : List Nat) (W : World) (hS : ∀ x ∈ S, x < W.heap.size) => Dsk.ref_new S N W (by omega) (by omega) hS
  have RN := Lib.hid rn; clear rn
  have HP2 := Lib.hid p2; clear p1 p2 p3 p4
  go_enter Tryz.func3, Tryz.ntmps3
  go_wp2_with (go_at_call 6; refine (H.out).mono ?_; rintro e w1 ⟨t, rfl, hb, ht⟩; have HB1 := Lib.hid hb; have HFT := Lib.hid ht; clear hb ht; cases t)
  · go_wp2_with (go_at_call 7; refine (AW.out _).mono ?_; rintro e w2 ⟨rfl, hb⟩; have HB2 := Lib.hid (HB1.out.trans (hb.mono HB1.out.size)); clear hb)
    go_ret
    exact ⟨rfl, HB2.out⟩
  have hfit : len1 ≤ 25 ∧ Fits8 w a1 len1 := by first | exact HFT.out rfl | exact HFT.out trivial
  obtain ⟨hl25, hf8⟩ := hfit
  obtain ⟨l, hA⟩ := acts8_of W1.out hf8
  have HA := Lib.hid hA; clear hA hf8
  go_wp2_with (first
    | (go_at_call 9; refine (PL.out _).mono ?_; rintro e w' ⟨rfl, rfl⟩)
    | (go_at_call 8; refine (NW.out _).mono ?_; rintro e w2 ⟨g, bs, bw, rfl, hd, hb, hge⟩; have HD2 := Lib.hid hd; have HB2 := Lib.hid (HB1.out.trans (hb.mono HB1.out.size)); have HGE := Lib.hid (show ∀ y ∈ [g, bs, bw], w.heap.size ≤ y from (fun y hy => Nat.le_trans HB1.out.size (hge y hy))); clear hd hb hge)
    | (go_at_call 10; refine (OY.out g bs bw _ HD2.out).mono ?_; rintro e w3 ⟨x, A3, n3, c3, A4, n4, c4, rfl, b1, b2, b3, b4, b5, b6, b7, b8⟩; have HB3 := Lib.hid (kept_low HB2.out b8 HGE.out); have HD3 := Lib.hid b5; have HW3 := Lib.hid b6; have HX3 := Lib.hid (Nat.le_trans HB2.out.size b7); clear b1 b2 b3 b4 b5 b6 b7 b8)
    | (go_at_call 12; refine (RN.out [x, g, bs, bw] _ (in_all HD3.out HW3.out)).mono ?_; rintro e w4 ⟨v4, rfl, hr, hb⟩; obtain ⟨B1, d1, B2, d2, rfl⟩ := refAt_two hr; have HR4 := Lib.hid (show RD w4 [x, g, bs, bw] B1 B2 d1 d2 N (Dsk.St.new N) from ⟨hr, rfl⟩); have HB4 := Lib.hid (HB3.out.trans (hb.mono HB3.out.size)); have HD4 := Lib.hid (HD3.out.below hb); have HW4 := Lib.hid (HW3.out.up hb); clear hr hb)
    | (go_at_call 11; refine (RY.out [x, g, bs, bw] B1 B2 d1 d2 _ HD2.out.fine HR4.out (in_all HD4.out HW4.out)).mono ?_; rintro e w5 ⟨C1, C2, e1, e2, A5, c5, A6, c6, rfl, hr, _, _, hb⟩; have HR5 := Lib.hid hr; have HB5 := Lib.hid (HB4.out.trans (hb.mono HB4.out.size)); have HD5 := Lib.hid (HD4.out.below hb); have HW5 := Lib.hid (HW4.out.up hb); clear hr hb))
  have HDO := Lib.hid (does_first HB5.out HD5.out HR5.out HX3.out HW5.out)
  have HY0 := Lib.hid (show w.heap.size ≤ w5.heap.size from HB5.out.size)
  clear HP2
  generalize w5.heap.size = y at *
  go_loopw [7, 15] (fun z i wr => ∃ j : Nat, j ≤ len1 ∧ i = .int .i64 j ∧ DoesAt w wr g bs bw y N z) (fun _ i _ => len1 - (intOf i).toNat)
  case atStart => exact ⟨0, Nat.zero_le _, rfl, .inl ⟨_, _, _, _, _, _, _, HDO.out⟩⟩
  case round =>
    obtain ⟨j, hj, rfl, hdo⟩ := hrel
    have hlow : Below w.heap.size w wr := hdo.low
    have HLOW := Lib.hid hlow
    have HDA := Lib.hid hdo; clear hdo
    by_cases hlt : j < len1
    · obtain ⟨b, off, ac, At, nt, ct, e, hb, hac, c0, c1, c2, c3, ht, hb256, hn0, hn1⟩ := acts8_at HA.out hlow hlt
      subst e
      obtain ⟨wh, nn, bb, ts⟩ := ac
      simp only at c0 c1 c2 ht hb256 hn0 hn1
      have hbw : b < wr.heap.size := Nat.lt_of_lt_of_le hb hlow.size
      have hlow0 := hlow.size
      clear hac hlow
      go_upto_block 2 with fail
      have hba := palloc (Below.refl wr.heap.size wr) (.cells #[.int .i64 wh, .int .i64 nn, .int .u8 (bb : Nat), .slice At nt ct] 46)
      have HDB := Lib.hid (HDA.out.up hba)
      have HTT := Lib.hid (ht.below hba hlow0)
      have KA := Lib.hid (Blk.new wr 46 #[.int .i64 wh, .int .i64 nn, .int .u8 (bb : Nat), .slice At nt ct])
      have HLB := Lib.hid (HLOW.out.trans (hba.mono HLOW.out.size))
      generalize hwa : wr.alloc (.cells #[.int .i64 wh, .int .i64 nn, .int .u8 (bb : Nat), .slice At nt ct] 46) = wa at *
      have hra : wr.heap.size < wa.heap.size := KA.out.lt
      have HL25 := Lib.hid hl25
      clear hwa c0 c1 c2 c3 hba hlow0 HDA HLOW ht hb hbw HDO HB1 HB2 HB3 HB4 HB5 HD2 HD3 HD4 HD5 HW3 HW4 HW5 HR4 HR5 HX3 H HFT OY RY RN NW PL hl25
      generalize wr.heap.size = a16 at *
      go_cut [7, 17, 18, 19, 20, 21, 22, 23, 24, 25, 26, 27, 28, 29] from 79 to 187 (fun v7 v17 v18 v19 v20 v21 v22 v23 v24 v25 v26 v27 v28 v29 wx => v17 = .bool true ∧ DoesAt w wx g bs bw y N v7)
      case first =>
        obtain ⟨B1, B2, d1, d2, ar, dd, p0, p1, p2, ge, ma, nx, br, is_, hc⟩ := does_c HDB.out
        have HC := Lib.hid hc
        have KY := Lib.hid hc.blk
        have hyl := hc.blk.lt
        clear hc HDB
        have y0 := KY.out.cell 0
        have yf0 := KY.out.frozen 0
        have y1 := KY.out.cell 1
        have yf1 := KY.out.frozen 1
        have y2 := KY.out.cell 2
        have yf2 := KY.out.frozen 2
        have y3 := KY.out.cell 3
        have yf3 := KY.out.frozen 3
        have y4 := KY.out.cell 4
        have yf4 := KY.out.frozen 4
        have y5 := KY.out.cell 5
        have yf5 := KY.out.frozen 5
        have y6 := KY.out.cell 6
        have yf6 := KY.out.frozen 6
        have y7 := KY.out.cell 7
        have yf7 := KY.out.frozen 7
        have y8 := KY.out.cell 8
        have yf8 := KY.out.frozen 8
        have y9 := KY.out.cell 9
        have yf9 := KY.out.frozen 9
        have y10 := KY.out.cell 10
        have yf10 := KY.out.frozen 10
        have y11 := KY.out.cell 11
        have yf11 := KY.out.frozen 11
        simp at y0 y1 y2 y3 y4 y5 y6 y7 y8 y9 y10 y11
        have ylt := KY.out.lt
        obtain ⟨u0, u1, u2, u3, u4⟩ := blk4 KA.out
        have HBA := Lib.hid (Below.refl wa.heap.size wa)
        by_cases w0 : wh = 0
        · subst w0
          have BY := Lib.hid (fun (W : World) => bytes_any 0 nn bb At nt ct W hb256)
          have hlen := bytesOf_len nn bb
          have hm3 := bytesN_lt nn
          generalize bytesOf nn bb = L at *
          generalize bytesN nn = m at *
          have RC := Lib.hid (fun (E : List Nat) (W0 W : World) (A : Option Addr) (c : Nat) (h : DoesC w W0 g bs bw y N u7 B1 B2 d1 d2 ar dd p0 p1 p2 ge ma nx br is_) (hB : Below W0.heap.size W0 W) (hE : ∀ t ∈ E, W0.heap.size ≤ t ∧ t < W.heap.size) (hb : Sl W W.heap.size (.slice A m c) L) => rcommit_c E h6 hN1000 h hB hE hb hlen (by omega))
          have CC := Lib.hid (fun (C1 C2 : Option Addr) (e1 e2 : Nat) (ar' : Int) (dd' : Bool) (q0' q1' q2' ge' ma' nx' : Int) (br' is' : Bool) (er : Int) (W : World) (A : Option Addr) (c : Nat) (h : MidC [] commitP w W g bs bw y N u7 L #[.slice B1 N d1, .slice B2 N d2, .int .i64 ar, .bool dd, .int .i64 p0, .int .i64 p1, .int .i64 p2, .int .i64 ge, .int .i64 ma, .int .i64 nx, .bool br, .bool is_] er C1 C2 e1 e2 ar' dd' q0' q1' q2' ge' ma' nx' br' is') (hb : Sl W W.heap.size (.slice A m c) L) => ccommit_c h6 hN1000 HGE.out h hb hlen (by omega))
          clear hlen hm3
          go_upto_region 17 with fail
          go_cut [18, 19] from 83 to 89 (fun v18 v19 wx => OBox commitP w wa g bs bw y N u7 L #[.slice B1 N d1, .slice B2 N d2, .int .i64 ar, .bool dd, .int .i64 p0, .int .i64 p1, .int .i64 p2, .int .i64 ge, .int .i64 ma, .int .i64 nx, .bool br, .bool is_] v18 v19 wx)
          case first =>
            go_region_held3 (fun W => W.cell? ⟨y, 0, none⟩ = some (.slice B1 N d1) ∧ W.cell? ⟨y, 1, none⟩ = some (.slice B2 N d2) ∧ W.cell? ⟨y, 2, none⟩ = some (.int .i64 ar) ∧ W.cell? ⟨y, 3, none⟩ = some (.bool dd) ∧ W.cell? ⟨y, 4, none⟩ = some (.int .i64 p0) ∧ W.cell? ⟨y, 5, none⟩ = some (.int .i64 p1) ∧ W.cell? ⟨y, 6, none⟩ = some (.int .i64 p2) ∧ W.cell? ⟨y, 7, none⟩ = some (.int .i64 ge) ∧ W.cell? ⟨y, 8, none⟩ = some (.int .i64 ma) ∧ W.cell? ⟨y, 9, none⟩ = some (.int .i64 nx) ∧ W.cell? ⟨y, 10, none⟩ = some (.bool br) ∧ W.cell? ⟨y, 11, none⟩ = some (.bool is_) ∧ W.cell? ⟨a16, 0, none⟩ = some (.int .i64 0) ∧ W.cell? ⟨a16, 1, none⟩ = some (.int .i64 nn) ∧ W.cell? ⟨a16, 2, none⟩ = some (.int .u8 (bb : Nat)) ∧ W.cell? ⟨a16, 3, none⟩ = some (.slice At nt ct))
              (first
                | with_reducible exact ⟨y0, y1, y2, y3, y4, y5, y6, y7, y8, y9, y10, y11, u0, u1, u2, u3⟩
                | with_reducible exact ⟨q0, q1, q2, q3, q4, q5, q6, q7, q8, q9, q10, q11, r0, r1, r2, r3⟩
                | with_reducible exact ⟨s0, s1, s2, s3, s4, s5, s6, s7, s8, s9, s10, s11, t0, t1, t2, t3⟩
                | (with_reducible refine ⟨(set12_keep ?_).trans s0, (set12_keep ?_).trans s1, (set12_keep ?_).trans s2, (set12_keep ?_).trans s3, (set12_keep ?_).trans s4, (set12_keep ?_).trans s5, (set12_keep ?_).trans s6, (set12_keep ?_).trans s7, (set12_keep ?_).trans s8, (set12_keep ?_).trans s9, (set12_keep ?_).trans s10, (set12_keep ?_).trans s11, (set12_keep ?_).trans t0, (set12_keep ?_).trans t1, (set12_keep ?_).trans t2, (set12_keep ?_).trans t3⟩ <;> omega)
                | go_keep)
              (first
                | (go_at_call 14; refine (BY.out _).mono ?_; rintro e w5 ⟨A5, c5, rfl, hs5, hb5⟩; have hb : Below wa.heap.size wa w5 := undrew hb5; have HB5 := Lib.hid hb; have HBR5 := Lib.hid (Below.refl w5.heap.size w5); have HS5 := Lib.hid hs5; have HC5 := Lib.hid (HC.out.up hb); have hs5z := hb.size; have KQ := Lib.hid (KY.out.below hb KY.out.lt); have q0 := KQ.out.cell 0; have q1 := KQ.out.cell 1; have q2 := KQ.out.cell 2; have q3 := KQ.out.cell 3; have q4 := KQ.out.cell 4; have q5 := KQ.out.cell 5; have q6 := KQ.out.cell 6; have q7 := KQ.out.cell 7; have q8 := KQ.out.cell 8; have q9 := KQ.out.cell 9; have q10 := KQ.out.cell 10; have q11 := KQ.out.cell 11; simp at q0 q1 q2 q3 q4 q5 q6 q7 q8 q9 q10 q11; have qlt := KQ.out.lt; have KA5 := Lib.hid (KA.out.below hb KA.out.lt); obtain ⟨r0, r1, r2, r3, r4⟩ := blk4 KA5.out; clear hb hb5 hs5)
                | (go_at_call 14; refine (BY.out _).mono ?_; rintro e w5 ⟨A5, c5, rfl, hs5, hb5⟩; have hb' := undrew hb5; have hb : Below wa.heap.size wa w5 := (palloc HBA.out (.cells zW 40)).trans (hb'.mono (palloc HBA.out (.cells zW 40)).size); have K18 := Lib.hid ((Blk.new wa 40 zW).below hb' (by simp)); have HB5 := Lib.hid hb; have HBR5 := Lib.hid (Below.refl w5.heap.size w5); have HS5 := Lib.hid hs5; have HC5 := Lib.hid (HC.out.up hb); have hs5z := hb.size; have KQ := Lib.hid (KY.out.below hb KY.out.lt); have q0 := KQ.out.cell 0; have q1 := KQ.out.cell 1; have q2 := KQ.out.cell 2; have q3 := KQ.out.cell 3; have q4 := KQ.out.cell 4; have q5 := KQ.out.cell 5; have q6 := KQ.out.cell 6; have q7 := KQ.out.cell 7; have q8 := KQ.out.cell 8; have q9 := KQ.out.cell 9; have q10 := KQ.out.cell 10; have q11 := KQ.out.cell 11; simp at q0 q1 q2 q3 q4 q5 q6 q7 q8 q9 q10 q11; have qlt := KQ.out.lt; have KA5 := Lib.hid (KA.out.below hb KA.out.lt); obtain ⟨r0, r1, r2, r3, r4⟩ := blk4 KA5.out; clear hb hb' hb5 hs5)
                | (go_at_call 13; (refine (RC.out [wa.heap.size] wa _ A5 c5 HC.out (by first | with_reducible exact HB5.out | with_reducible exact bl1 HB5.out) (one_in (Nat.le_refl _) K18.out.lt) (by first | with_reducible exact HS5.out | with_reducible exact sl_up HS5.out (bl1 HBR5.out))).mono ?_); rintro e w6 ⟨C1, C2, e1, e2, ar', dd', q0', q1', q2', ge', ma', nx', br', is', er, rfl, hm, hb6⟩; have hb : Below w5.heap.size w5 w6 := (by first | with_reducible exact hb6 | with_reducible exact undrew hb6); have HB6 := Lib.hid (HB5.out.trans (hb.mono HB5.out.size)); have HM6 := Lib.hid hm; have KS := Lib.hid (KQ.out.below hb KQ.out.lt); have s0 := KS.out.cell 0; have s1 := KS.out.cell 1; have s2 := KS.out.cell 2; have s3 := KS.out.cell 3; have s4 := KS.out.cell 4; have s5 := KS.out.cell 5; have s6 := KS.out.cell 6; have s7 := KS.out.cell 7; have s8 := KS.out.cell 8; have s9 := KS.out.cell 9; have s10 := KS.out.cell 10; have s11 := KS.out.cell 11; simp at s0 s1 s2 s3 s4 s5 s6 s7 s8 s9 s10 s11; have slt := KS.out.lt; have KA6 := Lib.hid (KA5.out.below hb KA5.out.lt); obtain ⟨t0, t1, t2, t3, t4⟩ := blk4 KA6.out; have K28 := Lib.hid (K18.out.below hb K18.out.lt); have k0 := K28.out.cell 0; have kf0 := K28.out.frozen 0; have k1 := K28.out.cell 1; have kf1 := K28.out.frozen 1; have k2 := K28.out.cell 2; have kf2 := K28.out.frozen 2; have k3 := K28.out.cell 3; have kf3 := K28.out.frozen 3; have k4 := K28.out.cell 4; have kf4 := K28.out.frozen 4; have k5 := K28.out.cell 5; have kf5 := K28.out.frozen 5; have k6 := K28.out.cell 6; have kf6 := K28.out.frozen 6; have k7 := K28.out.cell 7; have kf7 := K28.out.frozen 7; have k8 := K28.out.cell 8; have kf8 := K28.out.frozen 8; have k9 := K28.out.cell 9; have kf9 := K28.out.frozen 9; have k10 := K28.out.cell 10; have kf10 := K28.out.frozen 10; have k11 := K28.out.cell 11; have kf11 := K28.out.frozen 11; simp at k0 k1 k2 k3 k4 k5 k6 k7 k8 k9 k10 k11; have klt := K28.out.lt; clear hb hb6 hm)
                | (go_at_call 13; (refine (RC.out [] wa _ A5 c5 HC.out (by first | with_reducible exact HB5.out | with_reducible exact bl1 HB5.out) none_in (by first | with_reducible exact HS5.out | with_reducible exact sl_up HS5.out (bl1 HBR5.out))).mono ?_); rintro e w6 ⟨C1, C2, e1, e2, ar', dd', q0', q1', q2', ge', ma', nx', br', is', er, rfl, hm, hb6⟩; have hb : Below w5.heap.size w5 w6 := (by first | with_reducible exact hb6 | with_reducible exact undrew hb6); have HB6 := Lib.hid (HB5.out.trans (hb.mono HB5.out.size)); have HM6 := Lib.hid hm; have KS := Lib.hid (KQ.out.below hb KQ.out.lt); have s0 := KS.out.cell 0; have s1 := KS.out.cell 1; have s2 := KS.out.cell 2; have s3 := KS.out.cell 3; have s4 := KS.out.cell 4; have s5 := KS.out.cell 5; have s6 := KS.out.cell 6; have s7 := KS.out.cell 7; have s8 := KS.out.cell 8; have s9 := KS.out.cell 9; have s10 := KS.out.cell 10; have s11 := KS.out.cell 11; simp at s0 s1 s2 s3 s4 s5 s6 s7 s8 s9 s10 s11; have slt := KS.out.lt; have KA6 := Lib.hid (KA5.out.below hb KA5.out.lt); obtain ⟨t0, t1, t2, t3, t4⟩ := blk4 KA6.out; clear hb hb6 hm)
                | (go_at_call 13; (refine (RC.out [w5.heap.size] w5 _ A5 c5 HC5.out (by first | with_reducible exact bl2 HBR5.out _ | with_reducible exact palloc HBR5.out _) (one_in (Nat.le_refl _) (by simp)) (by first | with_reducible exact sl_up HS5.out (bl2 HBR5.out _) | with_reducible exact sl_up HS5.out (palloc HBR5.out _))).mono ?_); rintro e w6 ⟨C1, C2, e1, e2, ar', dd', q0', q1', q2', ge', ma', nx', br', is', er, rfl, hm, hb6⟩; have hb' : Below (w5.alloc (.cells zW 40)).heap.size (w5.alloc (.cells zW 40)) w6 := (by first | with_reducible exact hb6 | with_reducible exact undrew hb6); have hb : Below w5.heap.size w5 w6 := (palloc HBR5.out (.cells zW 40)).trans (hb'.mono (palloc HBR5.out (.cells zW 40)).size); have HB6 := Lib.hid (HB5.out.trans (hb.mono HB5.out.size)); have HM6 := Lib.hid hm; have KS := Lib.hid (KQ.out.below hb KQ.out.lt); have s0 := KS.out.cell 0; have s1 := KS.out.cell 1; have s2 := KS.out.cell 2; have s3 := KS.out.cell 3; have s4 := KS.out.cell 4; have s5 := KS.out.cell 5; have s6 := KS.out.cell 6; have s7 := KS.out.cell 7; have s8 := KS.out.cell 8; have s9 := KS.out.cell 9; have s10 := KS.out.cell 10; have s11 := KS.out.cell 11; simp at s0 s1 s2 s3 s4 s5 s6 s7 s8 s9 s10 s11; have slt := KS.out.lt; have KA6 := Lib.hid (KA5.out.below hb KA5.out.lt); obtain ⟨t0, t1, t2, t3, t4⟩ := blk4 KA6.out; have K28 := Lib.hid ((Blk.new w5 40 zW).below hb' (by simp)); have k0 := K28.out.cell 0; have kf0 := K28.out.frozen 0; have k1 := K28.out.cell 1; have kf1 := K28.out.frozen 1; have k2 := K28.out.cell 2; have kf2 := K28.out.frozen 2; have k3 := K28.out.cell 3; have kf3 := K28.out.frozen 3; have k4 := K28.out.cell 4; have kf4 := K28.out.frozen 4; have k5 := K28.out.cell 5; have kf5 := K28.out.frozen 5; have k6 := K28.out.cell 6; have kf6 := K28.out.frozen 6; have k7 := K28.out.cell 7; have kf7 := K28.out.frozen 7; have k8 := K28.out.cell 8; have kf8 := K28.out.frozen 8; have k9 := K28.out.cell 9; have kf9 := K28.out.frozen 9; have k10 := K28.out.cell 10; have kf10 := K28.out.frozen 10; have k11 := K28.out.cell 11; have kf11 := K28.out.frozen 11; simp at k0 k1 k2 k3 k4 k5 k6 k7 k8 k9 k10 k11; have klt := K28.out.lt; clear hb hb' hb6 hm))
            all_goals
              go_wp2_with fail
              go_meet
              case rel =>
                first
                  | (with_reducible exact obox_set HM6.out K28.out HB6.out HLB.out.size hyl (by omega))
                  | (with_reducible exact obox_new HM6.out HB6.out rfl)
          case rest =>
            rename World => wc
            obtain ⟨y18, er, C1, C2, e1, e2, ar', dd', q0', q1', q2', ge', ma', nx', br', is', rfl, rfl, hk, hm, hb, hyy⟩ := hcut
            have KAc := Lib.hid (KA.out.below hb KA.out.lt)
            have K18 := Lib.hid hk
            have HM := Lib.hid hm
            clear hk hm hb HBA u0 u1 u2 u3 u4 RC KY HC
            clear y0 yf0 y1 yf1 y2 yf2 y3 yf3 y4 yf4 y5 yf5 y6 yf6 y7 yf7 y8 yf8 y9 yf9 y10 yf10 y11 yf11 ylt
            obtain ⟨u0, u1, u2, u3, u4⟩ := blk4 KAc.out
            go_wp2_with (first
              | (go_at_call 14; refine (BY.out _).mono ?_; rintro e w5 ⟨A5, c5, rfl, hs5, hb⟩; have HS5 := Lib.hid hs5; have HM5 := Lib.hid (HM.out.up hb); have K5 := Lib.hid (K18.out.below hb K18.out.lt); clear hb hs5)
              | (go_at_call 15; refine (CC.out _ _ _ _ _ _ _ _ _ _ _ _ _ _ _ _ A5 c5 HM5.out HS5.out).mono ?_; rintro e w6 ⟨rfl, hp, hq⟩; have HP := Lib.hid hp; have K6 := Lib.hid (hq _ _ K5.out); have KZ := Lib.hid hp.2.1; have k0 := K6.out.cell 0; have kf0 := K6.out.frozen 0; have k1 := K6.out.cell 1; have kf1 := K6.out.frozen 1; have k2 := K6.out.cell 2; have kf2 := K6.out.frozen 2; have k3 := K6.out.cell 3; have kf3 := K6.out.frozen 3; have k4 := K6.out.cell 4; have kf4 := K6.out.frozen 4; have k5 := K6.out.cell 5; have kf5 := K6.out.frozen 5; have k6 := K6.out.cell 6; have kf6 := K6.out.frozen 6; have k7 := K6.out.cell 7; have kf7 := K6.out.frozen 7; have k8 := K6.out.cell 8; have kf8 := K6.out.frozen 8; have k9 := K6.out.cell 9; have kf9 := K6.out.frozen 9; have k10 := K6.out.cell 10; have kf10 := K6.out.frozen 10; have k11 := K6.out.cell 11; have kf11 := K6.out.frozen 11; simp at k0 k1 k2 k3 k4 k5 k6 k7 k8 k9 k10 k11; have klt := K6.out.lt; have z0 := KZ.out.cell 0; have zf0 := KZ.out.frozen 0; have z1 := KZ.out.cell 1; have zf1 := KZ.out.frozen 1; have z2 := KZ.out.cell 2; have zf2 := KZ.out.frozen 2; have z3 := KZ.out.cell 3; have zf3 := KZ.out.frozen 3; have z4 := KZ.out.cell 4; have zf4 := KZ.out.frozen 4; have z5 := KZ.out.cell 5; have zf5 := KZ.out.frozen 5; have z6 := KZ.out.cell 6; have zf6 := KZ.out.frozen 6; have z7 := KZ.out.cell 7; have zf7 := KZ.out.frozen 7; have z8 := KZ.out.cell 8; have zf8 := KZ.out.frozen 8; have z9 := KZ.out.cell 9; have zf9 := KZ.out.frozen 9; have z10 := KZ.out.cell 10; have zf10 := KZ.out.frozen 10; have z11 := KZ.out.cell 11; have zf11 := KZ.out.frozen 11; simp at z0 z1 z2 z3 z4 z5 z6 z7 z8 z9 z10 z11; have zlt := KZ.out.lt; clear hp hq))
            go_meet
            case rel => exact ⟨rfl, HP.out.set HY0.out⟩
        · have b0 : (wh == 0) = false := beq_false_of_ne w0
          by_cases w1 : wh = 1
          · subst w1
            have BY := Lib.hid (fun (W : World) => bytes_any 1 nn bb At nt ct W hb256)
            have hlen := bytesOf_len nn bb
            have hm3 := bytesN_lt nn
            generalize bytesOf nn bb = L at *
            generalize bytesN nn = m at *
            have RC := Lib.hid (fun (E : List Nat) (W0 W : World) (A : Option Addr) (c : Nat) (h : DoesC w W0 g bs bw y N u7 B1 B2 d1 d2 ar dd p0 p1 p2 ge ma nx br is_) (hB : Below W0.heap.size W0 W) (hE : ∀ t ∈ E, W0.heap.size ≤ t ∧ t < W.heap.size) (hb : Sl W W.heap.size (.slice A m c) L) => rturn_c E h6 hN1000 h hB hE hb hlen (by omega))
            have CC := Lib.hid (fun (C1 C2 : Option Addr) (e1 e2 : Nat) (ar' : Int) (dd' : Bool) (q0' q1' q2' ge' ma' nx' : Int) (br' is' : Bool) (er : Int) (W : World) (A : Option Addr) (c : Nat) (h : MidC [] turnP w W g bs bw y N u7 L #[.slice B1 N d1, .slice B2 N d2, .int .i64 ar, .bool dd, .int .i64 p0, .int .i64 p1, .int .i64 p2, .int .i64 ge, .int .i64 ma, .int .i64 nx, .bool br, .bool is_] er C1 C2 e1 e2 ar' dd' q0' q1' q2' ge' ma' nx' br' is') (hb : Sl W W.heap.size (.slice A m c) L) => cturn_c h6 hN1000 HGE.out h hb hlen (by omega))
            clear hlen hm3
            go_upto_region 21 with fail
            go_cut [20, 21] from 99 to 105 (fun v18 v19 wx => OBox turnP w wa g bs bw y N u7 L #[.slice B1 N d1, .slice B2 N d2, .int .i64 ar, .bool dd, .int .i64 p0, .int .i64 p1, .int .i64 p2, .int .i64 ge, .int .i64 ma, .int .i64 nx, .bool br, .bool is_] v18 v19 wx)
            case first =>
              go_region_held3 (fun W => W.cell? ⟨y, 0, none⟩ = some (.slice B1 N d1) ∧ W.cell? ⟨y, 1, none⟩ = some (.slice B2 N d2) ∧ W.cell? ⟨y, 2, none⟩ = some (.int .i64 ar) ∧ W.cell? ⟨y, 3, none⟩ = some (.bool dd) ∧ W.cell? ⟨y, 4, none⟩ = some (.int .i64 p0) ∧ W.cell? ⟨y, 5, none⟩ = some (.int .i64 p1) ∧ W.cell? ⟨y, 6, none⟩ = some (.int .i64 p2) ∧ W.cell? ⟨y, 7, none⟩ = some (.int .i64 ge) ∧ W.cell? ⟨y, 8, none⟩ = some (.int .i64 ma) ∧ W.cell? ⟨y, 9, none⟩ = some (.int .i64 nx) ∧ W.cell? ⟨y, 10, none⟩ = some (.bool br) ∧ W.cell? ⟨y, 11, none⟩ = some (.bool is_) ∧ W.cell? ⟨a16, 0, none⟩ = some (.int .i64 1) ∧ W.cell? ⟨a16, 1, none⟩ = some (.int .i64 nn) ∧ W.cell? ⟨a16, 2, none⟩ = some (.int .u8 (bb : Nat)) ∧ W.cell? ⟨a16, 3, none⟩ = some (.slice At nt ct))
                (first
                  | with_reducible exact ⟨y0, y1, y2, y3, y4, y5, y6, y7, y8, y9, y10, y11, u0, u1, u2, u3⟩
                  | with_reducible exact ⟨q0, q1, q2, q3, q4, q5, q6, q7, q8, q9, q10, q11, r0, r1, r2, r3⟩
                  | with_reducible exact ⟨s0, s1, s2, s3, s4, s5, s6, s7, s8, s9, s10, s11, t0, t1, t2, t3⟩
                  | (with_reducible refine ⟨(set12_keep ?_).trans s0, (set12_keep ?_).trans s1, (set12_keep ?_).trans s2, (set12_keep ?_).trans s3, (set12_keep ?_).trans s4, (set12_keep ?_).trans s5, (set12_keep ?_).trans s6, (set12_keep ?_).trans s7, (set12_keep ?_).trans s8, (set12_keep ?_).trans s9, (set12_keep ?_).trans s10, (set12_keep ?_).trans s11, (set12_keep ?_).trans t0, (set12_keep ?_).trans t1, (set12_keep ?_).trans t2, (set12_keep ?_).trans t3⟩ <;> omega)
                  | go_keep)
                (first
                  | (go_at_call 14; refine (BY.out _).mono ?_; rintro e w5 ⟨A5, c5, rfl, hs5, hb5⟩; have hb : Below wa.heap.size wa w5 := undrew hb5; have HB5 := Lib.hid hb; have HBR5 := Lib.hid (Below.refl w5.heap.size w5); have HS5 := Lib.hid hs5; have HC5 := Lib.hid (HC.out.up hb); have hs5z := hb.size; have KQ := Lib.hid (KY.out.below hb KY.out.lt); have q0 := KQ.out.cell 0; have q1 := KQ.out.cell 1; have q2 := KQ.out.cell 2; have q3 := KQ.out.cell 3; have q4 := KQ.out.cell 4; have q5 := KQ.out.cell 5; have q6 := KQ.out.cell 6; have q7 := KQ.out.cell 7; have q8 := KQ.out.cell 8; have q9 := KQ.out.cell 9; have q10 := KQ.out.cell 10; have q11 := KQ.out.cell 11; simp at q0 q1 q2 q3 q4 q5 q6 q7 q8 q9 q10 q11; have qlt := KQ.out.lt; have KA5 := Lib.hid (KA.out.below hb KA.out.lt); obtain ⟨r0, r1, r2, r3, r4⟩ := blk4 KA5.out; clear hb hb5 hs5)
                  | (go_at_call 14; refine (BY.out _).mono ?_; rintro e w5 ⟨A5, c5, rfl, hs5, hb5⟩; have hb' := undrew hb5; have hb : Below wa.heap.size wa w5 := (palloc HBA.out (.cells zW 40)).trans (hb'.mono (palloc HBA.out (.cells zW 40)).size); have K18 := Lib.hid ((Blk.new wa 40 zW).below hb' (by simp)); have HB5 := Lib.hid hb; have HBR5 := Lib.hid (Below.refl w5.heap.size w5); have HS5 := Lib.hid hs5; have HC5 := Lib.hid (HC.out.up hb); have hs5z := hb.size; have KQ := Lib.hid (KY.out.below hb KY.out.lt); have q0 := KQ.out.cell 0; have q1 := KQ.out.cell 1; have q2 := KQ.out.cell 2; have q3 := KQ.out.cell 3; have q4 := KQ.out.cell 4; have q5 := KQ.out.cell 5; have q6 := KQ.out.cell 6; have q7 := KQ.out.cell 7; have q8 := KQ.out.cell 8; have q9 := KQ.out.cell 9; have q10 := KQ.out.cell 10; have q11 := KQ.out.cell 11; simp at q0 q1 q2 q3 q4 q5 q6 q7 q8 q9 q10 q11; have qlt := KQ.out.lt; have KA5 := Lib.hid (KA.out.below hb KA.out.lt); obtain ⟨r0, r1, r2, r3, r4⟩ := blk4 KA5.out; clear hb hb' hb5 hs5)
                  | (go_at_call 16; (refine (RC.out [wa.heap.size] wa _ A5 c5 HC.out (by first | with_reducible exact HB5.out | with_reducible exact bl1 HB5.out) (one_in (Nat.le_refl _) K18.out.lt) (by first | with_reducible exact HS5.out | with_reducible exact sl_up HS5.out (bl1 HBR5.out))).mono ?_); rintro e w6 ⟨C1, C2, e1, e2, ar', dd', q0', q1', q2', ge', ma', nx', br', is', er, rfl, hm, hb6⟩; have hb : Below w5.heap.size w5 w6 := (by first | with_reducible exact hb6 | with_reducible exact undrew hb6); have HB6 := Lib.hid (HB5.out.trans (hb.mono HB5.out.size)); have HM6 := Lib.hid hm; have KS := Lib.hid (KQ.out.below hb KQ.out.lt); have s0 := KS.out.cell 0; have s1 := KS.out.cell 1; have s2 := KS.out.cell 2; have s3 := KS.out.cell 3; have s4 := KS.out.cell 4; have s5 := KS.out.cell 5; have s6 := KS.out.cell 6; have s7 := KS.out.cell 7; have s8 := KS.out.cell 8; have s9 := KS.out.cell 9; have s10 := KS.out.cell 10; have s11 := KS.out.cell 11; simp at s0 s1 s2 s3 s4 s5 s6 s7 s8 s9 s10 s11; have slt := KS.out.lt; have KA6 := Lib.hid (KA5.out.below hb KA5.out.lt); obtain ⟨t0, t1, t2, t3, t4⟩ := blk4 KA6.out; have K28 := Lib.hid (K18.out.below hb K18.out.lt); have k0 := K28.out.cell 0; have kf0 := K28.out.frozen 0; have k1 := K28.out.cell 1; have kf1 := K28.out.frozen 1; have k2 := K28.out.cell 2; have kf2 := K28.out.frozen 2; have k3 := K28.out.cell 3; have kf3 := K28.out.frozen 3; have k4 := K28.out.cell 4; have kf4 := K28.out.frozen 4; have k5 := K28.out.cell 5; have kf5 := K28.out.frozen 5; have k6 := K28.out.cell 6; have kf6 := K28.out.frozen 6; have k7 := K28.out.cell 7; have kf7 := K28.out.frozen 7; have k8 := K28.out.cell 8; have kf8 := K28.out.frozen 8; have k9 := K28.out.cell 9; have kf9 := K28.out.frozen 9; have k10 := K28.out.cell 10; have kf10 := K28.out.frozen 10; have k11 := K28.out.cell 11; have kf11 := K28.out.frozen 11; simp at k0 k1 k2 k3 k4 k5 k6 k7 k8 k9 k10 k11; have klt := K28.out.lt; clear hb hb6 hm)
                  | (go_at_call 16; (refine (RC.out [] wa _ A5 c5 HC.out (by first | with_reducible exact HB5.out | with_reducible exact bl1 HB5.out) none_in (by first | with_reducible exact HS5.out | with_reducible exact sl_up HS5.out (bl1 HBR5.out))).mono ?_); rintro e w6 ⟨C1, C2, e1, e2, ar', dd', q0', q1', q2', ge', ma', nx', br', is', er, rfl, hm, hb6⟩; have hb : Below w5.heap.size w5 w6 := (by first | with_reducible exact hb6 | with_reducible exact undrew hb6); have HB6 := Lib.hid (HB5.out.trans (hb.mono HB5.out.size)); have HM6 := Lib.hid hm; have KS := Lib.hid (KQ.out.below hb KQ.out.lt); have s0 := KS.out.cell 0; have s1 := KS.out.cell 1; have s2 := KS.out.cell 2; have s3 := KS.out.cell 3; have s4 := KS.out.cell 4; have s5 := KS.out.cell 5; have s6 := KS.out.cell 6; have s7 := KS.out.cell 7; have s8 := KS.out.cell 8; have s9 := KS.out.cell 9; have s10 := KS.out.cell 10; have s11 := KS.out.cell 11; simp at s0 s1 s2 s3 s4 s5 s6 s7 s8 s9 s10 s11; have slt := KS.out.lt; have KA6 := Lib.hid (KA5.out.below hb KA5.out.lt); obtain ⟨t0, t1, t2, t3, t4⟩ := blk4 KA6.out; clear hb hb6 hm)
                  | (go_at_call 16; (refine (RC.out [w5.heap.size] w5 _ A5 c5 HC5.out (by first | with_reducible exact bl2 HBR5.out _ | with_reducible exact palloc HBR5.out _) (one_in (Nat.le_refl _) (by simp)) (by first | with_reducible exact sl_up HS5.out (bl2 HBR5.out _) | with_reducible exact sl_up HS5.out (palloc HBR5.out _))).mono ?_); rintro e w6 ⟨C1, C2, e1, e2, ar', dd', q0', q1', q2', ge', ma', nx', br', is', er, rfl, hm, hb6⟩; have hb' : Below (w5.alloc (.cells zW 40)).heap.size (w5.alloc (.cells zW 40)) w6 := (by first | with_reducible exact hb6 | with_reducible exact undrew hb6); have hb : Below w5.heap.size w5 w6 := (palloc HBR5.out (.cells zW 40)).trans (hb'.mono (palloc HBR5.out (.cells zW 40)).size); have HB6 := Lib.hid (HB5.out.trans (hb.mono HB5.out.size)); have HM6 := Lib.hid hm; have KS := Lib.hid (KQ.out.below hb KQ.out.lt); have s0 := KS.out.cell 0; have s1 := KS.out.cell 1; have s2 := KS.out.cell 2; have s3 := KS.out.cell 3; have s4 := KS.out.cell 4; have s5 := KS.out.cell 5; have s6 := KS.out.cell 6; have s7 := KS.out.cell 7; have s8 := KS.out.cell 8; have s9 := KS.out.cell 9; have s10 := KS.out.cell 10; have s11 := KS.out.cell 11; simp at s0 s1 s2 s3 s4 s5 s6 s7 s8 s9 s10 s11; have slt := KS.out.lt; have KA6 := Lib.hid (KA5.out.below hb KA5.out.lt); obtain ⟨t0, t1, t2, t3, t4⟩ := blk4 KA6.out; have K28 := Lib.hid ((Blk.new w5 40 zW).below hb' (by simp)); have k0 := K28.out.cell 0; have kf0 := K28.out.frozen 0; have k1 := K28.out.cell 1; have kf1 := K28.out.frozen 1; have k2 := K28.out.cell 2; have kf2 := K28.out.frozen 2; have k3 := K28.out.cell 3; have kf3 := K28.out.frozen 3; have k4 := K28.out.cell 4; have kf4 := K28.out.frozen 4; have k5 := K28.out.cell 5; have kf5 := K28.out.frozen 5; have k6 := K28.out.cell 6; have kf6 := K28.out.frozen 6; have k7 := K28.out.cell 7; have kf7 := K28.out.frozen 7; have k8 := K28.out.cell 8; have kf8 := K28.out.frozen 8; have k9 := K28.out.cell 9; have kf9 := K28.out.frozen 9; have k10 := K28.out.cell 10; have kf10 := K28.out.frozen 10; have k11 := K28.out.cell 11; have kf11 := K28.out.frozen 11; simp at k0 k1 k2 k3 k4 k5 k6 k7 k8 k9 k10 k11; have klt := K28.out.lt; clear hb hb' hb6 hm))
              all_goals
                go_wp2_with fail
                go_meet
                case rel =>
                  first
                    | (with_reducible exact obox_set HM6.out K28.out HB6.out HLB.out.size hyl (by omega))
                    | (with_reducible exact obox_new HM6.out HB6.out rfl)
            case rest =>
              rename World => wc
              obtain ⟨y18, er, C1, C2, e1, e2, ar', dd', q0', q1', q2', ge', ma', nx', br', is', rfl, rfl, hk, hm, hb, hyy⟩ := hcut
              have KAc := Lib.hid (KA.out.below hb KA.out.lt)
              have K18 := Lib.hid hk
              have HM := Lib.hid hm
              clear hk hm hb HBA u0 u1 u2 u3 u4 RC KY HC
              clear y0 yf0 y1 yf1 y2 yf2 y3 yf3 y4 yf4 y5 yf5 y6 yf6 y7 yf7 y8 yf8 y9 yf9 y10 yf10 y11 yf11 ylt
              obtain ⟨u0, u1, u2, u3, u4⟩ := blk4 KAc.out
              go_wp2_with (first
                | (go_at_call 14; refine (BY.out _).mono ?_; rintro e w5 ⟨A5, c5, rfl, hs5, hb⟩; have HS5 := Lib.hid hs5; have HM5 := Lib.hid (HM.out.up hb); have K5 := Lib.hid (K18.out.below hb K18.out.lt); clear hb hs5)
                | (go_at_call 17; refine (CC.out _ _ _ _ _ _ _ _ _ _ _ _ _ _ _ _ A5 c5 HM5.out HS5.out).mono ?_; rintro e w6 ⟨rfl, hp, hq⟩; have HP := Lib.hid hp; have K6 := Lib.hid (hq _ _ K5.out); have KZ := Lib.hid hp.2.1; have k0 := K6.out.cell 0; have kf0 := K6.out.frozen 0; have k1 := K6.out.cell 1; have kf1 := K6.out.frozen 1; have k2 := K6.out.cell 2; have kf2 := K6.out.frozen 2; have k3 := K6.out.cell 3; have kf3 := K6.out.frozen 3; have k4 := K6.out.cell 4; have kf4 := K6.out.frozen 4; have k5 := K6.out.cell 5; have kf5 := K6.out.frozen 5; have k6 := K6.out.cell 6; have kf6 := K6.out.frozen 6; have k7 := K6.out.cell 7; have kf7 := K6.out.frozen 7; have k8 := K6.out.cell 8; have kf8 := K6.out.frozen 8; have k9 := K6.out.cell 9; have kf9 := K6.out.frozen 9; have k10 := K6.out.cell 10; have kf10 := K6.out.frozen 10; have k11 := K6.out.cell 11; have kf11 := K6.out.frozen 11; simp at k0 k1 k2 k3 k4 k5 k6 k7 k8 k9 k10 k11; have klt := K6.out.lt; have z0 := KZ.out.cell 0; have zf0 := KZ.out.frozen 0; have z1 := KZ.out.cell 1; have zf1 := KZ.out.frozen 1; have z2 := KZ.out.cell 2; have zf2 := KZ.out.frozen 2; have z3 := KZ.out.cell 3; have zf3 := KZ.out.frozen 3; have z4 := KZ.out.cell 4; have zf4 := KZ.out.frozen 4; have z5 := KZ.out.cell 5; have zf5 := KZ.out.frozen 5; have z6 := KZ.out.cell 6; have zf6 := KZ.out.frozen 6; have z7 := KZ.out.cell 7; have zf7 := KZ.out.frozen 7; have z8 := KZ.out.cell 8; have zf8 := KZ.out.frozen 8; have z9 := KZ.out.cell 9; have zf9 := KZ.out.frozen 9; have z10 := KZ.out.cell 10; have zf10 := KZ.out.frozen 10; have z11 := KZ.out.cell 11; have zf11 := KZ.out.frozen 11; simp at z0 z1 z2 z3 z4 z5 z6 z7 z8 z9 z10 z11; have zlt := KZ.out.lt; clear hp hq))
              go_meet
              case rel => exact ⟨rfl, HP.out.set HY0.out⟩
          · have b1 : (wh == 1) = false := beq_false_of_ne w1
            by_cases w2 : wh = 2
            · subst w2
              as_aux_lemma =>
                obtain ⟨hr0, hr1⟩ : -9 < Int.tmod nn 9 ∧ Int.tmod nn 9 < 9 := tmod9_8 nn
                have AR := Lib.hid (fun (W : World) (h : DoesC w W g bs bw y N u7 B1 B2 d1 d2 ar dd p0 p1 p2 ge ma nx br is_) => carm_c (t := Int.tmod nn 9) HGE.out HY0.out h (by omega) (by omega))
                by_cases hneg : Int.tmod nn 9 < 0
                · have e9 : armedOf (Int.tmod nn 9) = -1 := by unfold armedOf; rw [if_pos hneg]
                  have ar2 := AR.out
                  rw [e9] at ar2
                  have AR2 := Lib.hid ar2
                  clear ar2 AR e9
                  have hdn : decide (Int.tmod nn 9 < 0) = true := by simpa using hneg
                  go_wp2_with (go_at_call 18; refine (AR2.out _ HC.out).mono ?_; rintro e w6 ⟨rfl, hp, hq⟩; have HP := Lib.hid hp; have KA6 := Lib.hid (hq _ _ KA.out); have KZ := Lib.hid hp.2.1; obtain ⟨t0, t1, t2, t3, t4⟩ := blk4 KA6.out; have z0 := KZ.out.cell 0; have zf0 := KZ.out.frozen 0; have z1 := KZ.out.cell 1; have zf1 := KZ.out.frozen 1; have z2 := KZ.out.cell 2; have zf2 := KZ.out.frozen 2; have z3 := KZ.out.cell 3; have zf3 := KZ.out.frozen 3; have z4 := KZ.out.cell 4; have zf4 := KZ.out.frozen 4; have z5 := KZ.out.cell 5; have zf5 := KZ.out.frozen 5; have z6 := KZ.out.cell 6; have zf6 := KZ.out.frozen 6; have z7 := KZ.out.cell 7; have zf7 := KZ.out.frozen 7; have z8 := KZ.out.cell 8; have zf8 := KZ.out.frozen 8; have z9 := KZ.out.cell 9; have zf9 := KZ.out.frozen 9; have z10 := KZ.out.cell 10; have zf10 := KZ.out.frozen 10; have z11 := KZ.out.cell 11; have zf11 := KZ.out.frozen 11; simp at z0 z1 z2 z3 z4 z5 z6 z7 z8 z9 z10 z11; have zlt := KZ.out.lt; clear hp hq)
                  go_meet
                  case rel => exact ⟨rfl, HP.out.set22 HY0.out⟩
                · have e9 : armedOf (Int.tmod nn 9) = Int.tmod nn 9 := by unfold armedOf; rw [if_neg hneg]
                  have ar2 := AR.out
                  rw [e9] at ar2
                  have AR2 := Lib.hid ar2
                  clear ar2 AR e9
                  have hdn : decide (Int.tmod nn 9 < 0) = false := by simpa using hneg
                  go_wp2_with (go_at_call 18; refine (AR2.out _ HC.out).mono ?_; rintro e w6 ⟨rfl, hp, hq⟩; have HP := Lib.hid hp; have KA6 := Lib.hid (hq _ _ KA.out); have KZ := Lib.hid hp.2.1; obtain ⟨t0, t1, t2, t3, t4⟩ := blk4 KA6.out; have z0 := KZ.out.cell 0; have zf0 := KZ.out.frozen 0; have z1 := KZ.out.cell 1; have zf1 := KZ.out.frozen 1; have z2 := KZ.out.cell 2; have zf2 := KZ.out.frozen 2; have z3 := KZ.out.cell 3; have zf3 := KZ.out.frozen 3; have z4 := KZ.out.cell 4; have zf4 := KZ.out.frozen 4; have z5 := KZ.out.cell 5; have zf5 := KZ.out.frozen 5; have z6 := KZ.out.cell 6; have zf6 := KZ.out.frozen 6; have z7 := KZ.out.cell 7; have zf7 := KZ.out.frozen 7; have z8 := KZ.out.cell 8; have zf8 := KZ.out.frozen 8; have z9 := KZ.out.cell 9; have zf9 := KZ.out.frozen 9; have z10 := KZ.out.cell 10; have zf10 := KZ.out.frozen 10; have z11 := KZ.out.cell 11; have zf11 := KZ.out.frozen 11; simp at z0 z1 z2 z3 z4 z5 z6 z7 z8 z9 z10 z11; have zlt := KZ.out.lt; clear hp hq)
                  go_meet
                  case rel => exact ⟨rfl, HP.out.set2 HY0.out⟩
            · have b2 : (wh == 2) = false := beq_false_of_ne w2
              clear w0 w1 w2
              by_cases w3 : wh = 3 ∨ wh = 4
              · have W34 := Lib.hid w3
                clear w3
                obtain ⟨s, hh, hae, hde⟩ := half_c HC.out
                have HF := Lib.hid hh.2.1.fine
                have HH := Lib.hid hh
                clear hh
                have CR := Lib.hid (fun (W : World) (h : Half w W g bs bw y N s s B1 B2 d1 d2 #[.slice B1 N d1, .slice B2 N d2, .int .i64 ar, .bool dd, .int .i64 p0, .int .i64 p1, .int .i64 p2, .int .i64 ge, .int .i64 ma, .int .i64 nx, .bool br, .bool is_]) (ht : TearsAt W w.heap.size (.slice At nt ct) ts) => ccrash_h HGE.out h ht)
                have RR := Lib.hid (fun (W : World) (h : Half w W g bs bw y N s (s.crash ts) B1 B2 d1 d2 #[.slice B1 N d1, .slice B2 N d2, .int .i64 ar, .bool dd, .int .i64 p0, .int .i64 p1, .int .i64 p2, .int .i64 ge, .int .i64 ma, .int .i64 nx, .bool br, .bool is_]) (ht : TearsAt W w.heap.size (.slice At nt ct) ts) => rcrash_h HF.out h ht hae hde)
                have HJ0 := Lib.hid (show HalfJ w wa g bs bw y N from ⟨s, B1, B2, d1, d2, ar, dd, p0, p1, p2, ge, ma, nx, br, is_, HH.out, hae, hde⟩)
                clear hae hde
                generalize s.crash ts = s' at *
                go_upto_region 29 with fail
                go_upto_if 131 with fail
                go_cut [131] from 132 to 133 (fun v131 wx => v131 = .bool true ∧ wa = wx)
                case first =>
                  rcases W34.out with w3 | w3
                  · subst w3
                    go_wp2_with fail
                    go_meet
                    case rel => exact ⟨rfl, rfl⟩
                  · subst w3
                    go_wp2_with fail
                    go_meet
                    case rel => exact ⟨rfl, rfl⟩
                case rest =>
                  obtain ⟨rfl, rfl⟩ := hcut
                  go_upto_if 136 with fail
                  go_cut [] from 137 to 146 (fun wx => HalfJ w wx g bs bw y N)
                  case first =>
                    by_cases w3 : wh = 3
                    · subst w3
                      as_aux_lemma =>
                        go_upto_region 33 with (go_at_call 19; refine (CR.out _ HH.out HTT.out).mono ?_; rintro e w6 ⟨rfl, hh, ht, hq⟩; have HH6 := Lib.hid hh; have HT6 := Lib.hid ht; have KA6 := Lib.hid (hq _ _ KA.out); have KS := Lib.hid hh.2.2.2; obtain ⟨r0, r1, r2, r3, r4⟩ := blk4 KA6.out; have s0 := KS.out.cell 0; have sf0 := KS.out.frozen 0; have s1 := KS.out.cell 1; have sf1 := KS.out.frozen 1; have s2 := KS.out.cell 2; have sf2 := KS.out.frozen 2; have s3 := KS.out.cell 3; have sf3 := KS.out.frozen 3; have s4 := KS.out.cell 4; have sf4 := KS.out.frozen 4; have s5 := KS.out.cell 5; have sf5 := KS.out.frozen 5; have s6 := KS.out.cell 6; have sf6 := KS.out.frozen 6; have s7 := KS.out.cell 7; have sf7 := KS.out.frozen 7; have s8 := KS.out.cell 8; have sf8 := KS.out.frozen 8; have s9 := KS.out.cell 9; have sf9 := KS.out.frozen 9; have s10 := KS.out.cell 10; have sf10 := KS.out.frozen 10; have s11 := KS.out.cell 11; have sf11 := KS.out.frozen 11; simp at s0 s1 s2 s3 s4 s5 s6 s7 s8 s9 s10 s11; have slt := KS.out.lt; clear hh ht hq)
                        go_wp2_with (go_at_call 20; refine (RR.out _ HH6.out HT6.out).mono ?_; rintro e w7 ⟨C1, C2, e1, e2, rfl, hh, hb⟩; have HH7 := Lib.hid hh; have KZ := Lib.hid hh.2.2.2; have z0 := KZ.out.cell 0; have zf0 := KZ.out.frozen 0; have z1 := KZ.out.cell 1; have zf1 := KZ.out.frozen 1; have z2 := KZ.out.cell 2; have zf2 := KZ.out.frozen 2; have z3 := KZ.out.cell 3; have zf3 := KZ.out.frozen 3; have z4 := KZ.out.cell 4; have zf4 := KZ.out.frozen 4; have z5 := KZ.out.cell 5; have zf5 := KZ.out.frozen 5; have z6 := KZ.out.cell 6; have zf6 := KZ.out.frozen 6; have z7 := KZ.out.cell 7; have zf7 := KZ.out.frozen 7; have z8 := KZ.out.cell 8; have zf8 := KZ.out.frozen 8; have z9 := KZ.out.cell 9; have zf9 := KZ.out.frozen 9; have z10 := KZ.out.cell 10; have zf10 := KZ.out.frozen 10; have z11 := KZ.out.cell 11; have zf11 := KZ.out.frozen 11; simp at z0 z1 z2 z3 z4 z5 z6 z7 z8 z9 z10 z11; have zlt := KZ.out.lt; clear hh hb)
                        go_meet
                        case rel => exact ⟨_, _, _, _, _, _, _, _, _, _, _, _, _, _, _, half_set HY0.out HH7.out, rfl, rfl⟩
                    · have b3 : (wh == 3) = false := beq_false_of_ne w3
                      go_wp2_with fail
                      go_meet
                      case rel => exact HJ0.out
                  case rest =>
                    rename World => wj
                    have HJ := Lib.hid hcut
                    clear hcut HC HH HJ0 CR RR HF HTT KA KY u0 u1 u2 u3 u4 HBA HLB
                    clear y0 yf0 y1 yf1 y2 yf2 y3 yf3 y4 yf4 y5 yf5 y6 yf6 y7 yf7 y8 yf8 y9 yf9 y10 yf10 y11 yf11 ylt
                    obtain ⟨s, B1, B2, d1, d2, ar, dd, p0, p1, p2, ge, ma, nx, br, is_, hh, hae, hde⟩ := HJ.out
                    have hsn := hh.2.2.1.2
                    have HH := Lib.hid hh
                    have KY := Lib.hid hh.2.2.2
                    clear hh
                    have y0 := KY.out.cell 0
                    have yf0 := KY.out.frozen 0
                    have y1 := KY.out.cell 1
                    have yf1 := KY.out.frozen 1
                    have y2 := KY.out.cell 2
                    have yf2 := KY.out.frozen 2
                    have y3 := KY.out.cell 3
                    have yf3 := KY.out.frozen 3
                    have y4 := KY.out.cell 4
                    have yf4 := KY.out.frozen 4
                    have y5 := KY.out.cell 5
                    have yf5 := KY.out.frozen 5
                    have y6 := KY.out.cell 6
                    have yf6 := KY.out.frozen 6
                    have y7 := KY.out.cell 7
                    have yf7 := KY.out.frozen 7
                    have y8 := KY.out.cell 8
                    have yf8 := KY.out.frozen 8
                    have y9 := KY.out.cell 9
                    have yf9 := KY.out.frozen 9
                    have y10 := KY.out.cell 10
                    have yf10 := KY.out.frozen 10
                    have y11 := KY.out.cell 11
                    have yf11 := KY.out.frozen 11
                    simp at y0 y1 y2 y3 y4 y5 y6 y7 y8 y9 y10 y11
                    have ylt := KY.out.lt
                    rcases openP_cases hsn h6 hN1000 with ⟨s1, er, ho, her, hn1⟩ | ⟨s1, v, b, recs, ho, hv, hrl, hn1⟩
                    · have der : (er == 0) = false := beq_false_of_ne her
                      have der2 : (er != 0) = true := bne_iff_ne.2 her
                      have RO := Lib.hid (fun (W : World) (h : Half w W g bs bw y N s s B1 B2 d1 d2 #[.slice B1 N d1, .slice B2 N d2, .int .i64 ar, .bool dd, .int .i64 p0, .int .i64 p1, .int .i64 p2, .int .i64 ge, .int .i64 ma, .int .i64 nx, .bool br, .bool is_]) => ropen_n h6 hN1000 ho hn1 h hae hde)
                      have CO := Lib.hid (fun (C1 C2 : Option Addr) (e1 e2 : Nat) (ar' : Int) (dd' : Bool) (q0' q1' q2' ge' ma' nx' : Int) (br' is' : Bool) (A5 A6 : Option Addr) (c5 c6 : Nat) (W0 W : World) (h : MidN w W0 g bs bw y N s s1 #[.slice B1 N d1, .slice B2 N d2, .int .i64 ar, .bool dd, .int .i64 p0, .int .i64 p1, .int .i64 p2, .int .i64 ge, .int .i64 ma, .int .i64 nx, .bool br, .bool is_] C1 C2 e1 e2 ar' dd' q0' q1' q2' ge' ma' nx' br' is') (hB : Bts W0 W0.heap.size A5 0 ([] : List Nat)) (hS : Sls W0 W0.heap.size (.slice A6 0 c6) ([] : List (List Nat))) (hb : Below W0.heap.size W0 W) => copen_n HGE.out hN1000 ho h hB hS hb)
                      have SM := Lib.hid (fun (A A' : Option Addr) (c c' : Nat) (W : World) (hA : Bts W W.heap.size A 0 ([] : List Nat)) (hA' : Bts W W.heap.size A' 0 ([] : List Nat)) => same_yes8 A A' 0 c c' ([] : List Nat) W hA hA')
                      have TX := Lib.hid (fun (A A' : Option Addr) (c c' : Nat) (W : World) (hA : Sls W W.heap.size (.slice A 0 c) ([] : List (List Nat))) (hA' : Sls W W.heap.size (.slice A' 0 c') ([] : List (List Nat))) => texts_yes8 A A' 0 c c' ([] : List (List Nat)) W hA hA' (by omega))
                      clear ho hn1 hsn hae hde
                      go_wp2_with (first
                        | (go_at_call 11; refine (RO.out _ HH.out).mono ?_; rintro e w5 ⟨C1, C2, e1, e2, ar', dd', q0', q1', q2', ge', ma', nx', br', is', A5, c5, A6, c6, rfl, ⟨hm, his⟩, hB, hS, hb⟩; subst his; have HM5 := Lib.hid hm; have HB5 := Lib.hid hB; have HS5 := Lib.hid hS; have HBR5 := Lib.hid (Below.refl w5.heap.size w5); clear hm hB hS hb HH)
                        | (go_at_call 10; refine (CO.out _ _ _ _ _ _ _ _ _ _ _ _ _ _ A5 A6 c5 c6 w5 _ HM5.out HB5.out HS5.out (by with_reducible exact palloc HBR5.out _)).mono ?_; rintro e w6 ⟨A7, c7, A8, c8, rfl, hp, hB, hS, hq⟩; have HP6 := Lib.hid hp; have HB6 := Lib.hid hB; have HS6 := Lib.hid hS; have K6 := Lib.hid (hq _ _ (Blk.new _ _ _)); clear hp hB hS hq)
                        | (go_at_call 21; refine (SM.out A5 A7 c5 c7 _ HB6.out.1 HB6.out.2).mono ?_; rintro e w7 ⟨rfl, m7, hq⟩; have hb := low_drewN8 hq; have HP7 := Lib.hid (HP6.out.up hb); have HS7 := Lib.hid (show _ ∧ _ from ⟨HS6.out.1.up hb, HS6.out.2.up hb⟩); have K7 := Lib.hid (K6.out.below hb K6.out.lt); clear hb hq)
                        | (go_at_call 22; refine (TX.out A6 A8 c6 c8 _ HS7.out.1 HS7.out.2).mono ?_; rintro e w8 ⟨rfl, m8, hq⟩; have hb := low_drewN8 hq; have HP8 := Lib.hid (HP7.out.up hb); have K8 := Lib.hid (K7.out.below hb K7.out.lt); have KZ := Lib.hid HP8.out.2.1; have k0 := K8.out.cell 0; have kf0 := K8.out.frozen 0; have k1 := K8.out.cell 1; have kf1 := K8.out.frozen 1; have k2 := K8.out.cell 2; have kf2 := K8.out.frozen 2; have k3 := K8.out.cell 3; have kf3 := K8.out.frozen 3; have k4 := K8.out.cell 4; have kf4 := K8.out.frozen 4; have k5 := K8.out.cell 5; have kf5 := K8.out.frozen 5; have k6 := K8.out.cell 6; have kf6 := K8.out.frozen 6; have k7 := K8.out.cell 7; have kf7 := K8.out.frozen 7; have k8 := K8.out.cell 8; have kf8 := K8.out.frozen 8; have k9 := K8.out.cell 9; have kf9 := K8.out.frozen 9; have k10 := K8.out.cell 10; have kf10 := K8.out.frozen 10; have k11 := K8.out.cell 11; have kf11 := K8.out.frozen 11; simp at k0 k1 k2 k3 k4 k5 k6 k7 k8 k9 k10 k11; have klt := K8.out.lt; have z0 := KZ.out.cell 0; have zf0 := KZ.out.frozen 0; have z1 := KZ.out.cell 1; have zf1 := KZ.out.frozen 1; have z2 := KZ.out.cell 2; have zf2 := KZ.out.frozen 2; have z3 := KZ.out.cell 3; have zf3 := KZ.out.frozen 3; have z4 := KZ.out.cell 4; have zf4 := KZ.out.frozen 4; have z5 := KZ.out.cell 5; have zf5 := KZ.out.frozen 5; have z6 := KZ.out.cell 6; have zf6 := KZ.out.frozen 6; have z7 := KZ.out.cell 7; have zf7 := KZ.out.frozen 7; have z8 := KZ.out.cell 8; have zf8 := KZ.out.frozen 8; have z9 := KZ.out.cell 9; have zf9 := KZ.out.frozen 9; have z10 := KZ.out.cell 10; have zf10 := KZ.out.frozen 10; have z11 := KZ.out.cell 11; have zf11 := KZ.out.frozen 11; simp at z0 z1 z2 z3 z4 z5 z6 z7 z8 z9 z10 z11; have zlt := KZ.out.lt; clear hb hq))
                      go_meet
                      case rel => exact ⟨rfl, HP8.out.set13 HY0.out⟩
                    · obtain ⟨nb, hnb⟩ : ∃ nb, nb = b.length := ⟨_, rfl⟩
                      obtain ⟨nr, hnr⟩ : ∃ nr, nr = recs.length := ⟨_, rfl⟩
                      rw [← hnr] at hrl
                      have RO := Lib.hid (fun (W : World) (h : Half w W g bs bw y N s s B1 B2 d1 d2 #[.slice B1 N d1, .slice B2 N d2, .int .i64 ar, .bool dd, .int .i64 p0, .int .i64 p1, .int .i64 p2, .int .i64 ge, .int .i64 ma, .int .i64 nx, .bool br, .bool is_]) => ropen_y h6 hN1000 hnb hnr ho hn1 h hae hde)
                      have CO := Lib.hid (fun (C1 C2 : Option Addr) (e1 e2 : Nat) (ar' : Int) (dd' : Bool) (q0' q1' q2' ge' ma' nx' : Int) (br' is' : Bool) (A5 A6 : Option Addr) (c5 c6 : Nat) (W0 W : World) (h : MidY w W0 g bs bw y N s s1 v #[.slice B1 N d1, .slice B2 N d2, .int .i64 ar, .bool dd, .int .i64 p0, .int .i64 p1, .int .i64 p2, .int .i64 ge, .int .i64 ma, .int .i64 nx, .bool br, .bool is_] C1 C2 e1 e2 ar' dd' q0' q1' q2' ge' ma' nx' br' is') (hB : Bts W0 W0.heap.size A5 nb b) (hS : Sls W0 W0.heap.size (.slice A6 nr c6) recs) (hb : Below W0.heap.size W0 W) => copen_y HGE.out hN1000 hnb hnr hv ho h hB hS hb)
                      have SM := Lib.hid (fun (A A' : Option Addr) (c c' : Nat) (W : World) (hA : Bts W W.heap.size A nb b) (hA' : Bts W W.heap.size A' nb b) => same_yes8 A A' nb c c' b W hA hA')
                      have TX := Lib.hid (fun (A A' : Option Addr) (c c' : Nat) (W : World) (hA : Sls W W.heap.size (.slice A nr c) recs) (hA' : Sls W W.heap.size (.slice A' nr c') recs) => texts_yes8 A A' nr c c' recs W hA hA' hrl)
                      clear ho hn1 hsn hae hde hnb hnr hv hrl
                      go_wp2_with (first
                        | (go_at_call 11; refine (RO.out _ HH.out).mono ?_; rintro e w5 ⟨C1, C2, e1, e2, ar', dd', q0', q1', q2', ge', ma', nx', br', is', A5, c5, A6, c6, rfl, hm, hB, hS, hb⟩; have HM5 := Lib.hid hm; have HB5 := Lib.hid hB; have HS5 := Lib.hid hS; have HBR5 := Lib.hid (Below.refl w5.heap.size w5); clear hm hB hS hb HH)
                        | (go_at_call 10; refine (CO.out _ _ _ _ _ _ _ _ _ _ _ _ _ _ A5 A6 c5 c6 w5 _ HM5.out HB5.out HS5.out (by with_reducible exact palloc HBR5.out _)).mono ?_; rintro e w6 ⟨x6, A7, c7, A8, c8, rfl, hp, hB, hS, hq⟩; have HP6 := Lib.hid hp; have HB6 := Lib.hid hB; have HS6 := Lib.hid hS; have K6 := Lib.hid (hq _ _ (Blk.new _ _ _)); clear hp hB hS hq)
                        | (go_at_call 21; refine (SM.out A5 A7 c5 c7 _ HB6.out.1 HB6.out.2).mono ?_; rintro e w7 ⟨rfl, m7, hq⟩; have hb := low_drewN8 hq; have HP7 := Lib.hid (HP6.out.up hb); have HS7 := Lib.hid (show _ ∧ _ from ⟨HS6.out.1.up hb, HS6.out.2.up hb⟩); have K7 := Lib.hid (K6.out.below hb K6.out.lt); clear hb hq)
                        | (go_at_call 22; refine (TX.out A6 A8 c6 c8 _ HS7.out.1 HS7.out.2).mono ?_; rintro e w8 ⟨rfl, m8, hq⟩; have hb := low_drewN8 hq; have HP8 := Lib.hid (HP7.out.up hb); have K8 := Lib.hid (K7.out.below hb K7.out.lt); have KZ := Lib.hid HP8.out.2.1; have k0 := K8.out.cell 0; have kf0 := K8.out.frozen 0; have k1 := K8.out.cell 1; have kf1 := K8.out.frozen 1; have k2 := K8.out.cell 2; have kf2 := K8.out.frozen 2; have k3 := K8.out.cell 3; have kf3 := K8.out.frozen 3; have k4 := K8.out.cell 4; have kf4 := K8.out.frozen 4; have k5 := K8.out.cell 5; have kf5 := K8.out.frozen 5; have k6 := K8.out.cell 6; have kf6 := K8.out.frozen 6; have k7 := K8.out.cell 7; have kf7 := K8.out.frozen 7; have k8 := K8.out.cell 8; have kf8 := K8.out.frozen 8; have k9 := K8.out.cell 9; have kf9 := K8.out.frozen 9; have k10 := K8.out.cell 10; have kf10 := K8.out.frozen 10; have k11 := K8.out.cell 11; have kf11 := K8.out.frozen 11; simp at k0 k1 k2 k3 k4 k5 k6 k7 k8 k9 k10 k11; have klt := K8.out.lt; have z0 := KZ.out.cell 0; have zf0 := KZ.out.frozen 0; have z1 := KZ.out.cell 1; have zf1 := KZ.out.frozen 1; have z2 := KZ.out.cell 2; have zf2 := KZ.out.frozen 2; have z3 := KZ.out.cell 3; have zf3 := KZ.out.frozen 3; have z4 := KZ.out.cell 4; have zf4 := KZ.out.frozen 4; have z5 := KZ.out.cell 5; have zf5 := KZ.out.frozen 5; have z6 := KZ.out.cell 6; have zf6 := KZ.out.frozen 6; have z7 := KZ.out.cell 7; have zf7 := KZ.out.frozen 7; have z8 := KZ.out.cell 8; have zf8 := KZ.out.frozen 8; have z9 := KZ.out.cell 9; have zf9 := KZ.out.frozen 9; have z10 := KZ.out.cell 10; have zf10 := KZ.out.frozen 10; have z11 := KZ.out.cell 11; have zf11 := KZ.out.frozen 11; simp at z0 z1 z2 z3 z4 z5 z6 z7 z8 z9 z10 z11; have zlt := KZ.out.lt; clear hb hq))
                      go_meet
                      case rel => exact ⟨rfl, HP8.out.set HY0.out⟩
              · have b3 : (wh == 3) = false := beq_false_of_ne (fun h => w3 (.inl h))
                have b4 : (wh == 4) = false := beq_false_of_ne (fun h => w3 (.inr h))
                clear w3
                go_wp2
                go_meet
                case rel => exact ⟨rfl, HC.out.at_⟩
      case rest =>
        rename World => wc
        obtain ⟨rfl, hdo⟩ := hcut
        clear HDB HTT HLB KA hra
        rcases hdo with ⟨s, v, xx, D1, D2, f1, f2, a1', a2', a3', a4', rfl, a6', a7', a8'⟩ | ⟨s, D1, D2, f1, f2, a1', a2', a3', rfl, a8'⟩
        · as_aux_lemma =>
            have HDS := Lib.hid (show DoesSome w wc g bs bw y N (ptr xx) s v xx D1 D2 f1 f2 from ⟨a1', a2', a3', a4', rfl, a6', a7', a8'⟩)
            have lk := fun (W : World) (hW : DoesSome w W g bs bw y N (ptr xx) s v xx D1 D2 f1 f2) => Dsk.like_any g bs bw [y, xx, g, bs, bw] s _ W hW.2.1 hW.2.2.1.1
            have KY := Lib.hid a8'
            obtain ⟨gen, mark, next, br⟩ := v
            have hnx : next ≤ 1024 := by have := a7'.nx; unfold lg at this; simp only at this; omega
            have BK := Lib.hid (fun (W : World) (hW : DoesSome w W g bs bw y N (ptr xx) s ⟨gen, mark, next, br⟩ xx D1 D2 f1 f2) => broken_any xx g N _ W hW.2.2.2.2.2.1)
            have GE := Lib.hid (fun (W : World) (hW : DoesSome w W g bs bw y N (ptr xx) s ⟨gen, mark, next, br⟩ xx D1 D2 f1 f2) => gen_any xx g N _ W hW.2.2.2.2.2.1)
            have FR := Lib.hid (fun (W : World) (hW : DoesSome w W g bs bw y N (ptr xx) s ⟨gen, mark, next, br⟩ xx D1 D2 f1 f2) => free_any xx g N _ W hW.2.2.2.2.2.1 (by omega) hnx)
            have RM := Lib.hid (fun (W : World) (hW : DoesSome w W g bs bw y N (ptr xx) s ⟨gen, mark, next, br⟩ xx D1 D2 f1 f2) => room_any xx g N _ W hW.2.2.2.2.2.1)
            clear a1' a2' a3' a4' a6' a7' a8'
            unfold refV at lk
            have LK := Lib.hid lk; clear lk
            generalize armedOf s.left = ar at *
            generalize s.dead = dd at *
            have y0 := KY.out.cell 0
            have yf0 := KY.out.frozen 0
            have y1 := KY.out.cell 1
            have yf1 := KY.out.frozen 1
            have y2 := KY.out.cell 2
            have yf2 := KY.out.frozen 2
            have y3 := KY.out.cell 3
            have yf3 := KY.out.frozen 3
            have y4 := KY.out.cell 4
            have yf4 := KY.out.frozen 4
            have y5 := KY.out.cell 5
            have yf5 := KY.out.frozen 5
            have y6 := KY.out.cell 6
            have yf6 := KY.out.frozen 6
            have y7 := KY.out.cell 7
            have yf7 := KY.out.frozen 7
            have y8 := KY.out.cell 8
            have yf8 := KY.out.frozen 8
            have y9 := KY.out.cell 9
            have yf9 := KY.out.frozen 9
            have y10 := KY.out.cell 10
            have yf10 := KY.out.frozen 10
            have y11 := KY.out.cell 11
            have yf11 := KY.out.frozen 11
            simp at y0 y1 y2 y3 y4 y5 y6 y7 y8 y9 y10 y11
            have ylt := KY.out.lt
            have HBQ := Lib.hid (Below.refl wc.heap.size wc)
            go_upto_region 41 with fail
            go_cut [209] from 189 to 209 (fun v9 wx => v9 = .bool false ∧ Below wc.heap.size wc wx)
            case first =>
              go_region_held3 (fun W => W.cell? ⟨y, 0, none⟩ = some (.slice D1 N f1) ∧ W.cell? ⟨y, 1, none⟩ = some (.slice D2 N f2) ∧ W.cell? ⟨y, 2, none⟩ = some (.int .i64 ar) ∧ W.cell? ⟨y, 3, none⟩ = some (.bool dd) ∧ W.cell? ⟨y, 4, none⟩ = some (.int .i64 (sl N : Nat)) ∧ W.cell? ⟨y, 5, none⟩ = some (.int .i64 (2 * (sl N : Nat))) ∧ W.cell? ⟨y, 6, none⟩ = some (.int .i64 (lg N : Nat)) ∧ W.cell? ⟨y, 7, none⟩ = some (.int .i64 gen) ∧ W.cell? ⟨y, 8, none⟩ = some (.int .i64 mark) ∧ W.cell? ⟨y, 9, none⟩ = some (.int .i64 (next : Nat)) ∧ W.cell? ⟨y, 10, none⟩ = some (.bool br) ∧ W.cell? ⟨y, 11, none⟩ = some (.bool true))
                (first
                  | with_reducible exact ⟨y0, y1, y2, y3, y4, y5, y6, y7, y8, y9, y10, y11⟩
                  | with_reducible exact ⟨q0, q1, q2, q3, q4, q5, q6, q7, q8, q9, q10, q11⟩
                  | go_keep)
                (first
                  | (go_at_call 23; (refine (LK.out _ (HDS.out.up (by with_reducible exact bl1 HBQ.out))).mono ?_); rintro e w4 ⟨rfl, hb⟩; have hb : Below wc.heap.size wc w4 := undrew hb; have HB4 := Lib.hid hb; have KQ := Lib.hid (KY.out.below hb KY.out.lt); have q0 := KQ.out.cell 0; have qf0 := KQ.out.frozen 0; have q1 := KQ.out.cell 1; have qf1 := KQ.out.frozen 1; have q2 := KQ.out.cell 2; have qf2 := KQ.out.frozen 2; have q3 := KQ.out.cell 3; have qf3 := KQ.out.frozen 3; have q4 := KQ.out.cell 4; have qf4 := KQ.out.frozen 4; have q5 := KQ.out.cell 5; have qf5 := KQ.out.frozen 5; have q6 := KQ.out.cell 6; have qf6 := KQ.out.frozen 6; have q7 := KQ.out.cell 7; have qf7 := KQ.out.frozen 7; have q8 := KQ.out.cell 8; have qf8 := KQ.out.frozen 8; have q9 := KQ.out.cell 9; have qf9 := KQ.out.frozen 9; have q10 := KQ.out.cell 10; have qf10 := KQ.out.frozen 10; have q11 := KQ.out.cell 11; have qf11 := KQ.out.frozen 11; simp at q0 q1 q2 q3 q4 q5 q6 q7 q8 q9 q10 q11; have qlt := KQ.out.lt; clear hb)
                  | (go_at_call 24; (refine (BK.out _ (HDS.out.up (by with_reducible exact HB4.out))).mono ?_); rintro e w5 ⟨rfl, rfl⟩))
              all_goals
                go_wp2_with fail
                go_meet
                case rel => exact ⟨rfl, HB4.out⟩
            case rest =>
              rename World => wd
              obtain ⟨rfl, hbd⟩ := hcut
              have HDT := Lib.hid (HDS.out.up hbd)
              have KZ := Lib.hid (KY.out.below hbd KY.out.lt)
              clear y0 yf0 y1 yf1 y2 yf2 y3 yf3 y4 yf4 y5 yf5 y6 yf6 y7 yf7 y8 yf8 y9 yf9 y10 yf10 y11 yf11 ylt
              clear hbd HBQ LK BK
              have y0 := KZ.out.cell 0
              have yf0 := KZ.out.frozen 0
              have y1 := KZ.out.cell 1
              have yf1 := KZ.out.frozen 1
              have y2 := KZ.out.cell 2
              have yf2 := KZ.out.frozen 2
              have y3 := KZ.out.cell 3
              have yf3 := KZ.out.frozen 3
              have y4 := KZ.out.cell 4
              have yf4 := KZ.out.frozen 4
              have y5 := KZ.out.cell 5
              have yf5 := KZ.out.frozen 5
              have y6 := KZ.out.cell 6
              have yf6 := KZ.out.frozen 6
              have y7 := KZ.out.cell 7
              have yf7 := KZ.out.frozen 7
              have y8 := KZ.out.cell 8
              have yf8 := KZ.out.frozen 8
              have y9 := KZ.out.cell 9
              have yf9 := KZ.out.frozen 9
              have y10 := KZ.out.cell 10
              have yf10 := KZ.out.frozen 10
              have y11 := KZ.out.cell 11
              have yf11 := KZ.out.frozen 11
              simp at y0 y1 y2 y3 y4 y5 y6 y7 y8 y9 y10 y11
              have ylt := KZ.out.lt
              have hwr := free_wrap (N := N) (next := next) (by omega) hnx
              have HBQ := Lib.hid (Below.refl wd.heap.size wd)
              go_upto_region 43 with fail
              go_cut [237] from 210 to 237 (fun v9 wx => v9 = .bool false ∧ Below wd.heap.size wd wx)
              case first =>
                go_region_held3 (fun W => W.cell? ⟨y, 0, none⟩ = some (.slice D1 N f1) ∧ W.cell? ⟨y, 1, none⟩ = some (.slice D2 N f2) ∧ W.cell? ⟨y, 2, none⟩ = some (.int .i64 ar) ∧ W.cell? ⟨y, 3, none⟩ = some (.bool dd) ∧ W.cell? ⟨y, 4, none⟩ = some (.int .i64 (sl N : Nat)) ∧ W.cell? ⟨y, 5, none⟩ = some (.int .i64 (2 * (sl N : Nat))) ∧ W.cell? ⟨y, 6, none⟩ = some (.int .i64 (lg N : Nat)) ∧ W.cell? ⟨y, 7, none⟩ = some (.int .i64 gen) ∧ W.cell? ⟨y, 8, none⟩ = some (.int .i64 mark) ∧ W.cell? ⟨y, 9, none⟩ = some (.int .i64 (next : Nat)) ∧ W.cell? ⟨y, 10, none⟩ = some (.bool br) ∧ W.cell? ⟨y, 11, none⟩ = some (.bool true))
                  (first
                    | with_reducible exact ⟨y0, y1, y2, y3, y4, y5, y6, y7, y8, y9, y10, y11⟩
                    | with_reducible exact ⟨q0, q1, q2, q3, q4, q5, q6, q7, q8, q9, q10, q11⟩
                    | go_keep)
                  (first
                    | (go_at_call 25; (refine (GE.out _ (HDT.out.up (by with_reducible exact bl1 HBQ.out))).mono ?_); rintro e w5 ⟨rfl, rfl⟩)
                    | (go_at_call 26; (refine (FR.out _ (HDT.out.up (by with_reducible exact bl1 HBQ.out))).mono ?_); rintro e w4 ⟨rfl, mm, hq⟩; have hb : Below wd.heap.size wd w4 := undrew (low_drewN8 hq); have HB4 := Lib.hid hb; have KQ := Lib.hid (KZ.out.below hb KZ.out.lt); have q0 := KQ.out.cell 0; have qf0 := KQ.out.frozen 0; have q1 := KQ.out.cell 1; have qf1 := KQ.out.frozen 1; have q2 := KQ.out.cell 2; have qf2 := KQ.out.frozen 2; have q3 := KQ.out.cell 3; have qf3 := KQ.out.frozen 3; have q4 := KQ.out.cell 4; have qf4 := KQ.out.frozen 4; have q5 := KQ.out.cell 5; have qf5 := KQ.out.frozen 5; have q6 := KQ.out.cell 6; have qf6 := KQ.out.frozen 6; have q7 := KQ.out.cell 7; have qf7 := KQ.out.frozen 7; have q8 := KQ.out.cell 8; have qf8 := KQ.out.frozen 8; have q9 := KQ.out.cell 9; have qf9 := KQ.out.frozen 9; have q10 := KQ.out.cell 10; have qf10 := KQ.out.frozen 10; have q11 := KQ.out.cell 11; have qf11 := KQ.out.frozen 11; simp at q0 q1 q2 q3 q4 q5 q6 q7 q8 q9 q10 q11; have qlt := KQ.out.lt; clear hb hq)
                    | (go_at_call 27; (refine (RM.out _ (HDT.out.up (by with_reducible exact HB4.out))).mono ?_); rintro e w5 ⟨rfl, rfl⟩))
                all_goals
                  go_wp2_with fail
                  go_meet
                  case rel => exact ⟨rfl, HB4.out⟩
              case rest =>
                obtain ⟨rfl, hbe⟩ := hcut
                have HDE := Lib.hid (HDT.out.up hbe); clear hbe HBQ
                have hl25 := HL25.out
                go_wp2_with fail
                go_roundw
                case rel => exact ⟨j + 1, by omega, by go_num, .inl ⟨_, _, _, _, _, _, _, HDE.out⟩⟩
                case measure => simp [intOf]; omega
        · as_aux_lemma =>
            have HDS := Lib.hid (show DoesNone w wc g bs bw y N (.pointer none) s D1 D2 f1 f2 from ⟨a1', a2', a3', rfl, a8'⟩)
            have lk := fun (W : World) (hW : DoesNone w W g bs bw y N (.pointer none) s D1 D2 f1 f2) => Dsk.like_any g bs bw [y, g, bs, bw] s _ W hW.2.1 hW.2.2.1.1
            have KY := Lib.hid a8'
            have BK := Lib.hid (fun (W : World) => broken_none (.pointer none) W (.inl rfl))
            clear a1' a2' a3' a8'
            unfold refV at lk
            have LK := Lib.hid lk; clear lk
            generalize armedOf s.left = ar at *
            generalize s.dead = dd at *
            have y0 := KY.out.cell 0
            have yf0 := KY.out.frozen 0
            have y1 := KY.out.cell 1
            have yf1 := KY.out.frozen 1
            have y2 := KY.out.cell 2
            have yf2 := KY.out.frozen 2
            have y3 := KY.out.cell 3
            have yf3 := KY.out.frozen 3
            have y4 := KY.out.cell 4
            have yf4 := KY.out.frozen 4
            have y5 := KY.out.cell 5
            have yf5 := KY.out.frozen 5
            have y6 := KY.out.cell 6
            have yf6 := KY.out.frozen 6
            have y7 := KY.out.cell 7
            have yf7 := KY.out.frozen 7
            have y8 := KY.out.cell 8
            have yf8 := KY.out.frozen 8
            have y9 := KY.out.cell 9
            have yf9 := KY.out.frozen 9
            have y10 := KY.out.cell 10
            have yf10 := KY.out.frozen 10
            have y11 := KY.out.cell 11
            have yf11 := KY.out.frozen 11
            simp at y0 y1 y2 y3 y4 y5 y6 y7 y8 y9 y10 y11
            have ylt := KY.out.lt
            have HBQ := Lib.hid (Below.refl wc.heap.size wc)
            go_upto_region 41 with fail
            go_cut [209] from 189 to 209 (fun v9 wx => v9 = .bool false ∧ Below wc.heap.size wc wx)
            case first =>
              refine wp_region_held_drew (S := fun W => W.cell? ⟨y, 0, none⟩ = some (.slice D1 N f1) ∧ W.cell? ⟨y, 1, none⟩ = some (.slice D2 N f2) ∧ W.cell? ⟨y, 2, none⟩ = some (.int .i64 ar) ∧ W.cell? ⟨y, 3, none⟩ = some (.bool dd) ∧ W.cell? ⟨y, 4, none⟩ = some (.int .i64 0) ∧ W.cell? ⟨y, 5, none⟩ = some (.int .i64 0) ∧ W.cell? ⟨y, 6, none⟩ = some (.int .i64 0) ∧ W.cell? ⟨y, 7, none⟩ = some (.int .i64 0) ∧ W.cell? ⟨y, 8, none⟩ = some (.int .i64 0) ∧ W.cell? ⟨y, 9, none⟩ = some (.int .i64 0) ∧ W.cell? ⟨y, 10, none⟩ = some (.bool false) ∧ W.cell? ⟨y, 11, none⟩ = some (.bool false)) (by kernel_rfl) ?_ (fun hHeld => ?_)
              · exact ⟨y0, y1, y2, y3, y4, y5, y6, y7, y8, y9, y10, y11⟩
              refine wpAnyH_take (i := 0) (oi := ⟨some 189, _, _, _, _, _⟩) (v := ?_) rfl (by kernel_rfl) (by kernel_rfl) (by kernel_rfl) (fun _ _ _ h => h) (Or.inl ⟨by rfl, ?_⟩) (by assumption) ?_
              rotate_left
              · (intro w hSw; (try dsimp only at hSw); go_simp; try with_reducible rfl)
              try simp only [Act.put, List.setIfInBounds_toArray, List.set_cons_zero, List.set_cons_succ]
              refine wpAnyH_take (i := 1) (oi := ⟨some 190, _, _, _, _, _⟩) (v := ?_) rfl (by kernel_rfl) (by kernel_rfl) (by kernel_rfl) (fun _ _ _ h => h) (Or.inl ⟨by rfl, ?_⟩) (by assumption) ?_
              rotate_left
              · (intro w hSw; (try dsimp only at hSw); go_simp; try with_reducible rfl)
              try simp only [Act.put, List.setIfInBounds_toArray, List.set_cons_zero, List.set_cons_succ]
              refine wpAnyH_take (i := 2) (oi := ⟨some 191, _, _, _, _, _⟩) (v := ?_) rfl (by kernel_rfl) (by kernel_rfl) (by kernel_rfl) (fun _ _ _ h => h) (Or.inl ⟨by rfl, ?_⟩) (by assumption) ?_
              rotate_left
              · (intro w hSw; (try dsimp only at hSw); go_simp; try with_reducible rfl)
              try simp only [Act.put, List.setIfInBounds_toArray, List.set_cons_zero, List.set_cons_succ]
              refine wpAnyH_take (i := 3) (oi := ⟨some 192, _, _, _, _, _⟩) (v := ?_) rfl (by kernel_rfl) (by kernel_rfl) (by kernel_rfl) (fun _ _ _ h => h) (Or.inl ⟨by rfl, ?_⟩) (by assumption) ?_
              rotate_left
              · (intro w hSw; (try dsimp only at hSw); go_simp; try with_reducible rfl)
              try simp only [Act.put, List.setIfInBounds_toArray, List.set_cons_zero, List.set_cons_succ]
              refine wpAnyH_take (i := 4) (oi := ⟨some 193, _, _, _, _, _⟩) (v := ?_) rfl (by kernel_rfl) (by kernel_rfl) (by kernel_rfl) (fun _ _ _ h => h) (Or.inl ⟨by rfl, ?_⟩) (by assumption) ?_
              rotate_left
              · (intro w hSw; (try dsimp only at hSw); go_simp; try with_reducible rfl)
              try simp only [Act.put, List.setIfInBounds_toArray, List.set_cons_zero, List.set_cons_succ]
              refine wpAnyH_take (i := 5) (oi := ⟨some 194, _, _, _, _, _⟩) (v := ?_) rfl (by kernel_rfl) (by kernel_rfl) (by kernel_rfl) (fun _ _ _ h => h) (Or.inl ⟨by rfl, ?_⟩) (by assumption) ?_
              rotate_left
              · (intro w hSw; (try dsimp only at hSw); go_simp; try with_reducible rfl)
              try simp only [Act.put, List.setIfInBounds_toArray, List.set_cons_zero, List.set_cons_succ]
              refine wpAnyH_ready (rs := [6]) (by kernel_rfl) (by simp) (AllReadyH.cons (o := ⟨some 195, _, _, _, _, _⟩) rfl (fun K hK => ?_) AllReadyH.nil)
              go_simp
              (go_at_call 23; (refine (LK.out _ (HDS.out.up (by first | with_reducible exact HBQ.out | with_reducible exact bl1 HBQ.out))).mono ?_); rintro e w4 ⟨rfl, hb⟩; have hb : Below wc.heap.size wc w4 := (by first | with_reducible exact hb | exact undrew hb); have HB4 := Lib.hid hb; have KQ := Lib.hid (KY.out.below hb KY.out.lt); have q0 := KQ.out.cell 0; have qf0 := KQ.out.frozen 0; have q1 := KQ.out.cell 1; have qf1 := KQ.out.frozen 1; have q2 := KQ.out.cell 2; have qf2 := KQ.out.frozen 2; have q3 := KQ.out.cell 3; have qf3 := KQ.out.frozen 3; have q4 := KQ.out.cell 4; have qf4 := KQ.out.frozen 4; have q5 := KQ.out.cell 5; have qf5 := KQ.out.frozen 5; have q6 := KQ.out.cell 6; have qf6 := KQ.out.frozen 6; have q7 := KQ.out.cell 7; have qf7 := KQ.out.frozen 7; have q8 := KQ.out.cell 8; have qf8 := KQ.out.frozen 8; have q9 := KQ.out.cell 9; have qf9 := KQ.out.frozen 9; have q10 := KQ.out.cell 10; have qf10 := KQ.out.frozen 10; have q11 := KQ.out.cell 11; have qf11 := KQ.out.frozen 11; simp at q0 q1 q2 q3 q4 q5 q6 q7 q8 q9 q10 q11; have qlt := KQ.out.lt; clear hb)
              refine hK.out _ _ ?_ (fun hHeld => ?_)
              · exact ⟨q0, q1, q2, q3, q4, q5, q6, q7, q8, q9, q10, q11⟩
              clear hK K
              try simp only [Act.put, List.setIfInBounds_toArray, List.set_cons_zero, List.set_cons_succ]
              refine wpAnyH_take (i := 7) (oi := ⟨some 196, _, _, _, _, _⟩) (v := ?_) rfl (by kernel_rfl) (by kernel_rfl) (by kernel_rfl) (fun _ _ _ h => h) (Or.inl ⟨by rfl, ?_⟩) (by assumption) ?_
              rotate_left
              · (intro w hSw; (try dsimp only at hSw); go_simp; try with_reducible rfl)
              try simp only [Act.put, List.setIfInBounds_toArray, List.set_cons_zero, List.set_cons_succ]
              refine wpAnyH_take (i := 8) (oi := ⟨some 197, _, _, _, _, _⟩) (v := ?_) rfl (by kernel_rfl) (by kernel_rfl) (by kernel_rfl) (fun _ _ _ h => h) (Or.inl ⟨by rfl, ?_⟩) (by assumption) ?_
              rotate_left
              · (intro w hSw; (try dsimp only at hSw); go_simp; try with_reducible rfl)
              try simp only [Act.put, List.setIfInBounds_toArray, List.set_cons_zero, List.set_cons_succ]
              refine wpAnyH_take (i := 9) (oi := ⟨some 198, _, _, _, _, _⟩) (v := ?_) rfl (by kernel_rfl) (by kernel_rfl) (by kernel_rfl) (fun _ _ _ h => h) (Or.inl ⟨by rfl, ?_⟩) (by assumption) ?_
              rotate_left
              · (intro w hSw; (try dsimp only at hSw); go_simp; try with_reducible rfl)
              try simp only [Act.put, List.setIfInBounds_toArray, List.set_cons_zero, List.set_cons_succ]
              refine wpAnyH_take (i := 10) (oi := ⟨some 199, _, _, _, _, _⟩) (v := ?_) rfl (by kernel_rfl) (by kernel_rfl) (by kernel_rfl) (fun _ _ _ h => h) (Or.inl ⟨by rfl, ?_⟩) (by assumption) ?_
              rotate_left
              · (intro w hSw; (try dsimp only at hSw); go_simp; try with_reducible rfl)
              try simp only [Act.put, List.setIfInBounds_toArray, List.set_cons_zero, List.set_cons_succ]
              refine wpAnyH_take (i := 12) (oi := ⟨some 201, _, _, _, _, _⟩) (v := ?_) rfl (by kernel_rfl) (by kernel_rfl) (by kernel_rfl) (fun _ _ _ h => h) (Or.inl ⟨by rfl, ?_⟩) (by assumption) ?_
              rotate_left
              · (intro w hSw; (try dsimp only at hSw); go_simp; try with_reducible rfl)
              try simp only [Act.put, List.setIfInBounds_toArray, List.set_cons_zero, List.set_cons_succ]
              refine wpAnyH_take (i := 13) (oi := ⟨some 202, _, _, _, _, _⟩) (v := ?_) rfl (by kernel_rfl) (by kernel_rfl) (by kernel_rfl) (fun _ _ _ h => h) (Or.inl ⟨by rfl, ?_⟩) (by assumption) ?_
              rotate_left
              · (intro w hSw; (try dsimp only at hSw); go_simp; try with_reducible rfl)
              try simp only [Act.put, List.setIfInBounds_toArray, List.set_cons_zero, List.set_cons_succ]
              refine wpAnyH_take (i := 14) (oi := ⟨some 203, _, _, _, _, _⟩) (v := ?_) rfl (by kernel_rfl) (by kernel_rfl) (by kernel_rfl) (fun _ _ _ h => h) (Or.inl ⟨by rfl, ?_⟩) (by assumption) ?_
              rotate_left
              · (intro w hSw; (try dsimp only at hSw); go_simp; try with_reducible rfl)
              try simp only [Act.put, List.setIfInBounds_toArray, List.set_cons_zero, List.set_cons_succ]
              refine wpAnyH_ready (rs := [11]) (by kernel_rfl) (by simp) (AllReadyH.cons (o := ⟨some 200, _, _, _, _, _⟩) rfl (fun K hK => ?_) AllReadyH.nil)
              go_simp
              (go_at_call 24; (refine (BK.out _).mono ?_); rintro e w5 ⟨rfl, rfl⟩)
              refine hK.out _ _ ?_ (fun hHeld => ?_)
              · first | exact ⟨q0, q1, q2, q3, q4, q5, q6, q7, q8, q9, q10, q11⟩ | assumption
              clear hK K
              try simp only [Act.put, List.setIfInBounds_toArray, List.set_cons_zero, List.set_cons_succ]
              refine wpAnyH_take (i := 15) (oi := ⟨some 204, _, _, _, _, _⟩) (v := ?_) rfl (by kernel_rfl) (by kernel_rfl) (by kernel_rfl) (fun _ _ _ h => h) (Or.inl ⟨by rfl, ?_⟩) (by assumption) ?_
              rotate_left
              · (intro w hSw; (try dsimp only at hSw); go_simp; try with_reducible rfl)
              try simp only [Act.put, List.setIfInBounds_toArray, List.set_cons_zero, List.set_cons_succ]
              refine wpAnyH_take (i := 16) (oi := ⟨some 205, _, _, _, _, _⟩) (v := undef) rfl (by kernel_rfl) (by kernel_rfl) (by kernel_rfl) (fun _ _ _ h => h) (Or.inr ⟨by rfl, rfl⟩) (by assumption) ?_
              try simp only [Act.put, List.setIfInBounds_toArray, List.set_cons_zero, List.set_cons_succ]
              refine wpAnyH_take (i := 17) (oi := ⟨some 206, _, _, _, _, _⟩) (v := undef) rfl (by kernel_rfl) (by kernel_rfl) (by kernel_rfl) (fun _ _ _ h => h) (Or.inr ⟨by rfl, rfl⟩) (by assumption) ?_
              try simp only [Act.put, List.setIfInBounds_toArray, List.set_cons_zero, List.set_cons_succ]
              refine wpAnyH_take (i := 18) (oi := ⟨some 207, _, _, _, _, _⟩) (v := ?_) rfl (by kernel_rfl) (by kernel_rfl) (by kernel_rfl) (fun _ _ _ h => h) (Or.inl ⟨by rfl, ?_⟩) (by assumption) ?_
              rotate_left
              · (intro w hSw; (try dsimp only at hSw); go_simp; try with_reducible rfl)
              try simp only [Act.put, List.setIfInBounds_toArray, List.set_cons_zero, List.set_cons_succ]
              refine wpAnyH_take (i := 19) (oi := ⟨some 208, _, _, _, _, _⟩) (v := ?_) rfl (by kernel_rfl) (by kernel_rfl) (by kernel_rfl) (fun _ _ _ h => h) (Or.inl ⟨by rfl, ?_⟩) (by assumption) ?_
              rotate_left
              · (intro w hSw; (try dsimp only at hSw); go_simp; try with_reducible rfl)
              try simp only [Act.put, List.setIfInBounds_toArray, List.set_cons_zero, List.set_cons_succ]
              refine wpAnyH_take (i := 20) (oi := ⟨some 209, _, _, _, _, _⟩) (v := ?_) rfl (by kernel_rfl) (by kernel_rfl) (by kernel_rfl) (fun _ _ _ h => h) (Or.inl ⟨by rfl, ?_⟩) (by assumption) ?_
              rotate_left
              · (intro w hSw; (try dsimp only at hSw); go_simp; try with_reducible rfl)
              try simp only [Act.put, List.setIfInBounds_toArray, List.set_cons_zero, List.set_cons_succ]
              refine wpAnyH_done (by kernel_rfl) ?_ _
              go_wp2_with fail
              go_meet
              case rel => exact ⟨rfl, HB4.out⟩
            case rest =>
              rename World => wd
              obtain ⟨rfl, hbd⟩ := hcut
              have HDT := Lib.hid (HDS.out.up hbd)
              have KZ := Lib.hid (KY.out.below hbd KY.out.lt)
              clear y0 yf0 y1 yf1 y2 yf2 y3 yf3 y4 yf4 y5 yf5 y6 yf6 y7 yf7 y8 yf8 y9 yf9 y10 yf10 y11 yf11 ylt
              clear hbd HBQ LK BK
              have y0 := KZ.out.cell 0
              have yf0 := KZ.out.frozen 0
              have y1 := KZ.out.cell 1
              have yf1 := KZ.out.frozen 1
              have y2 := KZ.out.cell 2
              have yf2 := KZ.out.frozen 2
              have y3 := KZ.out.cell 3
              have yf3 := KZ.out.frozen 3
              have y4 := KZ.out.cell 4
              have yf4 := KZ.out.frozen 4
              have y5 := KZ.out.cell 5
              have yf5 := KZ.out.frozen 5
              have y6 := KZ.out.cell 6
              have yf6 := KZ.out.frozen 6
              have y7 := KZ.out.cell 7
              have yf7 := KZ.out.frozen 7
              have y8 := KZ.out.cell 8
              have yf8 := KZ.out.frozen 8
              have y9 := KZ.out.cell 9
              have yf9 := KZ.out.frozen 9
              have y10 := KZ.out.cell 10
              have yf10 := KZ.out.frozen 10
              have y11 := KZ.out.cell 11
              have yf11 := KZ.out.frozen 11
              simp at y0 y1 y2 y3 y4 y5 y6 y7 y8 y9 y10 y11
              have ylt := KZ.out.lt
              go_upto_region 43 with fail
              go_cut [237] from 210 to 237 (fun v9 wx => v9 = .bool false ∧ Below wd.heap.size wd wx)
              case first =>
                refine wp_region_held_drew (S := fun W => W.cell? ⟨y, 0, none⟩ = some (.slice D1 N f1) ∧ W.cell? ⟨y, 1, none⟩ = some (.slice D2 N f2) ∧ W.cell? ⟨y, 2, none⟩ = some (.int .i64 ar) ∧ W.cell? ⟨y, 3, none⟩ = some (.bool dd) ∧ W.cell? ⟨y, 4, none⟩ = some (.int .i64 0) ∧ W.cell? ⟨y, 5, none⟩ = some (.int .i64 0) ∧ W.cell? ⟨y, 6, none⟩ = some (.int .i64 0) ∧ W.cell? ⟨y, 7, none⟩ = some (.int .i64 0) ∧ W.cell? ⟨y, 8, none⟩ = some (.int .i64 0) ∧ W.cell? ⟨y, 9, none⟩ = some (.int .i64 0) ∧ W.cell? ⟨y, 10, none⟩ = some (.bool false) ∧ W.cell? ⟨y, 11, none⟩ = some (.bool false)) (by kernel_rfl) ?_ (fun hHeld => ?_)
                · exact ⟨y0, y1, y2, y3, y4, y5, y6, y7, y8, y9, y10, y11⟩
                refine wpAnyH_take (i := 0) (oi := ⟨some 210, _, _, _, _, _⟩) (v := ?_) rfl (by kernel_rfl) (by kernel_rfl) (by kernel_rfl) (fun _ _ _ h => h) (Or.inl ⟨by rfl, ?_⟩) (by assumption) ?_
                rotate_left
                · (intro w hSw; (try dsimp only at hSw); go_simp; try with_reducible rfl)
                try simp only [Act.put, List.setIfInBounds_toArray, List.set_cons_zero, List.set_cons_succ]
                refine wpAnyH_take (i := 1) (oi := ⟨some 211, _, _, _, _, _⟩) (v := ?_) rfl (by kernel_rfl) (by kernel_rfl) (by kernel_rfl) (fun _ _ _ h => h) (Or.inl ⟨by rfl, ?_⟩) (by assumption) ?_
                rotate_left
                · (intro w hSw; (try dsimp only at hSw); go_simp; try with_reducible rfl)
                try simp only [Act.put, List.setIfInBounds_toArray, List.set_cons_zero, List.set_cons_succ]
                refine wpAnyH_take (i := 2) (oi := ⟨some 212, _, _, _, _, _⟩) (v := ?_) rfl (by kernel_rfl) (by kernel_rfl) (by kernel_rfl) (fun _ _ _ h => h) (Or.inl ⟨by rfl, ?_⟩) (by assumption) ?_
                rotate_left
                · (intro w hSw; (try dsimp only at hSw); go_simp; try with_reducible rfl)
                try simp only [Act.put, List.setIfInBounds_toArray, List.set_cons_zero, List.set_cons_succ]
                refine wpAnyH_take (i := 3) (oi := ⟨some 213, _, _, _, _, _⟩) (v := undef) rfl (by kernel_rfl) (by kernel_rfl) (by kernel_rfl) (fun _ _ _ h => h) (Or.inr ⟨by rfl, rfl⟩) (by assumption) ?_
                try simp only [Act.put, List.setIfInBounds_toArray, List.set_cons_zero, List.set_cons_succ]
                refine wpAnyH_take (i := 4) (oi := ⟨some 214, _, _, _, _, _⟩) (v := undef) rfl (by kernel_rfl) (by kernel_rfl) (by kernel_rfl) (fun _ _ _ h => h) (Or.inr ⟨by rfl, rfl⟩) (by assumption) ?_
                try simp only [Act.put, List.setIfInBounds_toArray, List.set_cons_zero, List.set_cons_succ]
                refine wpAnyH_take (i := 5) (oi := ⟨some 215, _, _, _, _, _⟩) (v := undef) rfl (by kernel_rfl) (by kernel_rfl) (by kernel_rfl) (fun _ _ _ h => h) (Or.inr ⟨by rfl, rfl⟩) (by assumption) ?_
                try simp only [Act.put, List.setIfInBounds_toArray, List.set_cons_zero, List.set_cons_succ]
                refine wpAnyH_take (i := 6) (oi := ⟨some 216, _, _, _, _, _⟩) (v := undef) rfl (by kernel_rfl) (by kernel_rfl) (by kernel_rfl) (fun _ _ _ h => h) (Or.inr ⟨by rfl, rfl⟩) (by assumption) ?_
                try simp only [Act.put, List.setIfInBounds_toArray, List.set_cons_zero, List.set_cons_succ]
                refine wpAnyH_take (i := 7) (oi := ⟨some 217, _, _, _, _, _⟩) (v := undef) rfl (by kernel_rfl) (by kernel_rfl) (by kernel_rfl) (fun _ _ _ h => h) (Or.inr ⟨by rfl, rfl⟩) (by assumption) ?_
                try simp only [Act.put, List.setIfInBounds_toArray, List.set_cons_zero, List.set_cons_succ]
                refine wpAnyH_take (i := 8) (oi := ⟨some 218, _, _, _, _, _⟩) (v := undef) rfl (by kernel_rfl) (by kernel_rfl) (by kernel_rfl) (fun _ _ _ h => h) (Or.inr ⟨by rfl, rfl⟩) (by assumption) ?_
                try simp only [Act.put, List.setIfInBounds_toArray, List.set_cons_zero, List.set_cons_succ]
                refine wpAnyH_take (i := 9) (oi := ⟨some 219, _, _, _, _, _⟩) (v := undef) rfl (by kernel_rfl) (by kernel_rfl) (by kernel_rfl) (fun _ _ _ h => h) (Or.inr ⟨by rfl, rfl⟩) (by assumption) ?_
                try simp only [Act.put, List.setIfInBounds_toArray, List.set_cons_zero, List.set_cons_succ]
                refine wpAnyH_take (i := 10) (oi := ⟨some 220, _, _, _, _, _⟩) (v := undef) rfl (by kernel_rfl) (by kernel_rfl) (by kernel_rfl) (fun _ _ _ h => h) (Or.inr ⟨by rfl, rfl⟩) (by assumption) ?_
                try simp only [Act.put, List.setIfInBounds_toArray, List.set_cons_zero, List.set_cons_succ]
                refine wpAnyH_take (i := 11) (oi := ⟨some 221, _, _, _, _, _⟩) (v := undef) rfl (by kernel_rfl) (by kernel_rfl) (by kernel_rfl) (fun _ _ _ h => h) (Or.inr ⟨by rfl, rfl⟩) (by assumption) ?_
                try simp only [Act.put, List.setIfInBounds_toArray, List.set_cons_zero, List.set_cons_succ]
                refine wpAnyH_take (i := 12) (oi := ⟨some 222, _, _, _, _, _⟩) (v := undef) rfl (by kernel_rfl) (by kernel_rfl) (by kernel_rfl) (fun _ _ _ h => h) (Or.inr ⟨by rfl, rfl⟩) (by assumption) ?_
                try simp only [Act.put, List.setIfInBounds_toArray, List.set_cons_zero, List.set_cons_succ]
                refine wpAnyH_take (i := 13) (oi := ⟨some 223, _, _, _, _, _⟩) (v := undef) rfl (by kernel_rfl) (by kernel_rfl) (by kernel_rfl) (fun _ _ _ h => h) (Or.inr ⟨by rfl, rfl⟩) (by assumption) ?_
                try simp only [Act.put, List.setIfInBounds_toArray, List.set_cons_zero, List.set_cons_succ]
                refine wpAnyH_take (i := 14) (oi := ⟨some 224, _, _, _, _, _⟩) (v := undef) rfl (by kernel_rfl) (by kernel_rfl) (by kernel_rfl) (fun _ _ _ h => h) (Or.inr ⟨by rfl, rfl⟩) (by assumption) ?_
                try simp only [Act.put, List.setIfInBounds_toArray, List.set_cons_zero, List.set_cons_succ]
                refine wpAnyH_take (i := 15) (oi := ⟨some 225, _, _, _, _, _⟩) (v := undef) rfl (by kernel_rfl) (by kernel_rfl) (by kernel_rfl) (fun _ _ _ h => h) (Or.inr ⟨by rfl, rfl⟩) (by assumption) ?_
                try simp only [Act.put, List.setIfInBounds_toArray, List.set_cons_zero, List.set_cons_succ]
                refine wpAnyH_take (i := 16) (oi := ⟨some 226, _, _, _, _, _⟩) (v := undef) rfl (by kernel_rfl) (by kernel_rfl) (by kernel_rfl) (fun _ _ _ h => h) (Or.inr ⟨by rfl, rfl⟩) (by assumption) ?_
                try simp only [Act.put, List.setIfInBounds_toArray, List.set_cons_zero, List.set_cons_succ]
                refine wpAnyH_take (i := 17) (oi := ⟨some 227, _, _, _, _, _⟩) (v := undef) rfl (by kernel_rfl) (by kernel_rfl) (by kernel_rfl) (fun _ _ _ h => h) (Or.inr ⟨by rfl, rfl⟩) (by assumption) ?_
                try simp only [Act.put, List.setIfInBounds_toArray, List.set_cons_zero, List.set_cons_succ]
                refine wpAnyH_take (i := 18) (oi := ⟨some 228, _, _, _, _, _⟩) (v := undef) rfl (by kernel_rfl) (by kernel_rfl) (by kernel_rfl) (fun _ _ _ h => h) (Or.inr ⟨by rfl, rfl⟩) (by assumption) ?_
                try simp only [Act.put, List.setIfInBounds_toArray, List.set_cons_zero, List.set_cons_succ]
                refine wpAnyH_take (i := 19) (oi := ⟨some 229, _, _, _, _, _⟩) (v := undef) rfl (by kernel_rfl) (by kernel_rfl) (by kernel_rfl) (fun _ _ _ h => h) (Or.inr ⟨by rfl, rfl⟩) (by assumption) ?_
                try simp only [Act.put, List.setIfInBounds_toArray, List.set_cons_zero, List.set_cons_succ]
                refine wpAnyH_take (i := 20) (oi := ⟨some 230, _, _, _, _, _⟩) (v := undef) rfl (by kernel_rfl) (by kernel_rfl) (by kernel_rfl) (fun _ _ _ h => h) (Or.inr ⟨by rfl, rfl⟩) (by assumption) ?_
                try simp only [Act.put, List.setIfInBounds_toArray, List.set_cons_zero, List.set_cons_succ]
                refine wpAnyH_take (i := 21) (oi := ⟨some 231, _, _, _, _, _⟩) (v := undef) rfl (by kernel_rfl) (by kernel_rfl) (by kernel_rfl) (fun _ _ _ h => h) (Or.inr ⟨by rfl, rfl⟩) (by assumption) ?_
                try simp only [Act.put, List.setIfInBounds_toArray, List.set_cons_zero, List.set_cons_succ]
                refine wpAnyH_take (i := 22) (oi := ⟨some 232, _, _, _, _, _⟩) (v := undef) rfl (by kernel_rfl) (by kernel_rfl) (by kernel_rfl) (fun _ _ _ h => h) (Or.inr ⟨by rfl, rfl⟩) (by assumption) ?_
                try simp only [Act.put, List.setIfInBounds_toArray, List.set_cons_zero, List.set_cons_succ]
                refine wpAnyH_take (i := 23) (oi := ⟨some 233, _, _, _, _, _⟩) (v := undef) rfl (by kernel_rfl) (by kernel_rfl) (by kernel_rfl) (fun _ _ _ h => h) (Or.inr ⟨by rfl, rfl⟩) (by assumption) ?_
                try simp only [Act.put, List.setIfInBounds_toArray, List.set_cons_zero, List.set_cons_succ]
                refine wpAnyH_take (i := 24) (oi := ⟨some 234, _, _, _, _, _⟩) (v := undef) rfl (by kernel_rfl) (by kernel_rfl) (by kernel_rfl) (fun _ _ _ h => h) (Or.inr ⟨by rfl, rfl⟩) (by assumption) ?_
                try simp only [Act.put, List.setIfInBounds_toArray, List.set_cons_zero, List.set_cons_succ]
                refine wpAnyH_take (i := 25) (oi := ⟨some 235, _, _, _, _, _⟩) (v := undef) rfl (by kernel_rfl) (by kernel_rfl) (by kernel_rfl) (fun _ _ _ h => h) (Or.inr ⟨by rfl, rfl⟩) (by assumption) ?_
                try simp only [Act.put, List.setIfInBounds_toArray, List.set_cons_zero, List.set_cons_succ]
                refine wpAnyH_take (i := 26) (oi := ⟨some 236, _, _, _, _, _⟩) (v := undef) rfl (by kernel_rfl) (by kernel_rfl) (by kernel_rfl) (fun _ _ _ h => h) (Or.inr ⟨by rfl, rfl⟩) (by assumption) ?_
                try simp only [Act.put, List.setIfInBounds_toArray, List.set_cons_zero, List.set_cons_succ]
                refine wpAnyH_take (i := 27) (oi := ⟨some 237, _, _, _, _, _⟩) (v := ?_) rfl (by kernel_rfl) (by kernel_rfl) (by kernel_rfl) (fun _ _ _ h => h) (Or.inl ⟨by rfl, ?_⟩) (by assumption) ?_
                rotate_left
                · (intro w hSw; (try dsimp only at hSw); go_simp; try with_reducible rfl)
                try simp only [Act.put, List.setIfInBounds_toArray, List.set_cons_zero, List.set_cons_succ]
                refine wpAnyH_done (by kernel_rfl) ?_ _
                go_wp2_with fail
                go_meet
                case rel => exact ⟨rfl, by first | with_reducible exact Below.refl wd.heap.size wd | with_reducible exact bl1 (Below.refl wd.heap.size wd)⟩
              case rest =>
                obtain ⟨rfl, hbe⟩ := hcut
                have HDE := Lib.hid (HDT.out.up hbe); clear hbe
                have hl25 := HL25.out
                go_wp2_with fail
                go_roundw
                case rel => exact ⟨j + 1, by omega, by go_num, .inr ⟨_, _, _, _, _, HDE.out⟩⟩
                case measure => simp [intOf]; omega
    · obtain rfl : j = len1 := by omega
      go_wp2_with (go_at_call 7; refine (AW.out _).mono ?_; rintro e w7 ⟨rfl, hb⟩; have HB7 := Lib.hid (HLOW.out.trans (hb.mono HLOW.out.size)); clear hb)
      go_ret
      exact ⟨rfl, HB7.out⟩
theorem walk (a0 : Int) (a1 : Option Addr) (len1 cap1 : Nat) (w : World) (w0 : (Lit.int .u8 a0).wf = true) (w1 : IsRecs w a1 len1 cap1 4 (Act8R w)) :
    Calls Tryz.prog 3 #[.int .u8 a0, .slice a1 len1 cap1] w fun e w' => e = .returned (.bool true) ∧ Below w.heap.size w w' := by
  have hb := Go.bounds_u8 w0
  obtain ⟨k, rfl⟩ : ∃ k : Nat, a0 = k := ⟨a0.toNat, by omega⟩
  exact walk_nat k a1 len1 cap1 w (by omega) w1
open Go.ChangeShapes Go.WideShapes Go.ChangeAt Go.RowKit
theorem own : ownKnob Tryz.prog.godebug = none := by kernel_rfl
theorem laidOut : laidOutB Tryz.prog = true := by kernel_rfl
/-! the step from the walk to the row -/
set_option maxRecDepth 100000 in
theorem lifted (os : Os) (started : os.Started) (H : Type) (enc : TypeId × Value → H) :
    ReturnsInHanded {} Tryz.checked os 3 .any (Rows.walDoesSpec.pre6 enc Tryz.prog Tryz.f3 Rows.walDoesRow.domain false) (Rows.walDoesSpec.post enc Tryz.prog Tryz.f3 false true false false) := by
  refine returnsInHanded_of_change (C := Tryz.checked) own started (by kernel_rfl) Tryz.func3
    (ChangeSpec.witness6 (enc := enc) (C := Tryz.checked) false ⟨#[], #[.int .u8 0, .slice none 0 0], []⟩ 8 (by kernel_rfl) (by kernel_rfl) (by kernel_rfl) (by kernel_rfl)) ?_
  intro W base args ds gs before hval0 hW hcnd _
  have hval : ∀ (j : Nat) t v, Tryz.f3.params[j]? = some t → args[j]? = some v → Value.okWide Tryz.prog W .any base t v := hval0
  have hW' := hW
  obtain ⟨p, q, hA0, hV, rfl, hfz, hnd⟩ := hW
  have hA : DataW.TrodAll enc Tryz.prog W 0 (fun _ => true) true Tryz.f3.params.toList args.toList ds p := hA0
  rw [Tryz.params3] at hA hval
  obtain ⟨v0, vs0, d0, ds0, p0, q0, hargs, rfl, rfl, h0, r0⟩ := trodAll_cons hA
  obtain ⟨v1, vs1, d1, ds1, p1, q1, rfl, rfl, rfl, h1, r1⟩ := trodAll_cons r0
  obtain ⟨rfl, rfl, rfl⟩ := trodAll_nil r1
  obtain rfl : args = #[v0, v1] := by cases args; simp_all
  obtain ⟨rfl, rfl⟩ := trodVars_none hV
  obtain ⟨a0, rfl, rfl, rfl, w0⟩ := open_int Tryz.underlying5 (hval 0 5 v0 rfl rfl) h0
  obtain ⟨a1, len1, cap1, rfl⟩ := okWide_slice Tryz.underlying22 (hval 1 22 v1 rfl rfl)
  have k1 := h1
  have lt1 : ∀ x ∈ p1, x.block < W.heap.size := by obtain ⟨m, hm⟩ := k1; exact DataW.trod_lt m _ _ _ hm
  have w1 : IsRecs W a1 len1 cap1 4 (Act8R W) := by
    obtain ⟨fuel, hf⟩ := h1
    rcases open_slice_fields Tryz.underlying22 Tryz.underlying46 (by kernel_rfl) (by kernel_rfl) hf with ⟨hcs, _⟩ | ⟨x, l, c, m, D, Pl, hcs, _, hl, hm, hmm, _, hh⟩
    · simp [Value.cells] at hcs
      obtain ⟨rfl, rfl, rfl⟩ := hcs
      exact .inl ⟨rfl, rfl, rfl⟩
    · simp [Value.cells] at hcs
      obtain ⟨rfl, rfl, rfl⟩ := hcs
      refine .inr ⟨_, rfl, hl, hm, fun i hi j hj => ?_⟩
      obtain ⟨ys, n, _, _, _, hg⟩ := hh i (by rw [hmm, if_pos rfl]; exact hi)
      match j, hj with
      | 0, _ =>
        obtain ⟨v, y, hc, _, ht⟩ := hg 0 _ rfl
        exact ⟨v, hc, open_num_at Tryz.underlying3 ht⟩
      | 1, _ =>
        obtain ⟨v, y, hc, _, ht⟩ := hg 1 _ rfl
        exact ⟨v, hc, open_num_at Tryz.underlying3 ht⟩
      | 2, _ =>
        obtain ⟨v, y, hc, _, ht⟩ := hg 2 _ rfl
        exact ⟨v, hc, open_num_at Tryz.underlying5 ht⟩
      | 3, _ =>
        obtain ⟨v, y, hc, _, ht⟩ := hg 3 _ rfl
        refine ⟨v, hc, ?_⟩
        rcases open_slice_fields Tryz.underlying44 Tryz.underlying106 (by kernel_rfl) (by kernel_rfl) ht with ⟨hcs', _⟩ | ⟨x', l', c', m', D', Pl', hcs', _, hl', hm', hmm', _, hh'⟩
        · obtain rfl : v = .slice none 0 0 := by simpa using hcs'
          exact ⟨_, _, _, rfl, .inl ⟨rfl, rfl, rfl⟩⟩
        · obtain rfl : v = .slice (some x') l' c' := by simpa using hcs'
          refine ⟨_, _, _, rfl, ?_⟩
          refine .inr ⟨_, rfl, hl', hm', fun i' hi' j' hj' => ?_⟩
          obtain ⟨ys', n', _, _, _, hg'⟩ := hh' i' (by rw [hmm', if_pos rfl]; exact hi')
          match j', hj' with
          | 0, _ =>
            obtain ⟨v, y, hc, _, ht⟩ := hg' 0 _ rfl
            exact ⟨v, hc, open_num_at Tryz.underlying3 ht⟩
          | 1, _ =>
            obtain ⟨v, y, hc, _, ht⟩ := hg' 1 _ rfl
            exact ⟨v, hc, open_row_at Tryz.underlying31 Tryz.underlying5 (by kernel_rfl) ht⟩
  clear hA0 hval0
  refine (walk a0 a1 len1 cap1 W w0 w1).mono fun e W' ⟨he, bel⟩ => ?_
  subst he
  exact ⟨_, rfl, _, _, _, [], _, [], hW', trodAll_mk1 (shut_bool Tryz.underlying4 _), (trodAll_cons_mk (shut_int Tryz.underlying5 w0) (trodAll_cons_mk (Below.trod laidOut (by kernel_rfl) (of_decide_eq_true (by kernel_rfl)) k1 bel lt1) trodAll_mk0)), rfl, bel.frame _, fun h => by cases h⟩

theorem over : Rows.walDoesRow.holds Tryz.pinned (OpenSpec.ofChange Rows.walDoesSpec) :=
  OpenClaim.holds_of_wide 3 Tryz.f3 rfl rfl rfl rfl rfl rfl rfl ⟨rfl, rfl, rfl, rfl, rfl⟩ rfl rfl rfl rfl rfl (by kernel_rfl) Tryz.func3 (by kernel_rfl)
    (of_decide_eq_true (by kernel_rfl)) (by unfold Func.isWrapper; first | (rw [if_pos (by decide +kernel)]; kernel_rfl) | (rw [if_neg (by decide +kernel)]; exact ⟨rfl, rfl⟩))
    (fun os started H enc _ => lifted os started H enc)

/-- the statement -/
theorem proved : Rows.WalDoesSaid := over
end Go.Proofs.YtnenbocjfekmfaaGreat.walDoes
