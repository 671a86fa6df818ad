/- WalTwice: opened again a disk tells the same, whatever was done with its log before, and wherever and however it crashed. For every number and every acts. -/
import Derived.Test.YtddhkajcakndlaaGreatWalAllB
import Derived.Below
import Derived.ChangeOld
import Derived.IntWalk
import Derived.OpenShut
import Derived.ProofKit
import Derived.ShutString
import Derived.WalkKit
namespace Go.Proofs.YtddhkajcakndlaaGreat.walTwice
open Go.RowKit Go.Maps Go.Proofs.YtddhkajcakndlaaGreat.Mem Go.Proofs.YtddhkajcakndlaaGreat.Rcd Go.Proofs.YtddhkajcakndlaaGreat.Wl
open Go.Proofs.YtddhkajcakndlaaGreat.Dsk (KeptBut SMap DiskAt St ptr kept_of_below kept_of_grown kept_drew IsSec NoneAt TearsAt TearR TearsR)
open Go.Proofs.YtddhkajcakndlaaGreat.Plt (sl)
set_option linter.unusedVariables false
set_option linter.unusedSimpArgs false
theorem fresh_tw {w wr : World} {g bs bw N : Nat} (hb : Below w.heap.size w wr) (hd : DiskAt wr g bs bw (Dsk.St.new N)) (hge : ∀ y ∈ [g, bs, bw], w.heap.size ≤ y) (h6 : 6 ≤ N) (hN : N ≤ 1000) :
    Calls Tryz.prog 10 #[ptr g] wr fun e w' => ∃ x A n c A2 n2 c2 er, e = .returned (.tuple #[ptr x, .slice A n c, .slice A2 n2 c2, .int .i64 er]) ∧ TwIn w w' g bs bw N (ptr x) := by
  obtain ⟨s1, p1, p2, p3, p4⟩ := open_fresh N h6
  refine (open_yes hd (by show N ≤ 1000; exact hN) p1).mono ?_
  rintro e w' ⟨x, A, n, c, A2, n2, c2, rfl, b1, b2, b3, b4, b5, b6, b7, b8⟩
  have hg := good_fresh p4
  exact ⟨x, A, n, c, A2, n2, c2, 0, rfl, s1, ⟨kept_low hb b8 hge, b5, p2, 1, by omega, hg⟩, .inr ⟨x, _, rfl, Nat.le_trans hb.size b7, b6, ⟨by simp, by simp, by simp, by simp, by simp⟩, fun _ => ⟨p4.live, hg⟩⟩⟩
theorem wait_none {s : St} (hc : ∀ j, s.fw j = none) : s.waiting = [] := by
  unfold Dsk.St.waiting
  rw [List.filter_eq_nil_iff]
  intro i _
  rw [hc i]
  simp
theorem tw_open4 {w wr : World} {g bs bw N : Nat} {s : St} (hge : ∀ y ∈ [g, bs, bw], w.heap.size ≤ y) (hN : N ≤ 1000) (h : TwD w wr g bs bw N s) (ho : openP s = ⟨s, none, [], [], 4⟩) :
    Calls Tryz.prog 10 #[ptr g] wr fun e w' => ∃ A c A2 c2, e = .returned (.tuple #[.pointer none, .slice A 0 c, .slice A2 0 c2, .int .i64 4]) ∧ TwD w w' g bs bw N s := by
  obtain ⟨a1, a2, a3, q, a4, a5⟩ := h
  refine (open_no a2 (by omega) ho).mono ?_
  rintro e w' ⟨A, c, A2, c2, rfl, b1, b2⟩
  exact ⟨A, c, A2, c2, rfl, kept_low a1 b2 hge, b1, a3, q, a4, a5⟩
theorem tw_openS {w wr : World} {g bs bw N : Nat} {s : St} {v : Wn} {b : List Nat} {recs : List (List Nat)} (hge : ∀ y ∈ [g, bs, bw], w.heap.size ≤ y) (hN : N ≤ 1000) {nb nr : Nat} (hnb : nb = b.length) (hnr : nr = recs.length) (h : TwD w wr g bs bw N s) (ho : openP s = ⟨s, some v, b, recs, 0⟩) :
    Calls Tryz.prog 10 #[ptr g] wr fun e w' => ∃ x A c A2 c2, e = .returned (.tuple #[ptr x, .slice A nb c, .slice A2 nr c2, .int .i64 0]) ∧ Bts w' w'.heap.size A nb b ∧ Sls w' w'.heap.size (.slice A2 nr c2) recs ∧ TwD w w' g bs bw N s ∧ WalAt w' x g N v ∧ KeptBut wr w' [g, bs, bw] := by
  obtain ⟨a1, a2, a3, q, a4, a5⟩ := h
  refine (open_yes a2 (by omega) ho).mono ?_
  rintro e w' ⟨x, A, n, c, A2, n2, c2, rfl, b1, b2, b3, b4, b5, b6, b7, b8⟩
  rw [a3] at b6
  rw [← hnb] at b1
  rw [← hnr] at b2
  subst b1 b2
  exact ⟨x, A, c, A2, c2, rfl, b3, b4, ⟨kept_low a1 b8 hge, b5, a3, q, a4, a5⟩, b6, b8⟩
theorem twd_up {w wr w' : World} {g bs bw N : Nat} {s : St} (h : TwD w wr g bs bw N s) (hb : Below wr.heap.size wr w') : TwD w w' g bs bw N s := ⟨h.1.trans (hb.mono h.1.size), h.2.1.below hb, h.2.2⟩
theorem low_drewN {w w' : World} {m : Nat} (h : w' = w.drewN m) : Below w.heap.size w w' := h ▸ below_drewN (Below.refl _ _) m
theorem same_yes (A A' : Option Addr) (n c c' : Nat) (b : List Nat) (W : World) (hA : Bts W W.heap.size A n b) (hA' : Bts W W.heap.size A' n b) :
    Calls Tryz.prog 21 #[.slice A n c, .slice A' n c'] W fun e w' => e = .returned (.bool true) ∧ ∃ m, w' = W.drewN m := by
  have := rsame_any A A' n n c c' _ _ b b W hA hA'
  rw [decide_eq_true rfl] at this
  exact this
theorem texts_yes (A A' : Option Addr) (n c c' : Nat) (recs : List (List Nat)) (W : World) (hA : Sls W W.heap.size (.slice A n c) recs) (hA' : Sls W W.heap.size (.slice A' n c') recs) (hn : n ≤ 1000) :
    Calls Tryz.prog 22 #[.slice A n c, .slice A' n c'] W fun e w' => e = .returned (.bool true) ∧ ∃ m, w' = W.drewN m := by
  have := texts_any A A' n n c c' recs recs W hA hA' hn
  rw [decide_eq_true rfl] at this
  exact this
theorem tmod9 (n : Int) : -9 < Int.tmod n 9 ∧ Int.tmod n 9 < 9 := by
  rcases Int.le_total 0 n with h | h
  · rw [Int.tmod_eq_emod_of_nonneg h]; omega
  · have := Int.neg_tmod n 9
    have e := Int.tmod_eq_emod_of_nonneg (a := -n) (b := 9) (by omega)
    omega
theorem tw_openV {w wr : World} {g bs bw N : Nat} {s : St} {v : Wn} {b : List Nat} {recs : List (List Nat)} (h6 : 6 ≤ N) (hN : N ≤ 1000) (hge : ∀ y ∈ [g, bs, bw], w.heap.size ≤ y) (h : TwD w wr g bs bw N s) (hl : s.dead = false) (ho : openP s = ⟨s, some v, b, recs, 0⟩) (hv : WnOk N v) (hg : GoodQ s N (v.gen.toNat % 2)) :
    Calls Tryz.prog 10 #[ptr g] wr fun e w' => ∃ x A n c A2 n2 c2, e = .returned (.tuple #[ptr x, .slice A n c, .slice A2 n2 c2, .int .i64 0]) ∧ TwIn w w' g bs bw N (ptr x) := by
  obtain ⟨a1, a2, a3, q, a4, a5⟩ := h
  refine (open_yes a2 (by omega) ho).mono ?_
  rintro e w' ⟨x, A, n, c, A2, n2, c2, rfl, b1, b2, b3, b4, b5, b6, b7, b8⟩
  rw [a3] at b6
  exact ⟨x, A, n, c, A2, n2, c2, rfl, s, ⟨kept_low a1 b8 hge, b5, a3, q, a4, a5⟩, .inr ⟨x, v, rfl, Nat.le_trans a1.size b7, b6, hv, fun _ => ⟨hl, hg⟩⟩⟩
set_option maxRecDepth 20000 in
set_option maxHeartbeats 16000000 in
theorem walk_nat (a0 : Nat) (a1 : Option Addr) (len1 cap1 : Nat) (w : World) (h0 : a0 < 256) (w1 : IsRecs w a1 len1 cap1 4 (Act8R w)) :
    Calls Tryz.prog 5 #[.int .u8 (a0 : Nat), .slice a1 len1 cap1] w fun e w' => e = .returned (.bool true) ∧ Below w.heap.size w w' := by
  have h := light8_any a1 len1 cap1 w w1
  have W1 := Lib.hid w1; clear w1
  obtain ⟨h6, h41⟩ := place_bounds (a0 : Nat)
  have pl := fun (W : World) => place_any (a0 : Nat) W (by omega) (by omega)
  obtain ⟨N, hN⟩ : ∃ N, N = placeN (a0 : Nat) := ⟨_, rfl⟩
  rw [← hN] at h6 h41 pl
  have nw := fun (W : World) => Dsk.new_ok N W (by omega) (by omega)
  have PL := Lib.hid pl; clear pl
  have NW := Lib.hid nw; clear nw
  have H := Lib.hid h; clear h
  have AW := Lib.hid (fun (W : World) => awake8_any W)
  have hN1000 : N ≤ 1000 := by omega
  clear hN h41
  go_enter Tryz.func5, Tryz.ntmps5
  go_wp2_with (go_at_call 6; refine (H.out).mono ?_; rintro e w1 ⟨t, rfl, hb, ht⟩; have HB1 := Lib.hid hb; have HFT := Lib.hid ht; clear hb ht; cases t)
  · go_wp2_with (go_at_call 7; refine (AW.out _).mono ?_; rintro e w2 ⟨rfl, hb⟩; have HB2 := Lib.hid (HB1.out.trans (hb.mono HB1.out.size)); clear hb)
    go_ret
    exact ⟨rfl, HB2.out⟩
  have hfit : len1 ≤ 25 ∧ Fits8 w a1 len1 := by first | exact HFT.out rfl | exact HFT.out trivial
  obtain ⟨hl25, hf8⟩ := hfit
  obtain ⟨l, hA⟩ := acts8_of W1.out hf8
  have HA := Lib.hid hA; clear hA hf8
  go_wp2_with (first
    | (go_at_call 9; refine (PL.out _).mono ?_; rintro e w' ⟨rfl, rfl⟩)
    | (go_at_call 8; refine (NW.out _).mono ?_; rintro e w2 ⟨g, bs, bw, rfl, hd, hb, hge⟩; have HD2 := Lib.hid hd; have HB2 := Lib.hid (HB1.out.trans (hb.mono HB1.out.size)); have HGE := Lib.hid (show ∀ y ∈ [g, bs, bw], w.heap.size ≤ y from (fun y hy => Nat.le_trans HB1.out.size (hge y hy))); clear hd hb hge)
    | (go_at_call 10; refine (fresh_tw HB2.out HD2.out HGE.out h6 hN1000).mono ?_; rintro e w3 ⟨x, A, n, c, A2, n2, c2, er, rfl, htw⟩; have HT3 := Lib.hid htw; clear htw))
  go_loopw [7, 11] (fun z i wr => ∃ k : Nat, k ≤ len1 ∧ i = .int .i64 k ∧ TwIn w wr g bs bw N z) (fun _ i _ => len1 - (intOf i).toNat)
  case atStart => exact ⟨0, Nat.zero_le _, rfl, HT3.out⟩
  case round =>
    obtain ⟨k, hk, rfl, htw⟩ := hrel
    have HTW := Lib.hid htw; clear htw
    by_cases hlt : k < len1
    · have hin := HTW.out
      obtain ⟨s0, hs0, hz⟩ := hin
      rcases hz with rfl | ⟨x, v0, rfl, hv0⟩
      · clear hs0
        go_wp2_with (go_at_call 19; refine (tw_crash HGE.out HTW.out (Dsk.tears_nil _ 0) (Nat.zero_le _)).mono ?_; rintro e w4 ⟨rfl, s, hd, hl, hc⟩; have HD4 := Lib.hid hd; have HL := Lib.hid hl; have HC := Lib.hid hc; clear hd hl hc)
        rcases open_good HD4.out.2.2.2.choose_spec.2 HD4.out.2.2.2.choose_spec.1 HD4.out.2.2.1 h6 HL.out HC.out with ho | ⟨v, b, recs, ho, hv, hbr, hgq, hrl⟩
        · have O4 := Lib.hid (fun (W : World) (hW : TwD w W g bs bw N s) => tw_open4 HGE.out hN1000 hW ho); clear ho
          have HM0 := Lib.hid (rfl : (0 : Nat) = 0)
          go_wp2_with (first
            | (have HM1 := HM0; go_at_call 10; refine (O4.out _ HD4.out).mono ?_; rintro e w5 ⟨A5, c5, A6, c6, rfl, hd⟩; clear HM0 HM1; have HD5 := Lib.hid hd; clear hd)
            | (go_at_call 10; refine (O4.out _ HD5.out).mono ?_; rintro e w6 ⟨A7, c7, A8, c8, rfl, hd⟩; have HD6 := Lib.hid hd; clear hd)
            | (go_at_call 7; refine (AW.out _).mono ?_; rintro e w7 ⟨rfl, hb⟩; have HB7 := Lib.hid (HD6.out.1.trans (hb.mono HD6.out.1.size)); clear hb))
          go_ret
          exact ⟨rfl, HB7.out⟩
        · obtain ⟨nb, hnb⟩ : ∃ nb, nb = b.length := ⟨_, rfl⟩; obtain ⟨nr, hnr⟩ : ∃ nr, nr = recs.length := ⟨_, rfl⟩; have OS := Lib.hid (fun (W : World) (hW : TwD w W g bs bw N s) => tw_openS HGE.out hN1000 hnb hnr hW ho); clear ho hnb; rw [← hnr] at hrl; clear hnr
          have hr1000 : nr ≤ 1000 := by unfold lg at hrl; omega
          have hnx : v.next ≤ 1024 := by have := hv.nx; unfold lg at this; omega
          have FR := Lib.hid (fun (x : Nat) (W : World) (hW : WalAt W x g N v) => free_any x g N v W hW (by omega) hnx)
          have GE := Lib.hid (fun (x : Nat) (W : World) (hW : WalAt W x g N v) => gen_any x g N v W hW)
          have SM := Lib.hid (fun (A A' : Option Addr) (c c' : Nat) (W : World) (hA : Bts W W.heap.size A nb b) (hA' : Bts W W.heap.size A' nb b) => same_yes A A' nb c c' b W hA hA')
          have TX := Lib.hid (fun (A A' : Option Addr) (c c' : Nat) (W : World) (hA : Sls W W.heap.size (.slice A nr c) recs) (hA' : Sls W W.heap.size (.slice A' nr c') recs) => texts_yes A A' nr c c' recs W hA hA' hr1000)
          have hwt := wait_none HC.out
          have WT := Lib.hid (fun (W : World) (hW : DiskAt W g bs bw s) => Dsk.waits_any g bs bw s W hW)
          have HWT := Lib.hid hwt; clear hwt
          have HM0 := Lib.hid (rfl : (0 : Nat) = 0)
          generalize hfree : ((lg N : Nat) - (v.next : Nat) : Int) = fre at *
          generalize v.gen = gen at *
          clear hfree hv hbr hgq hrl hnx
          go_wp2_with (first
            | (have HM1 := HM0; go_at_call 10; refine (OS.out _ HD4.out).mono ?_; rintro e w5 ⟨x5, A5, c5, A6, c6, rfl, hb5, hs5, hd5, hw5, hk5⟩; clear HM0; have HM2 := HM1; clear HM1; have HD5 := Lib.hid hd5; have HW5 := Lib.hid hw5; have HT5 := Lib.hid hb5; have HS5 := Lib.hid hs5; clear hb5 hs5 hd5 hw5 hk5)
            | (have HM3 := HM2; go_at_call 10; refine (OS.out _ HD5.out).mono ?_; rintro e w6 ⟨x6, A7, c7, A8, c8, rfl, hb6, hs6, hd6, hw6, hk6⟩; clear HM2 HM3; have ho6 := odd_disk HD5.out.2.1; obtain ⟨n1, n2, n3⟩ := wal_ne HW5.out HD5.out.2.1; have HD6 := Lib.hid hd6; have HW6 := Lib.hid hw6; have HW56 := Lib.hid (HW5.out.kept hk6 (by simp; exact ⟨n1, n2, n3⟩)); have HT6 := Lib.hid hb6; have HT56 := Lib.hid ((bts_kept HT5.out hk6 ho6 (Nat.le_refl _)).more hk6.size); have HS6 := Lib.hid hs6; have HS56 := Lib.hid ((sls_kept HS5.out hk6 ho6 (Nat.le_refl _)).more hk6.size); clear hb6 hs6 hd6 hw6 hk6 ho6 n1 n2 n3)
            | (go_at_call 21; refine (SM.out A5 A7 c5 c7 _ HT56.out HT6.out).mono ?_; rintro e w7 ⟨rfl, m7, hq⟩; have hb := low_drewN hq; have HD7 := Lib.hid (twd_up HD6.out hb); have HW7 := Lib.hid (HW6.out.up hb); have HW57 := Lib.hid (HW56.out.up hb); have HS7 := Lib.hid (HS6.out.up hb); have HS57 := Lib.hid (HS56.out.up hb); clear hb hq)
            | (go_at_call 22; refine (TX.out A6 A8 c6 c8 _ HS57.out HS7.out).mono ?_; rintro e w8 ⟨rfl, m8, hq⟩; have hb := low_drewN hq; have HD8 := Lib.hid (twd_up HD7.out hb); have HW8 := Lib.hid (HW7.out.up hb); have HW58 := Lib.hid (HW57.out.up hb); have HF0 := Lib.hid (rfl : (0 : Nat) = 0); clear hb hq)
            | (go_at_call 25; first
              | ((with_reducible refine (GE.out x5 _ HW58.out).mono ?_); rintro e w' ⟨rfl, rfl⟩)
              | ((with_reducible refine (GE.out x6 _ HW8.out).mono ?_); rintro e w' ⟨rfl, rfl⟩))
            | (have HF1 := HF0; go_at_call 26; refine (FR.out x5 _ HW58.out).mono ?_; rintro e w9 ⟨rfl, m9, hq⟩; clear HF0 HF1; have hb := low_drewN hq; have HD9 := Lib.hid (twd_up HD8.out hb); have HW9 := Lib.hid (HW8.out.up hb); clear hb hq)
            | (go_at_call 26; refine (FR.out x6 _ HW9.out).mono ?_; rintro e w10 ⟨rfl, m10, hq⟩; have hb := low_drewN hq; have HD10 := Lib.hid (twd_up HD9.out hb); clear hb hq)
            | (go_at_call 30; refine (WT.out _ HD10.out.2.1).mono ?_; rintro e w11 ⟨v11, rfl, hrow, hb⟩; rw [HWT.out] at hrow; obtain ⟨A11, c11, rfl, h11⟩ := Dsk.own_ints hrow rfl; have HD11 := Lib.hid (twd_up HD10.out hb); clear hrow hb h11)
            | (go_at_call 7; refine (AW.out _).mono ?_; rintro e w12 ⟨rfl, hb⟩; have HB12 := Lib.hid (HD11.out.1.trans (hb.mono HD11.out.1.size)); clear hb))
          go_ret
          exact ⟨rfl, HB12.out⟩
      · clear hv0
        obtain ⟨b, off, ac, At, nt, ct, e, hb, hac, c0, c1, c2, c3, ht, hb256, hn0, hn1⟩ := acts8_at HA.out hs0.1 hlt
        subst e
        obtain ⟨wh, nn, bb, ts⟩ := ac
        simp only at c0 c1 c2 ht hb256 hn0 hn1
        have HTT := Lib.hid ht; clear ht
        have hbw : b < wr.heap.size := Nat.lt_of_lt_of_le hb hs0.1.size
        have BY := Lib.hid (fun (W : World) => bytes_any wh nn bb At nt ct W hb256)
        have hlen := bytesOf_len nn bb
        have hm3 := bytesN_lt nn
        obtain ⟨hr0, hr1⟩ : -9 < Int.tmod nn 9 ∧ Int.tmod nn 9 < 9 := tmod9 nn
        clear hs0 hac s0
        by_cases w0 : wh = 0
        · subst w0
          generalize bytesOf nn bb = L at *
          generalize bytesN nn = m at *
          go_wp2_with (first
            | (go_at_call 14; refine (BY.out _).mono ?_; rintro e w5 ⟨A5, c5, rfl, hs5, hb5⟩; have HS5 := Lib.hid hs5; have HTW5 := Lib.hid (HTW.out.up hb5); clear hs5 hb5)
            | (go_at_call 15; refine (tw_commit h6 hN1000 HGE.out HTW5.out HS5.out hlen (by omega)).mono ?_; rintro e w6 ⟨⟨er, rfl⟩, h⟩; have HTW6 := Lib.hid h; clear h))
          go_roundw
          case rel => exact ⟨k + 1, by omega, by go_num, HTW6.out⟩
          case measure => simp [intOf]; omega
        · have b0 : (wh == 0) = false := beq_false_of_ne w0
          by_cases w1 : wh = 1
          · subst w1
            generalize bytesOf nn bb = L at *
            generalize bytesN nn = m at *
            go_wp2_with (first
              | (go_at_call 14; refine (BY.out _).mono ?_; rintro e w5 ⟨A5, c5, rfl, hs5, hb5⟩; have HS5 := Lib.hid hs5; have HTW5 := Lib.hid (HTW.out.up hb5); clear hs5 hb5)
              | (go_at_call 17; refine (tw_turn h6 hN1000 HGE.out HTW5.out HS5.out hlen (by omega)).mono ?_; rintro e w6 ⟨⟨er, rfl⟩, h⟩; have HTW6 := Lib.hid h; clear h))
            go_roundw
            case rel => exact ⟨k + 1, by omega, by go_num, HTW6.out⟩
            case measure => simp [intOf]; omega
          · have b1 : (wh == 1) = false := beq_false_of_ne w1
            by_cases w2 : wh = 2
            · subst w2
              clear w0 w1 hlen hm3
              go_wp2_with (go_at_call 18; refine (tw_arm HGE.out HTW.out (by omega) (by omega)).mono ?_; rintro e w6 ⟨rfl, h⟩; have HTW6 := Lib.hid h; clear h)
              go_roundw
              case rel => exact ⟨k + 1, by omega, by go_num, HTW6.out⟩
              case measure => simp [intOf]; omega
            · have b2 : (wh == 2) = false := beq_false_of_ne w2
              by_cases w3 : wh = 3
              · subst w3
                clear w0 w1 w2 hlen hm3
                go_wp2_with (go_at_call 19; refine (tw_crash HGE.out HTW.out HTT.out (Nat.le_refl _)).mono ?_; rintro e w4 ⟨rfl, s, hd, hl, hc⟩; have HD4 := Lib.hid hd; have HL := Lib.hid hl; have HC := Lib.hid hc; clear hd hl hc)
                rcases open_good HD4.out.2.2.2.choose_spec.2 HD4.out.2.2.2.choose_spec.1 HD4.out.2.2.1 h6 HL.out HC.out with ho | ⟨v, b, recs, ho, hv, hbr, hgq, hrl⟩
                · have O4 := Lib.hid (fun (W : World) (hW : TwD w W g bs bw N s) => tw_open4 HGE.out hN1000 hW ho); clear ho
                  go_wp2_with (go_at_call 10; refine (O4.out _ HD4.out).mono ?_; rintro e w5 ⟨A5, c5, A6, c6, rfl, hd⟩; have HD5 := Lib.hid hd; clear hd)
                  go_roundw
                  case rel => exact ⟨k + 1, by omega, by go_num, _, HD5.out, .inl rfl⟩
                  case measure => simp [intOf]; omega
                · have OS := Lib.hid (fun (W : World) (hW : TwD w W g bs bw N s) => tw_openV h6 hN1000 HGE.out hW HL.out ho hv hgq); clear ho hv hbr hgq hrl
                  go_wp2_with (go_at_call 10; refine (OS.out _ HD4.out).mono ?_; rintro e w5 ⟨x5, A5, n5, c5, A6, n6, c6, rfl, hd⟩; have HD5 := Lib.hid hd; clear hd)
                  go_roundw
                  case rel => exact ⟨k + 1, by omega, by go_num, HD5.out⟩
                  case measure => simp [intOf]; omega
              · have b3 : (wh == 3) = false := beq_false_of_ne w3
                clear w0 w1 w2 w3 hlen hm3
                go_wp2
                go_roundw
                case rel => exact ⟨k + 1, by omega, by go_num, HTW.out⟩
                case measure => simp [intOf]; omega
    · obtain rfl : k = len1 := by omega
      go_wp2_with (go_at_call 19; refine (tw_crash HGE.out HTW.out (Dsk.tears_nil _ 0) (Nat.zero_le _)).mono ?_; rintro e w4 ⟨rfl, s, hd, hl, hc⟩; have HD4 := Lib.hid hd; have HL := Lib.hid hl; have HC := Lib.hid hc; clear hd hl hc)
      rcases open_good HD4.out.2.2.2.choose_spec.2 HD4.out.2.2.2.choose_spec.1 HD4.out.2.2.1 h6 HL.out HC.out with ho | ⟨v, b, recs, ho, hv, hbr, hgq, hrl⟩
      · have O4 := Lib.hid (fun (W : World) (hW : TwD w W g bs bw N s) => tw_open4 HGE.out hN1000 hW ho); clear ho
        have HM0 := Lib.hid (rfl : (0 : Nat) = 0)
        go_wp2_with (first
          | (have HM1 := HM0; go_at_call 10; refine (O4.out _ HD4.out).mono ?_; rintro e w5 ⟨A5, c5, A6, c6, rfl, hd⟩; clear HM0 HM1; have HD5 := Lib.hid hd; clear hd)
          | (go_at_call 10; refine (O4.out _ HD5.out).mono ?_; rintro e w6 ⟨A7, c7, A8, c8, rfl, hd⟩; have HD6 := Lib.hid hd; clear hd)
          | (go_at_call 7; refine (AW.out _).mono ?_; rintro e w7 ⟨rfl, hb⟩; have HB7 := Lib.hid (HD6.out.1.trans (hb.mono HD6.out.1.size)); clear hb))
        go_ret
        exact ⟨rfl, HB7.out⟩
      · obtain ⟨nb, hnb⟩ : ∃ nb, nb = b.length := ⟨_, rfl⟩; obtain ⟨nr, hnr⟩ : ∃ nr, nr = recs.length := ⟨_, rfl⟩; have OS := Lib.hid (fun (W : World) (hW : TwD w W g bs bw N s) => tw_openS HGE.out hN1000 hnb hnr hW ho); clear ho hnb; rw [← hnr] at hrl; clear hnr
        have hr1000 : nr ≤ 1000 := by unfold lg at hrl; omega
        have hnx : v.next ≤ 1024 := by have := hv.nx; unfold lg at this; omega
        have FR := Lib.hid (fun (x : Nat) (W : World) (hW : WalAt W x g N v) => free_any x g N v W hW (by omega) hnx)
        have GE := Lib.hid (fun (x : Nat) (W : World) (hW : WalAt W x g N v) => gen_any x g N v W hW)
        have SM := Lib.hid (fun (A A' : Option Addr) (c c' : Nat) (W : World) (hA : Bts W W.heap.size A nb b) (hA' : Bts W W.heap.size A' nb b) => same_yes A A' nb c c' b W hA hA')
        have TX := Lib.hid (fun (A A' : Option Addr) (c c' : Nat) (W : World) (hA : Sls W W.heap.size (.slice A nr c) recs) (hA' : Sls W W.heap.size (.slice A' nr c') recs) => texts_yes A A' nr c c' recs W hA hA' hr1000)
        have hwt := wait_none HC.out
        have WT := Lib.hid (fun (W : World) (hW : DiskAt W g bs bw s) => Dsk.waits_any g bs bw s W hW)
        have HWT := Lib.hid hwt; clear hwt
        have HM0 := Lib.hid (rfl : (0 : Nat) = 0)
        generalize hfree : ((lg N : Nat) - (v.next : Nat) : Int) = fre at *
        generalize v.gen = gen at *
        clear hfree hv hbr hgq hrl hnx
        go_wp2_with (first
          | (have HM1 := HM0; go_at_call 10; refine (OS.out _ HD4.out).mono ?_; rintro e w5 ⟨x5, A5, c5, A6, c6, rfl, hb5, hs5, hd5, hw5, hk5⟩; clear HM0; have HM2 := HM1; clear HM1; have HD5 := Lib.hid hd5; have HW5 := Lib.hid hw5; have HT5 := Lib.hid hb5; have HS5 := Lib.hid hs5; clear hb5 hs5 hd5 hw5 hk5)
          | (have HM3 := HM2; go_at_call 10; refine (OS.out _ HD5.out).mono ?_; rintro e w6 ⟨x6, A7, c7, A8, c8, rfl, hb6, hs6, hd6, hw6, hk6⟩; clear HM2 HM3; have ho6 := odd_disk HD5.out.2.1; obtain ⟨n1, n2, n3⟩ := wal_ne HW5.out HD5.out.2.1; have HD6 := Lib.hid hd6; have HW6 := Lib.hid hw6; have HW56 := Lib.hid (HW5.out.kept hk6 (by simp; exact ⟨n1, n2, n3⟩)); have HT6 := Lib.hid hb6; have HT56 := Lib.hid ((bts_kept HT5.out hk6 ho6 (Nat.le_refl _)).more hk6.size); have HS6 := Lib.hid hs6; have HS56 := Lib.hid ((sls_kept HS5.out hk6 ho6 (Nat.le_refl _)).more hk6.size); clear hb6 hs6 hd6 hw6 hk6 ho6 n1 n2 n3)
          | (go_at_call 21; refine (SM.out A5 A7 c5 c7 _ HT56.out HT6.out).mono ?_; rintro e w7 ⟨rfl, m7, hq⟩; have hb := low_drewN hq; have HD7 := Lib.hid (twd_up HD6.out hb); have HW7 := Lib.hid (HW6.out.up hb); have HW57 := Lib.hid (HW56.out.up hb); have HS7 := Lib.hid (HS6.out.up hb); have HS57 := Lib.hid (HS56.out.up hb); clear hb hq)
          | (go_at_call 22; refine (TX.out A6 A8 c6 c8 _ HS57.out HS7.out).mono ?_; rintro e w8 ⟨rfl, m8, hq⟩; have hb := low_drewN hq; have HD8 := Lib.hid (twd_up HD7.out hb); have HW8 := Lib.hid (HW7.out.up hb); have HW58 := Lib.hid (HW57.out.up hb); have HF0 := Lib.hid (rfl : (0 : Nat) = 0); clear hb hq)
          | (go_at_call 25; first
            | ((with_reducible refine (GE.out x5 _ HW58.out).mono ?_); rintro e w' ⟨rfl, rfl⟩)
            | ((with_reducible refine (GE.out x6 _ HW8.out).mono ?_); rintro e w' ⟨rfl, rfl⟩))
          | (have HF1 := HF0; go_at_call 26; refine (FR.out x5 _ HW58.out).mono ?_; rintro e w9 ⟨rfl, m9, hq⟩; clear HF0 HF1; have hb := low_drewN hq; have HD9 := Lib.hid (twd_up HD8.out hb); have HW9 := Lib.hid (HW8.out.up hb); clear hb hq)
          | (go_at_call 26; refine (FR.out x6 _ HW9.out).mono ?_; rintro e w10 ⟨rfl, m10, hq⟩; have hb := low_drewN hq; have HD10 := Lib.hid (twd_up HD9.out hb); clear hb hq)
          | (go_at_call 30; refine (WT.out _ HD10.out.2.1).mono ?_; rintro e w11 ⟨v11, rfl, hrow, hb⟩; rw [HWT.out] at hrow; obtain ⟨A11, c11, rfl, h11⟩ := Dsk.own_ints hrow rfl; have HD11 := Lib.hid (twd_up HD10.out hb); clear hrow hb h11)
          | (go_at_call 7; refine (AW.out _).mono ?_; rintro e w12 ⟨rfl, hb⟩; have HB12 := Lib.hid (HD11.out.1.trans (hb.mono HD11.out.1.size)); clear hb))
        go_ret
        exact ⟨rfl, HB12.out⟩
theorem walk (a0 : Int) (a1 : Option Addr) (len1 cap1 : Nat) (w : World) (w0 : (Lit.int .u8 a0).wf = true) (w1 : IsRecs w a1 len1 cap1 4 (Act8R w)) :
    Calls Tryz.prog 5 #[.int .u8 a0, .slice a1 len1 cap1] w fun e w' => e = .returned (.bool true) ∧ Below w.heap.size w w' := by
  have hb := Go.bounds_u8 w0
  obtain ⟨k, rfl⟩ : ∃ k : Nat, a0 = k := ⟨a0.toNat, by omega⟩
  exact walk_nat k a1 len1 cap1 w (by omega) w1
open Go.ChangeShapes Go.WideShapes Go.ChangeAt Go.RowKit
theorem own : ownKnob Tryz.prog.godebug = none := by kernel_rfl
theorem laidOut : laidOutB Tryz.prog = true := by kernel_rfl
/-! the step from the walk to the row -/
set_option maxRecDepth 100000 in
theorem lifted (os : Os) (started : os.Started) (H : Type) (enc : TypeId × Value → H) :
    ReturnsInHanded {} Tryz.checked os 5 .any (Rows.walTwiceSpec.pre6 enc Tryz.prog Tryz.f5 Rows.walTwiceRow.domain false) (Rows.walTwiceSpec.post enc Tryz.prog Tryz.f5 false true false false) := by
  refine returnsInHanded_of_change (C := Tryz.checked) own started (by kernel_rfl) Tryz.func5
    (ChangeSpec.witness6 (enc := enc) (C := Tryz.checked) false ⟨#[], #[.int .u8 0, .slice none 0 0], []⟩ 8 (by kernel_rfl) (by kernel_rfl) (by kernel_rfl) (by kernel_rfl)) ?_
  intro W base args ds gs before hval0 hW hcnd _
  have hval : ∀ (j : Nat) t v, Tryz.f5.params[j]? = some t → args[j]? = some v → Value.okWide Tryz.prog W .any base t v := hval0
  have hW' := hW
  obtain ⟨p, q, hA0, hV, rfl, hfz, hnd⟩ := hW
  have hA : DataW.TrodAll enc Tryz.prog W 0 (fun _ => true) true Tryz.f5.params.toList args.toList ds p := hA0
  rw [Tryz.params5] at hA hval
  obtain ⟨v0, vs0, d0, ds0, p0, q0, hargs, rfl, rfl, h0, r0⟩ := trodAll_cons hA
  obtain ⟨v1, vs1, d1, ds1, p1, q1, rfl, rfl, rfl, h1, r1⟩ := trodAll_cons r0
  obtain ⟨rfl, rfl, rfl⟩ := trodAll_nil r1
  obtain rfl : args = #[v0, v1] := by cases args; simp_all
  obtain ⟨rfl, rfl⟩ := trodVars_none hV
  obtain ⟨a0, rfl, rfl, rfl, w0⟩ := open_int Tryz.underlying5 (hval 0 5 v0 rfl rfl) h0
  obtain ⟨a1, len1, cap1, rfl⟩ := okWide_slice Tryz.underlying22 (hval 1 22 v1 rfl rfl)
  have k1 := h1
  have lt1 : ∀ x ∈ p1, x.block < W.heap.size := by obtain ⟨m, hm⟩ := k1; exact DataW.trod_lt m _ _ _ hm
  have w1 : IsRecs W a1 len1 cap1 4 (Act8R W) := by
    obtain ⟨fuel, hf⟩ := h1
    rcases open_slice_fields Tryz.underlying22 Tryz.underlying46 (by kernel_rfl) (by kernel_rfl) hf with ⟨hcs, _⟩ | ⟨x, l, c, m, D, Pl, hcs, _, hl, hm, hmm, _, hh⟩
    · simp [Value.cells] at hcs
      obtain ⟨rfl, rfl, rfl⟩ := hcs
      exact .inl ⟨rfl, rfl, rfl⟩
    · simp [Value.cells] at hcs
      obtain ⟨rfl, rfl, rfl⟩ := hcs
      refine .inr ⟨_, rfl, hl, hm, fun i hi j hj => ?_⟩
      obtain ⟨ys, n, _, _, _, hg⟩ := hh i (by rw [hmm, if_pos rfl]; exact hi)
      match j, hj with
      | 0, _ =>
        obtain ⟨v, y, hc, _, ht⟩ := hg 0 _ rfl
        exact ⟨v, hc, open_num_at Tryz.underlying3 ht⟩
      | 1, _ =>
        obtain ⟨v, y, hc, _, ht⟩ := hg 1 _ rfl
        exact ⟨v, hc, open_num_at Tryz.underlying3 ht⟩
      | 2, _ =>
        obtain ⟨v, y, hc, _, ht⟩ := hg 2 _ rfl
        exact ⟨v, hc, open_num_at Tryz.underlying5 ht⟩
      | 3, _ =>
        obtain ⟨v, y, hc, _, ht⟩ := hg 3 _ rfl
        refine ⟨v, hc, ?_⟩
        rcases open_slice_fields Tryz.underlying44 Tryz.underlying106 (by kernel_rfl) (by kernel_rfl) ht with ⟨hcs', _⟩ | ⟨x', l', c', m', D', Pl', hcs', _, hl', hm', hmm', _, hh'⟩
        · obtain rfl : v = .slice none 0 0 := by simpa using hcs'
          exact ⟨_, _, _, rfl, .inl ⟨rfl, rfl, rfl⟩⟩
        · obtain rfl : v = .slice (some x') l' c' := by simpa using hcs'
          refine ⟨_, _, _, rfl, ?_⟩
          refine .inr ⟨_, rfl, hl', hm', fun i' hi' j' hj' => ?_⟩
          obtain ⟨ys', n', _, _, _, hg'⟩ := hh' i' (by rw [hmm', if_pos rfl]; exact hi')
          match j', hj' with
          | 0, _ =>
            obtain ⟨v, y, hc, _, ht⟩ := hg' 0 _ rfl
            exact ⟨v, hc, open_num_at Tryz.underlying3 ht⟩
          | 1, _ =>
            obtain ⟨v, y, hc, _, ht⟩ := hg' 1 _ rfl
            exact ⟨v, hc, open_row_at Tryz.underlying31 Tryz.underlying5 (by kernel_rfl) ht⟩
  clear hA0 hval0
  refine (walk a0 a1 len1 cap1 W w0 w1).mono fun e W' ⟨he, bel⟩ => ?_
  subst he
  exact ⟨_, rfl, _, _, _, [], _, [], hW', trodAll_mk1 (shut_bool Tryz.underlying4 _), (trodAll_cons_mk (shut_int Tryz.underlying5 w0) (trodAll_cons_mk (Below.trod laidOut (by kernel_rfl) (of_decide_eq_true (by kernel_rfl)) k1 bel lt1) trodAll_mk0)), rfl, bel.frame _, fun h => by cases h⟩

theorem over : Rows.walTwiceRow.holds Tryz.pinned (OpenSpec.ofChange Rows.walTwiceSpec) :=
  OpenClaim.holds_of_wide 5 Tryz.f5 rfl rfl rfl rfl rfl rfl rfl ⟨rfl, rfl, rfl, rfl, rfl⟩ rfl rfl rfl rfl rfl (by kernel_rfl) Tryz.func5 (by kernel_rfl)
    (of_decide_eq_true (by kernel_rfl)) (by unfold Func.isWrapper; first | (rw [if_pos (by decide +kernel)]; kernel_rfl) | (rw [if_neg (by decide +kernel)]; exact ⟨rfl, rfl⟩))
    (fun os started H enc _ => lifted os started H enc)

/-- the statement -/
theorem proved : Rows.WalTwiceSaid := over
end Go.Proofs.YtddhkajcakndlaaGreat.walTwice
