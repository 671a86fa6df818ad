/- WalCorrupt: with both slots spoilt a disk opens as corrupt, as often as it is opened; what is no disk, or has no plot, is none; a wal that Open did not give does nothing. For every bytes and every number. -/
import Derived.Test.YtddhkajcakndlaaFill
import Derived.Test.YtddhkajcakndlaaNone
import Derived.Test.YtddhkajcakndlaaWalAwake
import Derived.Test.YtddhkajcakndlaaWalSpoil
import Derived.Below
import Derived.ChangeOld
import Derived.IntWalk
import Derived.OpenShut
import Derived.ProofKit
import Derived.ShutString
import Derived.WalkKit
namespace Go.Proofs.Ytddhkajcakndlaa.walCorrupt
open Go.RowKit Go.Maps Go.Proofs.Ytddhkajcakndlaa.Mem Go.Proofs.Ytddhkajcakndlaa.Rcd Go.Proofs.Ytddhkajcakndlaa.Wl
open Go.Proofs.Ytddhkajcakndlaa.Dsk (KeptBut SMap DiskAt St ptr kept_of_below kept_of_grown kept_drew IsSec NoneAt TearsAt)
set_option linter.unusedVariables false
set_option linter.unusedSimpArgs false
abbrev sp0 (a : Nat) (xs : List Nat) : List Nat := Dsk.torn (1 :: a :: xs) Dsk.noughts
theorem sp_sec {a : Nat} {xs : List Nat} (ha : a < 256) (hx : ∀ x ∈ xs, x < 256) : IsSec (sp0 a xs) := Dsk.torn_sec (by intro x hx'; simp at hx'; rcases hx' with rfl | rfl | h; omega; omega; exact hx x h) Dsk.isSec_noughts
theorem sp_head (a : Nat) (xs : List Nat) : (sp0 a xs).head? = some 1 := by
  unfold sp0 Dsk.torn
  rw [List.take_succ_cons]
  rfl
set_option maxRecDepth 20000 in
set_option maxHeartbeats 4000000 in
theorem walk_long (a0 : Option Addr) (len0 cap0 : Nat) (a1 : Int) (w : World) (h : 400 < len0) :
    Calls Try.prog 3 #[.slice a0 len0 cap0, .int .u8 a1] w fun e w' => e = .returned (.bool true) ∧ Below w.heap.size w w' := by
  have nw := Dsk.new_ok 20 w (by omega) (by omega)
  rw [show ((20 : Nat) : Int) = 20 from rfl] at nw
  have NW := Lib.hid nw; clear nw
  have AW := Lib.hid (fun (W : World) => awake8_any W)
  have hd : decide (400 < (len0 : Int)) = true := by simp; omega
  go_enter Try.func3, Try.ntmps3
  go_wp2_with (first
    | (go_at_call 4; refine (NW.out).mono ?_; rintro e w1 ⟨g, bs, bw, rfl, hd1, hb, hge⟩; have HB1 := Lib.hid hb; clear hd1 hb hge)
    | (go_at_call 5; refine (AW.out _).mono ?_; rintro e w2 ⟨rfl, hb⟩; have HB2 := Lib.hid (HB1.out.trans (hb.mono HB1.out.size)); clear hb))
  go_ret
  exact ⟨rfl, HB2.out⟩
theorem low_mem {w w1 w2 : World} {g bs bw : Nat} (hb : Below w.heap.size w w1) (hge : ∀ x ∈ [g, bs, bw], w.heap.size ≤ x) (hk : KeptBut w1 w2 [g, bs, bw]) : Below w.heap.size w w2 := kept_low hb hk hge
set_option maxRecDepth 20000 in
set_option maxHeartbeats 16000000 in
theorem walk_short (a0 : Option Addr) (len0 cap0 a1 : Nat) (xs : List Nat) (w : World) (h : len0 ≤ 400) (hs : Sl w w.heap.size (.slice a0 len0 cap0) xs) (hl : xs.length = len0) (ha : a1 < 256) :
    Calls Try.prog 3 #[.slice a0 len0 cap0, .int .u8 (a1 : Nat)] w fun e w' => e = .returned (.bool true) ∧ Below w.heap.size w w' := by
  obtain ⟨A0, n0, c0, e0, hbt, hnc, hcm, hnil⟩ := id hs
  injection e0 with z1 z2 z3
  subst z1 z2 z3
  have hxs : ∀ x ∈ xs, x < 256 := hbt.2.1
  have hsec := sp_sec (a := a1) (xs := xs) ha hxs
  obtain ⟨s1, s2, s3, v3, p1, p2, p3, p4, p5, p6, p7, p8, p9⟩ := spoilt_pure (sp0 a1 xs) hsec.1 (sp_head a1 xs)
  obtain ⟨sp, hsp⟩ : ∃ sp, sp = sp0 a1 xs := ⟨_, rfl⟩
  rw [← hsp] at p5 p6 p7 p8 p9 hsec
  have nw := Dsk.new_ok 20 w (by omega) (by omega)
  rw [show ((20 : Nat) : Int) = 20 from rfl] at nw
  have nw5 := fun (W : World) => Dsk.new_ok 5 W (by omega) (by omega)
  simp only [show ((5 : Nat) : Int) = 5 from rfl] at nw5
  have o1 := fun (g bs bw : Nat) (W : World) (h : DiskAt W g bs bw (Dsk.St.new 20)) => open_yes h (by show 20 ≤ 1000; omega) p1
  rw [show (Dsk.St.new 20).n = 20 from rfl] at o1
  have lit : ∀ (W : World) (y : Nat), y < 256 → Sl (W.alloc (.cells #[.int .u8 (y : Nat)] 5)) (W.alloc (.cells #[.int .u8 (y : Nat)] 5)).heap.size (.slice (some ⟨W.heap.size, 0, none⟩) 1 1) [y] := fun W y hy => (sl_own (World.ownsRow_lit W #[.int .u8 (y : Nat)] 1 (Nat.le_refl _) (by unfold maxLen; omega) rfl : (W.alloc (.cells #[.int .u8 (y : Nat)] 5)).ownsRow W.heap.size 5 1 (.slice (some ⟨W.heap.size, 0, none⟩) 1 1) 1 (vals [y])) (by simpa using hy) (by omega))
  have cm := fun (x g bs bw : Nat) (W : World) (h1 : WalAt W x g 20 ⟨1, 1, 0, false⟩) (h2 : DiskAt W g bs bw s1) => commit_any x g bs bw 20 s1 ⟨1, 1, 0, false⟩ (some ⟨W.heap.size, 0, none⟩) 1 1 [1] (W.alloc (.cells #[.int .u8 1] 5)) (h1.up (palloc (Below.refl _ _) _)) (h2.below (palloc (Below.refl _ _) _)) (by omega) (by omega) ⟨by simp, by simp, by simp, by simp, by simp⟩ (lit W 1 (by omega)) rfl (by omega)
  rw [p3] at cm
  have tn := fun (x g bs bw : Nat) (W : World) (h1 : WalAt W x g 20 ⟨1, 1, 1, false⟩) (h2 : DiskAt W g bs bw s2) => turn_any x g bs bw 20 s2 ⟨1, 1, 1, false⟩ (some ⟨W.heap.size, 0, none⟩) 1 1 [2] (W.alloc (.cells #[.int .u8 2] 5)) (h1.up (palloc (Below.refl _ _) _)) (h2.below (palloc (Below.refl _ _) _)) (by omega) (by omega) ⟨by simp, by simp, by simp, by simp, by show 1 ≤ lg 20; rw [lg20]; omega⟩ (lit W 2 (by omega)) rfl (by omega)
  rw [p4] at tn
  have fl := fun (v : Value) (W : World) (hv : Sl W W.heap.size v (1 :: a1 :: xs)) => Dsk.fill_any v (1 :: a1 :: xs) W hv
  rw [show Dsk.torn (1 :: a1 :: xs) Dsk.noughts = sp from hsp.symm] at fl
  have wr := fun (g bs bw y : Nat) (s : St) (i : Int) (W : World) (hd : DiskAt W g bs bw s) (hy : Blk W y 5 (vals sp).toArray) => Dsk.write_any g bs bw s i (some ⟨y, 0, none⟩) 512 512 sp W hd hsec.1 hsec.2 (bts_disk hd (by have := Pg.blk_bts hy hsec.2 (by rw [hsec.1]; omega); rw [hsec.1] at this; exact this))
  have w1 := fun (g bs bw y : Nat) (W : World) (hd : DiskAt W g bs bw s3) (hy : Blk W y 5 (vals sp).toArray) => wr g bs bw y s3 0 W hd hy
  have w2 := fun (g bs bw y : Nat) (W : World) (hd : DiskAt W g bs bw (s3.write 0 sp).1) (hy : Blk W y 5 (vals sp).toArray) => wr g bs bw y (s3.write 0 sp).1 5 W hd hy
  rw [p5] at w1
  rw [p6] at w2
  have ff := fun (g bs bw : Nat) (W : World) (hd : DiskAt W g bs bw ((s3.write 0 sp).1.write 5 sp).1) => Dsk.flush_any g bs bw _ W hd
  rw [p7] at ff
  have o2 := fun (g bs bw : Nat) (W : World) (h : DiskAt W g bs bw ((s3.write 0 sp).1.write 5 sp).1.flush.1) => open_no h (by rw [p8]; omega) p9
  have o4 := fun (g bs bw : Nat) (W : World) (h : DiskAt W g bs bw (Dsk.St.new 5)) => open_no h (by show 5 ≤ 1000; omega) (show openP (Dsk.St.new 5) = ⟨Dsk.St.new 5, none, [], [], 1⟩ by unfold openP; rw [if_pos (by show 5 < 6; omega)])
  have o5 := fun (W : World) => open_none (.pointer none) W (.inl rfl)
  have o6 := fun (W : World) => open_none (ptr W.heap.size) (W.alloc (.cells #[.int .i64 0, .map none, .map none, .int .i64 0, .bool false] 38)) (.inr ⟨_, rfl, Blk.new W _ _⟩)
  clear wr hsec p1 p2 p3 p4 p5 p6 p7 p8 p9
  generalize ((s3.write 0 sp).1.write 5 sp).1.flush.1 = t6 at *
  generalize ((s3.write 0 sp).1.write 5 sp).1 = t5 at *
  generalize (s3.write 0 sp).1 = t4 at *
  have NW := Lib.hid nw; clear nw
  have NW5 := Lib.hid nw5; clear nw5
  have O1 := Lib.hid o1; clear o1
  have CM := Lib.hid cm; clear cm
  have TN := Lib.hid tn; clear tn
  have FL := Lib.hid fl; clear fl
  have W1 := Lib.hid w1; clear w1
  have W2 := Lib.hid w2; clear w2
  have FF := Lib.hid ff; clear ff
  have O2 := Lib.hid o2; clear o2
  have O4 := Lib.hid o4; clear o4
  have O5 := Lib.hid o5; clear o5
  have O6 := Lib.hid o6; clear o6
  have AW := Lib.hid (fun (W : World) => awake8_any W)
  have HBT := Lib.hid hbt; clear hbt
  have HXS := Lib.hid hxs; clear hxs
  have HL := Lib.hid hl; clear hl
  obtain ⟨i0, hi, hz0, hz1, hz2⟩ := info_parts Try.info5
  have HI := Lib.hid hi; clear hi
  have HZ0 := Lib.hid hz0; clear hz0
  have HZ1 := Lib.hid hz1; clear hz1
  have HZ2 := Lib.hid hz2; clear hz2
  have HM0 := Lib.hid (rfl : (0 : Nat) = 0)
  have HK0 := Lib.hid (rfl : (0 : Nat) = 0)
  have hd : decide (400 < (len0 : Int)) = false := by simp; omega
  clear hsp hs lit hnil
  go_enter Try.func3, Try.ntmps3
  go_wp2_with (first
    | (have HM1 := HM0; go_at_call 4; refine (NW.out).mono ?_; rintro e w1 ⟨g, bs, bw, rfl, hd1, hb, hge⟩; clear HM0; have HD1 := Lib.hid hd1; have HB1 := Lib.hid hb; have HGE := Lib.hid hge; clear hd1 hb hge)
    | (have HK1 := HK0; go_at_call 6; refine (O1.out g bs bw _ HD1.out).mono ?_; rintro e w2 ⟨x, A, n, c, A2, n2, c2, rfl, hn, hn2, hbt, hs, hd2, hw, hx, hk⟩; clear HK0; have HK2 := HK1; clear HK1; have HW2 := Lib.hid hw; have HD2 := Lib.hid hd2; have HX := Lib.hid (show ∀ y ∈ [x, g, bs, bw], w.heap.size ≤ y from (by have h1 := HGE.out; have h2 := Nat.le_trans HB1.out.size hx; intro y hy; simp at hy h1; omega)); have HB2 := Lib.hid (low_mem HB1.out HGE.out hk); clear hn hn2 hbt hs hd2 hw hx hk)
    | (go_at_call 7; refine (CM.out x g bs bw _ HW2.out HD2.out).mono ?_; rintro e w4 ⟨rfl, hw, hd4, hk⟩; have HD4 := Lib.hid hd4; have HW4 := Lib.hid hw; have HB4 := Lib.hid (kept_low (palloc HB2.out (.cells #[.int .u8 1] 5)) hk HX.out); clear hd4 hw hk)
    | (go_at_call 8; refine (TN.out x g bs bw _ HW4.out HD4.out).mono ?_; rintro e w5 ⟨rfl, hw, hd5, hk⟩; have HD5 := Lib.hid hd5; have HB5 := Lib.hid (kept_low (palloc HB4.out (.cells #[.int .u8 2] 5)) hk HX.out); clear hd5 hw hk)
    | (at_builtin; refine wpList_append_any _ rfl (.tmp 86) (.tmp 87) 22 rfl w5.heap.size 5 i0 (.int .u8 0) 1 1 Try.underlying22 HI.out HZ0.out HZ1.out HZ2.out rfl (by decide) (.slice (some ⟨w5.heap.size, 0, none⟩) 2 2) 2 (vals [1, a1]) rfl ?own w.heap.size a0 len0 cap0 (vals xs) rfl ?hr (vals_one _) (by unfold maxLen; omega) (by omega) (by simp) ?_; (case own => exact World.ownsRow_lit w5 #[.int .u8 1, .int .u8 (a1 : Nat)] 2 (Nat.le_refl _) (by unfold maxLen; omega) rfl); (case hr => exact (HBT.out.below (palloc HB5.out _) (Nat.le_refl _)).reads); intro v6 w6 hown6 hg6 _; have hs6 : Sl w6 w6.heap.size v6 (1 :: a1 :: xs) := sl_own (by rw [← vals_append] at hown6; exact hown6) (by intro y hy; simp at hy; rcases hy with rfl | rfl | h; omega; exact ha; exact HXS.out y h) (by omega); have hb6 : Below w5.heap.size w5 w6 := (palloc (Below.refl _ _) _).grown hg6 (by simp) (fun q hq => by simp [Value.ownBlock] at hq; omega); have HS6 := Lib.hid hs6; have HD6 := Lib.hid (HD5.out.below hb6); have HB6 := Lib.hid (HB5.out.trans (hb6.mono HB5.out.size)); clear hown6 hg6 hs6 hb6)
    | (go_at_call 9; refine (FL.out _ _ HS6.out).mono ?_; rintro e w7 ⟨rfl, hy, hb⟩; have HY := Lib.hid hy; have HD7 := Lib.hid (HD6.out.below hb); have HB7 := Lib.hid (HB6.out.trans (hb.mono HB6.out.size)); have HNE := Lib.hid (show w6.heap.size ∉ [g, bs, bw] from (by have h1 := HD6.out.lt; simp; omega)); have HN0 := Lib.hid (rfl : (0 : Nat) = 0); clear hy hb)
    | (have HN1 := HN0; go_at_call 10; refine (W1.out g bs bw _ _ HD7.out HY.out).mono ?_; rintro e w8 ⟨rfl, hd8, hk⟩; clear HN0 HN1; have HD8 := Lib.hid hd8; have HY8 := Lib.hid (hk.blk HY.out HNE.out); have HB8 := Lib.hid (low_mem HB7.out HGE.out hk); clear hd8 hk)
    | (go_at_call 10; refine (W2.out g bs bw _ _ HD8.out HY8.out).mono ?_; rintro e w9 ⟨rfl, hd9, hk⟩; have HD9 := Lib.hid hd9; have HB9 := Lib.hid (low_mem HB8.out HGE.out hk); clear hd9 hk)
    | (go_at_call 11; refine (FF.out g bs bw _ HD9.out).mono ?_; rintro e w10 ⟨rfl, hd10, hk⟩; have HD10 := Lib.hid hd10; have HB10 := Lib.hid (low_mem HB9.out HGE.out hk); clear hd10 hk)
    | (have HK3 := HK2; go_at_call 6; refine (O2.out g bs bw _ HD10.out).mono ?_; rintro e w11 ⟨A3, c3, A4, c4, rfl, hd11, hk⟩; clear HK2; have HK4 := HK3; clear HK3; have HD11 := Lib.hid hd11; have HB11 := Lib.hid (low_mem HB10.out HGE.out hk); clear hd11 hk)
    | (have HK5 := HK4; go_at_call 6; refine (O2.out g bs bw _ HD11.out).mono ?_; rintro e w12 ⟨A5, c5, A6, c6, rfl, hd12, hk⟩; clear HK4; have HK6 := HK5; clear HK5; have HB12 := Lib.hid (low_mem HB11.out HGE.out hk); clear hd12 hk)
    | (go_at_call 4; refine (NW5.out _).mono ?_; rintro e w13 ⟨g5, bs5, bw5, rfl, hd13, hb, hge⟩; have HD13 := Lib.hid hd13; have HB13 := Lib.hid (HB12.out.trans (hb.mono HB12.out.size)); have HGE5 := Lib.hid (show ∀ y ∈ [g5, bs5, bw5], w.heap.size ≤ y from (fun y hy => Nat.le_trans HB12.out.size (hge y hy))); clear hd13 hb hge)
    | (have HK7 := HK6; go_at_call 6; refine (O4.out g5 bs5 bw5 _ HD13.out).mono ?_; rintro e w14 ⟨A7, c7, A8, c8, rfl, hd14, hk⟩; clear HK6; have HK8 := HK7; clear HK7; have HB14 := Lib.hid (low_mem HB13.out HGE5.out hk); clear hd14 hk)
    | (have HK9 := HK8; go_at_call 6; refine (O5.out _).mono ?_; rintro e w15 ⟨rfl, hb⟩; clear HK8; have HK10 := HK9; clear HK9; have HB15 := Lib.hid (HB14.out.trans (hb.mono HB14.out.size)); clear hb)
    | (have HK11 := HK10; go_at_call 6; refine (O6.out _).mono ?_; rintro e w16 ⟨rfl, hb⟩; clear HK10; have HB16 := Lib.hid ((palloc HB15.out (.cells #[.int .i64 0, .map none, .map none, .int .i64 0, .bool false] 38)).trans (hb.mono (palloc HB15.out (.cells #[.int .i64 0, .map none, .map none, .int .i64 0, .bool false] 38)).size)); clear hb))
  go_loopw [34] (fun i wr => (i = .int .i64 0 ∨ i = .int .i64 1 ∨ i = .int .i64 2) ∧ Below w.heap.size w wr) (fun i _ => 2 - (intOf i).toNat)
  case atStart => exact ⟨.inl rfl, HB16.out⟩
  case round =>
    obtain ⟨hj, hbw⟩ := hrel
    have HBW := Lib.hid hbw; clear hbw
    rcases hj with rfl | rfl | rfl
    · have nn : NoWal wr (.pointer none) := .inl rfl
      have q1 := commit_none _ wr none 0 0 nn
      have q2 := turn_none _ wr none 0 0 nn
      have q3 := gen_none _ wr nn
      have q4 := free_none _ wr nn
      have q5 := room_none _ wr nn
      have q6 := broken_none _ wr nn
      have Q1 := Lib.hid q1; clear q1
      have Q2 := Lib.hid q2; clear q2
      have Q3 := Lib.hid q3; clear q3
      have Q4 := Lib.hid q4; clear q4
      have Q5 := Lib.hid q5; clear q5
      have Q6 := Lib.hid q6; clear q6
      clear nn
      go_wp2_with (first
        | (go_at_call 7; refine (Q1.out).mono ?_; rintro e w' ⟨rfl, rfl⟩)
        | (go_at_call 8; refine (Q2.out).mono ?_; rintro e w' ⟨rfl, rfl⟩)
        | (go_at_call 12; refine (Q3.out).mono ?_; rintro e w' ⟨rfl, rfl⟩)
        | (go_at_call 13; refine (Q4.out).mono ?_; rintro e w' ⟨rfl, rfl⟩)
        | (go_at_call 14; refine (Q5.out).mono ?_; rintro e w' ⟨rfl, rfl⟩)
        | (go_at_call 15; refine (Q6.out).mono ?_; rintro e w' ⟨rfl, rfl⟩))
      go_roundw
      case rel => exact ⟨.inr (.inl rfl), HBW.out⟩
      case measure => simp [intOf]
    · have nn : NoWal (wr.alloc (.cells #[.pointer none, .int .i64 0, .int .i64 0, .int .i64 0, .int .i64 0, .int .i64 0, .int .i64 0, .bool false] 42)) (ptr wr.heap.size) := .inr ⟨_, rfl, Blk.new wr _ _⟩
      have q1 := commit_none _ _ none 0 0 nn
      have q2 := turn_none _ _ none 0 0 nn
      have q3 := gen_none _ _ nn
      have q4 := free_none _ _ nn
      have q5 := room_none _ _ nn
      have q6 := broken_none _ _ nn
      have Q1 := Lib.hid q1; clear q1
      have Q2 := Lib.hid q2; clear q2
      have Q3 := Lib.hid q3; clear q3
      have Q4 := Lib.hid q4; clear q4
      have Q5 := Lib.hid q5; clear q5
      have Q6 := Lib.hid q6; clear q6
      clear nn
      go_wp2_with (first
        | (go_at_call 7; refine (Q1.out).mono ?_; rintro e w' ⟨rfl, rfl⟩)
        | (go_at_call 8; refine (Q2.out).mono ?_; rintro e w' ⟨rfl, rfl⟩)
        | (go_at_call 12; refine (Q3.out).mono ?_; rintro e w' ⟨rfl, rfl⟩)
        | (go_at_call 13; refine (Q4.out).mono ?_; rintro e w' ⟨rfl, rfl⟩)
        | (go_at_call 14; refine (Q5.out).mono ?_; rintro e w' ⟨rfl, rfl⟩)
        | (go_at_call 15; refine (Q6.out).mono ?_; rintro e w' ⟨rfl, rfl⟩))
      go_roundw
      case rel => exact ⟨.inr (.inr rfl), palloc HBW.out _⟩
      case measure => simp [intOf]
    · go_wp2_with (go_at_call 5; refine (AW.out _).mono ?_; rintro e w2 ⟨rfl, hb⟩; have HB2 := Lib.hid (HBW.out.trans (hb.mono HBW.out.size)); clear hb)
      go_ret
      exact ⟨rfl, HB2.out⟩
theorem walk (a0 : Option Addr) (len0 cap0 : Nat) (z0 : List Int) (a1 : Int) (w : World) (w0 : IsRow .u8 w a0 len0 cap0 z0) (w1 : (Lit.int .u8 a1).wf = true) :
    Calls Try.prog 3 #[.slice a0 len0 cap0, .int .u8 a1] w fun e w' => e = .returned (.bool true) ∧ Below w.heap.size w w' := by
  by_cases h : 400 < len0
  · exact walk_long a0 len0 cap0 a1 w h
  · obtain ⟨xs, hxs, hlen⟩ := sl_of_row w0 (by omega)
    have hb := Go.bounds_u8 w1
    obtain ⟨k, rfl⟩ : ∃ k : Nat, a1 = k := ⟨a1.toNat, by omega⟩
    exact walk_short a0 len0 cap0 k xs w (by omega) hxs hlen (by omega)
open Go.ChangeShapes Go.WideShapes Go.ChangeAt Go.RowKit
theorem own : ownKnob Try.prog.godebug = none := by kernel_rfl
theorem laidOut : laidOutB Try.prog = true := by kernel_rfl
/-! the step from the walk to the row -/
set_option maxRecDepth 100000 in
theorem lifted (os : Os) (started : os.Started) (H : Type) (enc : TypeId × Value → H) :
    ReturnsInHanded {} Try.checked os 3 .any (Rows.walCorruptSpec.pre6 enc Try.prog Try.f3 Rows.walCorruptRow.domain false) (Rows.walCorruptSpec.post enc Try.prog Try.f3 false true false false) := by
  refine returnsInHanded_of_change (C := Try.checked) own started (by kernel_rfl) Try.func3
    (ChangeSpec.witness6 (enc := enc) (C := Try.checked) false ⟨#[], #[.slice none 0 0, .int .u8 0], []⟩ 8 (by kernel_rfl) (by kernel_rfl) (by kernel_rfl) (by kernel_rfl)) ?_
  intro W base args ds gs before hval0 hW hcnd _
  have hval : ∀ (j : Nat) t v, Try.f3.params[j]? = some t → args[j]? = some v → Value.okWide Try.prog W .any base t v := hval0
  have hW' := hW
  obtain ⟨p, q, hA0, hV, rfl, hfz, hnd⟩ := hW
  have hA : DataW.TrodAll enc Try.prog W 0 (fun _ => true) true Try.f3.params.toList args.toList ds p := hA0
  rw [Try.params3] at hA hval
  obtain ⟨v0, vs0, d0, ds0, p0, q0, hargs, rfl, rfl, h0, r0⟩ := trodAll_cons hA
  obtain ⟨v1, vs1, d1, ds1, p1, q1, rfl, rfl, rfl, h1, r1⟩ := trodAll_cons r0
  obtain ⟨rfl, rfl, rfl⟩ := trodAll_nil r1
  obtain rfl : args = #[v0, v1] := by cases args; simp_all
  obtain ⟨rfl, rfl⟩ := trodVars_none hV
  obtain ⟨a0, len0, cap0, rfl⟩ := okWide_slice Try.underlying22 (hval 0 22 v0 rfl rfl)
  have k0 := h0
  have lt0 : ∀ x ∈ p0, x.block < W.heap.size := by obtain ⟨m, hm⟩ := k0; exact DataW.trod_lt m _ _ _ hm
  obtain ⟨z0, w0⟩ : ∃ zs, IsRow .u8 W a0 len0 cap0 zs := by
    obtain ⟨fuel, hf⟩ := h0
    rcases open_ints Try.underlying22 Try.underlying5 (by kernel_rfl) hf with ⟨hcs, _⟩ | ⟨x, l, c, zs, hcs, _, hl, hm, hz, _, hcell, hwz⟩
    · simp [Value.cells] at hcs
      obtain ⟨rfl, rfl, rfl⟩ := hcs
      exact ⟨[], .inl ⟨rfl, rfl, rfl, rfl⟩⟩
    · simp [Value.cells] at hcs
      obtain ⟨rfl, rfl, rfl⟩ := hcs
      exact ⟨zs, .inr ⟨_, rfl, hl, hm, by simpa using hz, hcell, hwz⟩⟩
  obtain ⟨a1, rfl, rfl, rfl, w1⟩ := open_int Try.underlying5 (hval 1 5 v1 rfl rfl) h1
  clear hA0 hval0
  refine (walk a0 len0 cap0 z0 a1 W w0 w1).mono fun e W' ⟨he, bel⟩ => ?_
  subst he
  exact ⟨_, rfl, _, _, _, [], _, [], hW', trodAll_mk1 (shut_bool Try.underlying4 _), (trodAll_cons_mk (Below.trod laidOut (by kernel_rfl) (of_decide_eq_true (by kernel_rfl)) k0 bel lt0) (trodAll_cons_mk (shut_int Try.underlying5 w1) trodAll_mk0)), rfl, bel.frame _, fun h => by cases h⟩

theorem over : Rows.walCorruptRow.holds Try.pinned (OpenSpec.ofChange Rows.walCorruptSpec) :=
  OpenClaim.holds_of_wide 3 Try.f3 rfl rfl rfl rfl rfl rfl rfl ⟨rfl, rfl, rfl, rfl, rfl⟩ rfl rfl rfl rfl rfl (by kernel_rfl) Try.func3 (by kernel_rfl)
    (of_decide_eq_true (by kernel_rfl)) (by unfold Func.isWrapper; first | (rw [if_pos (by decide +kernel)]; kernel_rfl) | (rw [if_neg (by decide +kernel)]; exact ⟨rfl, rfl⟩))
    (fun os started H enc _ => lifted os started H enc)

/-- the statement -/
theorem proved : Rows.WalCorruptSaid := over
end Go.Proofs.Ytddhkajcakndlaa.walCorrupt
