/- BaseGetsM: the texts LsaRefPut, LsaRefRead, Same, BasRefSame, BasRefMay, BasRefBytes, BasRefRead, BaseGets in one. (Printed by tools/merge.py.) -/
import Derived.Test.YtcojimbnenibnaaBasApply
import Derived.Test.YtcojimbnenibnaaBasAwake
import Derived.Test.YtcojimbnenibnaaBasDo
import Derived.Test.YtcojimbnenibnaaBasGet
import Derived.Test.YtcojimbnenibnaaBasPut
import Derived.Test.YtcojimbnenibnaaBasRef
import Derived.Test.YtcojimbnenibnaaBasRefEp
import Derived.Test.YtcojimbnenibnaaBasRefPut
import Derived.Test.YtcojimbnenibnaaBaseRead
import Derived.Test.YtcojimbnenibnaaBytes
import Derived.Test.YtcojimbnenibnaaLsaPut
import Derived.Test.YtcojimbnenibnaaRef
import Derived.Test.YtcojimbnenibnaaRefReads
import Derived.Below
import Derived.BigQuiet
import Derived.ChangeOld
import Derived.Deep.Cut
import Derived.Deep.QuietTactic
import Derived.Deep.RegionHeld3
import Derived.Deep.RegionLaw
import Derived.IntWalk
import Derived.OpenShut
import Derived.ProofKit
import Derived.ShutString
import Derived.WalkKit
/- The reference's bytes of an Lsa that may be (layer 9). -/
namespace Go.Proofs.Ytcojimbnenibnaa.Lsa
open Go.RowKit Go.Proofs.Ytcojimbnenibnaa.Mem Go.Proofs.Ytcojimbnenibnaa.Oct
set_option linter.unusedVariables false
set_option linter.unusedSimpArgs false
theorem be_one {n : Nat} (h : n < 256) : be 1 n = [n] := by simp [be]; omega
theorem own_fix {w : World} {base n n' : Nat} {v : Value} {xs ys : List Nat} {zs : List Value} (h : w.ownsRow base 5 1 v n zs) (hz : zs = vals ys) (hn : n = n') (hx : ys = xs) : w.ownsRow base 5 1 v n' (vals xs) := by
  subst hz hn hx
  exact h
theorem own_reads {w : World} {base n : Nat} {v : Value} {xs : List Value} (h : w.ownsRow base 5 1 v n xs) : ∃ A c, v = .slice A n c ∧ Reads w w.heap.size 1 A n xs := own_slice h
theorem undrew {B : Nat} {w w' : World} (h : Below B w.drew w') : Below B w w' := ⟨h.os, h.tape, h.output, h.size, h.block⟩
set_option maxRecDepth 20000 in
set_option maxHeartbeats 8000000 in
theorem rput_any (o s : Int) (A : Option Addr) (n c : Nat) (ls : List Lk) (w : World) (h : Lks w w.heap.size (.slice A n c) ls) (hm : may o s ls = true) :
    Calls Try.prog 48 #[lsaV o s (.slice A n c)] w fun e w' => ∃ v', e = .returned v' ∧ Sl w' w'.heap.size v' (bytesOf o s ls) ∧ Below w.heap.size w w' := by
  obtain ⟨hl, hnc, hcm, _⟩ := lks_len h
  obtain ⟨i0, hi, hz0, hz1, hz2⟩ := info_parts Try.info5
  have HI := Lib.hid hi; clear hi
  have HZ0 := Lib.hid hz0; clear hz0
  have HZ1 := Lib.hid hz1; clear hz1
  have HZ2 := Lib.hid hz2; clear hz2
  obtain ⟨ho, hs, hn16, hlk⟩ := may_iff.1 hm
  rw [hl] at hn16
  have hall := linksOk_all hlk
  obtain ⟨o', rfl⟩ : ∃ o' : Nat, o = (o' : Int) := ⟨o.toNat, by omega⟩
  obtain ⟨s', rfl⟩ : ∃ s' : Nat, s = (s' : Int) := ⟨s.toNat, by omega⟩
  have hb1 := up1 (Below.refl w.heap.size w) (.cells #[.int .i64 (o' : Nat), .int .i64 (s' : Nat), .slice A n c] 50)
  have k0 := Blk.new w 50 #[.int .i64 (o' : Nat), .int .i64 (s' : Nat), .slice A n c]
  have hend : (headBytes o' s' n ++ linkBytes ls) = bytesOf o' s' ls := by rw [bytesOf, hl]
  have hd1 : [o'] ++ be 8 s' ++ [n] = headBytes o' s' n := by
    rw [headBytes, Int.toNat_natCast, Int.toNat_natCast, be_one (by omega), be_one (by omega)]
  have hhl := headBytes_length o' s' n
  have rn := fun (W : World) => ref_num 8 s' W (by omega) (by omega)
  have e8 : ((8 : Nat) : Int) = 8 := rfl
  rw [e8] at rn
  have w1 : IntKind.u8.wrap (o' : Int) = (o' : Int) := by rw [IntKind.wrap_u8]; omega
  have w2 : IntKind.u64.wrap (s' : Int) = (s' : Int) := by rw [IntKind.wrap_u64]; omega
  have w3 : IntKind.u8.wrap (n : Int) = (n : Int) := by rw [IntKind.wrap_u8]; omega
  have hob : o' < 256 := by omega
  have hnb : n < 256 := by omega
  obtain ⟨w0, hw0⟩ : ∃ w0, w0 = w.alloc (.cells #[.int .i64 (o' : Nat), .int .i64 (s' : Nat), .slice A n c] 50) := ⟨_, rfl⟩
  rw [← hw0] at hb1 k0
  have hs0 : w0.heap.size = w.heap.size + 1 := by rw [hw0]; simp
  obtain ⟨x0, x1, x2, x3⟩ := blk_cells3 k0
  have RN := Lib.hid rn; clear rn
  have HEND := Lib.hid hend; clear hend
  have HD1 := Lib.hid hd1; clear hd1
  have HB1 := Lib.hid hb1; clear hb1 hm hlk e8
  have HHL := Lib.hid hhl; clear hhl
  have HALL := Lib.hid hall; clear hall
  have HS := Lib.hid h; clear h
  have HL := Lib.hid hl; clear hl
  have K0 := Lib.hid k0; clear k0
  have HS0 := Lib.hid hs0; clear hs0
  go_enter Try.func48, Try.ntmps48
  go_wp2
  rewrite [← hw0]
  clear hw0
  go_region_held3 (fun W => W.cell? ⟨w.heap.size, 0, none⟩ = some (.int .i64 (o' : Nat)) ∧ W.cell? ⟨w.heap.size, 1, none⟩ = some (.int .i64 (s' : Nat)))
    (first
      | with_reducible exact ⟨x0, x1⟩
      | with_reducible exact ⟨y0, y1⟩
      | with_reducible exact ⟨z0, z1⟩
      | go_keep)
    (first
      | (go_at_call 47; refine (RN.out _).mono ?_; rintro e w2 ⟨v2, rfl, ho2, hb2⟩; have hb2 : Below (w0.alloc (.cells #[.int .u8 (o' : Nat)] 5)).heap.size (w0.alloc (.cells #[.int .u8 (o' : Nat)] 5)) w2 := undrew hb2; obtain ⟨A2, c2, rfl, hr2⟩ := own_reads ho2; have HR2 := Lib.hid hr2; have HB2 := Lib.hid ((up1 HB1.out (.cells #[.int .u8 (o' : Nat)] 5)).trans (hb2.mono (up1 HB1.out (.cells #[.int .u8 (o' : Nat)] 5)).size)); have K2 := Lib.hid ((K0.out.alloc (.cells #[.int .u8 (o' : Nat)] 5)).below hb2 (by simp; omega)); have HOL := Lib.hid (own_below (own_byte w0 (w.heap.size + 1) w0.heap.size rfl (by omega) (o' : Int) o' rfl) hb2); obtain ⟨y0, y1, _, _⟩ := blk_cells3 K2.out; have hs2 := K2.out.lt; clear hb2 ho2 hr2)
      | (go_at_call 47; refine (RN.out _).mono ?_; rintro e w2 ⟨v2, rfl, ho2, hb2⟩; have hb2 : Below w0.heap.size w0 w2 := undrew hb2; obtain ⟨A2, c2, rfl, hr2⟩ := own_reads ho2; have HR2 := Lib.hid hr2; have HB2 := Lib.hid (HB1.out.trans (hb2.mono HB1.out.size)); have K2 := Lib.hid (K0.out.below hb2 (by omega)); obtain ⟨y0, y1, _, _⟩ := blk_cells3 K2.out; have hs2 := K2.out.lt; clear hb2 ho2 hr2)
      | (refine step_append_any _ rfl (.tmp 8) (.tmp 12) 36 rfl (w.heap.size + 1) 5 i0 (.int .u8 0) 1 1 Try.underlying36 HI.out HZ0.out HZ1.out HZ2.out rfl (by decide) (.slice (some ⟨w0.heap.size, 0, none⟩) 1 1) 1 (vals [o']) rfl HOL.out w2.heap.size A2 8 c2 (vals (be 8 s')) rfl HR2.out (vals_one _) (by unfold maxLen; omega) (by omega) (by omega) ?_; intro v3 w3 hown3 hg3 _; have HB3 := Lib.hid (HB2.out.grown hg3 HB2.out.size (fun q hq => by have := (HOL.out.lt q hq).1; omega)); have K3 := Lib.hid (K2.out.grown hg3 (fun e => by have := (HOL.out.lt _ e.symm).1; omega)); have HO3 := Lib.hid hown3; obtain ⟨z0, z1, z2, z3⟩ := blk_cells3 K3.out; clear hown3 hg3)
      | (refine step_append_any _ rfl (.tmp 8) (.tmp 12) 36 rfl (w.heap.size + 1) 5 i0 (.int .u8 0) 1 1 Try.underlying36 HI.out HZ0.out HZ1.out HZ2.out rfl (by decide) (.slice (some ⟨w2.heap.size, 0, none⟩) 1 1) 1 (vals [o']) rfl (own_byte w2 (w.heap.size + 1) w2.heap.size rfl hs2 (o' : Int) o' rfl) w2.heap.size A2 8 c2 (vals (be 8 s')) rfl (HR2.out.alloc (Nat.le_refl _) _) (vals_one _) (by unfold maxLen; omega) (by omega) (by simp; omega) ?_; intro v3 w3 hown3 hg3 _; have HB3 := Lib.hid ((up1 HB2.out (.cells #[.int .u8 (o' : Nat)] 5)).grown hg3 (up1 HB2.out (.cells #[.int .u8 (o' : Nat)] 5)).size (fun q hq => by cases hq; exact HB2.out.size)); have K3 := Lib.hid ((K2.out.alloc (.cells #[.int .u8 (o' : Nat)] 5)).grown hg3 (fun e => Nat.ne_of_lt hs2 (Option.some.inj e))); have HO3 := Lib.hid hown3; obtain ⟨z0, z1, z2, z3⟩ := blk_cells3 K3.out; clear hown3 hg3))
  all_goals
    have HOX := Lib.hid (own_fix (n' := 9) (xs := [o'] ++ be 8 s') HO3.out (vals_append _ _).symm rfl rfl)
    obtain ⟨A3, c3, rfl⟩ := own_form HOX.out
    have hs3 := K3.out.lt
    go_wp2_with (at_builtin; (refine wpList_append_any _ rfl (.tmp 14) (.tmp 19) 36 rfl (w.heap.size + 1) 5 i0 (.int .u8 0) 1 1 Try.underlying36 HI.out HZ0.out HZ1.out HZ2.out rfl (by decide) (.slice A3 9 c3) 9 (vals ([o'] ++ be 8 s')) rfl (HOX.out.alloc _) (w3.heap.size + 1) (some ⟨w3.heap.size, 0, none⟩) 1 1 (vals [n]) rfl (reads_byte w3 _ rfl _ n rfl) (vals_one _) (by unfold maxLen; omega) (by omega) (by simp; omega) ?_; intro v4 w4 hown4 hg4 _))
    have hle4 : ∀ q, (Value.slice A3 9 c3).ownBlock = some q → w.heap.size + 1 ≤ q := fun q hq => (HOX.out.lt q hq).1
    have HB4 := Lib.hid ((up1 HB3.out (.cells #[.int .u8 (n : Nat)] 5)).grown hg4 (up1 HB3.out _).size (fun q hq => Nat.le_of_succ_le (hle4 q hq)))
    have K4 := Lib.hid ((K3.out.alloc (.cells #[.int .u8 (n : Nat)] 5)).grown hg4 (fun e => by have := hle4 _ e.symm; omega))
    have HO4 := Lib.hid (own_fix (n' := 10 + 5 * 0) (xs := headBytes o' s' n ++ linkBytes (ls.take 0)) hown4 (vals_append _ _).symm rfl (by rw [HD1.out]; simp [linkBytes]))
    clear hown4 hg4 hle4
    go_loopw [3, 4] (fun z i wr => ∃ k ln : Nat, k ≤ n ∧ i = .int .i64 k ∧ ln = 10 + 5 * k ∧ wr.ownsRow (w.heap.size + 1) 5 1 z ln (vals (headBytes o' s' n ++ linkBytes (ls.take k))) ∧ Blk wr w.heap.size 50 #[.int .i64 (o' : Nat), .int .i64 (s' : Nat), .slice A n c] ∧ Below w.heap.size w wr) (fun _ i _ => n - (intOf i).toNat)
    case atStart => exact ⟨0, _, Nat.zero_le _, rfl, rfl, HO4.out, K4.out, HB4.out⟩
    case round =>
      obtain ⟨k, ln, hk, rfl, hln', hown, hbk, hbw⟩ := hrel
      obtain ⟨A5, c5, rfl⟩ := own_form hown
      obtain ⟨q0, q1, q2, q3⟩ := blk_cells3 hbk
      have HOW := Lib.hid hown; clear hown
      have HBK := Lib.hid hbk; clear hbk
      have HBW := Lib.hid hbw; clear hbw
      by_cases hlt : k < n
      · obtain ⟨b, off, rfl, hb, hc⟩ := lks_at HS.out (by omega)
        obtain ⟨c0', c1'⟩ := hc k hlt
        have hsucc := linkBytes_succ ls k (by have := HL.out; omega)
        have hmem : ls.getD k (0, 0) ∈ ls := by
          simp only [List.getD, List.getElem?_eq_getElem (show k < ls.length by have := HL.out; omega), Option.getD_some]
          exact List.getElem_mem _
        have hbd := HALL.out _ hmem
        clear hmem hc
        generalize ls.getD k (0, 0) = x at *
        obtain ⟨t, u⟩ := x
        simp only at c0' c1' hbd
        obtain ⟨t', rfl⟩ : ∃ t' : Nat, t = (t' : Int) := ⟨t.toNat, by omega⟩
        obtain ⟨u', rfl⟩ : ∃ u' : Nat, u = (u' : Int) := ⟨u.toNat, by omega⟩
        have HC0 := Lib.hid (fun (W : World) (hW : Below w.heap.size w W) => (hW.cell (p := ⟨b, off + k * 2, none⟩) hb).trans c0')
        have HC1 := Lib.hid (fun (W : World) (hW : Below w.heap.size w W) => (hW.cell (p := ⟨b, off + k * 2 + 1, none⟩) hb).trans c1')
        have d0 := HC0.out _ HBW.out
        have d1 := HC1.out _ HBW.out
        have rn4 := fun (W : World) => ref_num 4 u' W (by omega) (by omega)
        have e4 : ((4 : Nat) : Int) = 4 := rfl
        rewrite [e4] at rn4
        have RN4 := Lib.hid rn4; clear rn4 e4
        have w4' : IntKind.u8.wrap (t' : Int) = (t' : Int) := by rw [IntKind.wrap_u8]; omega
        have w5' : IntKind.u64.wrap (u' : Int) = (u' : Int) := by rw [IntKind.wrap_u64]; omega
        have htb : t' < 256 := by omega
        have hfin : headBytes o' s' n ++ linkBytes (ls.take k) ++ [t'] ++ be 4 u' = headBytes o' s' n ++ linkBytes (ls.take (k + 1)) := by
          rw [hsucc, lkBytes, Int.toNat_natCast, Int.toNat_natCast, be_one htb]
          simp
        generalize headBytes o' s' n ++ linkBytes (ls.take k) = ys at *
        have HFIN := Lib.hid hfin; clear hfin hsucc c0' c1'
        have hln : ln ≤ 100 := by omega
        have HLN := Lib.hid hln'; clear hln'
        have hws := HBK.out.lt
        have hk0 : (0 : Int) ≤ (k : Int) := by omega
        have hk1 : (k : Int) < (n : Int) := by omega
        have hle5 : ∀ q, (Value.slice A5 ln c5).ownBlock = some q → w.heap.size + 1 ≤ q := fun q hq => (HOW.out.lt q hq).1
        have HLE5 := Lib.hid hle5; clear hle5
        go_wp2
        go_region_held3 (fun W => W.cell? ⟨w.heap.size, 2, none⟩ = some (.slice (some ⟨b, off, none⟩) n c) ∧ W.cell? ⟨b, off + k * 2, none⟩ = some (.int .i64 (t' : Nat)) ∧ W.cell? ⟨b, off + k * 2 + 1, none⟩ = some (.int .i64 (u' : Nat)))
          (first
            | with_reducible exact ⟨q2, d0, d1⟩
            | with_reducible exact ⟨r2, r3, r4⟩
            | with_reducible exact ⟨s2, s3, s4⟩
            | with_reducible exact ⟨t2, t3, t4⟩
            | go_keep)
          (first
            | (refine step_append_any _ rfl (.tmp 28) (.tmp 36) 36 rfl (w.heap.size + 1) 5 i0 (.int .u8 0) 1 1 Try.underlying36 HI.out HZ0.out HZ1.out HZ2.out rfl (by decide) (.slice A5 ln c5) ln (vals ys) rfl ((HOW.out.alloc (.cells #[.int .u8 (t' : Nat)] 5)).drew) (wr.heap.size + 1) (some ⟨wr.heap.size, 0, none⟩) 1 1 (vals [t']) rfl ((reads_byte wr wr.heap.size rfl _ t' rfl).drew) (vals_one _) (by unfold maxLen; omega) (by omega) (by simp; omega) ?_; intro v6 w6 hown6 hg6 _; have hb6 := (up1 HBW.out (.cells #[.int .u8 (t' : Nat)] 5)).drew; have HB6 := Lib.hid (hb6.grown hg6 hb6.size (fun q hq => Nat.le_of_succ_le (HLE5.out q hq))); have K6 := Lib.hid (((HBK.out.alloc (.cells #[.int .u8 (t' : Nat)] 5)).drew).grown hg6 (fun e => Nat.lt_irrefl _ (HLE5.out _ e.symm))); have HO6 := Lib.hid (own_fix (n' := ln + 1) (xs := ys ++ [t']) hown6 (vals_append _ _).symm rfl rfl); obtain ⟨A6, c6, rfl⟩ := own_form HO6.out; have r2 := (blk_cells3 K6.out).2.2.1; have r3 := HC0.out _ HB6.out; have r4 := HC1.out _ HB6.out; have hs6 := K6.out.lt; clear hown6 hg6 hb6)
            | (go_at_call 47; refine (RN4.out _).mono ?_; rintro e w7 ⟨v7, rfl, ho7, hb7⟩; obtain ⟨A7, c7, rfl, hr7⟩ := own_reads ho7; have HR7 := Lib.hid hr7; have HB7 := Lib.hid (HB6.out.trans (hb7.mono HB6.out.size)); have K7 := Lib.hid (K6.out.below hb7 hs6); have HO7 := Lib.hid (own_below HO6.out hb7); have s2 := (blk_cells3 K7.out).2.2.1; have s3 := HC0.out _ HB7.out; have s4 := HC1.out _ HB7.out; have hs7 := K7.out.lt; clear ho7 hr7 hb7)
            | (refine step_append_any _ rfl (.tmp 37) (.tmp 45) 36 rfl (w.heap.size + 1) 5 i0 (.int .u8 0) 1 1 Try.underlying36 HI.out HZ0.out HZ1.out HZ2.out rfl (by decide) (.slice A6 (ln + 1) c6) (ln + 1) (vals (ys ++ [t'])) rfl HO7.out w7.heap.size A7 4 c7 (vals (be 4 u')) rfl HR7.out (vals_one _) (by unfold maxLen; omega) (by omega) (by omega) ?_; intro v8 w8 hown8 hg8 _; have HB8 := Lib.hid (HB7.out.grown hg8 HB7.out.size (fun q hq => Nat.le_of_succ_le (HO7.out.lt q hq).1)); have K8 := Lib.hid (K7.out.grown hg8 (fun e => Nat.lt_irrefl _ (HO7.out.lt _ e.symm).1)); have HO8 := Lib.hid (own_fix (n' := 10 + 5 * (k + 1)) hown8 (vals_append _ _).symm (by rw [HLN.out]; omega) HFIN.out); have t2 := (blk_cells3 K8.out).2.2.1; have t3 := HC0.out _ HB8.out; have t4 := HC1.out _ HB8.out; clear hown8 hg8))
        go_wp2
        go_roundw
        case rel => exact ⟨k + 1, _, by omega, by go_num, rfl, HO8.out, K8.out, HB8.out⟩
        case measure => simp [intOf]; omega
      · obtain rfl : k = n := by omega
        subst hln'
        have hfl : headBytes o' s' k ++ linkBytes (ls.take k) = bytesOf o' s' ls := by
          rw [List.take_of_length_le (by have := HL.out; omega)]
          exact HEND.out
        rw [hfl] at HOW
        have HSL := Lib.hid (sl_own HOW.out (bytesOf_lt _ _ _) (by omega))
        clear hfl
        go_wp2
        go_ret
        exact ⟨_, rfl, HSL.out, HBW.out⟩
end Go.Proofs.Ytcojimbnenibnaa.Lsa
/- Which Lsa any bytes begin with, by the reference (layer 9). -/
namespace Go.Proofs.Ytcojimbnenibnaa.Lsa
open Go.RowKit Go.Proofs.Ytcojimbnenibnaa.Mem Go.Proofs.Ytcojimbnenibnaa.Oct
set_option linter.unusedVariables false
set_option linter.unusedSimpArgs false
theorem num_one (xs : List Nat) (k : Nat) (h : k < xs.length) : num ((xs.drop k).take 1) = xs.getD k 0 := by
  rw [drop_at xs 0 k h]
  simp [num]
theorem many_at {xs : List Nat} (h : 10 ≤ xs.length) : many xs = xs.getD 9 0 := num_one xs 9 (by omega)
theorem ori_at {xs : List Nat} (h : 10 ≤ xs.length) : (lsaAt xs).1 = ((xs.getD 0 0 : Nat) : Int) := by
  have := num_one xs 0 (by omega)
  rw [List.drop_zero] at this
  rw [lsaAt, this]
theorem lkAt_at {xs : List Nat} {k : Nat} (h : 15 + 5 * k ≤ xs.length) : lkAt (xs.drop 10) k = (((xs.getD (10 + 5 * k) 0 : Nat) : Int), ((num ((xs.drop (11 + 5 * k)).take 4) : Nat) : Int)) := by
  rw [lkAt, List.drop_drop, List.drop_drop, num_one xs (10 + 5 * k) (by omega), show 10 + (5 * k + 1) = 11 + 5 * k by omega]
theorem range_snoc (f : Nat → Lk) (k : Nat) : (List.range (k + 1)).map f = (List.range k).map f ++ [f k] := by
  rw [List.range_succ, List.map_append]
  rfl
def RReadOut (w : World) (l : Int × Int × List Lk) (N : Nat) (e : Ending) (w' : World) : Prop :=
  ∃ v, e = .returned (.tuple #[lsaV l.1 l.2.1 v, .int .i64 (N : Nat)]) ∧ Lks w' w'.heap.size v l.2.2 ∧ Below w.heap.size w w'
/-- the same, its links in a row of the call's own -/
def RReadOwn (w : World) (l : Int × Int × List Lk) (N : Nat) (e : Ending) (w' : World) : Prop :=
  ∃ v, e = .returned (.tuple #[lsaV l.1 l.2.1 v, .int .i64 (N : Nat)]) ∧ (∃ n, w'.ownsRow w.heap.size 99 2 v n (lkCells l.2.2)) ∧ Below w.heap.size w w'
set_option maxRecDepth 20000 in
set_option maxHeartbeats 4000000 in
theorem rread_short (A : Option Addr) (n c : Nat) (xs : List Nat) (w : World) (h : Bts w w.heap.size A n xs) (hs : n < 10 ∨ n < 10 + 5 * many xs) :
    Calls Try.prog 50 #[.slice A n c] w (RReadOwn w (0, 0, []) 0) := by
  have hl := h.1
  have hn := h.2.2.1
  have hb1 := up1 (Below.refl w.heap.size w) (.cells #[.int .i64 0, .int .i64 0, .slice none 0 0] 50)
  have k0 := Blk.new w 50 #[.int .i64 0, .int .i64 0, .slice none 0 0]
  have HB1 := Lib.hid hb1; clear hb1
  by_cases h10 : n < 10
  · have hd : decide ((n : Int) < 10) = true := by simp; omega
    clear hs
    go_enter Try.func50, Try.ntmps50
    go_wp2
    exact bodyPost_ret (v := .tuple #[lsaV 0 0 (.slice none 0 0), .int .i64 0]) (by simp [results, Try.results50, go_sem]) rfl ⟨_, rfl, ⟨0, own_none _ _⟩, HB1.out⟩
  · have hd : decide ((n : Int) < 10) = false := by simp; omega
    have hm := many_at (xs := xs) (by omega)
    obtain ⟨b, off, rfl, hb, hc⟩ := h.2.2.2 (by omega)
    have c9 := (HB1.out.cell (p := ⟨b, off + 9, none⟩) hb).trans (hc 9 (by omega))
    have hlt := getD_lt h.2.1 9
    rw [hm] at hs
    generalize xs.getD 9 0 = m at *
    have hd2 : decide ((n : Int) < 10 + 5 * (m : Int)) = true := by simp; omega
    have h9 : 9 < n := by omega
    clear hs hc hm
    go_enter Try.func50, Try.ntmps50
    go_wp2
    exact bodyPost_ret (v := .tuple #[lsaV 0 0 (.slice none 0 0), .int .i64 0]) (by simp [results, Try.results50, go_sem]) rfl ⟨_, rfl, ⟨0, own_none _ _⟩, HB1.out⟩
theorem rread_num (A : Option Addr) (n c : Nat) (xs : List Nat) (at_ k : Nat) (K : Int) (hK : K = (k : Int)) (W : World) (h : Sl W W.heap.size (.slice A n c) xs) (hk : at_ + k ≤ xs.length) (h1 : 1 ≤ k) (h8 : k ≤ 8) :
    Calls Try.prog 49 #[.agg #[.slice A n c, .int .i64 (at_ : Nat), .bool false], .int .i64 K] W fun e w' => ∃ r0 r1 r2, e = .returned (.tuple #[.agg #[.slice A n c, .int .i64 r1, .bool r2], .int .u64 ((num ((xs.drop at_).take k) : Nat) : Int)]) ∧ r0 = 0 ∧ Below W.heap.size W w' := by
  refine (refread_any (.slice A n c) xs at_ true K W h (by omega)).mono ?_
  rintro e w' ⟨at', h1', h2', rfl, h3'⟩
  have e1 := rnum_at (xs := xs.drop at_) (K := K) (k := k) hK (by rw [List.length_drop]; omega) h1 h8
  rw [e1]
  exact ⟨0, _, _, rfl, rfl, h3'⟩
set_option maxRecDepth 20000 in
set_option maxHeartbeats 16000000 in
theorem rread_long (A : Option Addr) (n c : Nat) (xs : List Nat) (w : World) (h : Sl w w.heap.size (.slice A n c) xs) (h10 : 10 ≤ n) (hs : 10 + 5 * many xs ≤ n) :
    Calls Try.prog 50 #[.slice A n c] w (RReadOwn w (if isAt xs = true then lsaAt xs else (0, 0, [])) (if isAt xs = true then 10 + 5 * many xs else 0)) := by
  have hbt : Bts w w.heap.size A n xs := by
    obtain ⟨A', n', c', e, hb, _⟩ := h
    injection e with e1 e2 e3
    subst e1 e2 e3
    exact hb
  have hl := hbt.1
  have hn := hbt.2.2.1
  obtain ⟨i0, hi, hz0, hz1, hz2⟩ := info_parts info_link
  have HI := Lib.hid hi; clear hi
  have HZ0 := Lib.hid hz0; clear hz0
  have HZ1 := Lib.hid hz1; clear hz1
  have HZ2 := Lib.hid hz2; clear hz2
  have hb1 := up1 (Below.refl w.heap.size w) (.cells #[.int .i64 0, .int .i64 0, .slice none 0 0] 50)
  have k0 := Blk.new w 50 #[.int .i64 0, .int .i64 0, .slice none 0 0]
  obtain ⟨b, off, rfl, hb, hc⟩ := hbt.2.2.2 (by omega)
  have hcx := fun (W : World) (hW : Below w.heap.size w W) (i : Nat) (hi : i < n) => (hW.cell (p := ⟨b, off + i, none⟩) hb).trans (hc i hi)
  have hd : decide ((n : Int) < 10) = false := by simp; omega
  have hm := many_at (xs := xs) (by omega)
  have ho := ori_at (xs := xs) (by omega)
  have hlt := getD_lt hbt.2.1 9
  have hlt0 := getD_lt hbt.2.1 0
  have hsq : (lsaAt xs).2.1 = sgn (num ((xs.drop 1).take 8)) := rfl
  have hN8 : num ((xs.drop 1).take 8) < 18446744073709551616 := by
    have h1 := num_lt ((xs.drop 1).take 8) (take_lt (drop_lt hbt.2.1 1) 8)
    have h2 : ((xs.drop 1).take 8).length ≤ 8 := by rw [List.length_take]; omega
    exact Nat.lt_of_lt_of_le h1 (Nat.pow_le_pow_right (by decide) h2)
  have hN4 : ∀ k, num ((xs.drop (11 + 5 * k)).take 4) < 4294967296 := fun k => by
    have h1 := num_lt ((xs.drop (11 + 5 * k)).take 4) (take_lt (drop_lt hbt.2.1 _) 4)
    have h2 : ((xs.drop (11 + 5 * k)).take 4).length ≤ 4 := by rw [List.length_take]; omega
    exact Nat.lt_of_lt_of_le h1 (Nat.pow_le_pow_right (by decide) h2)
  have hxb := fun k => getD_lt hbt.2.1 (10 + 5 * k)
  have hlk := fun (k : Nat) (hk : 15 + 5 * k ≤ n) => lkAt_at (xs := xs) (k := k) (by omega)
  have r8 := fun (W : World) (hW : Below w.heap.size w W) => rread_num (some ⟨b, off, none⟩) n c xs 1 8 8 rfl W (sl_up h hW) (by omega) (by omega) (by omega)
  have e1 : ((1 : Nat) : Int) = 1 := rfl
  rw [e1] at r8
  have r4 := fun (W : World) (hW : Below w.heap.size w W) (k : Nat) (hk : 15 + 5 * k ≤ n) => rread_num (some ⟨b, off, none⟩) n c xs (11 + 5 * k) 4 4 rfl W (sl_up h hW) (by omega) (by omega) (by omega)
  have hw8 := sgn_wrap hN8
  rw [← hsq] at hw8
  have hla : (lsaAt xs).2.2 = (List.range (many xs)).map (lkAt (xs.drop 10)) := rfl
  have hia : isAt xs = may (lsaAt xs).1 (lsaAt xs).2.1 (lsaAt xs).2.2 := by simp [isAt, hl, h10, hs]
  have hpr : lsaAt xs = ((lsaAt xs).1, (lsaAt xs).2.1, (lsaAt xs).2.2) := rfl
  rw [hia]
  generalize lsaAt xs = LS at *
  obtain ⟨o, sq, lks⟩ := LS
  simp only at ho hsq hla hw8 ⊢
  rw [hm] at hs hla ⊢
  generalize num ((xs.drop 1).take 8) = N8 at *
  generalize hm9 : xs.getD 9 0 = m at *
  generalize ho0 : xs.getD 0 0 = o0 at *
  have hd2 : decide ((n : Int) < 10 + 5 * (m : Int)) = false := by simp; omega
  have h9 : 9 < n := by omega
  have h00 : 0 < n := by omega
  subst ho
  have c9 := fun W hW => hcx W hW 9 h9
  have c00 := fun W hW => hcx W hW 0 h00
  rw [hm9] at c9
  rw [ho0] at c00
  simp only [Nat.add_zero] at c00
  have d9 := c9 _ hb1
  have HC9 := Lib.hid c9; clear c9
  have HC0 := Lib.hid c00; clear c00
  have HCX := Lib.hid hcx; clear hcx
  have HB1 := Lib.hid hb1; clear hb1
  have K0 := Lib.hid k0; clear k0
  have R8 := Lib.hid r8; clear r8
  have R4 := Lib.hid r4; clear r4
  have HLK := Lib.hid hlk; clear hlk
  have HN4 := Lib.hid hN4; clear hN4
  have HXB := Lib.hid hxb; clear hxb
  have HLA := Lib.hid hla; clear hla
  clear hm9 ho0 hia hpr hsq hm hc h hbt e1
  have HL := Lib.hid hl; clear hl
  have HSS := Lib.hid hs; clear hs
  have HN8 := Lib.hid hN8; clear hN8
  have my := fun (A : Option Addr) (c : Nat) (W : World) (hL : Lks W W.heap.size (.slice A m c) lks) => may_any (o0 : Int) sq A m c lks W hL
  generalize may (o0 : Int) sq lks = mb at *
  have MY := Lib.hid my; clear my
  obtain ⟨L0, hL0⟩ : ∃ L0 : Int × Int × List Lk, L0 = (if mb = true then ((o0 : Int), sq, lks) else (0, 0, [])) := ⟨_, rfl⟩
  obtain ⟨N0, hN0⟩ : ∃ N0 : Nat, N0 = (if mb = true then 10 + 5 * m else 0) := ⟨_, rfl⟩
  rw [← hL0, ← hN0]
  have HL0 := Lib.hid hL0; clear hL0
  have HN0 := Lib.hid hN0; clear hN0
  go_enter Try.func50, Try.ntmps50
  go_wp2_with (go_at_call 49; refine (R8.out _ HB1.out).mono ?_; rintro e w2 ⟨r0, r1, r2, rfl, hr0, hb2⟩; have HB2 := Lib.hid (HB1.out.trans (hb2.mono HB1.out.size)); have K2 := Lib.hid (K0.out.below hb2 K0.out.lt); have f0 := HC0.out _ (up1 HB2.out (.cells #[.slice (some ⟨b, off, none⟩) n c, .int .i64 r1, .bool r2] 81)); clear hb2 hr0)
  go_loopw [7] (fun i wr => ∃ (k : Nat) (vk : Value), k ≤ m ∧ i = .int .i64 k ∧ wr.ownsRow (w2.heap.size + 2) 99 2 vk k (lkCells ((List.range k).map (lkAt (xs.drop 10)))) ∧ Blk wr (w2.heap.size + 1) 50 #[.int .i64 (o0 : Nat), .int .i64 sq, vk] ∧ Blk wr w.heap.size 50 #[.int .i64 0, .int .i64 0, .slice none 0 0] ∧ Below w.heap.size w wr) (fun i _ => m - (intOf i).toNat)
  case atStart =>
    refine ⟨0, .slice none 0 0, Nat.zero_le _, rfl, own_none _ _, ?_, (K2.out.alloc _).alloc _, up1 (up1 HB2.out _) _⟩
    have := Blk.new (w2.alloc (.cells #[.slice (some ⟨b, off, none⟩) n c, .int .i64 r1, .bool r2] 81)) 50 #[.int .i64 (o0 : Nat), .int .i64 sq, .slice none 0 0]
    simpa using this
  case round =>
    obtain ⟨k, vk, hk, rfl, hown, hbl, hbz, hbw⟩ := hrel
    obtain ⟨A5, c5, rfl⟩ := own_form hown
    have g9 := HC9.out _ hbw
    have hsz := K2.out.lt
    by_cases hlt : k < m
    · have hss := HSS.out
      have hc10 := fun W (hW : Below w.heap.size w W) => HCX.out W hW (10 + 5 * k) (by omega)
      have q4 := R4.out wr hbw k (by omega)
      have ec : ((11 + 5 * k : Nat) : Int) = 11 + 5 * (k : Int) := by omega
      rewrite [ec] at q4
      have hlk := HLK.out k (by omega)
      have hb4 := HN4.out k
      have hb8 := HXB.out k
      generalize xs.getD (10 + 5 * k) 0 = t0 at *
      generalize num ((xs.drop (11 + 5 * k)).take 4) = N4 at *
      have hnext : lkCells ((List.range k).map (lkAt (xs.drop 10))) ++ lkCells [((t0 : Nat), (N4 : Nat))] = lkCells ((List.range (k + 1)).map (lkAt (xs.drop 10))) := by
        rw [range_snoc, lkCells_app, hlk]
      have HNEXT := Lib.hid hnext; clear hnext hlk ec
      generalize (List.range k).map (lkAt (xs.drop 10)) = l0 at *
      have HC10 := Lib.hid hc10; clear hc10
      have Q4 := Lib.hid q4; clear q4
      have HOW := Lib.hid hown; clear hown
      have HBL := Lib.hid hbl; clear hbl
      have HBZ0 := Lib.hid hbz; clear hbz
      have HBW := Lib.hid hbw; clear hbw
      have hk9 : k ≤ 255 := by omega
      have hi1 : (10 : Int) + 5 * (k : Int) < (n : Int) := by omega
      have hi0 : (0 : Int) ≤ 10 + 5 * (k : Int) := by omega
      have hws := HBL.out.lt
      go_wp2_with (go_at_call 49; refine (Q4.out).mono ?_; rintro e w3 ⟨r0', r3, r4, rfl, hr0', hb3⟩; have HB3 := Lib.hid (up1 (HBW.out.trans (hb3.mono HBW.out.size)) (.cells #[.slice (some ⟨b, off, none⟩) n c, .int .i64 r3, .bool r4] 81)); have HL3 := Lib.hid ((HBL.out.below hb3 hws).alloc (.cells #[.slice (some ⟨b, off, none⟩) n c, .int .i64 r3, .bool r4] 81)); have HZ3 := Lib.hid ((HBZ0.out.below hb3 (by omega)).alloc (.cells #[.slice (some ⟨b, off, none⟩) n c, .int .i64 r3, .bool r4] 81)); have HO3 := Lib.hid ((own_below HOW.out hb3).alloc (.cells #[.slice (some ⟨b, off, none⟩) n c, .int .i64 r3, .bool r4] 81)); clear hb3 hr0')
      generalize w3.alloc (.cells #[.slice (some ⟨b, off, none⟩) n c, .int .i64 r3, .bool r4] 81) = wz at *
      have x2 := (blk_cells3 HL3.out).2.2.1
      have x3 := (blk_cells3 (HL3.out.alloc (.cells #[.int .i64 (t0 : Nat), .int .i64 (N4 : Nat)] 99))).2.2.1
      have x4 := HC10.out _ HB3.out
      have x5 := HC10.out _ (up1 HB3.out (.cells #[.int .i64 (t0 : Nat), .int .i64 (N4 : Nat)] 99))
      have hws3 := HL3.out.lt
      have e0 : (10 + 5 * (k : Int)).toNat = 10 + 5 * k := by omega
      have e1 : IntKind.i64.wrap (5 * (k : Int)) = 5 * (k : Int) := IntWalk.i64_in _ (by omega)
      have e2 : IntKind.i64.wrap (10 + 5 * (k : Int)) = 10 + 5 * (k : Int) := IntWalk.i64_in _ (by omega)
      have e3 : IntKind.i64.wrap (N4 : Int) = (N4 : Int) := IntWalk.i64_in _ (by omega)
      have e4 : IntKind.i64.wrap (t0 : Int) = (t0 : Int) := IntWalk.i64_in _ (by omega)
      go_region_law (refine step_append_any _ rfl (.tmp 56) (.tmp 67) 48 rfl (w2.heap.size + 2) 99 i0 (.agg #[.int .i64 0, .int .i64 0]) 2 16 Try.underlying48 HI.out HZ0.out HZ1.out HZ2.out rfl (by decide) (.slice A5 k c5) k (lkCells l0) rfl ((HO3.out.alloc (.cells #[.int .i64 (t0 : Nat), .int .i64 (N4 : Nat)] 99)).drew) (wz.heap.size + 1) (some ⟨wz.heap.size, 0, none⟩) 1 1 (lkCells [((t0 : Nat), (N4 : Nat))]) rfl ((reads_link wz _ _ _ rfl).drew) (lkCells_one' _) (by unfold maxLen; omega) (by omega) (by simp; omega) ?_; intro v6 w6 hown6 hg6 _; obtain ⟨A6, c6, rfl⟩ := own_form hown6; have hl6 := ((HL3.out.alloc (.cells #[.int .i64 (t0 : Nat), .int .i64 (N4 : Nat)] 99)).drew).grown hg6 (fun e => by have := ((HO3.out.alloc (.cells #[.int .i64 (t0 : Nat), .int .i64 (N4 : Nat)] 99)).lt _ e.symm).1; omega); have y2 := (blk_cells3 hl6).2.2.1; have y3 := (blk_fz3 hl6).2.2; have y4 := hl6.lt; have HL6 := Lib.hid hl6; have HZ6 := Lib.hid (((HZ3.out.alloc (.cells #[.int .i64 (t0 : Nat), .int .i64 (N4 : Nat)] 99)).drew).grown hg6 (fun e => by have := ((HO3.out.alloc (.cells #[.int .i64 (t0 : Nat), .int .i64 (N4 : Nat)] 99)).lt _ e.symm).1; omega)); have HB6 := Lib.hid (((up1 HB3.out (.cells #[.int .i64 (t0 : Nat), .int .i64 (N4 : Nat)] 99)).drew).grown hg6 (up1 HB3.out (.cells #[.int .i64 (t0 : Nat), .int .i64 (N4 : Nat)] 99)).size (fun q hq => by have := ((HO3.out.alloc (.cells #[.int .i64 (t0 : Nat), .int .i64 (N4 : Nat)] 99)).lt q hq).1; omega)); have HO6 := Lib.hid hown6; clear hown6 hg6 hl6)
      all_goals
        go_wp2
        go_roundw
        case rel =>
          refine ⟨k + 1, .slice A6 (k + 1) c6, hlt, by go_num, ?_, ?_, ?_, ?_⟩
          · exact ownsRow_setCell_below (a := ⟨w2.heap.size + 1, 2, none⟩) (HNEXT.out ▸ HO6.out) (Nat.lt_succ_self _) _
          · have := HL6.out.set_ 2 (.slice A6 (k + 1) c6)
            simpa using this
          · exact HZ6.out.far (p := ⟨w2.heap.size + 1, 2, none⟩) (Nat.ne_of_lt (Nat.lt_succ_of_lt hsz)) _
          · exact HB6.out.setCell (Nat.le_of_lt (Nat.lt_succ_of_lt hsz)) _
        case measure => simp [intOf]; omega
    · obtain rfl : k = m := by omega
      have hlw := lks_own hown
      rw [← HLA.out] at hlw
      obtain ⟨x0, x1, x2, x3⟩ := blk_cells3 hbl
      have m0 := MY.out A5 c5 wr hlw
      have HLW := Lib.hid hlw; clear hlw
      have M0 := Lib.hid m0; clear m0
      have HOW := Lib.hid hown; clear hown
      have HBL := Lib.hid hbl; clear hbl
      have HBZ0 := Lib.hid hbz; clear hbz
      have HBW := Lib.hid hbw; clear hbw
      cases mb
      · have hl0 := HL0.out
        have hn0 := HN0.out
        rw [if_neg (by simp)] at hl0 hn0
        subst hl0 hn0
        go_wp2_with (go_at_call 30; refine (M0.out).mono ?_; rintro e w7 ⟨rfl, hb7⟩; have HB7 := Lib.hid (HBW.out.trans (hb7.mono HBW.out.size)); have HZ7 := Lib.hid (HBZ0.out.below hb7 HBZ0.out.lt); obtain ⟨z0, z1, z2, z3⟩ := blk_cells3 HZ7.out; obtain ⟨f0', f1, f2⟩ := blk_fz3 HZ7.out; clear hb7)
        refine bodyPost_ret (v := .tuple #[lsaV 0 0 (.slice none 0 0), .int .i64 0]) ?_ rfl ⟨.slice none 0 0, rfl, ⟨0, own_none _ _⟩, upd3_below (g := w.heap.size) HB7.out (Nat.le_refl _)⟩
        simp [results, Try.results50, go_sem, z0, z1, z2, z3]
      · have hl0 := HL0.out
        have hn0 := HN0.out
        rw [if_pos rfl] at hl0 hn0
        subst hl0 hn0
        have hne1 : w.heap.size ≠ w2.heap.size + 1 := by omega
        have hne2 : b ≠ w.heap.size := by omega
        have hne3 : w.heap.size ≠ b := by omega
        have hmm : k ≤ 255 := by omega
        have e1 : IntKind.i64.wrap (5 * (k : Int)) = 5 * (k : Int) := IntWalk.i64_in _ (by omega)
        have e2 : IntKind.i64.wrap (10 + 5 * (k : Int)) = 10 + 5 * (k : Int) := IntWalk.i64_in _ (by omega)
        have e4 : IntKind.i64.wrap (k : Int) = (k : Int) := IntWalk.i64_in _ (by omega)
        have h90 : (9 : Int) < (n : Int) := by omega
        go_wp2_with (go_at_call 30; refine (M0.out).mono ?_; rintro e w7 ⟨rfl, hb7⟩; have HB7 := Lib.hid (HBW.out.trans (hb7.mono HBW.out.size)); have HZ7 := Lib.hid (HBZ0.out.below hb7 HBZ0.out.lt); have HL7 := Lib.hid (HBL.out.below hb7 HBL.out.lt); have HO7 := Lib.hid (own_below HOW.out hb7); obtain ⟨z0, z1, z2, z3⟩ := blk_cells3 HZ7.out; obtain ⟨f0', f1, f2⟩ := blk_fz3 HZ7.out; obtain ⟨y0, y1, y2, y3⟩ := blk_cells3 HL7.out; have y9 := HC9.out _ HB7.out; clear hb7)
        go_region_held3 (fun W => W.cell? ⟨w2.heap.size + 1, 0, none⟩ = some (.int .i64 (o0 : Nat)) ∧ W.cell? ⟨w2.heap.size + 1, 1, none⟩ = some (.int .i64 sq) ∧ W.cell? ⟨w2.heap.size + 1, 2, none⟩ = some (.slice A5 k c5) ∧ W.cell? ⟨b, off + 9, none⟩ = some (.int .u8 (k : Nat)))
          (first
            | with_reducible exact ⟨y0, y1, y2, y9⟩
            | go_keep
            | (refine ⟨by simp [*], by simp [*], by simp [*], ?_⟩; exact HC9.out _ (Below.drew (upd3_below (g := w.heap.size) HB7.out (Nat.le_refl _)))))
          (fail)
        all_goals
          go_wp2
          have ho7 : w7.ownsRow (w2.heap.size + 2) 99 2 (.slice A5 k c5) k (lkCells lks) := by rw [HLA.out]; exact HO7.out
          refine bodyPost_ret (v := .tuple #[lsaV (o0 : Nat) sq (.slice A5 k c5), .int .i64 ((10 + 5 * k : Nat) : Int)]) ?_ rfl ?_
          · simp [results, Try.results50, go_sem, z0, z1, z2, z3]
          · first
              | exact ⟨_, rfl, ⟨k, own_mono (World.ownsRow.drew (upd3_own (g := w.heap.size) ho7 (by omega))) (by omega)⟩, Below.drew (upd3_below (g := w.heap.size) HB7.out (Nat.le_refl _))⟩
              | exact ⟨_, rfl, ⟨k, own_mono (upd3_own (g := w.heap.size) (World.ownsRow.drew ho7) (by omega)) (by omega)⟩, upd3_below (g := w.heap.size) (Below.drew HB7.out) (Nat.le_refl _)⟩
/-- which Lsa any bytes begin with -/
theorem rread_own (A : Option Addr) (n c : Nat) (xs : List Nat) (w : World) (h : Sl w w.heap.size (.slice A n c) xs) :
    Calls Try.prog 50 #[.slice A n c] w (RReadOwn w (if isAt xs = true then lsaAt xs else (0, 0, [])) (if isAt xs = true then 10 + 5 * many xs else 0)) := by
  have hbt : Bts w w.heap.size A n xs := by
    obtain ⟨A', n', c', e, hb, _⟩ := h
    injection e with e1 e2 e3
    subst e1 e2 e3
    exact hb
  have hl := hbt.1
  by_cases hs : n < 10 ∨ n < 10 + 5 * many xs
  · have hi : isAt xs = false := by
      simp only [isAt, Bool.and_eq_false_iff, decide_eq_false_iff_not]
      rcases hs with h | h
      · exact .inl (by omega)
      · exact .inr (.inl (by omega))
    rw [hi, if_neg (by simp), if_neg (by simp)]
    exact rread_short A n c xs w hbt hs
  · exact rread_long A n c xs w h (by omega) (by omega)
theorem rread_any (A : Option Addr) (n c : Nat) (xs : List Nat) (w : World) (h : Sl w w.heap.size (.slice A n c) xs) :
    Calls Try.prog 50 #[.slice A n c] w (RReadOut w (if isAt xs = true then lsaAt xs else (0, 0, [])) (if isAt xs = true then 10 + 5 * many xs else 0)) := by
  refine (rread_own A n c xs w h).mono ?_
  rintro e w' ⟨v, he, ⟨n, ho⟩, h1⟩
  exact ⟨v, he, lks_own ho, h1⟩
end Go.Proofs.Ytcojimbnenibnaa.Lsa
/- The reference Same of layer 1: whether two slices of bytes hold the same. Condition: at most 1000000 bytes each. -/
namespace Go.Proofs.Ytcojimbnenibnaa.Mem
open Go.RowKit
theorem getD_of_ne {xs ys : List Nat} (hl : xs.length = ys.length) (h : xs ≠ ys) : ∃ d, d < xs.length ∧ xs.getD d 0 ≠ ys.getD d 0 ∧ ∀ j, j < d → xs.getD j 0 = ys.getD j 0 := by
  induction xs generalizing ys with
  | nil =>
    have : ys = [] := List.eq_nil_of_length_eq_zero (by simpa using hl.symm)
    exact absurd this.symm h
  | cons x xs ih =>
    rcases ys with _ | ⟨y, ys⟩
    · simp at hl
    · by_cases e : x = y
      · subst e
        obtain ⟨d, h1, h2, h3⟩ := ih (by simpa using hl) (fun e => h (by rw [e]))
        refine ⟨d + 1, by simp; omega, by simpa using h2, ?_⟩
        intro j hj
        rcases j with _ | j
        · simp
        · simpa using h3 j (by omega)
      · exact ⟨0, by simp, by simpa using e, fun j hj => absurd hj (by omega)⟩
set_option maxHeartbeats 400000 in
theorem same_yes (A A' : Option Addr) (n c c' B B' : Nat) (xs : List Nat) (w : World) (h : Bts w B A n xs) (h' : Bts w B' A' n xs) :
    Calls Try.prog 20 #[.slice A n c, .slice A' n c'] w fun e w' => e = .returned (.bool true) ∧ ∃ m, w' = w.drewN m := by
  obtain ⟨hl, _, hn, hA⟩ := h
  obtain ⟨_, _, _, hA'⟩ := h'
  have HL := Lib.hid hl; clear hl
  have HA := Lib.hid hA; clear hA
  have HA' := Lib.hid hA'; clear hA'
  go_enter Try.func20, Try.ntmps20
  go_wp2
  go_loopw [5] (fun i wr => (∃ k : Nat, k ≤ n ∧ i = .int .i64 k) ∧ ∃ m, wr = w.drewN m) (fun i _ => n - (intOf i).toNat)
  case atStart => exact ⟨⟨0, Nat.zero_le _, rfl⟩, 0, rfl⟩
  case round =>
    obtain ⟨⟨k, hk, rfl⟩, m, rfl⟩ := hrel
    by_cases hlt : k < n
    · obtain ⟨b, off, rfl, _, hc⟩ := HA.out (by omega)
      obtain ⟨b', off', rfl, _, hc'⟩ := HA'.out (by omega)
      have g := hc k hlt
      have g' := hc' k hlt
      clear hc hc'
      generalize xs.getD k 0 = q at g g'
      go_wp2
      go_quiet (fail)
      go_wp2
      go_roundw
      case rel => exact ⟨⟨k + 1, by omega, by go_num⟩, _, rfl⟩
      case measure => simp [intOf]; omega
    · go_wp2
      go_ret
      exact ⟨rfl, m, rfl⟩
set_option maxHeartbeats 400000 in
theorem same_len (A A' : Option Addr) (n n' c c' : Nat) (w : World) (h : n ≠ n') :
    Calls Try.prog 20 #[.slice A n c, .slice A' n' c'] w fun e w' => e = .returned (.bool false) ∧ ∃ m, w' = w.drewN m := by
  have hb : ((n : Int) != (n' : Int)) = true := by rw [bne_iff_ne]; omega
  go_enter Try.func20, Try.ntmps20
  go_wp2
  go_ret
  exact ⟨rfl, 0, rfl⟩
set_option maxHeartbeats 400000 in
theorem same_no (A A' : Option Addr) (n c c' B B' : Nat) (xs ys : List Nat) (w : World) (h : Bts w B A n xs) (h' : Bts w B' A' n ys) (hne : xs ≠ ys) :
    Calls Try.prog 20 #[.slice A n c, .slice A' n c'] w fun e w' => e = .returned (.bool false) ∧ ∃ m, w' = w.drewN m := by
  obtain ⟨hl, _, hn, hA⟩ := h
  obtain ⟨hl', _, _, hA'⟩ := h'
  obtain ⟨d, hd, hdn, hde⟩ := getD_of_ne (by omega) hne
  rw [hl] at hd
  have HL := Lib.hid hl; clear hl
  have HL' := Lib.hid hl'; clear hl'
  have HA := Lib.hid hA; clear hA
  have HA' := Lib.hid hA'; clear hA'
  have HD := Lib.hid hdn; clear hdn
  have HE := Lib.hid hde; clear hde
  clear hne
  go_enter Try.func20, Try.ntmps20
  go_wp2
  go_loopw [5] (fun i wr => (∃ k : Nat, k ≤ d ∧ i = .int .i64 k) ∧ ∃ m, wr = w.drewN m) (fun i _ => n - (intOf i).toNat)
  case atStart => exact ⟨⟨0, Nat.zero_le _, rfl⟩, 0, rfl⟩
  case round =>
    obtain ⟨⟨k, hk, rfl⟩, m, rfl⟩ := hrel
    obtain ⟨b, off, rfl, _, hc⟩ := HA.out (by omega)
    obtain ⟨b', off', rfl, _, hc'⟩ := HA'.out (by omega)
    have g := hc k (by omega)
    have g' := hc' k (by omega)
    clear hc hc'
    have hkn : k < n := by omega
    by_cases hlt : k < d
    · have he := HE.out k hlt
      rw [← he] at g'
      clear he
      generalize xs.getD k 0 = q at g g'
      go_wp2
      go_quiet (fail)
      go_wp2
      go_roundw
      case rel => exact ⟨⟨k + 1, by omega, by go_num⟩, _, rfl⟩
      case measure => simp [intOf]; omega
    · obtain rfl : k = d := by omega
      have he := HD.out
      generalize xs.getD k 0 = q at g he
      generalize ys.getD k 0 = q' at g' he
      have hb : ((q : Int) != (q' : Int)) = true := by rw [bne_iff_ne]; omega
      clear he
      go_wp2
      go_quiet (fail)
      go_wp2
      go_ret
      exact ⟨rfl, _, World.drewN_drewN _ _ _⟩
/-- the reference Same: are the bytes the same? -/
theorem rsame_any (A A' : Option Addr) (n n' c c' B B' : Nat) (xs ys : List Nat) (w : World) (h : Bts w B A n xs) (h' : Bts w B' A' n' ys) :
    Calls Try.prog 20 #[.slice A n c, .slice A' n' c'] w fun e w' => e = .returned (.bool (decide (xs = ys))) ∧ ∃ m, w' = w.drewN m := by
  by_cases e : xs = ys
  · subst e
    obtain rfl : n = n' := h.1.symm.trans h'.1
    rw [decide_eq_true rfl]
    exact same_yes A A' n c c' B B' xs w h h'
  · rw [decide_eq_false e]
    by_cases hn : n = n'
    · subst hn
      exact same_no A A' n c c' B B' xs ys w h h' e
    · exact same_len A A' n n' c c' w hn
end Go.Proofs.Ytcojimbnenibnaa.Mem
/- Which states are alike, by the document's own answer (layer 11): waymarkref11.Same. -/
namespace Go.Proofs.Ytcojimbnenibnaa.Bas
open Go.RowKit Go.Proofs.Ytcojimbnenibnaa.Mem Go.Proofs.Ytcojimbnenibnaa.Oct Go.Proofs.Ytcojimbnenibnaa.Lsa Go.Proofs.Ytcojimbnenibnaa.Chg
set_option linter.unusedVariables false
set_option linter.unusedSimpArgs false
set_option maxRecDepth 20000 in
set_option maxHeartbeats 8000000 in
theorem rsame_st (s t : Sta) (dv ev dv' ev' : Value) (w : World) (h : StM w w.heap.size dv ev s) (h' : StM w w.heap.size dv' ev' t) :
    Calls Try.prog 14 #[stV s dv ev, stV t dv' ev'] w fun e w' => e = .returned (.bool (sameS s t)) ∧ Below w.heap.size w w' := by
  obtain ⟨db, up, bo, ep⟩ := s
  obtain ⟨db', up', bo', ep'⟩ := t
  obtain ⟨h1, h2⟩ := h
  obtain ⟨h1', h2'⟩ := h'
  obtain ⟨A1, n1, c1, rfl, hr_⟩ := id h1
  obtain ⟨A2, n2, c2, rfl, hs_⟩ := id h2
  obtain ⟨A3, n3, c3, rfl, ht_⟩ := id h1'
  obtain ⟨A4, n4, c4, rfl, hu_⟩ := id h2'
  clear hr_ hs_ ht_ hu_
  obtain ⟨hl, hnc, hcm, _⟩ := lks_len h2
  obtain ⟨hl', hnc', hcm', _⟩ := lks_len h2'
  unfold maxLen at hcm hcm'
  simp only [stV] at *
  have hb := low2 w (.cells #[.slice A1 n1 c1, .int .i64 up, .int .i64 bo, .slice A2 n2 c2] 25) (.cells #[.slice A3 n3 c3, .int .i64 up', .int .i64 bo', .slice A4 n4 c4] 25)
  have k0 := (Blk.new w 25 #[.slice A1 n1 c1, .int .i64 up, .int .i64 bo, .slice A2 n2 c2]).alloc (.cells #[.slice A3 n3 c3, .int .i64 up', .int .i64 bo', .slice A4 n4 c4] 25)
  have k1 := blk_second w (.cells #[.slice A1 n1 c1, .int .i64 up, .int .i64 bo, .slice A2 n2 c2] 25) 25 #[.slice A3 n3 c3, .int .i64 up', .int .i64 bo', .slice A4 n4 c4]
  have al := rall_db A1 A3 n1 n3 c1 c3 db db' _ (h1.up hb) (h1'.up hb)
  obtain ⟨x0, x1, x2, x3, x4⟩ := blk_cells4 k0
  obtain ⟨y0, y1, y2, y3, y4⟩ := blk_cells4 k1
  have K0 := Lib.hid k0; clear k0
  have K1 := Lib.hid k1; clear k1
  have HB := Lib.hid hb; clear hb
  unfold sameS
  simp only
  cases g1 : (up == up')
  · have b1 : (up != up') = true := by simp [bne, g1]
    clear al
    go_enter Try.func14, Try.ntmps14
    go_wp2
    go_ret
    exact ⟨rfl, HB.out⟩
  have b1 : (up != up') = false := by simp [bne, g1]
  cases g2 : (bo == bo')
  · have b2 : (bo != bo') = true := by simp [bne, g2]
    clear al
    go_enter Try.func14, Try.ntmps14
    go_wp2
    go_ret
    exact ⟨rfl, HB.out⟩
  have b2 : (bo != bo') = false := by simp [bne, g2]
  simp only [Bool.true_and]
  cases g3 : sameDb db db'
  · rw [g3] at al
    have AL := Lib.hid al; clear al
    go_enter Try.func14, Try.ntmps14
    go_wp2_with (go_at_call 31; refine (AL.out).mono ?_; rintro e w3 ⟨rfl, hb3⟩; have HB3 := Lib.hid (low_low HB.out hb3); obtain ⟨z0, z1, z2, z3, z4⟩ := blk_cells4 (K0.out.below hb3 K0.out.lt); obtain ⟨u0, u1, u2, u3, u4⟩ := blk_cells4 (K1.out.below hb3 K1.out.lt); clear hb3)
    go_ret
    exact ⟨rfl, HB3.out⟩
  rw [g3] at al
  have AL := Lib.hid al; clear al
  simp only [Bool.true_and]
  by_cases hn : n2 = n4
  · subst hn
    have hbn : ((n2 : Int) != (n2 : Int)) = false := by simp
    obtain ⟨z, hz⟩ : ∃ z, z = decide (ep = ep') := ⟨_, rfl⟩
    rw [← hz]
    have HZ := Lib.hid hz; clear hz
    have HL := Lib.hid hl; clear hl
    have HL' := Lib.hid hl'; clear hl'
    have HS := Lib.hid h2; clear h2
    have HS' := Lib.hid h2'; clear h2'
    clear h1 h1'
    go_enter Try.func14, Try.ntmps14
    go_wp2_with (go_at_call 31; refine (AL.out).mono ?_; rintro e w3 ⟨rfl, hb3⟩; have HB3 := Lib.hid (low_low HB.out hb3); have Q0 := Lib.hid (K0.out.below hb3 K0.out.lt); have Q1 := Lib.hid (K1.out.below hb3 K1.out.lt); obtain ⟨z0, z1, z2, z3, z4⟩ := blk_cells4 Q0.out; obtain ⟨u0, u1, u2, u3, u4⟩ := blk_cells4 Q1.out; clear hb3)
    go_loopw [5] (fun i wr => ∃ k : Nat, k ≤ n2 ∧ i = .int .i64 k ∧ Hid (z = decide (ep.drop k = ep'.drop k)) ∧ Hid (∃ m, wr = w3.drewN m)) (fun i _ => n2 - (intOf i).toNat)
    case atStart => exact ⟨0, Nat.zero_le _, rfl, HZ, Lib.hid ⟨0, rfl⟩⟩
    case round =>
      obtain ⟨k, hk, rfl, HZ2, HW⟩ := hrel
      obtain ⟨m, rfl⟩ := HW.out
      clear HW
      by_cases hlt : k < n2
      · obtain ⟨b, off, rfl, hb, hc⟩ := lks_at HS.out (by omega)
        obtain ⟨b', off', rfl, hb', hc'⟩ := lks_at HS'.out (by omega)
        obtain ⟨c0, c1⟩ := hc k hlt
        obtain ⟨d0, d1⟩ := hc' k hlt
        replace c0 := (HB3.out.cell (p := ⟨b, off + k * 2, none⟩) hb).trans c0
        replace c1 := (HB3.out.cell (p := ⟨b, off + k * 2 + 1, none⟩) hb).trans c1
        replace d0 := (HB3.out.cell (p := ⟨b', off' + k * 2, none⟩) hb').trans d0
        replace d1 := (HB3.out.cell (p := ⟨b', off' + k * 2 + 1, none⟩) hb').trans d1
        have hz := HZ2.out
        rw [drop_at ep (0, 0) k (by have := HL.out; omega), drop_at ep' (0, 0) k (by have := HL'.out; omega)] at hz
        clear hc hc'
        generalize ep.getD k (0, 0) = x at *
        generalize ep'.getD k (0, 0) = y at *
        obtain ⟨t, u⟩ := x
        obtain ⟨t', u'⟩ := y
        simp only at c0 c1 d0 d1
        by_cases e1 : t = t'
        · subst e1
          by_cases e2 : u = u'
          · subst e2
            rw [dec_cons] at hz
            have HZ3 := Lib.hid hz; clear hz
            go_wp2
            go_quiet (fail)
            go_wp2
            go_roundw
            case rel => exact ⟨k + 1, by omega, by go_num, HZ3, Lib.hid ⟨_, rfl⟩⟩
            case measure => simp [intOf]; omega
          · rw [dec_ne (fun e => e2 (by injection e))] at hz
            have HZ3 := Lib.hid hz; clear hz
            go_wp2
            go_quiet (fail)
            go_wp2
            go_ret
            exact ⟨ret_bool HZ3.out.symm, below_drewN (below_drewN HB3.out _) _⟩
        · rw [dec_ne (fun e => e1 (by injection e))] at hz
          have HZ3 := Lib.hid hz; clear hz
          go_wp2
          go_quiet (fail)
          go_wp2
          go_ret
          exact ⟨ret_bool HZ3.out.symm, below_drewN (below_drewN HB3.out _) _⟩
      · obtain rfl : k = n2 := by omega
        have hz := HZ2.out
        rw [List.drop_eq_nil_of_le (by have := HL.out; omega), List.drop_eq_nil_of_le (by have := HL'.out; omega)] at hz
        have HZ3 := Lib.hid hz; clear hz
        go_wp2
        go_ret
        exact ⟨ret_bool (by simp [HZ3.out]), below_drewN HB3.out _⟩
  · have hbn : ((n2 : Int) != (n4 : Int)) = true := by rw [bne_iff_ne]; omega
    have hd : decide (ep = ep') = false := decide_eq_false (fun e => hn (by rw [← hl, ← hl', e]))
    rw [hd]
    go_enter Try.func14, Try.ntmps14
    go_wp2_with (go_at_call 31; refine (AL.out).mono ?_; rintro e w3 ⟨rfl, hb3⟩; have HB3 := Lib.hid (low_low HB.out hb3); obtain ⟨z0, z1, z2, z3, z4⟩ := blk_cells4 (K0.out.below hb3 K0.out.lt); obtain ⟨u0, u1, u2, u3, u4⟩ := blk_cells4 (K1.out.below hb3 K1.out.lt); clear hb3)
    go_ret
    exact ⟨rfl, HB3.out⟩
end Go.Proofs.Ytcojimbnenibnaa.Bas
/- Which states there may be, by the document's own answer (layer 11): waymarkref11.May. -/
namespace Go.Proofs.Ytcojimbnenibnaa.Bas
open Go.RowKit Go.Shelf Go.Proofs.Ytcojimbnenibnaa.Mem Go.Proofs.Ytcojimbnenibnaa.Oct Go.Proofs.Ytcojimbnenibnaa.Lsa Go.Proofs.Ytcojimbnenibnaa.Chg
set_option linter.unusedVariables false
set_option linter.unusedSimpArgs false
theorem mayS_split (db : List La) (up bo : Int) (ep : List (Int × Int)) : mayS ⟨db, up, bo, ep⟩ = (dbOk 0 db && (epOk 0 ep && (decide (0 ≤ up) && (decide (up ≤ 4611686018427387904) && (decide (0 ≤ bo) && decide (bo ≤ 1073741824)))))) := rfl
theorem dbOk_at (db : List La) (k : Nat) (h : k < db.length) : dbOk (lastO db k) (db.drop k) = (laOk (db.getD k zeroL) && (decide (lastO db k < (db.getD k zeroL).o) && dbOk (lastO db (k + 1)) (db.drop (k + 1)))) := by
  rw [dbOk_step _ db k h, lastO_succ]
set_option maxRecDepth 100000 in
set_option maxHeartbeats 8000000 in
theorem rmay_st (s : Sta) (dv ev : Value) (w : World) (h : StM w w.heap.size dv ev s) :
    Calls Try.prog 13 #[stV s dv ev] w fun e w' => e = .returned (.bool (mayS s)) ∧ Below w.heap.size w w' := by
  obtain ⟨db, up, bo, ep⟩ := s
  obtain ⟨h1, h2⟩ := h
  obtain ⟨A, n, c, rfl, hr_⟩ := id h1
  obtain ⟨A', n', c', rfl, hs_⟩ := id h2
  clear hr_ hs_
  obtain ⟨hl, hnc, hcm, _⟩ := las_len h1
  obtain ⟨hl', hnc', hcm', _⟩ := lks_len h2
  unfold maxLen at hcm hcm'
  simp only [stV] at *
  rw [mayS_split]
  have hb := low1 (Below.refl w.heap.size w) (.cells #[.slice A n c, .int .i64 up, .int .i64 bo, .slice A' n' c'] 25)
  have k0 := Blk.new w 25 #[.slice A n c, .int .i64 up, .int .i64 bo, .slice A' n' c']
  have HEN := Lib.hid (enters_of Try.func30 (by kernel_rfl) rfl)
  have HL := Lib.hid hl; clear hl
  have HL' := Lib.hid hl'; clear hl'
  have HS := Lib.hid h1; clear h1
  have HS' := Lib.hid h2; clear h2
  have HB := Lib.hid hb; clear hb
  have K0 := Lib.hid k0; clear k0
  go_enter Try.func13, Try.ntmps13
  go_wp2
  go_loopw [3] (fun i wr => ∃ (k : Nat), k ≤ n ∧ i = .int .i64 k ∧ Hid (dbOk 0 db = dbOk (lastO db k) (db.drop k)) ∧ Hid (Blk wr w.heap.size 25 #[.slice A n c, .int .i64 up, .int .i64 bo, .slice A' n' c']) ∧ Hid (Below w.heap.size w wr)) (fun i _ => n - (intOf i).toNat)
  case atStart => exact ⟨0, Nat.zero_le _, rfl, Lib.hid rfl, K0, HB⟩
  case round =>
    clear K0 HB
    obtain ⟨k, hk, rfl, HOK, K0, HB⟩ := hrel
    obtain ⟨x0, x1, x2, x3, x4⟩ := blk_cells4 K0.out
    have hws := HB.out.size
    by_cases hlt : k < n
    · obtain ⟨b, off, rfl, hb, hc⟩ := las_at HS.out (by omega)
      obtain ⟨u, hr, hk2⟩ := hc k hlt
      have hbw : b < wr.heap.size := by omega
      have c0 := (HB.out.cell (p := ⟨b, off + k * 3 + 0, none⟩) hb).trans (hr 0 _ rfl)
      have c1 := (HB.out.cell (p := ⟨b, off + k * 3 + 1, none⟩) hb).trans (hr 1 _ rfl)
      have c2_ := (HB.out.cell (p := ⟨b, off + k * 3 + 2, none⟩) hb).trans (hr 2 _ rfl)
      rw [Nat.add_zero] at c0
      have cp : 0 < k → wr.cell? ⟨b, off + (k - 1) * 3, none⟩ = some (.int .i64 (lastO db k)) := fun h0 => by
        obtain ⟨u', hr', _⟩ := hc (k - 1) (by omega)
        rw [lastO, if_neg (by omega)]
        exact (HB.out.cell (p := ⟨b, off + (k - 1) * 3 + 0, none⟩) hb).trans (hr' 0 _ rfl)
      have hok := HOK.out
      rw [dbOk_at db k (by have := HL.out; omega)] at hok
      have h00 : k = 0 → lastO db k = 0 := fun e => by rw [lastO, if_pos e]
      clear hc hr
      generalize db.getD k zeroL = y at *
      obtain ⟨yo, ys, yl⟩ := y
      obtain ⟨Au, nu, cu, rfl, hq_⟩ := id hk2
      clear hq_
      simp only at c0 c1 c2_ hok hk2
      generalize lastO db k = last at *
      have my := may_any yo ys Au nu cu yl wr.drew ((hk2.below HB.out (Nat.le_refl _)).more hws)
      have hlo : laOk ⟨yo, ys, yl⟩ = may yo ys yl := rfl
      rw [hlo] at hok
      clear hk2 hlo HOK
      cases hm : may yo ys yl
      · rw [hm] at my hok
        have MY := Lib.hid my; clear my
        have HOK2 := Lib.hid hok; clear hok h00 cp
        go_wp2_with (fail)
        refine wp_region_held_drew (S := fun W => W.cell? ⟨w.heap.size, 0, none⟩ = some (.slice (some ⟨b, off, none⟩) n c) ∧ W.cell? ⟨b, off + k * 3, none⟩ = some (.int .i64 yo) ∧ W.cell? ⟨b, off + k * 3 + 1, none⟩ = some (.int .i64 ys) ∧ W.cell? ⟨b, off + k * 3 + 2, none⟩ = some (.slice Au nu cu)) (by kernel_rfl) ?_ (fun hHeld => ?_)
        · exact ⟨x0, c0, c1, c2_⟩
        refine wpAnyH_take (i := 0) (oi := ⟨some 13, _, _, _, _, _⟩) (v := ?_) rfl (by kernel_rfl) (by kernel_rfl) (by kernel_rfl) (fun _ _ _ h => h) (Or.inl ⟨by rfl, ?_⟩) (by assumption) ?_
        rotate_left
        · (intro w hSw; (try dsimp only at hSw); go_simp; try with_reducible rfl)
        try simp only [Act.put, List.setIfInBounds_toArray, List.set_cons_zero, List.set_cons_succ]
        refine wpAnyH_take (i := 1) (oi := ⟨some 14, _, _, _, _, _⟩) (v := ?_) rfl (by kernel_rfl) (by kernel_rfl) (by kernel_rfl) (fun _ _ _ h => h) (Or.inl ⟨by rfl, ?_⟩) (by assumption) ?_
        rotate_left
        · (intro w hSw; (try dsimp only at hSw); go_simp; try with_reducible rfl)
        try simp only [Act.put, List.setIfInBounds_toArray, List.set_cons_zero, List.set_cons_succ]
        refine wpAnyH_take (i := 2) (oi := ⟨some 15, _, _, _, _, _⟩) (v := ?_) rfl (by kernel_rfl) (by kernel_rfl) (by kernel_rfl) (fun _ _ _ h => h) (Or.inl ⟨by rfl, ?_⟩) (by assumption) ?_
        rotate_left
        · (intro w hSw; (try dsimp only at hSw); go_simp; try with_reducible rfl)
        try simp only [Act.put, List.setIfInBounds_toArray, List.set_cons_zero, List.set_cons_succ]
        refine wpAnyH_take (i := 3) (oi := ⟨some 16, _, _, _, _, _⟩) (v := ?_) rfl (by kernel_rfl) (by kernel_rfl) (by kernel_rfl) (fun _ _ _ h => h) (Or.inl ⟨by rfl, ?_⟩) (by assumption) ?_
        rotate_left
        · (intro w hSw; (try dsimp only at hSw); go_simp; try with_reducible rfl)
        try simp only [Act.put, List.setIfInBounds_toArray, List.set_cons_zero, List.set_cons_succ]
        refine wpAnyH_take (i := 4) (oi := ⟨some 17, _, _, _, _, _⟩) (v := ?_) rfl (by kernel_rfl) (by kernel_rfl) (by kernel_rfl) (fun _ _ _ h => h) (Or.inl ⟨by rfl, ?_⟩) (by assumption) ?_
        rotate_left
        · (intro w hSw; (try dsimp only at hSw); go_simp; try with_reducible rfl)
        try simp only [Act.put, List.setIfInBounds_toArray, List.set_cons_zero, List.set_cons_succ]
        refine wpAnyH_ready (rs := [5]) (by kernel_rfl) (by simp) (AllReadyH.cons (o := ⟨some 18, _, _, _, _, _⟩) rfl (fun K hK => ?_) AllReadyH.nil)
        go_simp
        (go_at_call 30; refine (MY.out).mono ?_; rintro e w3 ⟨rfl, hb3⟩; have hb3 : Below wr.heap.size wr w3 := ⟨hb3.os, hb3.tape, hb3.output, hb3.size, hb3.block⟩; have HB3 := Lib.hid (low_low HB.out hb3); have K3 := Lib.hid (K0.out.below hb3 K0.out.lt); obtain ⟨z0, z1, z2, z3, z4⟩ := blk_cells4 K3.out; have d0 := (hb3.cell (p := ⟨b, off + k * 3, none⟩) hbw).trans c0; have d1 := (hb3.cell (p := ⟨b, off + k * 3 + 1, none⟩) hbw).trans c1; have d2 := (hb3.cell (p := ⟨b, off + k * 3 + 2, none⟩) hbw).trans c2_; clear hb3)
        refine hK.out _ _ ?_ (fun hHeld => ?_)
        · exact ⟨z0, d0, d1, d2⟩
        clear hK K
        try simp only [Act.put, List.setIfInBounds_toArray, List.set_cons_zero, List.set_cons_succ]
        refine wpAnyH_take (i := 6) (oi := ⟨some 19, _, _, _, _, _⟩) (v := ?_) rfl (by kernel_rfl) (by kernel_rfl) (by kernel_rfl) (fun _ _ _ h => h) (Or.inl ⟨by rfl, ?_⟩) (by assumption) ?_
        rotate_left
        · (intro w hSw; (try dsimp only at hSw); go_simp; try with_reducible rfl)
        try simp only [Act.put, List.setIfInBounds_toArray, List.set_cons_zero, List.set_cons_succ]
        refine wpAnyH_take (i := 7) (oi := ⟨some 20, _, _, _, _, _⟩) (v := ?_) rfl (by kernel_rfl) (by kernel_rfl) (by kernel_rfl) (fun _ _ _ h => h) (Or.inl ⟨by rfl, ?_⟩) (by assumption) ?_
        rotate_left
        · (intro w hSw; (try dsimp only at hSw); go_simp; try with_reducible rfl)
        try simp only [Act.put, List.setIfInBounds_toArray, List.set_cons_zero, List.set_cons_succ]
        refine wpAnyH_take (i := 8) (oi := ⟨some 21, _, _, _, _, _⟩) (v := undef) rfl (by kernel_rfl) (by kernel_rfl) (by kernel_rfl) (fun _ _ _ h => h) (Or.inr ⟨by rfl, rfl⟩) (by assumption) ?_
        try simp only [Act.put, List.setIfInBounds_toArray, List.set_cons_zero, List.set_cons_succ]
        refine wpAnyH_take (i := 9) (oi := ⟨some 22, _, _, _, _, _⟩) (v := undef) rfl (by kernel_rfl) (by kernel_rfl) (by kernel_rfl) (fun _ _ _ h => h) (Or.inr ⟨by rfl, rfl⟩) (by assumption) ?_
        try simp only [Act.put, List.setIfInBounds_toArray, List.set_cons_zero, List.set_cons_succ]
        refine wpAnyH_take (i := 10) (oi := ⟨some 23, _, _, _, _, _⟩) (v := undef) rfl (by kernel_rfl) (by kernel_rfl) (by kernel_rfl) (fun _ _ _ h => h) (Or.inr ⟨by rfl, rfl⟩) (by assumption) ?_
        try simp only [Act.put, List.setIfInBounds_toArray, List.set_cons_zero, List.set_cons_succ]
        refine wpAnyH_take (i := 11) (oi := ⟨some 24, _, _, _, _, _⟩) (v := undef) rfl (by kernel_rfl) (by kernel_rfl) (by kernel_rfl) (fun _ _ _ h => h) (Or.inr ⟨by rfl, rfl⟩) (by assumption) ?_
        try simp only [Act.put, List.setIfInBounds_toArray, List.set_cons_zero, List.set_cons_succ]
        refine wpAnyH_take (i := 12) (oi := ⟨some 25, _, _, _, _, _⟩) (v := undef) rfl (by kernel_rfl) (by kernel_rfl) (by kernel_rfl) (fun _ _ _ h => h) (Or.inr ⟨by rfl, rfl⟩) (by assumption) ?_
        try simp only [Act.put, List.setIfInBounds_toArray, List.set_cons_zero, List.set_cons_succ]
        refine wpAnyH_take (i := 13) (oi := ⟨some 26, _, _, _, _, _⟩) (v := undef) rfl (by kernel_rfl) (by kernel_rfl) (by kernel_rfl) (fun _ _ _ h => h) (Or.inr ⟨by rfl, rfl⟩) (by assumption) ?_
        try simp only [Act.put, List.setIfInBounds_toArray, List.set_cons_zero, List.set_cons_succ]
        refine wpAnyH_take (i := 14) (oi := ⟨some 27, _, _, _, _, _⟩) (v := undef) rfl (by kernel_rfl) (by kernel_rfl) (by kernel_rfl) (fun _ _ _ h => h) (Or.inr ⟨by rfl, rfl⟩) (by assumption) ?_
        try simp only [Act.put, List.setIfInBounds_toArray, List.set_cons_zero, List.set_cons_succ]
        refine wpAnyH_take (i := 15) (oi := ⟨some 28, _, _, _, _, _⟩) (v := undef) rfl (by kernel_rfl) (by kernel_rfl) (by kernel_rfl) (fun _ _ _ h => h) (Or.inr ⟨by rfl, rfl⟩) (by assumption) ?_
        try simp only [Act.put, List.setIfInBounds_toArray, List.set_cons_zero, List.set_cons_succ]
        refine wpAnyH_take (i := 16) (oi := ⟨some 29, _, _, _, _, _⟩) (v := undef) rfl (by kernel_rfl) (by kernel_rfl) (by kernel_rfl) (fun _ _ _ h => h) (Or.inr ⟨by rfl, rfl⟩) (by assumption) ?_
        try simp only [Act.put, List.setIfInBounds_toArray, List.set_cons_zero, List.set_cons_succ]
        refine wpAnyH_take (i := 17) (oi := ⟨some 30, _, _, _, _, _⟩) (v := undef) rfl (by kernel_rfl) (by kernel_rfl) (by kernel_rfl) (fun _ _ _ h => h) (Or.inr ⟨by rfl, rfl⟩) (by assumption) ?_
        try simp only [Act.put, List.setIfInBounds_toArray, List.set_cons_zero, List.set_cons_succ]
        refine wpAnyH_take (i := 18) (oi := ⟨some 31, _, _, _, _, _⟩) (v := undef) rfl (by kernel_rfl) (by kernel_rfl) (by kernel_rfl) (fun _ _ _ h => h) (Or.inr ⟨by rfl, rfl⟩) (by assumption) ?_
        try simp only [Act.put, List.setIfInBounds_toArray, List.set_cons_zero, List.set_cons_succ]
        refine wpAnyH_take (i := 19) (oi := ⟨some 32, _, _, _, _, _⟩) (v := undef) rfl (by kernel_rfl) (by kernel_rfl) (by kernel_rfl) (fun _ _ _ h => h) (Or.inr ⟨by rfl, rfl⟩) (by assumption) ?_
        try simp only [Act.put, List.setIfInBounds_toArray, List.set_cons_zero, List.set_cons_succ]
        refine wpAnyH_take (i := 20) (oi := ⟨some 33, _, _, _, _, _⟩) (v := undef) rfl (by kernel_rfl) (by kernel_rfl) (by kernel_rfl) (fun _ _ _ h => h) (Or.inr ⟨by rfl, rfl⟩) (by assumption) ?_
        try simp only [Act.put, List.setIfInBounds_toArray, List.set_cons_zero, List.set_cons_succ]
        refine wpAnyH_take (i := 21) (oi := ⟨some 34, _, _, _, _, _⟩) (v := undef) rfl (by kernel_rfl) (by kernel_rfl) (by kernel_rfl) (fun _ _ _ h => h) (Or.inr ⟨by rfl, rfl⟩) (by assumption) ?_
        try simp only [Act.put, List.setIfInBounds_toArray, List.set_cons_zero, List.set_cons_succ]
        refine wpAnyH_take (i := 22) (oi := ⟨some 35, _, _, _, _, _⟩) (v := undef) rfl (by kernel_rfl) (by kernel_rfl) (by kernel_rfl) (fun _ _ _ h => h) (Or.inr ⟨by rfl, rfl⟩) (by assumption) ?_
        try simp only [Act.put, List.setIfInBounds_toArray, List.set_cons_zero, List.set_cons_succ]
        refine wpAnyH_take (i := 23) (oi := ⟨some 36, _, _, _, _, _⟩) (v := undef) rfl (by kernel_rfl) (by kernel_rfl) (by kernel_rfl) (fun _ _ _ h => h) (Or.inr ⟨by rfl, rfl⟩) (by assumption) ?_
        try simp only [Act.put, List.setIfInBounds_toArray, List.set_cons_zero, List.set_cons_succ]
        refine wpAnyH_take (i := 24) (oi := ⟨some 37, _, _, _, _, _⟩) (v := undef) rfl (by kernel_rfl) (by kernel_rfl) (by kernel_rfl) (fun _ _ _ h => h) (Or.inr ⟨by rfl, rfl⟩) (by assumption) ?_
        try simp only [Act.put, List.setIfInBounds_toArray, List.set_cons_zero, List.set_cons_succ]
        refine wpAnyH_take (i := 25) (oi := ⟨some 38, _, _, _, _, _⟩) (v := undef) rfl (by kernel_rfl) (by kernel_rfl) (by kernel_rfl) (fun _ _ _ h => h) (Or.inr ⟨by rfl, rfl⟩) (by assumption) ?_
        try simp only [Act.put, List.setIfInBounds_toArray, List.set_cons_zero, List.set_cons_succ]
        refine wpAnyH_take (i := 26) (oi := ⟨some 39, _, _, _, _, _⟩) (v := ?_) rfl (by kernel_rfl) (by kernel_rfl) (by kernel_rfl) (fun _ _ _ h => h) (Or.inl ⟨by rfl, ?_⟩) (by assumption) ?_
        rotate_left
        · (intro w hSw; (try dsimp only at hSw); go_simp; try with_reducible rfl)
        try simp only [Act.put, List.setIfInBounds_toArray, List.set_cons_zero, List.set_cons_succ]
        refine wpAnyH_done (by kernel_rfl) ?_ _
        go_wp2
        go_ret
        exact ⟨ret_bool (by rw [HOK2.out]; rfl), HB3.out⟩
      · rw [hm] at my hok
        have MY := Lib.hid my; clear my
        have hyo := (may_iff.1 hm).1
        by_cases h0 : 0 < k
        · have g0 : decide (0 < k) = true := by simpa using h0
          have g1 : decide ((0 : Int) < (k : Int)) = true := by simpa using h0
          have e1 : ((k : Int) - 1).toNat = k - 1 := by omega
          have e2 : (0 : Int) ≤ (k : Int) - 1 := by omega
          have e3 : IntKind.i64.wrap ((k : Int) - 1) = (k : Int) - 1 := IntWalk.i64_in _ (by omega)
          have e4 : (k : Int) - 1 < (n : Int) := by omega
          have e5 : (1 : Int) ≤ (k : Int) := by omega
          have e6 : 1 ≤ k := h0
          have e7 : (k : Int) ≤ (n : Int) := by omega
          have e8 : ¬ n < k := by omega
          replace cp := cp h0
          cases q6 : decide (yo ≤ last)
          · have hll : decide (last < yo) = true := by rw [decide_eq_true_iff]; rw [decide_eq_false_iff_not] at q6; omega
            rw [hll, Bool.true_and, Bool.true_and] at hok
            have HOK2 := Lib.hid hok; clear hok h00 hll
            go_wp2_with (fail)
            refine wp_region_held_drew (S := fun W => W.cell? ⟨w.heap.size, 0, none⟩ = some (.slice (some ⟨b, off, none⟩) n c) ∧ W.cell? ⟨b, off + k * 3, none⟩ = some (.int .i64 yo) ∧ W.cell? ⟨b, off + k * 3 + 1, none⟩ = some (.int .i64 ys) ∧ W.cell? ⟨b, off + k * 3 + 2, none⟩ = some (.slice Au nu cu) ∧ W.cell? ⟨b, off + (k - 1) * 3, none⟩ = some (.int .i64 last)) (by kernel_rfl) ?_ (fun hHeld => ?_)
            · exact ⟨x0, c0, c1, c2_, cp⟩
            refine wpAnyH_take (i := 0) (oi := ⟨some 13, _, _, _, _, _⟩) (v := ?_) rfl (by kernel_rfl) (by kernel_rfl) (by kernel_rfl) (fun _ _ _ h => h) (Or.inl ⟨by rfl, ?_⟩) (by assumption) ?_
            rotate_left
            · (intro w hSw; (try dsimp only at hSw); go_simp; try with_reducible rfl)
            try simp only [Act.put, List.setIfInBounds_toArray, List.set_cons_zero, List.set_cons_succ]
            refine wpAnyH_take (i := 1) (oi := ⟨some 14, _, _, _, _, _⟩) (v := ?_) rfl (by kernel_rfl) (by kernel_rfl) (by kernel_rfl) (fun _ _ _ h => h) (Or.inl ⟨by rfl, ?_⟩) (by assumption) ?_
            rotate_left
            · (intro w hSw; (try dsimp only at hSw); go_simp; try with_reducible rfl)
            try simp only [Act.put, List.setIfInBounds_toArray, List.set_cons_zero, List.set_cons_succ]
            refine wpAnyH_take (i := 2) (oi := ⟨some 15, _, _, _, _, _⟩) (v := ?_) rfl (by kernel_rfl) (by kernel_rfl) (by kernel_rfl) (fun _ _ _ h => h) (Or.inl ⟨by rfl, ?_⟩) (by assumption) ?_
            rotate_left
            · (intro w hSw; (try dsimp only at hSw); go_simp; try with_reducible rfl)
            try simp only [Act.put, List.setIfInBounds_toArray, List.set_cons_zero, List.set_cons_succ]
            refine wpAnyH_take (i := 3) (oi := ⟨some 16, _, _, _, _, _⟩) (v := ?_) rfl (by kernel_rfl) (by kernel_rfl) (by kernel_rfl) (fun _ _ _ h => h) (Or.inl ⟨by rfl, ?_⟩) (by assumption) ?_
            rotate_left
            · (intro w hSw; (try dsimp only at hSw); go_simp; try with_reducible rfl)
            try simp only [Act.put, List.setIfInBounds_toArray, List.set_cons_zero, List.set_cons_succ]
            refine wpAnyH_take (i := 4) (oi := ⟨some 17, _, _, _, _, _⟩) (v := ?_) rfl (by kernel_rfl) (by kernel_rfl) (by kernel_rfl) (fun _ _ _ h => h) (Or.inl ⟨by rfl, ?_⟩) (by assumption) ?_
            rotate_left
            · (intro w hSw; (try dsimp only at hSw); go_simp; try with_reducible rfl)
            try simp only [Act.put, List.setIfInBounds_toArray, List.set_cons_zero, List.set_cons_succ]
            refine wpAnyH_ready (rs := [5]) (by kernel_rfl) (by simp) (AllReadyH.cons (o := ⟨some 18, _, _, _, _, _⟩) rfl (fun K hK => ?_) AllReadyH.nil)
            go_simp
            (go_at_call 30; refine (MY.out).mono ?_; rintro e w3 ⟨rfl, hb3⟩; have hb3 : Below wr.heap.size wr w3 := ⟨hb3.os, hb3.tape, hb3.output, hb3.size, hb3.block⟩; have HB3 := Lib.hid (low_low HB.out hb3); have K3 := Lib.hid (K0.out.below hb3 K0.out.lt); obtain ⟨z0, z1, z2, z3, z4⟩ := blk_cells4 K3.out; have d0 := (hb3.cell (p := ⟨b, off + k * 3, none⟩) hbw).trans c0; have d1 := (hb3.cell (p := ⟨b, off + k * 3 + 1, none⟩) hbw).trans c1; have d2 := (hb3.cell (p := ⟨b, off + k * 3 + 2, none⟩) hbw).trans c2_; have d3 := (hb3.cell (p := ⟨b, off + (k - 1) * 3, none⟩) hbw).trans cp; clear hb3)
            refine hK.out _ _ ?_ (fun hHeld => ?_)
            · exact ⟨z0, d0, d1, d2, d3⟩
            clear hK K
            try simp only [Act.put, List.setIfInBounds_toArray, List.set_cons_zero, List.set_cons_succ]
            refine wpAnyH_take (i := 6) (oi := ⟨some 19, _, _, _, _, _⟩) (v := ?_) rfl (by kernel_rfl) (by kernel_rfl) (by kernel_rfl) (fun _ _ _ h => h) (Or.inl ⟨by rfl, ?_⟩) (by assumption) ?_
            rotate_left
            · (intro w hSw; (try dsimp only at hSw); go_simp; try with_reducible rfl)
            try simp only [Act.put, List.setIfInBounds_toArray, List.set_cons_zero, List.set_cons_succ]
            refine wpAnyH_take (i := 7) (oi := ⟨some 20, _, _, _, _, _⟩) (v := ?_) rfl (by kernel_rfl) (by kernel_rfl) (by kernel_rfl) (fun _ _ _ h => h) (Or.inl ⟨by rfl, ?_⟩) (by assumption) ?_
            rotate_left
            · (intro w hSw; (try dsimp only at hSw); go_simp; try with_reducible rfl)
            try simp only [Act.put, List.setIfInBounds_toArray, List.set_cons_zero, List.set_cons_succ]
            refine wpAnyH_take (i := 8) (oi := ⟨some 21, _, _, _, _, _⟩) (v := ?_) rfl (by kernel_rfl) (by kernel_rfl) (by kernel_rfl) (fun _ _ _ h => h) (Or.inl ⟨by rfl, ?_⟩) (by assumption) ?_
            rotate_left
            · (intro w hSw; (try dsimp only at hSw); go_simp; try with_reducible rfl)
            try simp only [Act.put, List.setIfInBounds_toArray, List.set_cons_zero, List.set_cons_succ]
            refine wpAnyH_take (i := 9) (oi := ⟨some 22, _, _, _, _, _⟩) (v := ?_) rfl (by kernel_rfl) (by kernel_rfl) (by kernel_rfl) (fun _ _ _ h => h) (Or.inl ⟨by rfl, ?_⟩) (by assumption) ?_
            rotate_left
            · (intro w hSw; (try dsimp only at hSw); go_simp; try with_reducible rfl)
            try simp only [Act.put, List.setIfInBounds_toArray, List.set_cons_zero, List.set_cons_succ]
            refine wpAnyH_take (i := 10) (oi := ⟨some 23, _, _, _, _, _⟩) (v := ?_) rfl (by kernel_rfl) (by kernel_rfl) (by kernel_rfl) (fun _ _ _ h => h) (Or.inl ⟨by rfl, ?_⟩) (by assumption) ?_
            rotate_left
            · (intro w hSw; (try dsimp only at hSw); go_simp; try with_reducible rfl)
            try simp only [Act.put, List.setIfInBounds_toArray, List.set_cons_zero, List.set_cons_succ]
            refine wpAnyH_take (i := 11) (oi := ⟨some 24, _, _, _, _, _⟩) (v := ?_) rfl (by kernel_rfl) (by kernel_rfl) (by kernel_rfl) (fun _ _ _ h => h) (Or.inl ⟨by rfl, ?_⟩) (by assumption) ?_
            rotate_left
            · (intro w hSw; (try dsimp only at hSw); go_simp; try with_reducible rfl)
            try simp only [Act.put, List.setIfInBounds_toArray, List.set_cons_zero, List.set_cons_succ]
            refine wpAnyH_take (i := 12) (oi := ⟨some 25, _, _, _, _, _⟩) (v := ?_) rfl (by kernel_rfl) (by kernel_rfl) (by kernel_rfl) (fun _ _ _ h => h) (Or.inl ⟨by rfl, ?_⟩) (by assumption) ?_
            rotate_left
            · (intro w hSw; (try dsimp only at hSw); go_simp; try with_reducible rfl)
            try simp only [Act.put, List.setIfInBounds_toArray, List.set_cons_zero, List.set_cons_succ]
            refine wpAnyH_take (i := 13) (oi := ⟨some 26, _, _, _, _, _⟩) (v := ?_) rfl (by kernel_rfl) (by kernel_rfl) (by kernel_rfl) (fun _ _ _ h => h) (Or.inl ⟨by rfl, ?_⟩) (by assumption) ?_
            rotate_left
            · (intro w hSw; (try dsimp only at hSw); go_simp; try with_reducible rfl)
            try simp only [Act.put, List.setIfInBounds_toArray, List.set_cons_zero, List.set_cons_succ]
            refine wpAnyH_take (i := 14) (oi := ⟨some 27, _, _, _, _, _⟩) (v := ?_) rfl (by kernel_rfl) (by kernel_rfl) (by kernel_rfl) (fun _ _ _ h => h) (Or.inl ⟨by rfl, ?_⟩) (by assumption) ?_
            rotate_left
            · (intro w hSw; (try dsimp only at hSw); go_simp; try with_reducible rfl)
            try simp only [Act.put, List.setIfInBounds_toArray, List.set_cons_zero, List.set_cons_succ]
            refine wpAnyH_take (i := 15) (oi := ⟨some 28, _, _, _, _, _⟩) (v := ?_) rfl (by kernel_rfl) (by kernel_rfl) (by kernel_rfl) (fun _ _ _ h => h) (Or.inl ⟨by rfl, ?_⟩) (by assumption) ?_
            rotate_left
            · (intro w hSw; (try dsimp only at hSw); go_simp; try with_reducible rfl)
            try simp only [Act.put, List.setIfInBounds_toArray, List.set_cons_zero, List.set_cons_succ]
            refine wpAnyH_take (i := 16) (oi := ⟨some 29, _, _, _, _, _⟩) (v := ?_) rfl (by kernel_rfl) (by kernel_rfl) (by kernel_rfl) (fun _ _ _ h => h) (Or.inl ⟨by rfl, ?_⟩) (by assumption) ?_
            rotate_left
            · (intro w hSw; (try dsimp only at hSw); go_simp; try with_reducible rfl)
            try simp only [Act.put, List.setIfInBounds_toArray, List.set_cons_zero, List.set_cons_succ]
            refine wpAnyH_take (i := 17) (oi := ⟨some 30, _, _, _, _, _⟩) (v := ?_) rfl (by kernel_rfl) (by kernel_rfl) (by kernel_rfl) (fun _ _ _ h => h) (Or.inl ⟨by rfl, ?_⟩) (by assumption) ?_
            rotate_left
            · (intro w hSw; (try dsimp only at hSw); go_simp; try with_reducible rfl)
            try simp only [Act.put, List.setIfInBounds_toArray, List.set_cons_zero, List.set_cons_succ]
            refine wpAnyH_take (i := 18) (oi := ⟨some 31, _, _, _, _, _⟩) (v := ?_) rfl (by kernel_rfl) (by kernel_rfl) (by kernel_rfl) (fun _ _ _ h => h) (Or.inl ⟨by rfl, ?_⟩) (by assumption) ?_
            rotate_left
            · (intro w hSw; (try dsimp only at hSw); go_simp; try with_reducible rfl)
            try simp only [Act.put, List.setIfInBounds_toArray, List.set_cons_zero, List.set_cons_succ]
            refine wpAnyH_take (i := 19) (oi := ⟨some 32, _, _, _, _, _⟩) (v := ?_) rfl (by kernel_rfl) (by kernel_rfl) (by kernel_rfl) (fun _ _ _ h => h) (Or.inl ⟨by rfl, ?_⟩) (by assumption) ?_
            rotate_left
            · (intro w hSw; (try dsimp only at hSw); go_simp; try with_reducible rfl)
            try simp only [Act.put, List.setIfInBounds_toArray, List.set_cons_zero, List.set_cons_succ]
            refine wpAnyH_take (i := 20) (oi := ⟨some 33, _, _, _, _, _⟩) (v := ?_) rfl (by kernel_rfl) (by kernel_rfl) (by kernel_rfl) (fun _ _ _ h => h) (Or.inl ⟨by rfl, ?_⟩) (by assumption) ?_
            rotate_left
            · (intro w hSw; (try dsimp only at hSw); go_simp; try with_reducible rfl)
            try simp only [Act.put, List.setIfInBounds_toArray, List.set_cons_zero, List.set_cons_succ]
            refine wpAnyH_take (i := 21) (oi := ⟨some 34, _, _, _, _, _⟩) (v := ?_) rfl (by kernel_rfl) (by kernel_rfl) (by kernel_rfl) (fun _ _ _ h => h) (Or.inl ⟨by rfl, ?_⟩) (by assumption) ?_
            rotate_left
            · (intro w hSw; (try dsimp only at hSw); go_simp; try with_reducible rfl)
            try simp only [Act.put, List.setIfInBounds_toArray, List.set_cons_zero, List.set_cons_succ]
            refine wpAnyH_take (i := 22) (oi := ⟨some 35, _, _, _, _, _⟩) (v := ?_) rfl (by kernel_rfl) (by kernel_rfl) (by kernel_rfl) (fun _ _ _ h => h) (Or.inl ⟨by rfl, ?_⟩) (by assumption) ?_
            rotate_left
            · (intro w hSw; (try dsimp only at hSw); go_simp; try with_reducible rfl)
            try simp only [Act.put, List.setIfInBounds_toArray, List.set_cons_zero, List.set_cons_succ]
            refine wpAnyH_take (i := 23) (oi := ⟨some 36, _, _, _, _, _⟩) (v := ?_) rfl (by kernel_rfl) (by kernel_rfl) (by kernel_rfl) (fun _ _ _ h => h) (Or.inl ⟨by rfl, ?_⟩) (by assumption) ?_
            rotate_left
            · (intro w hSw; (try dsimp only at hSw); go_simp; try with_reducible rfl)
            try simp only [Act.put, List.setIfInBounds_toArray, List.set_cons_zero, List.set_cons_succ]
            refine wpAnyH_take (i := 24) (oi := ⟨some 37, _, _, _, _, _⟩) (v := ?_) rfl (by kernel_rfl) (by kernel_rfl) (by kernel_rfl) (fun _ _ _ h => h) (Or.inl ⟨by rfl, ?_⟩) (by assumption) ?_
            rotate_left
            · (intro w hSw; (try dsimp only at hSw); go_simp; try with_reducible rfl)
            try simp only [Act.put, List.setIfInBounds_toArray, List.set_cons_zero, List.set_cons_succ]
            refine wpAnyH_take (i := 25) (oi := ⟨some 38, _, _, _, _, _⟩) (v := ?_) rfl (by kernel_rfl) (by kernel_rfl) (by kernel_rfl) (fun _ _ _ h => h) (Or.inl ⟨by rfl, ?_⟩) (by assumption) ?_
            rotate_left
            · (intro w hSw; (try dsimp only at hSw); go_simp; try with_reducible rfl)
            try simp only [Act.put, List.setIfInBounds_toArray, List.set_cons_zero, List.set_cons_succ]
            refine wpAnyH_take (i := 26) (oi := ⟨some 39, _, _, _, _, _⟩) (v := ?_) rfl (by kernel_rfl) (by kernel_rfl) (by kernel_rfl) (fun _ _ _ h => h) (Or.inl ⟨by rfl, ?_⟩) (by assumption) ?_
            rotate_left
            · (intro w hSw; (try dsimp only at hSw); go_simp; try with_reducible rfl)
            try simp only [Act.put, List.setIfInBounds_toArray, List.set_cons_zero, List.set_cons_succ]
            refine wpAnyH_done (by kernel_rfl) ?_ _
            go_wp2
            go_roundw
            case rel => exact ⟨k + 1, by omega, by go_num, HOK2, K3, HB3⟩
            case measure => simp [intOf]; omega
          · have hll : decide (last < yo) = false := by rw [decide_eq_false_iff_not]; rw [decide_eq_true_iff] at q6; omega
            rw [hll] at hok
            have HOK2 := Lib.hid hok; clear hok h00 hll
            go_wp2_with (fail)
            refine wp_region_held_drew (S := fun W => W.cell? ⟨w.heap.size, 0, none⟩ = some (.slice (some ⟨b, off, none⟩) n c) ∧ W.cell? ⟨b, off + k * 3, none⟩ = some (.int .i64 yo) ∧ W.cell? ⟨b, off + k * 3 + 1, none⟩ = some (.int .i64 ys) ∧ W.cell? ⟨b, off + k * 3 + 2, none⟩ = some (.slice Au nu cu) ∧ W.cell? ⟨b, off + (k - 1) * 3, none⟩ = some (.int .i64 last)) (by kernel_rfl) ?_ (fun hHeld => ?_)
            · exact ⟨x0, c0, c1, c2_, cp⟩
            refine wpAnyH_take (i := 0) (oi := ⟨some 13, _, _, _, _, _⟩) (v := ?_) rfl (by kernel_rfl) (by kernel_rfl) (by kernel_rfl) (fun _ _ _ h => h) (Or.inl ⟨by rfl, ?_⟩) (by assumption) ?_
            rotate_left
            · (intro w hSw; (try dsimp only at hSw); go_simp; try with_reducible rfl)
            try simp only [Act.put, List.setIfInBounds_toArray, List.set_cons_zero, List.set_cons_succ]
            refine wpAnyH_take (i := 1) (oi := ⟨some 14, _, _, _, _, _⟩) (v := ?_) rfl (by kernel_rfl) (by kernel_rfl) (by kernel_rfl) (fun _ _ _ h => h) (Or.inl ⟨by rfl, ?_⟩) (by assumption) ?_
            rotate_left
            · (intro w hSw; (try dsimp only at hSw); go_simp; try with_reducible rfl)
            try simp only [Act.put, List.setIfInBounds_toArray, List.set_cons_zero, List.set_cons_succ]
            refine wpAnyH_take (i := 2) (oi := ⟨some 15, _, _, _, _, _⟩) (v := ?_) rfl (by kernel_rfl) (by kernel_rfl) (by kernel_rfl) (fun _ _ _ h => h) (Or.inl ⟨by rfl, ?_⟩) (by assumption) ?_
            rotate_left
            · (intro w hSw; (try dsimp only at hSw); go_simp; try with_reducible rfl)
            try simp only [Act.put, List.setIfInBounds_toArray, List.set_cons_zero, List.set_cons_succ]
            refine wpAnyH_take (i := 3) (oi := ⟨some 16, _, _, _, _, _⟩) (v := ?_) rfl (by kernel_rfl) (by kernel_rfl) (by kernel_rfl) (fun _ _ _ h => h) (Or.inl ⟨by rfl, ?_⟩) (by assumption) ?_
            rotate_left
            · (intro w hSw; (try dsimp only at hSw); go_simp; try with_reducible rfl)
            try simp only [Act.put, List.setIfInBounds_toArray, List.set_cons_zero, List.set_cons_succ]
            refine wpAnyH_take (i := 4) (oi := ⟨some 17, _, _, _, _, _⟩) (v := ?_) rfl (by kernel_rfl) (by kernel_rfl) (by kernel_rfl) (fun _ _ _ h => h) (Or.inl ⟨by rfl, ?_⟩) (by assumption) ?_
            rotate_left
            · (intro w hSw; (try dsimp only at hSw); go_simp; try with_reducible rfl)
            try simp only [Act.put, List.setIfInBounds_toArray, List.set_cons_zero, List.set_cons_succ]
            refine wpAnyH_ready (rs := [5]) (by kernel_rfl) (by simp) (AllReadyH.cons (o := ⟨some 18, _, _, _, _, _⟩) rfl (fun K hK => ?_) AllReadyH.nil)
            go_simp
            (go_at_call 30; refine (MY.out).mono ?_; rintro e w3 ⟨rfl, hb3⟩; have hb3 : Below wr.heap.size wr w3 := ⟨hb3.os, hb3.tape, hb3.output, hb3.size, hb3.block⟩; have HB3 := Lib.hid (low_low HB.out hb3); have K3 := Lib.hid (K0.out.below hb3 K0.out.lt); obtain ⟨z0, z1, z2, z3, z4⟩ := blk_cells4 K3.out; have d0 := (hb3.cell (p := ⟨b, off + k * 3, none⟩) hbw).trans c0; have d1 := (hb3.cell (p := ⟨b, off + k * 3 + 1, none⟩) hbw).trans c1; have d2 := (hb3.cell (p := ⟨b, off + k * 3 + 2, none⟩) hbw).trans c2_; have d3 := (hb3.cell (p := ⟨b, off + (k - 1) * 3, none⟩) hbw).trans cp; clear hb3)
            refine hK.out _ _ ?_ (fun hHeld => ?_)
            · exact ⟨z0, d0, d1, d2, d3⟩
            clear hK K
            try simp only [Act.put, List.setIfInBounds_toArray, List.set_cons_zero, List.set_cons_succ]
            refine wpAnyH_take (i := 6) (oi := ⟨some 19, _, _, _, _, _⟩) (v := ?_) rfl (by kernel_rfl) (by kernel_rfl) (by kernel_rfl) (fun _ _ _ h => h) (Or.inl ⟨by rfl, ?_⟩) (by assumption) ?_
            rotate_left
            · (intro w hSw; (try dsimp only at hSw); go_simp; try with_reducible rfl)
            try simp only [Act.put, List.setIfInBounds_toArray, List.set_cons_zero, List.set_cons_succ]
            refine wpAnyH_take (i := 7) (oi := ⟨some 20, _, _, _, _, _⟩) (v := ?_) rfl (by kernel_rfl) (by kernel_rfl) (by kernel_rfl) (fun _ _ _ h => h) (Or.inl ⟨by rfl, ?_⟩) (by assumption) ?_
            rotate_left
            · (intro w hSw; (try dsimp only at hSw); go_simp; try with_reducible rfl)
            try simp only [Act.put, List.setIfInBounds_toArray, List.set_cons_zero, List.set_cons_succ]
            refine wpAnyH_take (i := 8) (oi := ⟨some 21, _, _, _, _, _⟩) (v := ?_) rfl (by kernel_rfl) (by kernel_rfl) (by kernel_rfl) (fun _ _ _ h => h) (Or.inl ⟨by rfl, ?_⟩) (by assumption) ?_
            rotate_left
            · (intro w hSw; (try dsimp only at hSw); go_simp; try with_reducible rfl)
            try simp only [Act.put, List.setIfInBounds_toArray, List.set_cons_zero, List.set_cons_succ]
            refine wpAnyH_take (i := 9) (oi := ⟨some 22, _, _, _, _, _⟩) (v := ?_) rfl (by kernel_rfl) (by kernel_rfl) (by kernel_rfl) (fun _ _ _ h => h) (Or.inl ⟨by rfl, ?_⟩) (by assumption) ?_
            rotate_left
            · (intro w hSw; (try dsimp only at hSw); go_simp; try with_reducible rfl)
            try simp only [Act.put, List.setIfInBounds_toArray, List.set_cons_zero, List.set_cons_succ]
            refine wpAnyH_take (i := 10) (oi := ⟨some 23, _, _, _, _, _⟩) (v := ?_) rfl (by kernel_rfl) (by kernel_rfl) (by kernel_rfl) (fun _ _ _ h => h) (Or.inl ⟨by rfl, ?_⟩) (by assumption) ?_
            rotate_left
            · (intro w hSw; (try dsimp only at hSw); go_simp; try with_reducible rfl)
            try simp only [Act.put, List.setIfInBounds_toArray, List.set_cons_zero, List.set_cons_succ]
            refine wpAnyH_take (i := 11) (oi := ⟨some 24, _, _, _, _, _⟩) (v := ?_) rfl (by kernel_rfl) (by kernel_rfl) (by kernel_rfl) (fun _ _ _ h => h) (Or.inl ⟨by rfl, ?_⟩) (by assumption) ?_
            rotate_left
            · (intro w hSw; (try dsimp only at hSw); go_simp; try with_reducible rfl)
            try simp only [Act.put, List.setIfInBounds_toArray, List.set_cons_zero, List.set_cons_succ]
            refine wpAnyH_take (i := 12) (oi := ⟨some 25, _, _, _, _, _⟩) (v := ?_) rfl (by kernel_rfl) (by kernel_rfl) (by kernel_rfl) (fun _ _ _ h => h) (Or.inl ⟨by rfl, ?_⟩) (by assumption) ?_
            rotate_left
            · (intro w hSw; (try dsimp only at hSw); go_simp; try with_reducible rfl)
            try simp only [Act.put, List.setIfInBounds_toArray, List.set_cons_zero, List.set_cons_succ]
            refine wpAnyH_take (i := 13) (oi := ⟨some 26, _, _, _, _, _⟩) (v := ?_) rfl (by kernel_rfl) (by kernel_rfl) (by kernel_rfl) (fun _ _ _ h => h) (Or.inl ⟨by rfl, ?_⟩) (by assumption) ?_
            rotate_left
            · (intro w hSw; (try dsimp only at hSw); go_simp; try with_reducible rfl)
            try simp only [Act.put, List.setIfInBounds_toArray, List.set_cons_zero, List.set_cons_succ]
            refine wpAnyH_take (i := 14) (oi := ⟨some 27, _, _, _, _, _⟩) (v := ?_) rfl (by kernel_rfl) (by kernel_rfl) (by kernel_rfl) (fun _ _ _ h => h) (Or.inl ⟨by rfl, ?_⟩) (by assumption) ?_
            rotate_left
            · (intro w hSw; (try dsimp only at hSw); go_simp; try with_reducible rfl)
            try simp only [Act.put, List.setIfInBounds_toArray, List.set_cons_zero, List.set_cons_succ]
            refine wpAnyH_take (i := 15) (oi := ⟨some 28, _, _, _, _, _⟩) (v := ?_) rfl (by kernel_rfl) (by kernel_rfl) (by kernel_rfl) (fun _ _ _ h => h) (Or.inl ⟨by rfl, ?_⟩) (by assumption) ?_
            rotate_left
            · (intro w hSw; (try dsimp only at hSw); go_simp; try with_reducible rfl)
            try simp only [Act.put, List.setIfInBounds_toArray, List.set_cons_zero, List.set_cons_succ]
            refine wpAnyH_take (i := 16) (oi := ⟨some 29, _, _, _, _, _⟩) (v := ?_) rfl (by kernel_rfl) (by kernel_rfl) (by kernel_rfl) (fun _ _ _ h => h) (Or.inl ⟨by rfl, ?_⟩) (by assumption) ?_
            rotate_left
            · (intro w hSw; (try dsimp only at hSw); go_simp; try with_reducible rfl)
            try simp only [Act.put, List.setIfInBounds_toArray, List.set_cons_zero, List.set_cons_succ]
            refine wpAnyH_take (i := 17) (oi := ⟨some 30, _, _, _, _, _⟩) (v := ?_) rfl (by kernel_rfl) (by kernel_rfl) (by kernel_rfl) (fun _ _ _ h => h) (Or.inl ⟨by rfl, ?_⟩) (by assumption) ?_
            rotate_left
            · (intro w hSw; (try dsimp only at hSw); go_simp; try with_reducible rfl)
            try simp only [Act.put, List.setIfInBounds_toArray, List.set_cons_zero, List.set_cons_succ]
            refine wpAnyH_take (i := 18) (oi := ⟨some 31, _, _, _, _, _⟩) (v := ?_) rfl (by kernel_rfl) (by kernel_rfl) (by kernel_rfl) (fun _ _ _ h => h) (Or.inl ⟨by rfl, ?_⟩) (by assumption) ?_
            rotate_left
            · (intro w hSw; (try dsimp only at hSw); go_simp; try with_reducible rfl)
            try simp only [Act.put, List.setIfInBounds_toArray, List.set_cons_zero, List.set_cons_succ]
            refine wpAnyH_take (i := 19) (oi := ⟨some 32, _, _, _, _, _⟩) (v := ?_) rfl (by kernel_rfl) (by kernel_rfl) (by kernel_rfl) (fun _ _ _ h => h) (Or.inl ⟨by rfl, ?_⟩) (by assumption) ?_
            rotate_left
            · (intro w hSw; (try dsimp only at hSw); go_simp; try with_reducible rfl)
            try simp only [Act.put, List.setIfInBounds_toArray, List.set_cons_zero, List.set_cons_succ]
            refine wpAnyH_take (i := 20) (oi := ⟨some 33, _, _, _, _, _⟩) (v := ?_) rfl (by kernel_rfl) (by kernel_rfl) (by kernel_rfl) (fun _ _ _ h => h) (Or.inl ⟨by rfl, ?_⟩) (by assumption) ?_
            rotate_left
            · (intro w hSw; (try dsimp only at hSw); go_simp; try with_reducible rfl)
            try simp only [Act.put, List.setIfInBounds_toArray, List.set_cons_zero, List.set_cons_succ]
            refine wpAnyH_take (i := 21) (oi := ⟨some 34, _, _, _, _, _⟩) (v := ?_) rfl (by kernel_rfl) (by kernel_rfl) (by kernel_rfl) (fun _ _ _ h => h) (Or.inl ⟨by rfl, ?_⟩) (by assumption) ?_
            rotate_left
            · (intro w hSw; (try dsimp only at hSw); go_simp; try with_reducible rfl)
            try simp only [Act.put, List.setIfInBounds_toArray, List.set_cons_zero, List.set_cons_succ]
            refine wpAnyH_take (i := 22) (oi := ⟨some 35, _, _, _, _, _⟩) (v := ?_) rfl (by kernel_rfl) (by kernel_rfl) (by kernel_rfl) (fun _ _ _ h => h) (Or.inl ⟨by rfl, ?_⟩) (by assumption) ?_
            rotate_left
            · (intro w hSw; (try dsimp only at hSw); go_simp; try with_reducible rfl)
            try simp only [Act.put, List.setIfInBounds_toArray, List.set_cons_zero, List.set_cons_succ]
            refine wpAnyH_take (i := 23) (oi := ⟨some 36, _, _, _, _, _⟩) (v := ?_) rfl (by kernel_rfl) (by kernel_rfl) (by kernel_rfl) (fun _ _ _ h => h) (Or.inl ⟨by rfl, ?_⟩) (by assumption) ?_
            rotate_left
            · (intro w hSw; (try dsimp only at hSw); go_simp; try with_reducible rfl)
            try simp only [Act.put, List.setIfInBounds_toArray, List.set_cons_zero, List.set_cons_succ]
            refine wpAnyH_take (i := 24) (oi := ⟨some 37, _, _, _, _, _⟩) (v := ?_) rfl (by kernel_rfl) (by kernel_rfl) (by kernel_rfl) (fun _ _ _ h => h) (Or.inl ⟨by rfl, ?_⟩) (by assumption) ?_
            rotate_left
            · (intro w hSw; (try dsimp only at hSw); go_simp; try with_reducible rfl)
            try simp only [Act.put, List.setIfInBounds_toArray, List.set_cons_zero, List.set_cons_succ]
            refine wpAnyH_take (i := 25) (oi := ⟨some 38, _, _, _, _, _⟩) (v := ?_) rfl (by kernel_rfl) (by kernel_rfl) (by kernel_rfl) (fun _ _ _ h => h) (Or.inl ⟨by rfl, ?_⟩) (by assumption) ?_
            rotate_left
            · (intro w hSw; (try dsimp only at hSw); go_simp; try with_reducible rfl)
            try simp only [Act.put, List.setIfInBounds_toArray, List.set_cons_zero, List.set_cons_succ]
            refine wpAnyH_take (i := 26) (oi := ⟨some 39, _, _, _, _, _⟩) (v := ?_) rfl (by kernel_rfl) (by kernel_rfl) (by kernel_rfl) (fun _ _ _ h => h) (Or.inl ⟨by rfl, ?_⟩) (by assumption) ?_
            rotate_left
            · (intro w hSw; (try dsimp only at hSw); go_simp; try with_reducible rfl)
            try simp only [Act.put, List.setIfInBounds_toArray, List.set_cons_zero, List.set_cons_succ]
            refine wpAnyH_done (by kernel_rfl) ?_ _
            go_wp2
            go_ret
            exact ⟨ret_bool (by rw [HOK2.out]; rfl), HB3.out⟩
        · have g0 : decide (0 < k) = false := by simpa using h0
          have g1 : decide ((0 : Int) < (k : Int)) = false := by simpa using h0
          have hl0 := h00 (by omega)
          have hll : decide (last < yo) = true := by rw [decide_eq_true_iff]; omega
          rw [hll, Bool.true_and, Bool.true_and] at hok
          have HOK2 := Lib.hid hok; clear hok h00 hll hl0 cp
          go_wp2_with (fail)
          refine wp_region_held_drew (S := fun W => W.cell? ⟨w.heap.size, 0, none⟩ = some (.slice (some ⟨b, off, none⟩) n c) ∧ W.cell? ⟨b, off + k * 3, none⟩ = some (.int .i64 yo) ∧ W.cell? ⟨b, off + k * 3 + 1, none⟩ = some (.int .i64 ys) ∧ W.cell? ⟨b, off + k * 3 + 2, none⟩ = some (.slice Au nu cu)) (by kernel_rfl) ?_ (fun hHeld => ?_)
          · exact ⟨x0, c0, c1, c2_⟩
          refine wpAnyH_take (i := 0) (oi := ⟨some 13, _, _, _, _, _⟩) (v := ?_) rfl (by kernel_rfl) (by kernel_rfl) (by kernel_rfl) (fun _ _ _ h => h) (Or.inl ⟨by rfl, ?_⟩) (by assumption) ?_
          rotate_left
          · (intro w hSw; (try dsimp only at hSw); go_simp; try with_reducible rfl)
          try simp only [Act.put, List.setIfInBounds_toArray, List.set_cons_zero, List.set_cons_succ]
          refine wpAnyH_take (i := 1) (oi := ⟨some 14, _, _, _, _, _⟩) (v := ?_) rfl (by kernel_rfl) (by kernel_rfl) (by kernel_rfl) (fun _ _ _ h => h) (Or.inl ⟨by rfl, ?_⟩) (by assumption) ?_
          rotate_left
          · (intro w hSw; (try dsimp only at hSw); go_simp; try with_reducible rfl)
          try simp only [Act.put, List.setIfInBounds_toArray, List.set_cons_zero, List.set_cons_succ]
          refine wpAnyH_take (i := 2) (oi := ⟨some 15, _, _, _, _, _⟩) (v := ?_) rfl (by kernel_rfl) (by kernel_rfl) (by kernel_rfl) (fun _ _ _ h => h) (Or.inl ⟨by rfl, ?_⟩) (by assumption) ?_
          rotate_left
          · (intro w hSw; (try dsimp only at hSw); go_simp; try with_reducible rfl)
          try simp only [Act.put, List.setIfInBounds_toArray, List.set_cons_zero, List.set_cons_succ]
          refine wpAnyH_take (i := 3) (oi := ⟨some 16, _, _, _, _, _⟩) (v := ?_) rfl (by kernel_rfl) (by kernel_rfl) (by kernel_rfl) (fun _ _ _ h => h) (Or.inl ⟨by rfl, ?_⟩) (by assumption) ?_
          rotate_left
          · (intro w hSw; (try dsimp only at hSw); go_simp; try with_reducible rfl)
          try simp only [Act.put, List.setIfInBounds_toArray, List.set_cons_zero, List.set_cons_succ]
          refine wpAnyH_take (i := 4) (oi := ⟨some 17, _, _, _, _, _⟩) (v := ?_) rfl (by kernel_rfl) (by kernel_rfl) (by kernel_rfl) (fun _ _ _ h => h) (Or.inl ⟨by rfl, ?_⟩) (by assumption) ?_
          rotate_left
          · (intro w hSw; (try dsimp only at hSw); go_simp; try with_reducible rfl)
          try simp only [Act.put, List.setIfInBounds_toArray, List.set_cons_zero, List.set_cons_succ]
          refine wpAnyH_ready (rs := [5]) (by kernel_rfl) (by simp) (AllReadyH.cons (o := ⟨some 18, _, _, _, _, _⟩) rfl (fun K hK => ?_) AllReadyH.nil)
          go_simp
          (go_at_call 30; refine (MY.out).mono ?_; rintro e w3 ⟨rfl, hb3⟩; have hb3 : Below wr.heap.size wr w3 := ⟨hb3.os, hb3.tape, hb3.output, hb3.size, hb3.block⟩; have HB3 := Lib.hid (low_low HB.out hb3); have K3 := Lib.hid (K0.out.below hb3 K0.out.lt); obtain ⟨z0, z1, z2, z3, z4⟩ := blk_cells4 K3.out; have d0 := (hb3.cell (p := ⟨b, off + k * 3, none⟩) hbw).trans c0; have d1 := (hb3.cell (p := ⟨b, off + k * 3 + 1, none⟩) hbw).trans c1; have d2 := (hb3.cell (p := ⟨b, off + k * 3 + 2, none⟩) hbw).trans c2_; clear hb3)
          refine hK.out _ _ ?_ (fun hHeld => ?_)
          · exact ⟨z0, d0, d1, d2⟩
          clear hK K
          try simp only [Act.put, List.setIfInBounds_toArray, List.set_cons_zero, List.set_cons_succ]
          refine wpAnyH_take (i := 6) (oi := ⟨some 19, _, _, _, _, _⟩) (v := ?_) rfl (by kernel_rfl) (by kernel_rfl) (by kernel_rfl) (fun _ _ _ h => h) (Or.inl ⟨by rfl, ?_⟩) (by assumption) ?_
          rotate_left
          · (intro w hSw; (try dsimp only at hSw); go_simp; try with_reducible rfl)
          try simp only [Act.put, List.setIfInBounds_toArray, List.set_cons_zero, List.set_cons_succ]
          refine wpAnyH_take (i := 7) (oi := ⟨some 20, _, _, _, _, _⟩) (v := ?_) rfl (by kernel_rfl) (by kernel_rfl) (by kernel_rfl) (fun _ _ _ h => h) (Or.inl ⟨by rfl, ?_⟩) (by assumption) ?_
          rotate_left
          · (intro w hSw; (try dsimp only at hSw); go_simp; try with_reducible rfl)
          try simp only [Act.put, List.setIfInBounds_toArray, List.set_cons_zero, List.set_cons_succ]
          refine wpAnyH_take (i := 8) (oi := ⟨some 21, _, _, _, _, _⟩) (v := ?_) rfl (by kernel_rfl) (by kernel_rfl) (by kernel_rfl) (fun _ _ _ h => h) (Or.inl ⟨by rfl, ?_⟩) (by assumption) ?_
          rotate_left
          · (intro w hSw; (try dsimp only at hSw); go_simp; try with_reducible rfl)
          try simp only [Act.put, List.setIfInBounds_toArray, List.set_cons_zero, List.set_cons_succ]
          refine wpAnyH_take (i := 9) (oi := ⟨some 22, _, _, _, _, _⟩) (v := ?_) rfl (by kernel_rfl) (by kernel_rfl) (by kernel_rfl) (fun _ _ _ h => h) (Or.inl ⟨by rfl, ?_⟩) (by assumption) ?_
          rotate_left
          · (intro w hSw; (try dsimp only at hSw); go_simp; try with_reducible rfl)
          try simp only [Act.put, List.setIfInBounds_toArray, List.set_cons_zero, List.set_cons_succ]
          refine wpAnyH_take (i := 10) (oi := ⟨some 23, _, _, _, _, _⟩) (v := ?_) rfl (by kernel_rfl) (by kernel_rfl) (by kernel_rfl) (fun _ _ _ h => h) (Or.inl ⟨by rfl, ?_⟩) (by assumption) ?_
          rotate_left
          · (intro w hSw; (try dsimp only at hSw); go_simp; try with_reducible rfl)
          try simp only [Act.put, List.setIfInBounds_toArray, List.set_cons_zero, List.set_cons_succ]
          refine wpAnyH_take (i := 11) (oi := ⟨some 24, _, _, _, _, _⟩) (v := undef) rfl (by kernel_rfl) (by kernel_rfl) (by kernel_rfl) (fun _ _ _ h => h) (Or.inr ⟨by rfl, rfl⟩) (by assumption) ?_
          try simp only [Act.put, List.setIfInBounds_toArray, List.set_cons_zero, List.set_cons_succ]
          refine wpAnyH_take (i := 12) (oi := ⟨some 25, _, _, _, _, _⟩) (v := undef) rfl (by kernel_rfl) (by kernel_rfl) (by kernel_rfl) (fun _ _ _ h => h) (Or.inr ⟨by rfl, rfl⟩) (by assumption) ?_
          try simp only [Act.put, List.setIfInBounds_toArray, List.set_cons_zero, List.set_cons_succ]
          refine wpAnyH_take (i := 13) (oi := ⟨some 26, _, _, _, _, _⟩) (v := undef) rfl (by kernel_rfl) (by kernel_rfl) (by kernel_rfl) (fun _ _ _ h => h) (Or.inr ⟨by rfl, rfl⟩) (by assumption) ?_
          try simp only [Act.put, List.setIfInBounds_toArray, List.set_cons_zero, List.set_cons_succ]
          refine wpAnyH_take (i := 14) (oi := ⟨some 27, _, _, _, _, _⟩) (v := undef) rfl (by kernel_rfl) (by kernel_rfl) (by kernel_rfl) (fun _ _ _ h => h) (Or.inr ⟨by rfl, rfl⟩) (by assumption) ?_
          try simp only [Act.put, List.setIfInBounds_toArray, List.set_cons_zero, List.set_cons_succ]
          refine wpAnyH_take (i := 15) (oi := ⟨some 28, _, _, _, _, _⟩) (v := undef) rfl (by kernel_rfl) (by kernel_rfl) (by kernel_rfl) (fun _ _ _ h => h) (Or.inr ⟨by rfl, rfl⟩) (by assumption) ?_
          try simp only [Act.put, List.setIfInBounds_toArray, List.set_cons_zero, List.set_cons_succ]
          refine wpAnyH_take (i := 16) (oi := ⟨some 29, _, _, _, _, _⟩) (v := undef) rfl (by kernel_rfl) (by kernel_rfl) (by kernel_rfl) (fun _ _ _ h => h) (Or.inr ⟨by rfl, rfl⟩) (by assumption) ?_
          try simp only [Act.put, List.setIfInBounds_toArray, List.set_cons_zero, List.set_cons_succ]
          refine wpAnyH_take (i := 17) (oi := ⟨some 30, _, _, _, _, _⟩) (v := undef) rfl (by kernel_rfl) (by kernel_rfl) (by kernel_rfl) (fun _ _ _ h => h) (Or.inr ⟨by rfl, rfl⟩) (by assumption) ?_
          try simp only [Act.put, List.setIfInBounds_toArray, List.set_cons_zero, List.set_cons_succ]
          refine wpAnyH_take (i := 18) (oi := ⟨some 31, _, _, _, _, _⟩) (v := undef) rfl (by kernel_rfl) (by kernel_rfl) (by kernel_rfl) (fun _ _ _ h => h) (Or.inr ⟨by rfl, rfl⟩) (by assumption) ?_
          try simp only [Act.put, List.setIfInBounds_toArray, List.set_cons_zero, List.set_cons_succ]
          refine wpAnyH_take (i := 19) (oi := ⟨some 32, _, _, _, _, _⟩) (v := undef) rfl (by kernel_rfl) (by kernel_rfl) (by kernel_rfl) (fun _ _ _ h => h) (Or.inr ⟨by rfl, rfl⟩) (by assumption) ?_
          try simp only [Act.put, List.setIfInBounds_toArray, List.set_cons_zero, List.set_cons_succ]
          refine wpAnyH_take (i := 20) (oi := ⟨some 33, _, _, _, _, _⟩) (v := undef) rfl (by kernel_rfl) (by kernel_rfl) (by kernel_rfl) (fun _ _ _ h => h) (Or.inr ⟨by rfl, rfl⟩) (by assumption) ?_
          try simp only [Act.put, List.setIfInBounds_toArray, List.set_cons_zero, List.set_cons_succ]
          refine wpAnyH_take (i := 21) (oi := ⟨some 34, _, _, _, _, _⟩) (v := undef) rfl (by kernel_rfl) (by kernel_rfl) (by kernel_rfl) (fun _ _ _ h => h) (Or.inr ⟨by rfl, rfl⟩) (by assumption) ?_
          try simp only [Act.put, List.setIfInBounds_toArray, List.set_cons_zero, List.set_cons_succ]
          refine wpAnyH_take (i := 22) (oi := ⟨some 35, _, _, _, _, _⟩) (v := undef) rfl (by kernel_rfl) (by kernel_rfl) (by kernel_rfl) (fun _ _ _ h => h) (Or.inr ⟨by rfl, rfl⟩) (by assumption) ?_
          try simp only [Act.put, List.setIfInBounds_toArray, List.set_cons_zero, List.set_cons_succ]
          refine wpAnyH_take (i := 23) (oi := ⟨some 36, _, _, _, _, _⟩) (v := undef) rfl (by kernel_rfl) (by kernel_rfl) (by kernel_rfl) (fun _ _ _ h => h) (Or.inr ⟨by rfl, rfl⟩) (by assumption) ?_
          try simp only [Act.put, List.setIfInBounds_toArray, List.set_cons_zero, List.set_cons_succ]
          refine wpAnyH_take (i := 24) (oi := ⟨some 37, _, _, _, _, _⟩) (v := undef) rfl (by kernel_rfl) (by kernel_rfl) (by kernel_rfl) (fun _ _ _ h => h) (Or.inr ⟨by rfl, rfl⟩) (by assumption) ?_
          try simp only [Act.put, List.setIfInBounds_toArray, List.set_cons_zero, List.set_cons_succ]
          refine wpAnyH_take (i := 25) (oi := ⟨some 38, _, _, _, _, _⟩) (v := ?_) rfl (by kernel_rfl) (by kernel_rfl) (by kernel_rfl) (fun _ _ _ h => h) (Or.inl ⟨by rfl, ?_⟩) (by assumption) ?_
          rotate_left
          · (intro w hSw; (try dsimp only at hSw); go_simp; try with_reducible rfl)
          try simp only [Act.put, List.setIfInBounds_toArray, List.set_cons_zero, List.set_cons_succ]
          refine wpAnyH_take (i := 26) (oi := ⟨some 39, _, _, _, _, _⟩) (v := ?_) rfl (by kernel_rfl) (by kernel_rfl) (by kernel_rfl) (fun _ _ _ h => h) (Or.inl ⟨by rfl, ?_⟩) (by assumption) ?_
          rotate_left
          · (intro w hSw; (try dsimp only at hSw); go_simp; try with_reducible rfl)
          try simp only [Act.put, List.setIfInBounds_toArray, List.set_cons_zero, List.set_cons_succ]
          refine wpAnyH_done (by kernel_rfl) ?_ _
          go_wp2
          go_roundw
          case rel => exact ⟨k + 1, by omega, by go_num, HOK2, K3, HB3⟩
          case measure => simp [intOf]; omega
    · obtain rfl : n = k := by omega
      have hnil : db.drop n = [] := List.drop_eq_nil_of_le (by have := HL.out; omega)
      have hokt : dbOk 0 db = true := by rw [HOK.out, hnil]; rfl
      clear hnil
      have HOKD := Lib.hid hokt; clear hokt HOK
      go_wp2
      obtain ⟨wo, hwo⟩ : ∃ wo : World, wo = wr := ⟨_, rfl⟩
      rw [← hwo] at K0 HB x0 x1 x2 x3 x4 hws ⊢
      clear hwo
      go_loopw [4] (fun i wr => ∃ (k : Nat), k ≤ n' ∧ i = .int .i64 k ∧ Hid (epOk 0 ep = epOk (lastE ep k) (ep.drop k)) ∧ Hid (Blk wr w.heap.size 25 #[.slice A n c, .int .i64 up, .int .i64 bo, .slice A' n' c']) ∧ Hid (Below w.heap.size w wr)) (fun i _ => n' - (intOf i).toNat)
      case atStart => exact ⟨0, Nat.zero_le _, rfl, Lib.hid rfl, K0, HB⟩
      case round =>
        clear K0 HB x0 x1 x2 x3 x4 hws
        obtain ⟨k, hk, rfl, HOK, K0, HB⟩ := hrel
        obtain ⟨x0, x1, x2, x3, x4⟩ := blk_cells4 K0.out
        have hws := HB.out.size
        by_cases hlt : k < n'
        · obtain ⟨b, off, rfl, hb, hc⟩ := lks_at HS'.out (by omega)
          obtain ⟨c0, c1⟩ := hc k hlt
          replace c0 := (HB.out.cell (p := ⟨b, off + k * 2, none⟩) hb).trans c0
          replace c1 := (HB.out.cell (p := ⟨b, off + k * 2 + 1, none⟩) hb).trans c1
          have cp : 0 < k → wr.cell? ⟨b, off + (k - 1) * 2, none⟩ = some (.int .i64 (lastE ep k)) := fun h0 => by
            rw [lastE, if_neg (by omega)]
            exact (HB.out.cell (p := ⟨b, off + (k - 1) * 2, none⟩) hb).trans (hc (k - 1) (by omega)).1
          have hok := HOK.out
          rw [epOk_step _ ep k (by have := HL'.out; omega), ← lastE_succ] at hok
          have h00 : k = 0 → lastE ep k = 0 := fun e => by rw [lastE, if_pos e]
          clear hc HOK
          have hbw : b < wr.heap.size := by omega
          generalize hy : ep.getD k (0, 0) = y at *
          obtain ⟨a, b_⟩ := y
          simp only at c0 c1 hok
          generalize lastE ep k = last at *
          have HY := Lib.hid hy; clear hy
          have HOK := Lib.hid hok; clear hok
          have HB2 := Lib.hid (low1 HB.out (.cells #[.int .i64 a, .int .i64 b_] 60))
          have K2 := Lib.hid (K0.out.alloc (.cells #[.int .i64 a, .int .i64 b_] 60))
          have hbb : b ≠ wr.heap.size := by omega
          have hqq : w.heap.size ≠ wr.heap.size := by omega
          cases q1 : decide (a < 1)
          case true =>
            have HOK2 := Lib.hid (show epOk 0 ep = false by rw [HOK.out]; simp [epOne, win]; simp at q1; intros; omega)
            go_wp2
            go_quiet (fail)
            go_wp2
            go_ret
            exact ⟨ret_bool (by rw [HOKD.out, HOK2.out]; rfl), below_drewN HB2.out _⟩
          cases q2 : decide (64 < a)
          case true =>
            have HOK2 := Lib.hid (show epOk 0 ep = false by rw [HOK.out]; simp [epOne, win]; simp at q2; intros; omega)
            go_wp2
            go_quiet (fail)
            go_wp2
            go_ret
            exact ⟨ret_bool (by rw [HOKD.out, HOK2.out]; rfl), below_drewN HB2.out _⟩
          cases q3 : decide (b_ < 1)
          case true =>
            have HOK2 := Lib.hid (show epOk 0 ep = false by rw [HOK.out]; simp [epOne, win]; simp at q3; intros; omega)
            go_wp2
            go_quiet (fail)
            go_wp2
            go_ret
            exact ⟨ret_bool (by rw [HOKD.out, HOK2.out]; rfl), below_drewN HB2.out _⟩
          cases q4 : decide (1073741824 < b_)
          case true =>
            have HOK2 := Lib.hid (show epOk 0 ep = false by rw [HOK.out]; simp [epOne, win]; simp at q4; intros; omega)
            go_wp2
            go_quiet (fail)
            go_wp2
            go_ret
            exact ⟨ret_bool (by rw [HOKD.out, HOK2.out]; rfl), below_drewN HB2.out _⟩
          by_cases h0 : 0 < k
          · have g0 : decide (0 < k) = true := by simpa using h0
            have g1 : decide ((0 : Int) < (k : Int)) = true := by simpa using h0
            have e1 : ((k : Int) - 1).toNat = k - 1 := by omega
            have e2 : (0 : Int) ≤ (k : Int) - 1 := by omega
            have e3 : IntKind.i64.wrap ((k : Int) - 1) = (k : Int) - 1 := IntWalk.i64_in _ (by omega)
            have e4 : (k : Int) - 1 < (n' : Int) := by omega
            have e5 : (1 : Int) ≤ (k : Int) := by omega
            have e6 : 1 ≤ k := h0
            have e7 : (k : Int) ≤ (n' : Int) := by omega
            have e8 : ¬ n' < k := by omega
            replace cp := (World.cell?_alloc_lt wr (Obj.cells #[.int .i64 a, .int .i64 b_] 60) ⟨b, off + (k - 1) * 2, none⟩ (show b < wr.heap.size by omega)).trans (cp h0)
            cases q6 : decide (a ≤ last)
            · have HOK2 := Lib.hid (show epOk 0 ep = epOk (lastE ep (k + 1)) (ep.drop (k + 1)) by rw [HOK.out]; simp at q1 q2 q3 q4 q6; simp [epOne, win, q1, q2, q3, q4, q6])
              go_wp2
              go_quiet (fail)
              go_wp2
              go_roundw
              case rel => exact ⟨k + 1, by omega, by go_num, HOK2, Lib.hid (K2.out.drewN _), Lib.hid (below_drewN HB2.out _)⟩
              case measure => simp [intOf]; omega
            · have HOK2 := Lib.hid (show epOk 0 ep = false by rw [HOK.out]; simp [epOne, win]; simp at q6; intros; omega)
              go_wp2
              go_quiet (fail)
              go_wp2
              go_ret
              exact ⟨ret_bool (by rw [HOKD.out, HOK2.out]; rfl), below_drewN HB2.out _⟩
          · have g0 : decide (0 < k) = false := by simpa using h0
            have g1 : decide ((0 : Int) < (k : Int)) = false := by simpa using h0
            have hl0 := h00 (by omega)
            have HOK2 := Lib.hid (show epOk 0 ep = epOk (lastE ep (k + 1)) (ep.drop (k + 1)) by rw [HOK.out, hl0]; simp at q1 q2 q3 q4; simp [epOne, win, q1, q2, q3, q4]; intros; omega)
            clear cp hl0 h00
            go_wp2
            go_quiet (fail)
            go_wp2
            go_roundw
            case rel => exact ⟨k + 1, by omega, by go_num, HOK2, Lib.hid (K2.out.drewN _), Lib.hid (below_drewN HB2.out _)⟩
            case measure => simp [intOf]; omega
        · obtain rfl : n' = k := by omega
          have hnil : ep.drop n' = [] := List.drop_eq_nil_of_le (by have := HL'.out; omega)
          have hokt : epOk 0 ep = true := by rw [HOK.out, hnil]; rfl
          clear hnil
          have HOKE := Lib.hid hokt; clear hokt HOK
          cases q1 : decide (0 ≤ up)
          · go_wp2
            go_ret
            exact ⟨ret_bool (by simp [HOKD.out, HOKE.out, *]), HB.out⟩
          cases q2 : decide (up ≤ 4611686018427387904)
          · go_wp2
            go_ret
            exact ⟨ret_bool (by simp [HOKD.out, HOKE.out, *]), HB.out⟩
          cases q3 : decide (0 ≤ bo)
          · go_wp2
            go_ret
            exact ⟨ret_bool (by simp [HOKD.out, HOKE.out, *]), HB.out⟩
          cases q4 : decide (bo ≤ 1073741824)
          · go_wp2
            go_ret
            exact ⟨ret_bool (by simp [HOKD.out, HOKE.out, *]), HB.out⟩
          go_wp2
          go_ret
          exact ⟨ret_bool (by simp [HOKD.out, HOKE.out, *]), HB.out⟩
end Go.Proofs.Ytcojimbnenibnaa.Bas
/- A state's bytes, by the document's own answer (layer 11): waymarkref11.Bytes of a state that may be. -/
namespace Go.Proofs.Ytcojimbnenibnaa.Bas
open Go.RowKit Go.Proofs.Ytcojimbnenibnaa.Mem Go.Proofs.Ytcojimbnenibnaa.Oct Go.Proofs.Ytcojimbnenibnaa.Lsa Go.Proofs.Ytcojimbnenibnaa.Chg
set_option linter.unusedVariables false
set_option linter.unusedSimpArgs false
set_option maxRecDepth 20000 in
set_option maxHeartbeats 8000000 in
theorem rbytes_any (s : Sta) (dv ev : Value) (w : World) (h : StM w w.heap.size dv ev s) (hm : mayS s = true) :
    Calls Try.prog 21 #[stV s dv ev] w fun e w' => ∃ v, e = .returned v ∧ Sl w' w'.heap.size v (bytesS s) ∧ Below w.heap.size w w' := by
  obtain ⟨db, up, bo, ep⟩ := s
  simp only [stV]
  obtain ⟨A1, n1, c1, rfl, hq1_⟩ := id h.1
  obtain ⟨A2, n2, c2, rfl, hq2_⟩ := id h.2
  clear hq1_ hq2_
  have h1 : Las w w.heap.size (.slice A1 n1 c1) db := h.1
  have h2 : Lks w w.heap.size (.slice A2 n2 c2) ep := h.2
  obtain ⟨hl1, hnc1, hcm1, _⟩ := las_len h1
  obtain ⟨hl2, hnc2, hcm2, _⟩ := lks_len h2
  obtain ⟨i0, hi, hz0, hz1, hz2⟩ := info_parts Try.info5
  have HI := Lib.hid hi; clear hi
  have HZ0 := Lib.hid hz0; clear hz0
  have HZ1 := Lib.hid hz1; clear hz1
  have HZ2 := Lib.hid hz2; clear hz2
  obtain ⟨m1, m2, m3, m4⟩ := mayS_iff.1 hm
  obtain ⟨l64, e64⟩ := mayS_len hm
  simp only at m1 m2 m3 m4 l64 e64
  obtain ⟨up, rfl⟩ : ∃ up' : Nat, up = (up' : Int) := ⟨up.toNat, by omega⟩
  obtain ⟨bo, rfl⟩ : ∃ bo' : Nat, bo = (bo' : Int) := ⟨bo.toNat, by omega⟩
  have hall := dbOk_all m1
  have eall := ep_all m2 (Int.le_refl 0)
  have hn1 : n1 ≤ 64 := by omega
  have hn2 : n2 ≤ 64 := by omega
  have hup : up ≤ 4611686018427387904 := by omega
  have hbo : bo ≤ 1073741824 := by omega
  have hbs : bytesS ⟨db, (up : Int), (bo : Int), ep⟩ = be 8 up ++ be 4 bo ++ [n1] ++ dbBytes db ++ [n2] ++ linkBytes ep := by
    unfold bytesS headS
    simp only [hl1, hl2, List.append_assoc, Int.toNat_natCast]
    rw [be_one (by omega), be_one (by omega)]
  have hblt := bytesS_lt ⟨db, (up : Int), (bo : Int), ep⟩
  obtain ⟨w0, hw0⟩ : ∃ w0, w0 = w.alloc (.cells #[.slice A1 n1 c1, .int .i64 (up : Int), .int .i64 (bo : Int), .slice A2 n2 c2] 25) := ⟨_, rfl⟩
  have hb0 := low1 (Below.refl w.heap.size w) (.cells #[.slice A1 n1 c1, .int .i64 (up : Int), .int .i64 (bo : Int), .slice A2 n2 c2] 25)
  have k0 := Blk.new w 25 #[.slice A1 n1 c1, .int .i64 (up : Int), .int .i64 (bo : Int), .slice A2 n2 c2]
  rw [← hw0] at hb0 k0
  have hs0 : w0.heap.size = w.heap.size + 1 := by rw [hw0]; simp
  have rn8 := fun (W : World) => ref_num 8 up W (by omega) (by omega)
  have e8 : ((8 : Nat) : Int) = 8 := rfl
  rw [e8] at rn8
  have rn4 := fun (W : World) => ref_num 4 bo W (by omega) (by omega)
  have e4 : ((4 : Nat) : Int) = 4 := rfl
  rw [e4] at rn4
  have w1 : IntKind.u64.wrap (up : Int) = (up : Int) := by rw [IntKind.wrap_u64]; omega
  have w2_ : IntKind.u64.wrap (bo : Int) = (bo : Int) := by rw [IntKind.wrap_u64]; omega
  have w3_ : IntKind.u8.wrap (n1 : Int) = (n1 : Int) := by rw [IntKind.wrap_u8]; omega
  have w4_ : IntKind.u8.wrap (n2 : Int) = (n2 : Int) := by rw [IntKind.wrap_u8]; omega
  obtain ⟨x0, x1, x2, x3, x4⟩ := blk_cells4 k0
  have RN8 := Lib.hid rn8; clear rn8
  have RN4 := Lib.hid rn4; clear rn4 e8 e4
  have HBS := Lib.hid hbs; clear hbs
  have HBLT := Lib.hid hblt; clear hblt
  have HALL := Lib.hid hall; clear hall
  have EALL := Lib.hid eall; clear eall
  have HL1 := Lib.hid hl1; clear hl1
  have HL2 := Lib.hid hl2; clear hl2
  have DB := Lib.hid h1; clear h1
  have EP := Lib.hid h2; clear h2
  have K0 := Lib.hid k0; clear k0
  have HB0 := Lib.hid hb0; clear hb0
  have HS0 := Lib.hid hs0; clear hs0
  clear h hm m1 m2 m3 m4 l64 e64 hnc1 hcm1 hnc2 hcm2
  go_enter Try.func21, Try.ntmps21
  go_wp2
  rewrite [← hw0]
  clear hw0
  go_region_held3 (fun W => W.cell? ⟨w.heap.size, 1, none⟩ = some (.int .i64 (up : Int)) ∧ W.cell? ⟨w.heap.size, 2, none⟩ = some (.int .i64 (bo : Int)))
    (first
      | with_reducible exact ⟨x1, x2⟩
      | with_reducible exact ⟨y1, y2⟩
      | with_reducible exact ⟨z1, z2⟩
      | with_reducible exact ⟨v1_, v2_⟩
      | go_keep)
    (first
      | (have HM1 := RN8; go_at_call 47; refine (RN8.out _).mono ?_; rintro e w2 ⟨v2, rfl, ho2, hb2⟩; have hb2 : Below w0.heap.size w0 w2 := undrew hb2; obtain ⟨A3, c3, rfl⟩ := Lsa.own_form ho2; have HO2 := Lib.hid (own_mono (base' := w.heap.size + 1) ho2 (by show w.heap.size + 1 ≤ w0.heap.size; have := HS0.out; omega)); have HB2 := Lib.hid (low_low HB0.out hb2); have K2 := Lib.hid (K0.out.below hb2 K0.out.lt); obtain ⟨y0, y1, y2, y3, y4⟩ := blk_cells4 K2.out; clear hb2 ho2 HM1 RN8)
      | (go_at_call 47; refine (RN4.out _).mono ?_; rintro e w3 ⟨v3, rfl, ho3, hb3⟩; obtain ⟨A4, c4, rfl, hr4⟩ := own_reads ho3; have HR4 := Lib.hid hr4; have HB3 := Lib.hid (low_low HB2.out hb3); have HO3 := Lib.hid (own_below HO2.out hb3); have K3 := Lib.hid (K2.out.below hb3 K2.out.lt); obtain ⟨z0, z1, z2, z3, z4⟩ := blk_cells4 K3.out; have hs3 := K3.out.lt; clear ho3 hb3 hr4)
      | (refine step_append_any _ rfl (.tmp 9) (.tmp 13) 36 rfl (w.heap.size + 1) 5 i0 (.int .u8 0) 1 1 Try.underlying36 HI.out HZ0.out HZ1.out HZ2.out rfl (by decide) (.slice A3 8 c3) 8 (vals (be 8 up)) rfl HO3.out w3.heap.size A4 4 c4 (vals (be 4 bo)) rfl HR4.out (vals_one _) (by unfold maxLen; omega) (by omega) (by omega) ?_; intro v4 w4 hown4 hg4 _; have HB4 := Lib.hid (HB3.out.grown hg4 HB3.out.size (fun q hq => by have := (HO3.out.lt q hq).1; omega)); have K4 := Lib.hid (K3.out.grown hg4 (fun e => by have := (HO3.out.lt _ e.symm).1; omega)); have HO4 := Lib.hid (own_fix (n' := 12) (xs := be 8 up ++ be 4 bo) hown4 (vals_append _ _).symm rfl rfl); obtain ⟨v0_, v1_, v2_, v3_, v4_⟩ := blk_cells4 K4.out; clear hown4 hg4))
  obtain ⟨A5, c5, rfl⟩ := Lsa.own_form HO4.out
  have hs4 := K4.out.lt
  have hn1b : n1 < 256 := by omega
  clear x0 x1 x2 x3 x4 y0 y1 y2 y3 y4 z0 z1 z2 z3 z4 K0 HB0 HS0 K2 HB2 HO2 K3 HB3 HO3 HR4 RN4 hs3
  go_wp2_with (at_builtin; (refine wpList_append_any _ rfl (.tmp 15) (.tmp 20) 36 rfl (w.heap.size + 1) 5 i0 (.int .u8 0) 1 1 Try.underlying36 HI.out HZ0.out HZ1.out HZ2.out rfl (by decide) (.slice A5 12 c5) 12 (vals (be 8 up ++ be 4 bo)) rfl (HO4.out.alloc _) (w4.heap.size + 1) (some ⟨w4.heap.size, 0, none⟩) 1 1 (vals [n1]) rfl (reads_byte w4 _ rfl _ n1 rfl) (vals_one _) (by unfold maxLen; omega) (by omega) (by simp; omega) ?_; intro v5 w5 hown5 hg5 _))
  have hle4 : ∀ q, (Value.slice A5 12 c5).ownBlock = some q → w.heap.size + 1 ≤ q := fun q hq => (HO4.out.lt q hq).1
  have HB5 := Lib.hid ((low1 HB4.out (.cells #[.int .u8 (n1 : Nat)] 5)).grown hg5 (low1 HB4.out _).size (fun q hq => Nat.le_of_succ_le (hle4 q hq)))
  have K5 := Lib.hid ((K4.out.alloc (.cells #[.int .u8 (n1 : Nat)] 5)).grown hg5 (fun e => by have := hle4 _ e.symm; omega))
  have HO5 := Lib.hid (own_fix (n' := 13 + 0) (xs := be 8 up ++ be 4 bo ++ [n1] ++ dbBytes (db.take 0)) hown5 (vals_append _ _).symm rfl (by simp [dbBytes]))
  obtain ⟨H, hHd⟩ : ∃ H, H = be 8 up ++ be 4 bo ++ [n1] := ⟨_, rfl⟩
  rewrite [← hHd] at HO5
  have HHD := Lib.hid hHd; clear hHd
  clear hown5 hg5 hle4 K4 HB4 HO4 hs4 v0_ v1_ v2_ v3_ v4_
  go_loopw [3, 4] (fun z i wr => ∃ k ln : Nat, k ≤ n1 ∧ i = .int .i64 k ∧ ln = 13 + (dbBytes (db.take k)).length ∧ wr.ownsRow (w.heap.size + 1) 5 1 z ln (vals (H ++ dbBytes (db.take k))) ∧ Blk wr w.heap.size 25 #[.slice A1 n1 c1, .int .i64 (up : Int), .int .i64 (bo : Int), .slice A2 n2 c2] ∧ Below w.heap.size w wr) (fun _ i _ => n1 - (intOf i).toNat)
  case atStart => exact ⟨0, _, Nat.zero_le _, rfl, by simp [dbBytes], HO5.out, K5.out, HB5.out⟩
  case round =>
    clear HO5 K5 HB5
    obtain ⟨k, ln, hk, rfl, hln, hown, hbk, hbw⟩ := hrel
    obtain ⟨A6, c6, rfl⟩ := Lsa.own_form hown
    obtain ⟨q0, q1, q2, q3, q4⟩ := blk_cells4 hbk
    have HOW := Lib.hid hown; clear hown
    have HBK := Lib.hid hbk; clear hbk
    have HBW := Lib.hid hbw; clear hbw
    have hlb : ln ≤ 6000 := by
      have := dbBytes_take db k HALL.out
      omega
    have hle6 : ∀ q, (Value.slice A6 ln c6).ownBlock = some q → w.heap.size + 1 ≤ q := fun q hq => (HOW.out.lt q hq).1
    have hws := HBK.out.lt
    by_cases hlt : k < n1
    · obtain ⟨b, off, rfl, hb, hc⟩ := las_at DB.out (by omega)
      obtain ⟨u, hr, hlk⟩ := hc k hlt
      have c0 := (HBW.out.cell (p := ⟨b, off + k * 3 + 0, none⟩) hb).trans (hr 0 _ rfl)
      have c1_ := (HBW.out.cell (p := ⟨b, off + k * 3 + 1, none⟩) hb).trans (hr 1 _ rfl)
      have c2_ := (HBW.out.cell (p := ⟨b, off + k * 3 + 2, none⟩) hb).trans (hr 2 _ rfl)
      rewrite [Nat.add_zero] at c0
      have hkl : k < db.length := by rw [HL1.out]; exact hlt
      have hma : may (db.getD k zeroL).o (db.getD k zeroL).s (db.getD k zeroL).ls = true := HALL.out (db.getD k zeroL) (by simp [List.getD, List.getElem?_eq_getElem hkl])
      have hsu := dbBytes_succ db k hkl
      have hbl := laBytes_len (db.getD k zeroL) hma
      clear hc hr
      generalize db.getD k zeroL = x at *
      obtain ⟨Au, nu, cu, rfl, _, hr_⟩ := id hlk
      clear hr_
      have rp := rput_any x.o x.s Au nu cu x.ls wr ((hlk.below HBW.out (Nat.le_refl _)).more HBW.out.size) hma
      obtain ⟨bn, hbn⟩ : ∃ bn, bn = (laBytes x).length := ⟨_, rfl⟩
      rewrite [← hbn] at hbl
      have hln2 : ln + bn = 13 + (dbBytes (db.take (k + 1))).length := by rw [hsu, List.length_append]; omega
      have hbb : bytesOf x.o x.s x.ls = laBytes x := rfl
      rewrite [hbb] at rp
      generalize laBytes x = bs at *
      have HSU := Lib.hid hsu; clear hsu
      have HLN2 := Lib.hid hln2; clear hln2 hln
      generalize dbBytes (db.take k) = ys at *
      have RP := Lib.hid rp; clear rp
      have HBN := Lib.hid hbn; clear hbn hbb hlk hma
      go_wp2_with (first
        | (go_at_call 48; refine (RP.out).mono ?_; rintro e w6 ⟨v6, rfl, hs6, hb6⟩; obtain ⟨A7, n7, c7, rfl, ht7, _⟩ := id hs6; have hn7 : n7 = bn := (by rw [← ht7.1, HBN.out]); subst hn7; have HR6 := Lib.hid ht7.reads; have HB6 := Lib.hid (low_low HBW.out hb6); have K6 := Lib.hid (HBK.out.below hb6 HBK.out.lt); have HO6 := Lib.hid (own_below HOW.out hb6); have hs6' := K6.out.lt; clear hs6 hb6 ht7)
        | (at_builtin; (refine wpList_append_any _ rfl (.tmp 29) (.tmp 35) 36 rfl (w.heap.size + 1) 5 i0 (.int .u8 0) 1 1 Try.underlying36 HI.out HZ0.out HZ1.out HZ2.out rfl (by decide) (.slice A6 ln c6) ln (vals (H ++ ys)) rfl HO6.out w6.heap.size A7 n7 c7 (vals bs) rfl HR6.out (vals_one _) (by unfold maxLen; omega) (by omega) (by omega) ?_; intro v7 w7 hown7 hg7 _; have HB7 := Lib.hid (HB6.out.grown hg7 HB6.out.size (fun q hq => Nat.le_of_succ_le (hle6 q hq))); have K7 := Lib.hid (K6.out.grown hg7 (fun e => by have := hle6 _ e.symm; omega)); have HO7 := Lib.hid (own_fix (n' := ln + n7) (xs := H ++ dbBytes (db.take (k + 1))) hown7 (vals_append _ _).symm rfl (by rw [HSU.out, List.append_assoc])); clear hown7 hg7)))
      go_roundw
      case rel => exact ⟨k + 1, _, by omega, by go_num, HLN2.out, HO7.out, K7.out, HB7.out⟩
      case measure => simp [intOf]; omega
    · obtain rfl : n1 = k := by omega
      rw [List.take_of_length_le (by have := HL1.out; omega)] at HOW
      clear hln
      have hn2b : n2 < 256 := by omega
      go_wp2_with (at_builtin; (refine wpList_append_any _ rfl (.tmp 37) (.tmp 42) 36 rfl (w.heap.size + 1) 5 i0 (.int .u8 0) 1 1 Try.underlying36 HI.out HZ0.out HZ1.out HZ2.out rfl (by decide) (.slice A6 ln c6) ln (vals (H ++ dbBytes db)) rfl (HOW.out.alloc _) (wr.heap.size + 1) (some ⟨wr.heap.size, 0, none⟩) 1 1 (vals [n2]) rfl (reads_byte wr _ rfl _ n2 rfl) (vals_one _) (by unfold maxLen; omega) (by omega) (by simp; omega) ?_; intro v7 w7 hown7 hg7 _))
      have HB7 := Lib.hid ((low1 HBW.out (.cells #[.int .u8 (n2 : Nat)] 5)).grown hg7 (low1 HBW.out _).size (fun q hq => Nat.le_of_succ_le (hle6 q hq)))
      have K7 := Lib.hid ((HBK.out.alloc (.cells #[.int .u8 (n2 : Nat)] 5)).grown hg7 (fun e => by have := hle6 _ e.symm; omega))
      obtain ⟨G, hG⟩ : ∃ G, G = H ++ dbBytes db ++ [n2] := ⟨_, rfl⟩
      have HO7 := Lib.hid (own_fix (n' := ln + 1) (xs := G ++ linkBytes (ep.take 0)) hown7 (vals_append _ _).symm rfl (by rw [hG]; simp [linkBytes]))
      have HG := Lib.hid hG; clear hG
      clear hown7 hg7 hle6 HOW HBK HBW q0 q1 q2 q3 q4 hws
      go_loopw [3, 5] (fun z i wr => ∃ j lm : Nat, j ≤ n2 ∧ i = .int .i64 j ∧ lm = ln + 1 + 5 * j ∧ wr.ownsRow (w.heap.size + 1) 5 1 z lm (vals (G ++ linkBytes (ep.take j))) ∧ Blk wr w.heap.size 25 #[.slice A1 n1 c1, .int .i64 (up : Int), .int .i64 (bo : Int), .slice A2 n2 c2] ∧ Below w.heap.size w wr) (fun _ i _ => n2 - (intOf i).toNat)
      case atStart => exact ⟨0, _, Nat.zero_le _, rfl, by omega, HO7.out, K7.out, HB7.out⟩
      case round =>
        clear HO7 K7 HB7
        obtain ⟨k, lm, hk, rfl, hln', hown, hbk, hbw⟩ := hrel
        obtain ⟨A5, c5, rfl⟩ := Lsa.own_form hown
        obtain ⟨q0, q1, q2, q3, q4⟩ := blk_cells4 hbk
        have HOW := Lib.hid hown; clear hown
        have HBK := Lib.hid hbk; clear hbk
        have HBW := Lib.hid hbw; clear hbw
        by_cases hlt : k < n2
        · obtain ⟨b, off, rfl, hb, hc⟩ := lks_at EP.out (by omega)
          obtain ⟨c0', c1'⟩ := hc k hlt
          have hsucc := linkBytes_succ ep k (by have := HL2.out; omega)
          obtain ⟨⟨e1, e2⟩, e3, e4⟩ := EALL.out (ep.getD k (0, 0)) (by simp [List.getD, List.getElem?_eq_getElem (show k < ep.length by have := HL2.out; omega)])
          clear hc
          generalize ep.getD k (0, 0) = x at *
          obtain ⟨t, u⟩ := x
          simp only at c0' c1' e1 e2 e3 e4 hsucc
          obtain ⟨t', rfl⟩ : ∃ t' : Nat, t = (t' : Int) := ⟨t.toNat, by omega⟩
          obtain ⟨u', rfl⟩ : ∃ u' : Nat, u = (u' : Int) := ⟨u.toNat, by omega⟩
          have HC0 := Lib.hid (fun (W : World) (hW : Below w.heap.size w W) => (hW.cell (p := ⟨b, off + k * 2, none⟩) hb).trans c0')
          have HC1 := Lib.hid (fun (W : World) (hW : Below w.heap.size w W) => (hW.cell (p := ⟨b, off + k * 2 + 1, none⟩) hb).trans c1')
          have d0 := HC0.out _ HBW.out
          have d1 := HC1.out _ HBW.out
          have rn4 := fun (W : World) => ref_num 4 u' W (by omega) (by omega)
          have e4' : ((4 : Nat) : Int) = 4 := rfl
          rewrite [e4'] at rn4
          have RN4 := Lib.hid rn4; clear rn4 e4'
          have w4' : IntKind.u8.wrap (t' : Int) = (t' : Int) := by rw [IntKind.wrap_u8]; omega
          have w5' : IntKind.u64.wrap (u' : Int) = (u' : Int) := by rw [IntKind.wrap_u64]; omega
          have htb : t' < 256 := by omega
          have hfin : G ++ linkBytes (ep.take k) ++ [t'] ++ be 4 u' = G ++ linkBytes (ep.take (k + 1)) := by
            rw [hsucc, Int.toNat_natCast, Int.toNat_natCast, be_one htb]
            simp
          generalize G ++ linkBytes (ep.take k) = ys at *
          have HFIN := Lib.hid hfin; clear hfin hsucc c0' c1' e1 e2 e3 e4
          have hlnb : lm ≤ 8000 := by omega
          have HLN := Lib.hid hln'; clear hln'
          have hws := HBK.out.lt
          have hk0 : (0 : Int) ≤ (k : Int) := by omega
          have hk1 : (k : Int) < (n2 : Int) := by omega
          have hle5 : ∀ q, (Value.slice A5 lm c5).ownBlock = some q → w.heap.size + 1 ≤ q := fun q hq => (HOW.out.lt q hq).1
          have HLE5 := Lib.hid hle5; clear hle5
          go_wp2
          go_region_held3 (fun W => W.cell? ⟨w.heap.size, 3, none⟩ = some (.slice (some ⟨b, off, none⟩) n2 c2) ∧ W.cell? ⟨b, off + k * 2, none⟩ = some (.int .i64 (t' : Nat)) ∧ W.cell? ⟨b, off + k * 2 + 1, none⟩ = some (.int .i64 (u' : Nat)))
            (first
              | with_reducible exact ⟨q3, d0, d1⟩
              | with_reducible exact ⟨r2, r3, r4⟩
              | with_reducible exact ⟨s2, s3, s4⟩
              | with_reducible exact ⟨t2, t3, t4⟩
              | go_keep)
            (first
              | (refine step_append_any _ rfl (.tmp 51) (.tmp 59) 36 rfl (w.heap.size + 1) 5 i0 (.int .u8 0) 1 1 Try.underlying36 HI.out HZ0.out HZ1.out HZ2.out rfl (by decide) (.slice A5 lm c5) lm (vals ys) rfl ((HOW.out.alloc (.cells #[.int .u8 (t' : Nat)] 5)).drew) (wr.heap.size + 1) (some ⟨wr.heap.size, 0, none⟩) 1 1 (vals [t']) rfl ((reads_byte wr wr.heap.size rfl _ t' rfl).drew) (vals_one _) (by unfold maxLen; omega) (by omega) (by simp; omega) ?_; intro v6 w6 hown6 hg6 _; have hb6 := (low1 HBW.out (.cells #[.int .u8 (t' : Nat)] 5)).drew; have HB6 := Lib.hid (hb6.grown hg6 hb6.size (fun q hq => Nat.le_of_succ_le (HLE5.out q hq))); have K6 := Lib.hid (((HBK.out.alloc (.cells #[.int .u8 (t' : Nat)] 5)).drew).grown hg6 (fun e => Nat.lt_irrefl _ (HLE5.out _ e.symm))); have HO6 := Lib.hid (own_fix (n' := lm + 1) (xs := ys ++ [t']) hown6 (vals_append _ _).symm rfl rfl); obtain ⟨A6, c6, rfl⟩ := Lsa.own_form HO6.out; have r2 := (blk_cells4 K6.out).2.2.2.1; have r3 := HC0.out _ HB6.out; have r4 := HC1.out _ HB6.out; have hs6 := K6.out.lt; clear hown6 hg6 hb6)
              | (go_at_call 47; refine (RN4.out _).mono ?_; rintro e w7 ⟨v7, rfl, ho7, hb7⟩; obtain ⟨A7, c7, rfl, hr7⟩ := own_reads ho7; have HR7 := Lib.hid hr7; have HB7 := Lib.hid (HB6.out.trans (hb7.mono HB6.out.size)); have K7 := Lib.hid (K6.out.below hb7 hs6); have HO7 := Lib.hid (own_below HO6.out hb7); have s2 := (blk_cells4 K7.out).2.2.2.1; have s3 := HC0.out _ HB7.out; have s4 := HC1.out _ HB7.out; have hs7 := K7.out.lt; clear ho7 hr7 hb7)
              | (refine step_append_any _ rfl (.tmp 60) (.tmp 68) 36 rfl (w.heap.size + 1) 5 i0 (.int .u8 0) 1 1 Try.underlying36 HI.out HZ0.out HZ1.out HZ2.out rfl (by decide) (.slice A6 (lm + 1) c6) (lm + 1) (vals (ys ++ [t'])) rfl HO7.out w7.heap.size A7 4 c7 (vals (be 4 u')) rfl HR7.out (vals_one _) (by unfold maxLen; omega) (by omega) (by omega) ?_; intro v8 w8 hown8 hg8 _; have HB8 := Lib.hid (HB7.out.grown hg8 HB7.out.size (fun q hq => Nat.le_of_succ_le (HO7.out.lt q hq).1)); have K8 := Lib.hid (K7.out.grown hg8 (fun e => Nat.lt_irrefl _ (HO7.out.lt _ e.symm).1)); have HO8 := Lib.hid (own_fix (n' := ln + 1 + 5 * (k + 1)) hown8 (vals_append _ _).symm (by have := HLN.out; omega) HFIN.out); have t2 := (blk_cells4 K8.out).2.2.2.1; have t3 := HC0.out _ HB8.out; have t4 := HC1.out _ HB8.out; clear hown8 hg8))
          go_wp2
          go_roundw
          case rel => exact ⟨k + 1, _, by omega, by go_num, rfl, HO8.out, K8.out, HB8.out⟩
          case measure => simp [intOf]; omega
        · obtain rfl : n2 = k := by omega
          rw [List.take_of_length_le (by have := HL2.out; omega), HG.out, HHD.out, ← HBS.out] at HOW
          have HSL := Lib.hid (sl_own HOW.out HBLT.out (by omega))
          clear hln'
          go_wp2
          go_ret
          exact ⟨_, rfl, HSL.out, HBW.out⟩
end Go.Proofs.Ytcojimbnenibnaa.Bas
/- The state whose bytes they are, by the document's own answer (layer 11): waymarkref11.Read. Condition: at most 200000 bytes. -/
namespace Go.Proofs.Ytcojimbnenibnaa.Bas
open Go.RowKit Go.Shelf Go.Proofs.Ytcojimbnenibnaa.Mem Go.Proofs.Ytcojimbnenibnaa.Oct Go.Proofs.Ytcojimbnenibnaa.Lsa Go.Proofs.Ytcojimbnenibnaa.Chg
set_option linter.unusedVariables false
set_option linter.unusedSimpArgs false
theorem sl_from {w : World} {B n c : Nat} {A : Option Addr} {xs : List Nat} (h : Sl w B (.slice A n c) xs) (i : Nat) (hi : i ≤ n) :
    ∃ A', (∀ W, (Instr.slice 36 (.slice A n c) (some (.int .i64 i)) none none).run Try.prog W = .ok (.slice A' (n - i) (c - i)) W) ∧ Sl w B (.slice A' (n - i) (c - i)) (xs.drop i) := by
  obtain ⟨A0, n0, c0, e, hb, h1, h2, h3⟩ := h
  injection e with e1 e2 e3
  subst e1 e2 e3
  obtain ⟨A', e, hb'⟩ := bts_sliced hb i n hi (Nat.le_refl _) h1
  rw [List.take_of_length_le (by rw [List.length_drop, hb.1]; exact Nat.le_refl _)] at hb'
  refine ⟨A', fun W => ?_, A', n - i, c - i, rfl, hb', by omega, by omega, fun hA => ?_⟩
  · rw [run_slice_l W _ A n c under22 .i64 i (by omega) (by omega), size1]
    simp only [Result.andThen, Int.toNat_natCast, e]
  · unfold sliced at e
    injection e with e1 _ _
    rw [hA] at e1
    by_cases hci : c = i
    · omega
    · rw [if_neg hci] at e1
      rw [Option.map_eq_none_iff] at e1
      have := h3 e1
      omega
theorem sl_bts4 {w : World} {B n c : Nat} {A : Option Addr} {xs : List Nat} (h : Sl w B (.slice A n c) xs) : Bts w B A n xs := by
  obtain ⟨A', n', c', e, hb, _⟩ := h
  injection e with e1 e2 e3
  subst e1 e2 e3
  exact hb
/-- a number read -/
theorem rnum_here (A : Option Addr) (n c : Nat) (xs : List Nat) (at_ k at2 : Nat) (K : Int) (hK : K = (k : Int)) (h2 : at2 = at_ + k) (W : World) (h : Sl W W.heap.size (.slice A n c) xs) (hk : at_ + k ≤ n) (h1 : 1 ≤ k) (h8 : k ≤ 8) :
    Calls Try.prog 49 #[.agg #[.slice A n c, .int .i64 (at_ : Nat), .bool false], .int .i64 K] W fun e w' => e = .returned (.tuple #[.agg #[.slice A n c, .int .i64 (at2 : Nat), .bool false], .int .u64 ((num ((xs.drop at_).take k) : Nat) : Int)]) ∧ Below W.heap.size W w' := by
  subst hK h2
  exact refread_ok A n c at_ k xs W hk h1 h8 (sl_bts4 h)
/-- what Read answers -/
def SReadOut (w : World) (r : Option Sta) (e : Ending) (w' : World) : Prop :=
  ∃ dv ev, e = .returned (.tuple #[stV (r.getD zeroS) dv ev, .bool r.isSome]) ∧ StM w' w'.heap.size dv ev (r.getD zeroS) ∧ Below w.heap.size w w'
/-- what the walk holds: the answer's block, the state's, and its rows behind it -/
structure RA (w wr : World) (gx : Nat) (s : Sta) : Prop where
  x : StAt wr (gx + 1) gx s
  res : Blk wr w.heap.size 25 zSt
  low : Below w.heap.size w wr
  o1 : w.heap.size < gx
theorem RA.size {w wr : World} {gx : Nat} {s : Sta} (h : RA w wr gx s) : gx + 1 ≤ wr.heap.size := by
  obtain ⟨dv, ev, hk, _⟩ := h.x
  exact hk.lt
theorem RA.below {w wr w' : World} {gx : Nat} {s : Sta} (h : RA w wr gx s) (hb : Below wr.heap.size wr w') : RA w w' gx s :=
  ⟨h.x.below hb, h.res.below hb h.res.lt, low_low h.low hb, h.o1⟩
theorem RA.drew {w wr : World} {gx : Nat} {s : Sta} (h : RA w wr gx s) : RA w wr.drew gx s := h.below (Below.refl _ _).drew
theorem own_up {w w' : World} {base g n sz : Nat} {e : TypeId} {v : Value} {xs : List Value} (h : w.ownsRow base e sz v n xs) (hg : w.grownBy w' (some g)) (hlt : g < base) : w'.ownsRow base e sz v n xs :=
  h.kept hg (.inr (fun e => by have := (h.lt g e).1; omega))
theorem ownL_up {w w' : World} {base g : Nat} {v : Value} {l : List La} (h : OwnL w base v l) (hg : w.grownBy w' (some g)) (hlt : g < base) : OwnL w' base v l := by
  obtain ⟨us, h1, h2, h3⟩ := h
  exact ⟨us, h1, own_up h2 hg hlt, fun i hi => by obtain ⟨n, h⟩ := h3 i hi; exact ⟨n, own_up h hg hlt⟩⟩
/-- one Lsa more -/
theorem ra_db {w wr w2 : World} {gx : Nat} {dv ev v2 u : Value} {s : Sta} {a : La} {us : List Value} {o : Obj} (h : RA w wr gx s) (hk : Blk wr gx 25 #[dv, .int .i64 s.up, .int .i64 s.bo, ev]) (he : OwnE wr (gx + 1) ev s.ep)
    (hus : us.length = s.db.length) (how : wr.ownsRow (gx + 1) 50 3 dv s.db.length (flatL s.db us)) (hlk : ∀ i, i < s.db.length → LkT wr (gx + 1) (us.getD i undef) (s.db.getD i zeroL).ls) (hu : LkT wr (gx + 1) u a.ls)
    (hown : w2.ownsRow (gx + 1) 50 3 v2 (s.db.length + 1) (flatL s.db us ++ rowL a u)) (hg : (wr.alloc o).grownBy w2 dv.ownBlock) : RA w (w2.setCell ⟨gx, 0, none⟩ v2) gx ⟨s.db ++ [a], s.up, s.bo, s.ep⟩ := by
  have hg2 : wr.grownBy w2 dv.ownBlock := grown_trans (World.grownBy_alloc wr o _) hg
  have hl := ownL_push (w := wr) hus how hlk hu hown hg2
  have hne : ∀ q, dv.ownBlock = some q → gx + 1 ≤ q := fun q hq => (how.lt q hq).1
  have hk2 := hk.grown hg2 (fun e => by have := hne _ e.symm; omega)
  have he2 : OwnE w2 (gx + 1) ev s.ep := World.ownsRow.kept he hg2 (own_apart he how (by decide))
  have o1 := h.o1
  have hr2 := h.res.grown hg2 (fun e => by have := hne _ e.symm; omega)
  exact ⟨stAt_store (s := ⟨s.db ++ [a], s.up, s.bo, s.ep⟩) hk2 hl he2 rfl, hr2.far (p := ⟨gx, 0, none⟩) (by show w.heap.size ≠ gx; omega) _, below_set (h.low.grown hg2 h.low.size (fun q hq => by have := hne q hq; omega)) (by omega), o1⟩
/-- one epoch more -/
theorem ra_ep {w wr w2 : World} {gx : Nat} {dv ev v2 : Value} {s : Sta} {a : Lk} {o : Obj} (h : RA w wr gx s) (hk : Blk wr gx 25 #[dv, .int .i64 s.up, .int .i64 s.bo, ev]) (hd : OwnL wr (gx + 1) dv s.db) (he : OwnE wr (gx + 1) ev s.ep)
    (hown : w2.ownsRow (gx + 1) 60 2 v2 (s.ep.length + 1) (lkCells s.ep ++ lkCells [a])) (hg : (wr.alloc o).grownBy w2 ev.ownBlock) : RA w (w2.setCell ⟨gx, 3, none⟩ v2) gx ⟨s.db, s.up, s.bo, s.ep ++ [a]⟩ := by
  have hg2 : wr.grownBy w2 ev.ownBlock := grown_trans (World.grownBy_alloc wr o _) hg
  have hl := hd.row he (by decide) (by decide) hg2
  have hne : ∀ q, ev.ownBlock = some q → gx + 1 ≤ q := fun q hq => (World.ownsRow.lt he q hq).1
  have hk2 := hk.grown hg2 (fun e => by have := hne _ e.symm; omega)
  have he2 : OwnE w2 (gx + 1) v2 (s.ep ++ [a]) := by
    unfold OwnE
    rw [List.length_append, lkCells_app]
    exact hown
  have o1 := h.o1
  have hr2 := h.res.grown hg2 (fun e => by have := hne _ e.symm; omega)
  exact ⟨stAt_store (s := ⟨s.db, s.up, s.bo, s.ep ++ [a]⟩) hk2 hl he2 rfl, hr2.far (p := ⟨gx, 3, none⟩) (by show w.heap.size ≠ gx; omega) _, below_set (h.low.grown hg2 h.low.size (fun q hq => by have := hne q hq; omega)) (by omega), o1⟩
/-! ### the document's reading, in steps -/
theorem dbRead_step (m : Nat) (ys : List Nat) : dbRead (m + 1) ys = if isAt ys = true then (dbRead m (ys.drop (10 + 5 * many ys))).map (fun p => (laAt ys :: p.1, p.2)) else none := rfl
theorem isAt_len {ys : List Nat} (h : isAt ys = true) : 10 + 5 * many ys ≤ ys.length := by
  unfold isAt at h
  simp only [Bool.and_eq_true, decide_eq_true_eq] at h
  exact h.2.1
theorem db_on {M k at_ : Nat} {xs : List Nat} {db : List La} (hk : k < M) (h : dbRead M (xs.drop 13) = (dbRead (M - k) (xs.drop at_)).map (fun p => (db ++ p.1, p.2))) (hi : isAt (xs.drop at_) = true) :
    dbRead M (xs.drop 13) = (dbRead (M - (k + 1)) (xs.drop (at_ + (10 + 5 * many (xs.drop at_))))).map (fun p => ((db ++ [laAt (xs.drop at_)]) ++ p.1, p.2)) := by
  rw [h, show M - k = (M - (k + 1)) + 1 by omega, dbRead_step, if_pos hi, List.drop_drop]
  cases dbRead (M - (k + 1)) (xs.drop (at_ + (10 + 5 * many (xs.drop at_)))) <;> simp
theorem db_off {M k at_ : Nat} {xs : List Nat} {db : List La} (hk : k < M) (h : dbRead M (xs.drop 13) = (dbRead (M - k) (xs.drop at_)).map (fun p => (db ++ p.1, p.2))) (hi : isAt (xs.drop at_) = false) : dbRead M (xs.drop 13) = none := by
  rw [h, show M - k = (M - (k + 1)) + 1 by omega, dbRead_step, if_neg (by rw [hi]; simp)]
  rfl
theorem db_end {M at_ : Nat} {xs : List Nat} {db : List La} (h : dbRead M (xs.drop 13) = (dbRead (M - M) (xs.drop at_)).map (fun p => (db ++ p.1, p.2))) : dbRead M (xs.drop 13) = some (db, xs.drop at_) := by
  rw [h, Nat.sub_self]
  simp [dbRead]
theorem refRead_none {xs : List Nat} (h : dbRead (xs.getD 12 0) (xs.drop 13) = none) : refRead xs = none := by
  unfold refRead
  rw [h]
  simp
theorem refRead_some {xs : List Nat} {p : List La × List Nat} (hl : 14 ≤ xs.length) (h : dbRead (xs.getD 12 0) (xs.drop 13) = some p) : refRead xs = if mayS (found xs p) = true ∧ bytesS (found xs p) = xs then some (found xs p) else none := by
  unfold refRead
  rw [h, if_neg (by omega)]
theorem refRead_short {xs : List Nat} (h : xs.length < 14) : refRead xs = none := by
  unfold refRead
  rw [if_pos h]
theorem lk_here {xs : List Nat} {at_ j : Nat} (h : at_ + 1 + 5 * j + 5 ≤ xs.length) : lkAt ((xs.drop at_).drop 1) j = (((xs.getD (at_ + 1 + 5 * j) 0 : Nat) : Int), ((num ((xs.drop (at_ + 1 + 5 * j + 1)).take 4) : Nat) : Int)) := by
  have e1 : ((xs.drop at_).drop 1).drop (5 * j) = xs.drop (at_ + 1 + 5 * j) := by rw [List.drop_drop, List.drop_drop]; congr 1; omega
  have e2 : ((xs.drop at_).drop 1).drop (5 * j + 1) = xs.drop (at_ + 1 + 5 * j + 1) := by rw [List.drop_drop, List.drop_drop]; congr 1; omega
  rw [lkAt, e1, e2, num_one xs (at_ + 1 + 5 * j) (by omega)]
theorem below_upd4 {w W : World} {a b c d : Value} (h : Below w.heap.size w W) : Below w.heap.size w (upd4 W w.heap.size a b c d) := h.grown (upd4_grown _ _ _ _ _ _) h.size (fun q hq => by cases hq; exact Nat.le_refl _)
set_option maxRecDepth 100000 in
set_option maxHeartbeats 8000000 in
theorem sread_any (v : Value) (xs : List Nat) (w : World) (h : Sl w w.heap.size v xs) (hxl : xs.length ≤ 200000) :
    Calls Try.prog 22 #[v] w (SReadOut w (refRead xs)) := by
  obtain ⟨A, n, c, rfl, _⟩ := id h
  have hx := h.lt
  have hn : xs.length = n := (sl_bts4 h).1
  have hb0 := low1 (Below.refl w.heap.size w) (.cells #[.slice none 0 0, .int .i64 0, .int .i64 0, .slice none 0 0] 25)
  have k0 := Blk.new w 25 #[.slice none 0 0, .int .i64 0, .int .i64 0, .slice none 0 0]
  obtain ⟨P1, hP1⟩ : ∃ P1, P1 = SReadOut w (refRead xs) := ⟨_, rfl⟩
  rw [← hP1]
  have hno : ∀ (W : World), refRead xs = none → Below w.heap.size w W → P1 (.returned (.tuple #[stV zeroS (.slice none 0 0) (.slice none 0 0), .bool false])) W := by
    intro W hc hW
    rw [hP1, hc]
    exact ⟨_, _, rfl, stM_nil _ _ _ _, hW⟩
  have hyes : ∀ (W : World) (dv ev : Value) (gx : Nat) (s : Sta), refRead xs = some s → RA w W gx s → OwnL W (gx + 1) dv s.db → OwnE W (gx + 1) ev s.ep → P1 (.returned (.tuple #[stV s dv ev, .bool true])) (upd4 W w.heap.size dv (.int .i64 s.up) (.int .i64 s.bo) ev) := by
    intro W dv ev gx s hc hW hd he
    rw [hP1, hc]
    have o1 := hW.o1
    have hg := upd4_grown W w.heap.size dv (.int .i64 s.up) (.int .i64 s.bo) ev
    exact ⟨_, _, rfl, ⟨(ownL_up hd hg (by omega)).las, ownE_lks (own_up he hg (by omega))⟩, hW.low.grown hg hW.low.size (fun q hq => by cases hq; exact Nat.le_refl _)⟩
  have NO := Lib.hid hno; clear hno
  have YES := Lib.hid hyes; clear hyes hP1
  have HB0 := Lib.hid hb0; clear hb0
  have K0 := Lib.hid k0; clear k0
  obtain ⟨z0, z1, z2, z3, z4⟩ := blk_cells4 K0.out
  obtain ⟨f0, f1, f2, f3⟩ := blk_fz4 K0.out
  by_cases h14 : n < 14
  · have d0 : decide ((n : Int) < 14) = true := by simp; omega
    have HF := Lib.hid (NO.out _ (refRead_short (by omega)) HB0.out)
    clear h hn
    go_enter Try.func22, Try.ntmps22
    go_wp2_with (fail)
    refine bodyPost_ret (v := .tuple #[stV zeroS (.slice none 0 0) (.slice none 0 0), .bool false]) ?_ rfl HF.out
    simp [results, Try.results22, go_sem, z0, z1, z2, z3, zeroS]
  have d0 : decide ((n : Int) < 14) = false := by simp; omega
  have b8 := fun (W : World) (hW : Below w.heap.size w W) => rnum_here A n c xs 0 8 8 8 rfl rfl W (sl_up h hW) (by omega) (by omega) (by omega)
  have b4 := fun (W : World) (hW : Below w.heap.size w W) => rnum_here A n c xs 8 4 12 4 rfl rfl W (sl_up h hW) (by omega) (by omega) (by omega)
  have e0 : ((0 : Nat) : Int) = 0 := rfl
  have e8 : ((8 : Nat) : Int) = 8 := rfl
  have e12 : ((12 : Nat) : Int) = 12 := rfl
  rw [e0, e8, List.drop_zero] at b8
  rw [e8, e12] at b4
  have nU : num (xs.take 8) < 18446744073709551616 := by
    have h1 := num_lt (xs.take 8) (take_lt hx 8)
    have h2 : (xs.take 8).length ≤ 8 := by rw [List.length_take]; omega
    exact Nat.lt_of_lt_of_le h1 (Nat.pow_le_pow_right (by decide) h2)
  have nB : num ((xs.drop 8).take 4) < 4294967296 := by
    have h1 := num_lt ((xs.drop 8).take 4) (take_lt (drop_lt hx 8) 4)
    have h2 : ((xs.drop 8).take 4).length ≤ 4 := by rw [List.length_take]; omega
    exact Nat.lt_of_lt_of_le h1 (Nat.pow_le_pow_right (by decide) h2)
  have hfd : ∀ p, found xs p = ⟨p.1, sgn (num (xs.take 8)), ((num ((xs.drop 8).take 4) : Nat) : Int), epRead (p.2.drop 1)⟩ := fun p => rfl
  have hwU := sgn_wrap nU
  generalize num ((xs.drop 8).take 4) = B at *
  generalize num (xs.take 8) = U0 at *
  generalize sgn U0 = U at *
  have hwB : IntKind.i64.wrap (B : Int) = (B : Int) := IntWalk.i64_in _ (by omega)
  have B8 := Lib.hid b8; clear b8
  have B4 := Lib.hid b4; clear b4 e0 e8 e12
  have HFD := Lib.hid hfd; clear hfd
  have HN := Lib.hid hn
  have HX := Lib.hid hx; clear hx
  have HS := Lib.hid (fun (W : World) (hW : Below w.heap.size w W) => sl_up h hW)
  have hM : xs.getD 12 0 < 256 := getD_lt HX.out 12
  obtain ⟨b, off, rfl, hb, hc⟩ := (sl_bts4 h).2.2.2 (by omega)
  have hcx := fun (W : World) (hW : Below w.heap.size w W) (i : Nat) (hi : i < n) => (hW.cell (p := ⟨b, off + i, none⟩) hb).trans (hc i hi)
  have HCX := Lib.hid hcx; clear hcx hc
  clear h hn
  generalize hMd : xs.getD 12 0 = M at *
  have HM := Lib.hid hMd; clear hMd
  go_enter Try.func22, Try.ntmps22
  go_wp2_with (first
    | (have HM1 := B8; go_at_call 49; refine (B8.out _ HB0.out).mono ?_; rintro e w1 ⟨rfl, hb1⟩; have HB1 := Lib.hid (low_low HB0.out hb1); have K1 := Lib.hid (K0.out.below hb1 K0.out.lt); clear hb1 HM1 B8)
    | (go_at_call 49; refine (B4.out _ (low1 HB1.out _)).mono ?_; rintro e w2 ⟨rfl, hb2⟩; have HB2 := Lib.hid (low_low (low1 HB1.out _) hb2); have K2 := Lib.hid ((K1.out.alloc _).below hb2 (by have := K1.out.lt; simp; omega)); clear hb2))
  have ha4 : RA w ((w2.alloc (.cells #[.slice (some ⟨b, off, none⟩) n c, .int .i64 12, .bool false] 81)).alloc (.cells #[.slice none 0 0, .int .i64 U, .int .i64 (B : Nat), .slice none 0 0] 25)) (w2.heap.size + 1) ⟨[], U, (B : Nat), []⟩ :=
    ⟨⟨_, _, blk_second w2 (.cells #[.slice (some ⟨b, off, none⟩) n c, .int .i64 12, .bool false] 81) 25 _, ownL_nil _ _, World.ownsRow_nil _ _ _ _⟩, (K2.out.alloc _).alloc _, low1 (low1 HB2.out _) _, by have := K2.out.lt; omega⟩
  have HA4 := Lib.hid ha4; clear ha4
  have hr0 : dbRead M (xs.drop 13) = (dbRead (M - 0) (xs.drop 13)).map (fun p => (([] : List La) ++ p.1, p.2)) := by
    rw [Nat.sub_zero]
    cases dbRead M (xs.drop 13) <;> rfl
  have HR0 := Lib.hid hr0; clear hr0
  clear HB1 K1 HB2 K2 B4 hwU HB0 K0 z0 z1 z2 z3 z4 f0 f1 f2 f3 d0
  generalize w2.heap.size + 1 = gx at *
  generalize (w2.alloc (.cells #[.slice (some ⟨b, off, none⟩) n c, .int .i64 12, .bool false] 81)).alloc (.cells #[.slice none 0 0, .int .i64 U, .int .i64 (B : Nat), .slice none 0 0] 25) = w4 at *
  obtain ⟨i0, hi, hz0, hz1, hz2⟩ := info_parts infoL
  have HI := Lib.hid hi; clear hi
  have HZ0 := Lib.hid hz0; clear hz0
  have HZ1 := Lib.hid hz1; clear hz1
  have HZ2 := Lib.hid hz2; clear hz2
  obtain ⟨i1, hi, hz0, hz1, hz2⟩ := info_parts infoE
  have HJ := Lib.hid hi; clear hi
  have HY0 := Lib.hid hz0; clear hz0
  have HY1 := Lib.hid hz1; clear hz1
  have HY2 := Lib.hid hz2; clear hz2
  have hn200 : n ≤ 200000 := by have := HN.out; omega
  have w5_ : IntKind.i64.wrap (M : Int) = (M : Int) := IntWalk.i64_in _ (by omega)
  go_loopw [9, 10] (fun a i wr => ∃ (k at_ : Nat) (db : List La), k ≤ M ∧ i = .int .i64 k ∧ a = .int .i64 at_ ∧ at_ ≤ n ∧ db.length = k ∧ Hid (dbRead M (xs.drop 13) = (dbRead (M - k) (xs.drop at_)).map (fun p => (db ++ p.1, p.2))) ∧ Hid (RA w wr gx ⟨db, U, (B : Nat), []⟩)) (fun _ i _ => M - (intOf i).toNat)
  case atStart => exact ⟨0, 13, [], Nat.zero_le _, rfl, rfl, by omega, rfl, HR0, HA4⟩
  case round =>
    clear HR0 HA4
    obtain ⟨k, at_, db, hk, rfl, rfl, hat, hdb, HR, HA⟩ := hrel
    have c12 := HCX.out wr HA.out.low 12 (by omega)
    rewrite [HM.out] at c12
    by_cases hlt : k < M
    · obtain ⟨A', hsl, hys⟩ := sl_from (HS.out wr HA.out.low) at_ hat
      have hon := fun hi => db_on (db := db) hlt HR.out hi
      have hoff := fun hi => db_off (db := db) hlt HR.out hi
      have hil : isAt (xs.drop at_) = true → at_ + (10 + 5 * many (xs.drop at_)) ≤ n := fun hi => by
        have := isAt_len (ys := xs.drop at_) hi
        rw [List.length_drop, HN.out] at this
        omega
      have hla : laAt (xs.drop at_) = ⟨(lsaAt (xs.drop at_)).1, (lsaAt (xs.drop at_)).2.1, (lsaAt (xs.drop at_)).2.2⟩ := rfl
      have lr := rread_own A' (n - at_) (c - at_) (xs.drop at_) wr hys
      clear hys HR
      have HDB := Lib.hid hdb; clear hdb
      generalize n - at_ = nk at *
      generalize c - at_ = ck at *
      generalize isAt (xs.drop at_) = ok at *
      generalize many (xs.drop at_) = mn at *
      generalize lsaAt (xs.drop at_) = LS at *
      generalize laAt (xs.drop at_) = a at *
      cases ok
      · have hnone := refRead_none (by rw [HM.out]; exact hoff rfl)
        unfold RReadOwn at lr
        simp only [Bool.false_eq_true, if_false] at lr
        have LR := Lib.hid lr; clear lr hon hoff hil hla
        have HNN := Lib.hid hnone; clear hnone
        go_wp2_with (go_at_call 50; refine (LR.out).mono ?_; rintro e w5 ⟨u5, rfl, ⟨nu5, ho5⟩, hb5⟩; obtain ⟨Au, cu, rfl⟩ := Lsa.own_form ho5; have ha5 := (HA.out.below hb5).below (low1 (Below.refl _ _) (.cells #[.int .i64 0, .int .i64 0, .slice Au nu5 cu] 50)); obtain ⟨z0, z1, z2, z3, z4⟩ := blk_cells4 ha5.res; obtain ⟨f0, f1, f2, f3⟩ := blk_fz4 ha5.res; have HF := Lib.hid (NO.out _ HNN.out (below_upd4 (a := .slice none 0 0) (b := .int .i64 0) (c := .int .i64 0) (d := .slice none 0 0) ha5.low)); clear ha5 hb5 ho5)
        refine bodyPost_ret (v := .tuple #[stV zeroS (.slice none 0 0) (.slice none 0 0), .bool false]) ?_ rfl HF.out
        simp [results, Try.results22, go_sem, z0, z1, z2, z3, zeroS]
      · have hst := hon rfl
        have hle := hil rfl
        unfold RReadOwn at lr
        simp only [if_true] at lr
        obtain ⟨N, hN⟩ : ∃ N, N = 10 + 5 * mn := ⟨_, rfl⟩
        have lr2 : Calls Try.prog 50 #[.slice A' nk ck] wr (fun e w' => ∃ v, e = .returned (.tuple #[lsaV a.o a.s v, .int .i64 (N : Nat)]) ∧ (∃ m, w'.ownsRow wr.heap.size 99 2 v m (lkCells a.ls)) ∧ Below wr.heap.size wr w') := by
          rw [hla, hN]
          exact lr
        rw [← hN] at hst hle
        have hN10 : 10 ≤ N := by omega
        have LR := Lib.hid lr2; clear lr lr2 hon hoff hil hla hN
        have HST := Lib.hid hst; clear hst
        have wN : IntKind.i64.wrap ((at_ : Int) + (N : Int)) = (at_ : Int) + (N : Int) := IntWalk.i64_in _ (by omega)
        have bN : ((N : Int) == 0) = false := beq_false_of_ne (by omega)
        have hk255 : k ≤ 255 := by omega
        go_wp2_with (first
          | (go_at_call 50; refine (LR.out).mono ?_; rintro e w5 ⟨u5, rfl, ⟨nu, ho5⟩, hb5⟩; obtain ⟨Au, cu, rfl⟩ := Lsa.own_form ho5; have ha5 := HA.out.below hb5; have hu5 : LkT w5 (gx + 1) (.slice Au nu cu) a.ls := ⟨_, own_mono ho5 (by have := HA.out.size; omega)⟩; have hbx := low1 (Below.refl w5.heap.size w5) (.cells #[.int .i64 a.o, .int .i64 a.s, .slice Au nu cu] 50); have ha6 := ha5.below hbx; have HU6 := Lib.hid (hu5.below hbx); obtain ⟨dv, ev, hk6, ⟨us, hus, how, hlk⟩, he⟩ := id ha6.x; simp only at hk6 hus how hlk he; obtain ⟨Ad, cd, rfl⟩ := Lsa.own_form how; obtain ⟨y0, y1, y2, y3, y4⟩ := blk_cells4 hk6; have HA6 := Lib.hid ha6; have HK6 := Lib.hid hk6; have HUS := Lib.hid hus; have HOW := Lib.hid how; have HLK := Lib.hid hlk; have HE6 := Lib.hid he; have hsz6 := hbx.size; clear ho5 hb5 ha5 hu5 hbx ha6 hk6 hus how hlk he)
          | (at_builtin; (refine wpList_append_any _ rfl (.tmp 55) (.tmp 57) 22 rfl (gx + 1) 50 i0 (.agg #[.int .i64 0, .int .i64 0, .slice none 0 0]) 3 40 Try.underlying22 HI.out HZ0.out HZ1.out HZ2.out rfl (by decide) (.slice Ad db.length cd) db.length (flatL db us) rfl (HOW.out.alloc _) ((w5.alloc (.cells #[.int .i64 a.o, .int .i64 a.s, .slice Au nu cu] 50)).heap.size + 1) (some ⟨w5.heap.size + 1, 0, none⟩) 1 1 (rowL a (.slice Au nu cu)) rfl (reads_lsa (w5.alloc (.cells #[.int .i64 a.o, .int .i64 a.s, .slice Au nu cu] 50)) a (.slice Au nu cu) _ (by simp)) (rowL_one a _ rfl) (by have := HDB.out; unfold maxLen; omega) (by have := HDB.out; omega) (by have := HA6.out.size; simp at this ⊢; omega) ?_; intro v7 w7 hown7 hg7 _; obtain ⟨A7, c7, rfl⟩ := Lsa.own_form hown7; have hk7 := (HK6.out.alloc (.cells #[.int .i64 a.o, .int .i64 a.s, .slice Au nu cu] 50)).grown hg7 (fun e => by have := (HOW.out.lt _ e.symm).1; omega); obtain ⟨z0, z1, z2, z3, z4⟩ := blk_cells4 hk7; obtain ⟨f0, f1, f2, f3⟩ := blk_fz4 hk7; have HAN := Lib.hid (ra_db HA6.out HK6.out HE6.out HUS.out HOW.out HLK.out HU6.out hown7 hg7); clear hk7 hown7 hg7)))
        go_roundw
        case rel => exact ⟨k + 1, at_ + N, db ++ [a], by omega, by go_num, val_int (by omega), by omega, by rw [List.length_append, HDB.out]; rfl, HST, HAN⟩
        case measure => simp [intOf]; omega
    · obtain rfl : M = k := by omega
      have hend := db_end HR.out
      clear HR hlt hk hdb
      have hcase := refRead_some (xs := xs) (by have := HN.out; omega) (by rw [HM.out]; exact hend)
      have hed : found xs (db, xs.drop at_) = ⟨db, U, (B : Nat), epRead ((xs.drop at_).drop 1)⟩ := by rw [HFD.out]
      rw [hed] at hcase
      have hep : epRead ((xs.drop at_).drop 1) = (List.range ((n - (at_ + 1)) / 5)).map (lkAt ((xs.drop at_).drop 1)) := by
        unfold epRead
        rw [List.length_drop, List.length_drop, HN.out, Nat.sub_sub]
      rw [hep] at hcase
      have HCS := Lib.hid hcase; clear hcase hend hed hep
      obtain ⟨Q, hQ⟩ : ∃ Q, Q = (n - (at_ + 1)) / 5 := ⟨_, rfl⟩
      rewrite [← hQ] at HCS
      have wa1 : IntKind.i64.wrap ((at_ : Int) + 1) = (at_ : Int) + 1 := IntWalk.i64_in _ (by omega)
      have HA5 := HA
      go_wp2_with (fail)
      go_loopw [13] (fun z wr => ∃ j kk : Nat, kk = at_ + 1 + 5 * j ∧ j ≤ Q ∧ z = .int .i64 kk ∧ Hid (RA w wr gx ⟨db, U, (B : Nat), (List.range j).map (lkAt ((xs.drop at_).drop 1))⟩)) (fun z _ => n + 10 - (intOf z).toNat)
      case atStart => exact ⟨0, at_ + 1, by omega, Nat.zero_le _, val_int (by omega), HA5⟩
      case round =>
        clear HA HA5 c12
        obtain ⟨j, kk, hkk, hj, rfl, HA⟩ := hrel
        have w5k : IntKind.i64.wrap ((kk : Int) + 5) = (kk : Int) + 5 := IntWalk.i64_in _ (by omega)
        by_cases hlt2 : kk + 5 ≤ n
        · have dk : decide ((kk : Int) + 5 ≤ (n : Int)) = true := by simp; omega
          have hjQ : j < Q := by omega
          have hlk := lk_here (xs := xs) (at_ := at_) (j := j) (by have := HN.out; omega)
          rewrite [← hkk] at hlk
          have hst := range_snoc (lkAt ((xs.drop at_).drop 1)) j
          rewrite [hlk] at hst
          obtain ⟨k5, hk5⟩ : ∃ k5, k5 = kk + 1 + 4 := ⟨_, rfl⟩
          have rn := rnum_here (some ⟨b, off, none⟩) n c xs (kk + 1) 4 k5 4 rfl hk5 wr (HS.out wr HA.out.low) (by omega) (by omega) (by omega)
          have ec : ((kk + 1 : Nat) : Int) = (kk : Int) + 1 := by omega
          rewrite [ec] at rn
          have ck := fun (W : World) (hW : Below w.heap.size w W) => HCX.out W hW kk (by omega)
          have t256 := getD_lt HX.out kk
          have n4b : num ((xs.drop (kk + 1)).take 4) < 4294967296 := by
            have h1 := num_lt ((xs.drop (kk + 1)).take 4) (take_lt (drop_lt HX.out (kk + 1)) 4)
            have h2 : ((xs.drop (kk + 1)).take 4).length ≤ 4 := by rw [List.length_take]; omega
            exact Nat.lt_of_lt_of_le h1 (Nat.pow_le_pow_right (by decide) h2)
          have hlen : ((List.range j).map (lkAt ((xs.drop at_).drop 1))).length = j := by simp
          generalize num ((xs.drop (kk + 1)).take 4) = N4 at *
          generalize xs.getD kk 0 = t0 at *
          have ha := HA.out
          clear HA
          generalize (List.range j).map (lkAt ((xs.drop at_).drop 1)) = l0 at *
          have HST := Lib.hid hst; clear hst hlk ec
          have HCK := Lib.hid ck; clear ck
          have RN := Lib.hid rn; clear rn
          have HA := Lib.hid ha; clear ha
          have HLEN := Lib.hid hlen; clear hlen
          have HKK := Lib.hid hkk; clear hkk
          have HK5 := Lib.hid hk5; clear hk5
          have e1 : IntKind.i64.wrap (t0 : Int) = (t0 : Int) := IntWalk.i64_in _ (by omega)
          have e2 : IntKind.i64.wrap (N4 : Int) = (N4 : Int) := IntWalk.i64_in _ (by omega)
          have e3 : IntKind.i64.wrap ((kk : Int) + 1) = (kk : Int) + 1 := IntWalk.i64_in _ (by omega)
          have hkn : (kk : Int) < (n : Int) := by omega
          have hkn' : kk < n := by omega
          have hk0' : (0 : Int) ≤ (kk : Int) := by omega
          go_wp2_with (go_at_call 49; refine (RN.out).mono ?_; rintro e w3 ⟨rfl, hb3⟩; have HA3 := Lib.hid ((HA.out.below hb3).below (low1 (Below.refl _ _) (.cells #[.slice (some ⟨b, off, none⟩) n c, .int .i64 (k5 : Nat), .bool false] 81))); clear hb3)
          generalize w3.alloc (.cells #[.slice (some ⟨b, off, none⟩) n c, .int .i64 (k5 : Nat), .bool false] 81) = wz at *
          obtain ⟨dv, ev, hk0, hd0, he0⟩ := id HA3.out.x
          simp only at hk0 hd0 he0
          obtain ⟨Ae, ce, rfl⟩ := ownE_form he0
          obtain ⟨y0, y1, y2, y3, y4⟩ := blk_cells4 hk0
          obtain ⟨u0, u1, u2, u3, u4⟩ := blk_cells4 (hk0.alloc (.cells #[.int .i64 (t0 : Nat), .int .i64 (N4 : Nat)] 60))
          have x4 := HCK.out wz HA3.out.low
          have x5 := HCK.out _ (low1 HA3.out.low (.cells #[.int .i64 (t0 : Nat), .int .i64 (N4 : Nat)] 60))
          have o1 := HA3.out.o1
          have HK0 := Lib.hid hk0; clear hk0
          have HD0 := Lib.hid hd0; clear hd0
          have HE0 : Hid (OwnE wz (gx + 1) (.slice Ae l0.length ce) l0) := Lib.hid he0; clear he0
          go_region_law (refine step_append_any _ rfl (.tmp 81) (.tmp 90) 23 rfl (gx + 1) 60 i1 (.agg #[.int .i64 0, .int .i64 0]) 2 16 Try.underlying23 HJ.out HY0.out HY1.out HY2.out rfl (by decide) (.slice Ae l0.length ce) l0.length (lkCells l0) rfl ((World.ownsRow.alloc HE0.out _).drew) (wz.heap.size + 1) (some ⟨wz.heap.size, 0, none⟩) 1 1 (lkCells [((t0 : Nat), (N4 : Nat))]) rfl ((reads_ep wz _ _ _ rfl).drew) (lkCells_one' _) (by have := HLEN.out; unfold maxLen; omega) (by have := HLEN.out; omega) (by have := HA3.out.size; simp; omega) ?_; intro v6 w6 hown6 hg6 _; have hg6 : (wz.alloc (.cells #[.int .i64 (t0 : Nat), .int .i64 (N4 : Nat)] 60)).grownBy w6 (Value.slice Ae l0.length ce).ownBlock := ⟨hg6.os, hg6.tape, hg6.output, hg6.size, hg6.block⟩; obtain ⟨A6, c6, rfl⟩ := Lsa.own_form hown6; have hk6 := (HK0.out.alloc (.cells #[.int .i64 (t0 : Nat), .int .i64 (N4 : Nat)] 60)).grown hg6 (fun e => by have := (World.ownsRow.lt HE0.out _ e.symm).1; omega); obtain ⟨z0, z1, z2, z3, z4⟩ := blk_cells4 hk6; obtain ⟨f0, f1, f2, f3⟩ := blk_fz4 hk6; have HAN := Lib.hid (ra_ep HA3.out HK0.out HD0.out HE0.out hown6 hg6); clear hk6 hown6 hg6)
          all_goals
            go_wp2_with (fail)
            go_roundw
            case rel => exact ⟨j + 1, kk + 5, by have := HKK.out; omega, by omega, val_int (by omega), by rw [HST.out]; exact HAN⟩
            case measure => simp [intOf]; omega
        · have dk : decide ((kk : Int) + 5 ≤ (n : Int)) = false := by simp; omega
          obtain rfl : Q = j := by omega
          have hcs := HCS.out
          generalize (List.range Q).map (lkAt ((xs.drop at_).drop 1)) = ep at *
          obtain ⟨dv, ev, hk0, hd0, he0⟩ := id HA.out.x
          simp only at hk0 hd0 he0
          obtain ⟨Ad, nd, cd, rfl⟩ := ownL_sl hd0
          obtain ⟨Ae, ne, ce, rfl⟩ := ownE_sl he0
          have my := rmay_st ⟨db, U, (B : Nat), ep⟩ (.slice Ad nd cd) (.slice Ae ne ce) wr ⟨hd0.las, ownE_lks he0⟩
          simp only [stV] at my
          obtain ⟨x0, x1, x2, x3, x4⟩ := blk_cells4 hk0
          have HK0 := Lib.hid hk0; clear hk0
          have HD0 := Lib.hid hd0; clear hd0
          have HE0 : Hid (OwnE wr (gx + 1) (.slice Ae ne ce) ep) := Lib.hid he0; clear he0
          cases hm : mayS ⟨db, U, (B : Nat), ep⟩
          · rw [hm] at my hcs
            rw [if_neg (by simp)] at hcs
            have MY := Lib.hid my; clear my hm
            have HCN := Lib.hid hcs; clear hcs HCS hkk
            go_wp2_with (go_at_call 13; refine (MY.out).mono ?_; rintro e w7 ⟨rfl, hb7⟩; have ha7 := HA.out.below hb7; obtain ⟨z0, z1, z2, z3, z4⟩ := blk_cells4 ha7.res; obtain ⟨f0, f1, f2, f3⟩ := blk_fz4 ha7.res; have HF := Lib.hid (NO.out _ HCN.out (below_upd4 (a := .slice none 0 0) (b := .int .i64 0) (c := .int .i64 0) (d := .slice none 0 0) ha7.low)); clear ha7 hb7)
            refine bodyPost_ret (v := .tuple #[stV zeroS (.slice none 0 0) (.slice none 0 0), .bool false]) ?_ rfl HF.out
            simp [results, Try.results22, go_sem, z0, z1, z2, z3, zeroS]
          · have rb := fun (W : World) (hS : StM W W.heap.size (.slice Ad nd cd) (.slice Ae ne ce) ⟨db, U, (B : Nat), ep⟩) => rbytes_any ⟨db, U, (B : Nat), ep⟩ (.slice Ad nd cd) (.slice Ae ne ce) W hS hm
            rw [hm] at my hcs
            simp only [stV] at rb
            have MY := Lib.hid my; clear my hm
            have sq := fun (A' : Option Addr) (n' c' : Nat) (W : World) (hA : Sl W W.heap.size (.slice A' n' c') (bytesS ⟨db, U, (B : Nat), ep⟩)) (hB : Sl W W.heap.size (.slice (some ⟨b, off, none⟩) n c) xs) => rsame_any A' (some ⟨b, off, none⟩) n' n c' c _ _ (bytesS ⟨db, U, (B : Nat), ep⟩) xs W (sl_bts4 hA) (sl_bts4 hB)
            have RB := Lib.hid rb; clear rb HCS hkk
            by_cases hbx : bytesS ⟨db, U, (B : Nat), ep⟩ = xs
            · rw [if_pos ⟨rfl, hbx⟩] at hcs
              rw [decide_eq_true hbx] at sq
              have SQ := Lib.hid sq; clear sq hbx
              have HCY := Lib.hid hcs; clear hcs
              go_wp2_with (first
                | (go_at_call 13; refine (MY.out).mono ?_; rintro e w7 ⟨rfl, hb7⟩; have HA7 := Lib.hid (HA.out.below hb7); have HD7 := Lib.hid (HD0.out.below hb7); have HE7 : Hid (OwnE w7 (gx + 1) (.slice Ae ne ce) ep) := Lib.hid (own_below HE0.out hb7); have HB7 := Lib.hid hb7; obtain ⟨q0, q1, q2, q3, q4⟩ := blk_cells4 (HK0.out.below hb7 HK0.out.lt); clear hb7)
                | (go_at_call 21; refine (RB.out w7 ⟨HD7.out.las, ownE_lks HE7.out⟩).mono ?_; rintro e w8 ⟨v8, rfl, hs8, hb8⟩; obtain ⟨A8, n8, c8, rfl, _⟩ := id hs8; have HS8 := Lib.hid hs8; have HA8 := Lib.hid (HA7.out.below hb8); have HD8 := Lib.hid (HD7.out.below hb8); have HE8 : Hid (OwnE w8 (gx + 1) (.slice Ae ne ce) ep) := Lib.hid (own_below HE7.out hb8); have HK8 := Lib.hid ((HK0.out.below HB7.out HK0.out.lt).below hb8 (HK0.out.below HB7.out HK0.out.lt).lt); clear hs8 hb8)
                | (go_at_call 20; refine (SQ.out _ _ _ _ HS8.out (HS.out _ HA8.out.low)).mono ?_; rintro e w9 ⟨rfl, m9, rfl⟩; have hbd := below_drewN (Below.refl w8.heap.size w8) m9; have ha9 := HA8.out.below hbd; obtain ⟨z0, z1, z2, z3, z4⟩ := blk_cells4 ha9.res; obtain ⟨f0, f1, f2, f3⟩ := blk_fz4 ha9.res; obtain ⟨y0, y1, y2, y3, y4⟩ := blk_cells4 (HK8.out.below hbd HK8.out.lt); have hf := YES.out (w8.drewN m9) (.slice Ad nd cd) (.slice Ae ne ce) gx ⟨db, U, (B : Nat), ep⟩ HCY.out ha9 (HD8.out.below hbd) (own_below HE8.out hbd); simp only [stV] at hf; have HF := Lib.hid hf; clear hf; clear ha9 hbd))
              refine bodyPost_ret (v := .tuple #[.agg #[.slice Ad nd cd, .int .i64 U, .int .i64 (B : Nat), .slice Ae ne ce], .bool true]) ?_ rfl HF.out
              simp [results, Try.results22, go_sem, z0, z1, z2, z3]
            · rw [if_neg (fun h => hbx h.2)] at hcs
              rw [decide_eq_false hbx] at sq
              have SQ := Lib.hid sq; clear sq hbx
              have HCN := Lib.hid hcs; clear hcs
              go_wp2_with (first
                | (go_at_call 13; refine (MY.out).mono ?_; rintro e w7 ⟨rfl, hb7⟩; have HA7 := Lib.hid (HA.out.below hb7); have HD7 := Lib.hid (HD0.out.below hb7); have HE7 : Hid (OwnE w7 (gx + 1) (.slice Ae ne ce) ep) := Lib.hid (own_below HE0.out hb7); have HB7 := Lib.hid hb7; obtain ⟨q0, q1, q2, q3, q4⟩ := blk_cells4 (HK0.out.below hb7 HK0.out.lt); clear hb7)
                | (go_at_call 21; refine (RB.out w7 ⟨HD7.out.las, ownE_lks HE7.out⟩).mono ?_; rintro e w8 ⟨v8, rfl, hs8, hb8⟩; obtain ⟨A8, n8, c8, rfl, _⟩ := id hs8; have HS8 := Lib.hid hs8; have HA8 := Lib.hid (HA7.out.below hb8); have HD8 := Lib.hid (HD7.out.below hb8); have HE8 : Hid (OwnE w8 (gx + 1) (.slice Ae ne ce) ep) := Lib.hid (own_below HE7.out hb8); have HK8 := Lib.hid ((HK0.out.below HB7.out HK0.out.lt).below hb8 (HK0.out.below HB7.out HK0.out.lt).lt); clear hs8 hb8)
                | (go_at_call 20; refine (SQ.out _ _ _ _ HS8.out (HS.out _ HA8.out.low)).mono ?_; rintro e w9 ⟨rfl, m9, rfl⟩; have hbd := below_drewN (Below.refl w8.heap.size w8) m9; have ha9 := HA8.out.below hbd; obtain ⟨z0, z1, z2, z3, z4⟩ := blk_cells4 ha9.res; obtain ⟨f0, f1, f2, f3⟩ := blk_fz4 ha9.res; obtain ⟨y0, y1, y2, y3, y4⟩ := blk_cells4 (HK8.out.below hbd HK8.out.lt); have HF := Lib.hid (NO.out _ HCN.out (below_upd4 (a := .slice none 0 0) (b := .int .i64 0) (c := .int .i64 0) (d := .slice none 0 0) ha9.low)); clear ha9 hbd))
              refine bodyPost_ret (v := .tuple #[stV zeroS (.slice none 0 0) (.slice none 0 0), .bool false]) ?_ rfl HF.out
              simp [results, Try.results22, go_sem, z0, z1, z2, z3, zeroS]
end Go.Proofs.Ytcojimbnenibnaa.Bas
/- BaseGets: for every bytes the law returns true and its argument reads as before: which state they are, if one, is as the document says. No condition. -/
namespace Go.Proofs.Ytcojimbnenibnaa.baseGets
open Go.RowKit Go.Proofs.Ytcojimbnenibnaa.Mem Go.Proofs.Ytcojimbnenibnaa.Oct Go.Proofs.Ytcojimbnenibnaa.Lsa Go.Proofs.Ytcojimbnenibnaa.Chg Go.Proofs.Ytcojimbnenibnaa.Bas
set_option linter.unusedVariables false
set_option linter.unusedSimpArgs false
theorem own_lit0 (w : World) (base g : Nat) (hg : g = w.heap.size) (hb : base ≤ w.heap.size) : (w.alloc (.cells #[] 5)).ownsRow base 5 1 (.slice (some ⟨g, 0, none⟩) 0 0) 0 [] := by
  subst hg
  exact World.ownsRow_lit w #[] 0 hb (by unfold maxLen; omega) rfl
set_option maxHeartbeats 2000000 in
theorem walk_long (a0 : Option Addr) (n0 c0 : Nat) (w : World) (h : 3000 < n0) :
    Calls Try.prog 5 #[.slice a0 n0 c0] w fun e w' => e = .returned (.bool true) ∧ Below w.heap.size w w' := by
  have hd : decide ((3000 : Int) < n0) = true := by simp; omega
  go_enter Try.func5, Try.ntmps5
  go_wp2_with (go_at_call 9; refine (awake11_any _).mono ?_; rintro e w5 ⟨rfl, hb⟩; have HB5 := Lib.hid hb; clear hb)
  go_ret
  exact ⟨rfl, HB5.out⟩
set_option maxRecDepth 20000 in
set_option maxHeartbeats 8000000 in
theorem walk_short (a0 : Option Addr) (n0 c0 : Nat) (xs : List Nat) (w : World) (h0 : n0 ≤ 3000) (hb : Sl w w.heap.size (.slice a0 n0 c0) xs) (hl : xs.length = n0) :
    Calls Try.prog 5 #[.slice a0 n0 c0] w fun e w' => e = .returned (.bool true) ∧ Below w.heap.size w w' := by
  have hd : decide ((3000 : Int) < n0) = false := by simp; omega
  obtain ⟨i0, hi, hz0, hz1, hz2⟩ := info_parts Try.info5
  have HI := Lib.hid hi; clear hi
  have HZ0 := Lib.hid hz0; clear hz0
  have HZ1 := Lib.hid hz1; clear hz1
  have HZ2 := Lib.hid hz2; clear hz2
  have hxlt := hb.lt
  have HX := Lib.hid (fun (W : World) (hW : Below w.heap.size w W) => sl_up hb hW)
  have gt := fun (v : Value) (W : World) (hv : Sl W W.heap.size v xs) => sget_any v xs W hv (by omega)
  have rd := fun (W : World) (hW : Below w.heap.size w W) => sread_any (.slice a0 n0 c0) xs W (HX.out W hW) (by omega)
  rw [getS_eq hxlt] at gt
  generalize refRead xs = R at *
  have HXLT := Lib.hid hxlt; clear hxlt hb
  have sm := fun (s : Sta) (A A' B B' : Option Addr) (n n' m m' c c' d d' : Nat) (W : World) (h : StM W W.heap.size (.slice A n c) (.slice A' n' c') s) (h' : StM W W.heap.size (.slice B m d) (.slice B' m' d') s) => rsame_st s s (.slice A n c) (.slice A' n' c') (.slice B m d) (.slice B' m' d') W h h'
  unfold GetOutS errG at gt
  unfold SReadOut at rd
  obtain ⟨s, hs⟩ : ∃ s, s = R.getD zeroS := ⟨_, rfl⟩
  rw [← hs] at gt rd
  have sm := sm s
  rw [sameS_self] at sm
  simp only [stV] at gt rd sm
  have SM := Lib.hid sm; clear sm
  clear hs
  cases R
  all_goals
    simp only [Option.isSome] at gt rd
    have GT := Lib.hid gt; clear gt
    have RD := Lib.hid rd; clear rd
    go_enter Try.func5, Try.ntmps5
    go_wp2_with (first
      | (at_builtin; (refine wpList_append_any _ rfl (.tmp 12) (.tmp 13) 36 rfl w.heap.size 5 i0 (.int .u8 0) 1 1 Try.underlying36 HI.out HZ0.out HZ1.out HZ2.out rfl (by decide) (.slice (some ⟨w.heap.size, 0, none⟩) 0 0) 0 [] rfl (own_lit0 w w.heap.size w.heap.size rfl (Nat.le_refl _)) _ a0 n0 c0 (vals xs) rfl (sl_bts4 (HX.out _ (low1 (Below.refl _ _) (.cells #[] 5)))).reads (vals_one _) (by unfold maxLen; omega) (by omega) (by simp) ?_; intro v2 w2 hown2 hg2 _; rewrite [Nat.zero_add, List.nil_append] at hown2; obtain ⟨A2, c2, rfl⟩ := Lsa.own_form hown2; have HS2 := Lib.hid (sl_own hown2 HXLT.out (by omega)); have HB2 := Lib.hid ((low1 (Below.refl w.heap.size w) (.cells #[] 5)).grown hg2 (by simp) (fun q hq => by cases hq; exact Nat.le_refl _)); clear hown2 hg2))
      | (go_at_call 19; refine (GT.out _ _ HS2.out).mono ?_; rintro e w3 ⟨dv3, ev3, rfl, hs3, hb3⟩; obtain ⟨A3, n3, c3, rfl, hq_⟩ := id hs3.1; obtain ⟨A4, n4, c4, rfl, hr_⟩ := id hs3.2; clear hq_ hr_; have HS3 := Lib.hid hs3; have HB3 := Lib.hid (low_low HB2.out hb3); clear hs3 hb3)
      | (go_at_call 22; refine (RD.out _ (low1 HB3.out (.cells #[.slice A3 n3 c3, .int .i64 s.up, .int .i64 s.bo, .slice A4 n4 c4] 25))).mono ?_; rintro e w4 ⟨dv4, ev4, rfl, hs4, hb4⟩; obtain ⟨A5, n5, c5, rfl, hq_⟩ := id hs4.1; obtain ⟨A6, n6, c6, rfl, hr_⟩ := id hs4.2; clear hq_ hr_; have hx := (Blk.new w3 25 #[.slice A3 n3 c3, .int .i64 s.up, .int .i64 s.bo, .slice A4 n4 c4]).below hb4 (by simp); obtain ⟨x0, x1, x2, x3, x4⟩ := blk_cells4 hx; have HSX := Lib.hid (((HS3.out.up (low1 (Below.refl _ _) (.cells #[.slice A3 n3 c3, .int .i64 s.up, .int .i64 s.bo, .slice A4 n4 c4] 25))).up hb4).up (low1 (Below.refl _ _) (.cells #[.slice A5 n5 c5, .int .i64 s.up, .int .i64 s.bo, .slice A6 n6 c6] 25))); have HSV := Lib.hid (hs4.up (low1 (Below.refl _ _) (.cells #[.slice A5 n5 c5, .int .i64 s.up, .int .i64 s.bo, .slice A6 n6 c6] 25))); have HB4 := Lib.hid (low1 (low_low (low1 HB3.out (.cells #[.slice A3 n3 c3, .int .i64 s.up, .int .i64 s.bo, .slice A4 n4 c4] 25)) hb4) (.cells #[.slice A5 n5 c5, .int .i64 s.up, .int .i64 s.bo, .slice A6 n6 c6] 25)); clear hs4 hb4 hx)
      | (go_at_call 14; refine (SM.out _ _ _ _ _ _ _ _ _ _ _ _ _ HSX.out HSV.out).mono ?_; rintro e w5 ⟨rfl, hb5⟩; have HBQ := Lib.hid (low_low HB4.out hb5); clear hb5)
      | (go_at_call 9; refine (awake11_any _).mono ?_; rintro e w9 ⟨rfl, hb9⟩; have HB9 := Lib.hid (low_low HBQ.out hb9); clear hb9))
    go_ret
    exact ⟨rfl, HB9.out⟩
theorem walk (a0 : Option Addr) (len0 cap0 : Nat) (z0 : List Int) (w : World) (w0 : IsRow .u8 w a0 len0 cap0 z0) :
    Calls Try.prog 5 #[.slice a0 len0 cap0] w fun e w' => e = .returned (.bool true) ∧ Below w.heap.size w w' := by
  by_cases h : 3000 < len0
  · exact walk_long a0 len0 cap0 w h
  · obtain ⟨xs, hx, hl⟩ := sl_of_row w0 (by omega)
    exact walk_short a0 len0 cap0 xs w (by omega) hx hl
open Go.ChangeShapes Go.WideShapes Go.ChangeAt Go.RowKit
theorem own : ownKnob Try.prog.godebug = none := by kernel_rfl
theorem laidOut : laidOutB Try.prog = true := by kernel_rfl
/-! the step from the walk to the row -/
set_option maxRecDepth 100000 in
theorem lifted (os : Os) (started : os.Started) (H : Type) (enc : TypeId × Value → H) :
    ReturnsInHanded {} Try.checked os 5 .any (Rows.baseGetsSpec.pre6 enc Try.prog Try.f5 Rows.baseGetsRow.domain false) (Rows.baseGetsSpec.post enc Try.prog Try.f5 false true false false) := by
  refine returnsInHanded_of_change (C := Try.checked) own started (by kernel_rfl) Try.func5
    (ChangeSpec.witness6 (enc := enc) (C := Try.checked) false ⟨#[], #[.slice none 0 0], []⟩ 8 (by kernel_rfl) (by kernel_rfl) (by kernel_rfl) (by kernel_rfl)) ?_
  intro W base args ds gs before hval0 hW hcnd _
  have hval : ∀ (j : Nat) t v, Try.f5.params[j]? = some t → args[j]? = some v → Value.okWide Try.prog W .any base t v := hval0
  have hW' := hW
  obtain ⟨p, q, hA0, hV, rfl, hfz, hnd⟩ := hW
  have hA : DataW.TrodAll enc Try.prog W 0 (fun _ => true) true Try.f5.params.toList args.toList ds p := hA0
  rw [Try.params5] at hA hval
  obtain ⟨v0, vs0, d0, ds0, p0, q0, hargs, rfl, rfl, h0, r0⟩ := trodAll_cons hA
  obtain ⟨rfl, rfl, rfl⟩ := trodAll_nil r0
  obtain rfl : args = #[v0] := by cases args; simp_all
  obtain ⟨rfl, rfl⟩ := trodVars_none hV
  obtain ⟨a0, len0, cap0, rfl⟩ := okWide_slice Try.underlying36 (hval 0 36 v0 rfl rfl)
  have k0 := h0
  have lt0 : ∀ x ∈ p0, x.block < W.heap.size := by obtain ⟨m, hm⟩ := k0; exact DataW.trod_lt m _ _ _ hm
  obtain ⟨z0, w0⟩ : ∃ zs, IsRow .u8 W a0 len0 cap0 zs := by
    obtain ⟨fuel, hf⟩ := h0
    rcases open_ints Try.underlying36 Try.underlying5 (by kernel_rfl) hf with ⟨hcs, _⟩ | ⟨x, l, c, zs, hcs, _, hl, hm, hz, _, hcell, hwz⟩
    · simp [Value.cells] at hcs
      obtain ⟨rfl, rfl, rfl⟩ := hcs
      exact ⟨[], .inl ⟨rfl, rfl, rfl, rfl⟩⟩
    · simp [Value.cells] at hcs
      obtain ⟨rfl, rfl, rfl⟩ := hcs
      exact ⟨zs, .inr ⟨_, rfl, hl, hm, by simpa using hz, hcell, hwz⟩⟩
  clear hA0 hval0
  refine (walk a0 len0 cap0 z0 W w0).mono fun e W' ⟨he, bel⟩ => ?_
  subst he
  exact ⟨_, rfl, _, _, _, [], _, [], hW', trodAll_mk1 (shut_bool Try.underlying4 _), (trodAll_cons_mk (Below.trod laidOut (by kernel_rfl) (of_decide_eq_true (by kernel_rfl)) k0 bel lt0) trodAll_mk0), rfl, bel.frame _, fun h => by cases h⟩

theorem over : Rows.baseGetsRow.holds Try.pinned (OpenSpec.ofChange Rows.baseGetsSpec) :=
  OpenClaim.holds_of_wide 5 Try.f5 rfl rfl rfl rfl rfl rfl rfl ⟨rfl, rfl, rfl, rfl, rfl⟩ rfl rfl rfl rfl rfl (by kernel_rfl) Try.func5 (by kernel_rfl)
    (of_decide_eq_true (by kernel_rfl)) (by unfold Func.isWrapper; first | (rw [if_pos (by decide +kernel)]; kernel_rfl) | (rw [if_neg (by decide +kernel)]; exact ⟨rfl, rfl⟩))
    (fun os started H enc _ => lifted os started H enc)

/-- the statement -/
theorem proved : Rows.BaseGetsSaid := over
end Go.Proofs.Ytcojimbnenibnaa.baseGets
