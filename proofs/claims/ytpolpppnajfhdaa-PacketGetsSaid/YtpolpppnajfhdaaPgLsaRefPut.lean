/- The reference's bytes of an Lsa that may be (layer 9). -/
import Derived.Test.YtpolpppnajfhdaaPgLsaPut
import Derived.Test.YtpolpppnajfhdaaPgRef
import Derived.Deep.RegionHeld3
import Derived.IntWalk
namespace Go.Proofs.Ytpolpppnajfhdaa.Lsa
open Go.RowKit Go.Proofs.Ytpolpppnajfhdaa.Mem Go.Proofs.Ytpolpppnajfhdaa.Oct
set_option linter.unusedVariables false
set_option linter.unusedSimpArgs false
theorem be_one {n : Nat} (h : n < 256) : be 1 n = [n] := by simp [be]; omega
theorem own_fix {w : World} {base n n' : Nat} {v : Value} {xs ys : List Nat} {zs : List Value} (h : w.ownsRow base 5 1 v n zs) (hz : zs = vals ys) (hn : n = n') (hx : ys = xs) : w.ownsRow base 5 1 v n' (vals xs) := by
  subst hz hn hx
  exact h
theorem own_reads {w : World} {base n : Nat} {v : Value} {xs : List Value} (h : w.ownsRow base 5 1 v n xs) : ∃ A c, v = .slice A n c ∧ Reads w w.heap.size 1 A n xs := own_slice h
theorem undrew {B : Nat} {w w' : World} (h : Below B w.drew w') : Below B w w' := ⟨h.os, h.tape, h.output, h.size, h.block⟩
set_option maxRecDepth 20000 in
set_option maxHeartbeats 8000000 in
theorem rput_any (o s : Int) (A : Option Addr) (n c : Nat) (ls : List Lk) (w : World) (h : Lks w w.heap.size (.slice A n c) ls) (hm : may o s ls = true) :
    Calls Try.prog 38 #[lsaV o s (.slice A n c)] w fun e w' => ∃ v', e = .returned v' ∧ Sl w' w'.heap.size v' (bytesOf o s ls) ∧ Below w.heap.size w w' := by
  obtain ⟨hl, hnc, hcm, _⟩ := lks_len h
  obtain ⟨i0, hi, hz0, hz1, hz2⟩ := info_parts Try.info5
  have HI := Lib.hid hi; clear hi
  have HZ0 := Lib.hid hz0; clear hz0
  have HZ1 := Lib.hid hz1; clear hz1
  have HZ2 := Lib.hid hz2; clear hz2
  obtain ⟨ho, hs, hn16, hlk⟩ := may_iff.1 hm
  rw [hl] at hn16
  have hall := linksOk_all hlk
  obtain ⟨o', rfl⟩ : ∃ o' : Nat, o = (o' : Int) := ⟨o.toNat, by omega⟩
  obtain ⟨s', rfl⟩ : ∃ s' : Nat, s = (s' : Int) := ⟨s.toNat, by omega⟩
  have hb1 := up1 (Below.refl w.heap.size w) (.cells #[.int .i64 (o' : Nat), .int .i64 (s' : Nat), .slice A n c] 49)
  have k0 := Blk.new w 49 #[.int .i64 (o' : Nat), .int .i64 (s' : Nat), .slice A n c]
  have hend : (headBytes o' s' n ++ linkBytes ls) = bytesOf o' s' ls := by rw [bytesOf, hl]
  have hd1 : [o'] ++ be 8 s' ++ [n] = headBytes o' s' n := by
    rw [headBytes, Int.toNat_natCast, Int.toNat_natCast, be_one (by omega), be_one (by omega)]
  have hhl := headBytes_length o' s' n
  have rn := fun (W : World) => ref_num 8 s' W (by omega) (by omega)
  have e8 : ((8 : Nat) : Int) = 8 := rfl
  rw [e8] at rn
  have w1 : IntKind.u8.wrap (o' : Int) = (o' : Int) := by rw [IntKind.wrap_u8]; omega
  have w2 : IntKind.u64.wrap (s' : Int) = (s' : Int) := by rw [IntKind.wrap_u64]; omega
  have w3 : IntKind.u8.wrap (n : Int) = (n : Int) := by rw [IntKind.wrap_u8]; omega
  have hob : o' < 256 := by omega
  have hnb : n < 256 := by omega
  obtain ⟨w0, hw0⟩ : ∃ w0, w0 = w.alloc (.cells #[.int .i64 (o' : Nat), .int .i64 (s' : Nat), .slice A n c] 49) := ⟨_, rfl⟩
  rw [← hw0] at hb1 k0
  have hs0 : w0.heap.size = w.heap.size + 1 := by rw [hw0]; simp
  obtain ⟨x0, x1, x2, x3⟩ := blk_cells3 k0
  have RN := Lib.hid rn; clear rn
  have HEND := Lib.hid hend; clear hend
  have HD1 := Lib.hid hd1; clear hd1
  have HB1 := Lib.hid hb1; clear hb1 hm hlk e8
  have HHL := Lib.hid hhl; clear hhl
  have HALL := Lib.hid hall; clear hall
  have HS := Lib.hid h; clear h
  have HL := Lib.hid hl; clear hl
  have K0 := Lib.hid k0; clear k0
  have HS0 := Lib.hid hs0; clear hs0
  go_enter Try.func38, Try.ntmps38
  go_wp2
  rewrite [← hw0]
  clear hw0
  go_region_held3 (fun W => W.cell? ⟨w.heap.size, 0, none⟩ = some (.int .i64 (o' : Nat)) ∧ W.cell? ⟨w.heap.size, 1, none⟩ = some (.int .i64 (s' : Nat)))
    (first
      | with_reducible exact ⟨x0, x1⟩
      | with_reducible exact ⟨y0, y1⟩
      | with_reducible exact ⟨z0, z1⟩
      | go_keep)
    (first
      | (go_at_call 37; refine (RN.out _).mono ?_; rintro e w2 ⟨v2, rfl, ho2, hb2⟩; have hb2 : Below (w0.alloc (.cells #[.int .u8 (o' : Nat)] 5)).heap.size (w0.alloc (.cells #[.int .u8 (o' : Nat)] 5)) w2 := undrew hb2; obtain ⟨A2, c2, rfl, hr2⟩ := own_reads ho2; have HR2 := Lib.hid hr2; have HB2 := Lib.hid ((up1 HB1.out (.cells #[.int .u8 (o' : Nat)] 5)).trans (hb2.mono (up1 HB1.out (.cells #[.int .u8 (o' : Nat)] 5)).size)); have K2 := Lib.hid ((K0.out.alloc (.cells #[.int .u8 (o' : Nat)] 5)).below hb2 (by simp; omega)); have HOL := Lib.hid (own_below (own_byte w0 (w.heap.size + 1) w0.heap.size rfl (by omega) (o' : Int) o' rfl) hb2); obtain ⟨y0, y1, _, _⟩ := blk_cells3 K2.out; have hs2 := K2.out.lt; clear hb2 ho2 hr2)
      | (go_at_call 37; refine (RN.out _).mono ?_; rintro e w2 ⟨v2, rfl, ho2, hb2⟩; have hb2 : Below w0.heap.size w0 w2 := undrew hb2; obtain ⟨A2, c2, rfl, hr2⟩ := own_reads ho2; have HR2 := Lib.hid hr2; have HB2 := Lib.hid (HB1.out.trans (hb2.mono HB1.out.size)); have K2 := Lib.hid (K0.out.below hb2 (by omega)); obtain ⟨y0, y1, _, _⟩ := blk_cells3 K2.out; have hs2 := K2.out.lt; clear hb2 ho2 hr2)
      | (refine step_append_any _ rfl (.tmp 8) (.tmp 12) 29 rfl (w.heap.size + 1) 5 i0 (.int .u8 0) 1 1 Try.underlying29 HI.out HZ0.out HZ1.out HZ2.out rfl (by decide) (.slice (some ⟨w0.heap.size, 0, none⟩) 1 1) 1 (vals [o']) rfl HOL.out w2.heap.size A2 8 c2 (vals (be 8 s')) rfl HR2.out (vals_one _) (by unfold maxLen; omega) (by omega) (by omega) ?_; intro v3 w3 hown3 hg3 _; have HB3 := Lib.hid (HB2.out.grown hg3 HB2.out.size (fun q hq => by have := (HOL.out.lt q hq).1; omega)); have K3 := Lib.hid (K2.out.grown hg3 (fun e => by have := (HOL.out.lt _ e.symm).1; omega)); have HO3 := Lib.hid hown3; obtain ⟨z0, z1, z2, z3⟩ := blk_cells3 K3.out; clear hown3 hg3)
      | (refine step_append_any _ rfl (.tmp 8) (.tmp 12) 29 rfl (w.heap.size + 1) 5 i0 (.int .u8 0) 1 1 Try.underlying29 HI.out HZ0.out HZ1.out HZ2.out rfl (by decide) (.slice (some ⟨w2.heap.size, 0, none⟩) 1 1) 1 (vals [o']) rfl (own_byte w2 (w.heap.size + 1) w2.heap.size rfl hs2 (o' : Int) o' rfl) w2.heap.size A2 8 c2 (vals (be 8 s')) rfl (HR2.out.alloc (Nat.le_refl _) _) (vals_one _) (by unfold maxLen; omega) (by omega) (by simp; omega) ?_; intro v3 w3 hown3 hg3 _; have HB3 := Lib.hid ((up1 HB2.out (.cells #[.int .u8 (o' : Nat)] 5)).grown hg3 (up1 HB2.out (.cells #[.int .u8 (o' : Nat)] 5)).size (fun q hq => by cases hq; exact HB2.out.size)); have K3 := Lib.hid ((K2.out.alloc (.cells #[.int .u8 (o' : Nat)] 5)).grown hg3 (fun e => Nat.ne_of_lt hs2 (Option.some.inj e))); have HO3 := Lib.hid hown3; obtain ⟨z0, z1, z2, z3⟩ := blk_cells3 K3.out; clear hown3 hg3))
  all_goals
    have HOX := Lib.hid (own_fix (n' := 9) (xs := [o'] ++ be 8 s') HO3.out (vals_append _ _).symm rfl rfl)
    obtain ⟨A3, c3, rfl⟩ := own_form HOX.out
    have hs3 := K3.out.lt
    go_wp2_with (at_builtin; (refine wpList_append_any _ rfl (.tmp 14) (.tmp 19) 29 rfl (w.heap.size + 1) 5 i0 (.int .u8 0) 1 1 Try.underlying29 HI.out HZ0.out HZ1.out HZ2.out rfl (by decide) (.slice A3 9 c3) 9 (vals ([o'] ++ be 8 s')) rfl (HOX.out.alloc _) (w3.heap.size + 1) (some ⟨w3.heap.size, 0, none⟩) 1 1 (vals [n]) rfl (reads_byte w3 _ rfl _ n rfl) (vals_one _) (by unfold maxLen; omega) (by omega) (by simp; omega) ?_; intro v4 w4 hown4 hg4 _))
    have hle4 : ∀ q, (Value.slice A3 9 c3).ownBlock = some q → w.heap.size + 1 ≤ q := fun q hq => (HOX.out.lt q hq).1
    have HB4 := Lib.hid ((up1 HB3.out (.cells #[.int .u8 (n : Nat)] 5)).grown hg4 (up1 HB3.out _).size (fun q hq => Nat.le_of_succ_le (hle4 q hq)))
    have K4 := Lib.hid ((K3.out.alloc (.cells #[.int .u8 (n : Nat)] 5)).grown hg4 (fun e => by have := hle4 _ e.symm; omega))
    have HO4 := Lib.hid (own_fix (n' := 10 + 5 * 0) (xs := headBytes o' s' n ++ linkBytes (ls.take 0)) hown4 (vals_append _ _).symm rfl (by rw [HD1.out]; simp [linkBytes]))
    clear hown4 hg4 hle4
    go_loopw [3, 4] (fun z i wr => ∃ k ln : Nat, k ≤ n ∧ i = .int .i64 k ∧ ln = 10 + 5 * k ∧ wr.ownsRow (w.heap.size + 1) 5 1 z ln (vals (headBytes o' s' n ++ linkBytes (ls.take k))) ∧ Blk wr w.heap.size 49 #[.int .i64 (o' : Nat), .int .i64 (s' : Nat), .slice A n c] ∧ Below w.heap.size w wr) (fun _ i _ => n - (intOf i).toNat)
    case atStart => exact ⟨0, _, Nat.zero_le _, rfl, rfl, HO4.out, K4.out, HB4.out⟩
    case round =>
      obtain ⟨k, ln, hk, rfl, hln', hown, hbk, hbw⟩ := hrel
      obtain ⟨A5, c5, rfl⟩ := own_form hown
      obtain ⟨q0, q1, q2, q3⟩ := blk_cells3 hbk
      have HOW := Lib.hid hown; clear hown
      have HBK := Lib.hid hbk; clear hbk
      have HBW := Lib.hid hbw; clear hbw
      by_cases hlt : k < n
      · obtain ⟨b, off, rfl, hb, hc⟩ := lks_at HS.out (by omega)
        obtain ⟨c0', c1'⟩ := hc k hlt
        have hsucc := linkBytes_succ ls k (by have := HL.out; omega)
        have hmem : ls.getD k (0, 0) ∈ ls := by
          simp only [List.getD, List.getElem?_eq_getElem (show k < ls.length by have := HL.out; omega), Option.getD_some]
          exact List.getElem_mem _
        have hbd := HALL.out _ hmem
        clear hmem hc
        generalize ls.getD k (0, 0) = x at *
        obtain ⟨t, u⟩ := x
        simp only at c0' c1' hbd
        obtain ⟨t', rfl⟩ : ∃ t' : Nat, t = (t' : Int) := ⟨t.toNat, by omega⟩
        obtain ⟨u', rfl⟩ : ∃ u' : Nat, u = (u' : Int) := ⟨u.toNat, by omega⟩
        have HC0 := Lib.hid (fun (W : World) (hW : Below w.heap.size w W) => (hW.cell (p := ⟨b, off + k * 2, none⟩) hb).trans c0')
        have HC1 := Lib.hid (fun (W : World) (hW : Below w.heap.size w W) => (hW.cell (p := ⟨b, off + k * 2 + 1, none⟩) hb).trans c1')
        have d0 := HC0.out _ HBW.out
        have d1 := HC1.out _ HBW.out
        have rn4 := fun (W : World) => ref_num 4 u' W (by omega) (by omega)
        have e4 : ((4 : Nat) : Int) = 4 := rfl
        rewrite [e4] at rn4
        have RN4 := Lib.hid rn4; clear rn4 e4
        have w4' : IntKind.u8.wrap (t' : Int) = (t' : Int) := by rw [IntKind.wrap_u8]; omega
        have w5' : IntKind.u64.wrap (u' : Int) = (u' : Int) := by rw [IntKind.wrap_u64]; omega
        have htb : t' < 256 := by omega
        have hfin : headBytes o' s' n ++ linkBytes (ls.take k) ++ [t'] ++ be 4 u' = headBytes o' s' n ++ linkBytes (ls.take (k + 1)) := by
          rw [hsucc, lkBytes, Int.toNat_natCast, Int.toNat_natCast, be_one htb]
          simp
        generalize headBytes o' s' n ++ linkBytes (ls.take k) = ys at *
        have HFIN := Lib.hid hfin; clear hfin hsucc c0' c1'
        have hln : ln ≤ 100 := by omega
        have HLN := Lib.hid hln'; clear hln'
        have hws := HBK.out.lt
        have hk0 : (0 : Int) ≤ (k : Int) := by omega
        have hk1 : (k : Int) < (n : Int) := by omega
        have hle5 : ∀ q, (Value.slice A5 ln c5).ownBlock = some q → w.heap.size + 1 ≤ q := fun q hq => (HOW.out.lt q hq).1
        have HLE5 := Lib.hid hle5; clear hle5
        go_wp2
        go_region_held3 (fun W => W.cell? ⟨w.heap.size, 2, none⟩ = some (.slice (some ⟨b, off, none⟩) n c) ∧ W.cell? ⟨b, off + k * 2, none⟩ = some (.int .i64 (t' : Nat)) ∧ W.cell? ⟨b, off + k * 2 + 1, none⟩ = some (.int .i64 (u' : Nat)))
          (first
            | with_reducible exact ⟨q2, d0, d1⟩
            | with_reducible exact ⟨r2, r3, r4⟩
            | with_reducible exact ⟨s2, s3, s4⟩
            | with_reducible exact ⟨t2, t3, t4⟩
            | go_keep)
          (first
            | (refine step_append_any _ rfl (.tmp 28) (.tmp 36) 29 rfl (w.heap.size + 1) 5 i0 (.int .u8 0) 1 1 Try.underlying29 HI.out HZ0.out HZ1.out HZ2.out rfl (by decide) (.slice A5 ln c5) ln (vals ys) rfl ((HOW.out.alloc (.cells #[.int .u8 (t' : Nat)] 5)).drew) (wr.heap.size + 1) (some ⟨wr.heap.size, 0, none⟩) 1 1 (vals [t']) rfl ((reads_byte wr wr.heap.size rfl _ t' rfl).drew) (vals_one _) (by unfold maxLen; omega) (by omega) (by simp; omega) ?_; intro v6 w6 hown6 hg6 _; have hb6 := (up1 HBW.out (.cells #[.int .u8 (t' : Nat)] 5)).drew; have HB6 := Lib.hid (hb6.grown hg6 hb6.size (fun q hq => Nat.le_of_succ_le (HLE5.out q hq))); have K6 := Lib.hid (((HBK.out.alloc (.cells #[.int .u8 (t' : Nat)] 5)).drew).grown hg6 (fun e => Nat.lt_irrefl _ (HLE5.out _ e.symm))); have HO6 := Lib.hid (own_fix (n' := ln + 1) (xs := ys ++ [t']) hown6 (vals_append _ _).symm rfl rfl); obtain ⟨A6, c6, rfl⟩ := own_form HO6.out; have r2 := (blk_cells3 K6.out).2.2.1; have r3 := HC0.out _ HB6.out; have r4 := HC1.out _ HB6.out; have hs6 := K6.out.lt; clear hown6 hg6 hb6)
            | (go_at_call 37; refine (RN4.out _).mono ?_; rintro e w7 ⟨v7, rfl, ho7, hb7⟩; obtain ⟨A7, c7, rfl, hr7⟩ := own_reads ho7; have HR7 := Lib.hid hr7; have HB7 := Lib.hid (HB6.out.trans (hb7.mono HB6.out.size)); have K7 := Lib.hid (K6.out.below hb7 hs6); have HO7 := Lib.hid (own_below HO6.out hb7); have s2 := (blk_cells3 K7.out).2.2.1; have s3 := HC0.out _ HB7.out; have s4 := HC1.out _ HB7.out; have hs7 := K7.out.lt; clear ho7 hr7 hb7)
            | (refine step_append_any _ rfl (.tmp 37) (.tmp 45) 29 rfl (w.heap.size + 1) 5 i0 (.int .u8 0) 1 1 Try.underlying29 HI.out HZ0.out HZ1.out HZ2.out rfl (by decide) (.slice A6 (ln + 1) c6) (ln + 1) (vals (ys ++ [t'])) rfl HO7.out w7.heap.size A7 4 c7 (vals (be 4 u')) rfl HR7.out (vals_one _) (by unfold maxLen; omega) (by omega) (by omega) ?_; intro v8 w8 hown8 hg8 _; have HB8 := Lib.hid (HB7.out.grown hg8 HB7.out.size (fun q hq => Nat.le_of_succ_le (HO7.out.lt q hq).1)); have K8 := Lib.hid (K7.out.grown hg8 (fun e => Nat.lt_irrefl _ (HO7.out.lt _ e.symm).1)); have HO8 := Lib.hid (own_fix (n' := 10 + 5 * (k + 1)) hown8 (vals_append _ _).symm (by rw [HLN.out]; omega) HFIN.out); have t2 := (blk_cells3 K8.out).2.2.1; have t3 := HC0.out _ HB8.out; have t4 := HC1.out _ HB8.out; clear hown8 hg8))
        go_wp2
        go_roundw
        case rel => exact ⟨k + 1, _, by omega, by go_num, rfl, HO8.out, K8.out, HB8.out⟩
        case measure => simp [intOf]; omega
      · obtain rfl : k = n := by omega
        subst hln'
        have hfl : headBytes o' s' k ++ linkBytes (ls.take k) = bytesOf o' s' ls := by
          rw [List.take_of_length_le (by have := HL.out; omega)]
          exact HEND.out
        rw [hfl] at HOW
        have HSL := Lib.hid (sl_own HOW.out (bytesOf_lt _ _ _) (by omega))
        clear hfl
        go_wp2
        go_ret
        exact ⟨_, rfl, HSL.out, HBW.out⟩
end Go.Proofs.Ytpolpppnajfhdaa.Lsa
