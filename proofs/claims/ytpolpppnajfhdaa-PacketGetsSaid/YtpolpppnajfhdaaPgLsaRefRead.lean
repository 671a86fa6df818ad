/- Which Lsa any bytes begin with, by the reference (layer 9). -/
import Derived.Test.YtpolpppnajfhdaaPgLsaRefPut
import Derived.Test.YtpolpppnajfhdaaPgRefReads
import Derived.Deep.RegionLaw
namespace Go.Proofs.Ytpolpppnajfhdaa.Lsa
open Go.RowKit Go.Proofs.Ytpolpppnajfhdaa.Mem Go.Proofs.Ytpolpppnajfhdaa.Oct
set_option linter.unusedVariables false
set_option linter.unusedSimpArgs false
theorem num_one (xs : List Nat) (k : Nat) (h : k < xs.length) : num ((xs.drop k).take 1) = xs.getD k 0 := by
  rw [drop_at xs 0 k h]
  simp [num]
theorem many_at {xs : List Nat} (h : 10 ≤ xs.length) : many xs = xs.getD 9 0 := num_one xs 9 (by omega)
theorem ori_at {xs : List Nat} (h : 10 ≤ xs.length) : (lsaAt xs).1 = ((xs.getD 0 0 : Nat) : Int) := by
  have := num_one xs 0 (by omega)
  rw [List.drop_zero] at this
  rw [lsaAt, this]
theorem lkAt_at {xs : List Nat} {k : Nat} (h : 15 + 5 * k ≤ xs.length) : lkAt (xs.drop 10) k = (((xs.getD (10 + 5 * k) 0 : Nat) : Int), ((num ((xs.drop (11 + 5 * k)).take 4) : Nat) : Int)) := by
  rw [lkAt, List.drop_drop, List.drop_drop, num_one xs (10 + 5 * k) (by omega), show 10 + (5 * k + 1) = 11 + 5 * k by omega]
theorem range_snoc (f : Nat → Lk) (k : Nat) : (List.range (k + 1)).map f = (List.range k).map f ++ [f k] := by
  rw [List.range_succ, List.map_append]
  rfl
/-- the same, its links in a row of the call's own -/
def RReadOwn (w : World) (l : Int × Int × List Lk) (N : Nat) (e : Ending) (w' : World) : Prop :=
  ∃ v, e = .returned (.tuple #[lsaV l.1 l.2.1 v, .int .i64 (N : Nat)]) ∧ (∃ n, w'.ownsRow w.heap.size 85 2 v n (lkCells l.2.2)) ∧ Below w.heap.size w w'
set_option maxRecDepth 20000 in
set_option maxHeartbeats 4000000 in
theorem rread_short (A : Option Addr) (n c : Nat) (xs : List Nat) (w : World) (h : Bts w w.heap.size A n xs) (hs : n < 10 ∨ n < 10 + 5 * many xs) :
    Calls Try.prog 41 #[.slice A n c] w (RReadOwn w (0, 0, []) 0) := by
  have hl := h.1
  have hn := h.2.2.1
  have hb1 := up1 (Below.refl w.heap.size w) (.cells #[.int .i64 0, .int .i64 0, .slice none 0 0] 49)
  have k0 := Blk.new w 49 #[.int .i64 0, .int .i64 0, .slice none 0 0]
  have HB1 := Lib.hid hb1; clear hb1
  by_cases h10 : n < 10
  · have hd : decide ((n : Int) < 10) = true := by simp; omega
    clear hs
    go_enter Try.func41, Try.ntmps41
    go_wp2
    exact bodyPost_ret (v := .tuple #[lsaV 0 0 (.slice none 0 0), .int .i64 0]) (by simp [results, Try.results41, go_sem]) rfl ⟨_, rfl, ⟨0, own_none _ _⟩, HB1.out⟩
  · have hd : decide ((n : Int) < 10) = false := by simp; omega
    have hm := many_at (xs := xs) (by omega)
    obtain ⟨b, off, rfl, hb, hc⟩ := h.2.2.2 (by omega)
    have c9 := (HB1.out.cell (p := ⟨b, off + 9, none⟩) hb).trans (hc 9 (by omega))
    have hlt := getD_lt h.2.1 9
    rw [hm] at hs
    generalize xs.getD 9 0 = m at *
    have hd2 : decide ((n : Int) < 10 + 5 * (m : Int)) = true := by simp; omega
    have h9 : 9 < n := by omega
    clear hs hc hm
    go_enter Try.func41, Try.ntmps41
    go_wp2
    exact bodyPost_ret (v := .tuple #[lsaV 0 0 (.slice none 0 0), .int .i64 0]) (by simp [results, Try.results41, go_sem]) rfl ⟨_, rfl, ⟨0, own_none _ _⟩, HB1.out⟩
theorem rread_num (A : Option Addr) (n c : Nat) (xs : List Nat) (at_ k : Nat) (K : Int) (hK : K = (k : Int)) (W : World) (h : Sl W W.heap.size (.slice A n c) xs) (hk : at_ + k ≤ xs.length) (h1 : 1 ≤ k) (h8 : k ≤ 8) :
    Calls Try.prog 62 #[.agg #[.slice A n c, .int .i64 (at_ : Nat), .bool false], .int .i64 K] W fun e w' => ∃ r0 r1 r2, e = .returned (.tuple #[.agg #[.slice A n c, .int .i64 r1, .bool r2], .int .u64 ((num ((xs.drop at_).take k) : Nat) : Int)]) ∧ r0 = 0 ∧ Below W.heap.size W w' := by
  refine (refread_any (.slice A n c) xs at_ true K W h (by omega)).mono ?_
  rintro e w' ⟨at', h1', h2', rfl, h3'⟩
  have e1 := rnum_at (xs := xs.drop at_) (K := K) (k := k) hK (by rw [List.length_drop]; omega) h1 h8
  rw [e1]
  exact ⟨0, _, _, rfl, rfl, h3'⟩
set_option maxRecDepth 20000 in
set_option maxHeartbeats 16000000 in
theorem rread_long (A : Option Addr) (n c : Nat) (xs : List Nat) (w : World) (h : Sl w w.heap.size (.slice A n c) xs) (h10 : 10 ≤ n) (hs : 10 + 5 * many xs ≤ n) :
    Calls Try.prog 41 #[.slice A n c] w (RReadOwn w (if isAt xs = true then lsaAt xs else (0, 0, [])) (if isAt xs = true then 10 + 5 * many xs else 0)) := by
  have hbt : Bts w w.heap.size A n xs := by
    obtain ⟨A', n', c', e, hb, _⟩ := h
    injection e with e1 e2 e3
    subst e1 e2 e3
    exact hb
  have hl := hbt.1
  have hn := hbt.2.2.1
  obtain ⟨i0, hi, hz0, hz1, hz2⟩ := info_parts info_link
  have HI := Lib.hid hi; clear hi
  have HZ0 := Lib.hid hz0; clear hz0
  have HZ1 := Lib.hid hz1; clear hz1
  have HZ2 := Lib.hid hz2; clear hz2
  have hb1 := up1 (Below.refl w.heap.size w) (.cells #[.int .i64 0, .int .i64 0, .slice none 0 0] 49)
  have k0 := Blk.new w 49 #[.int .i64 0, .int .i64 0, .slice none 0 0]
  obtain ⟨b, off, rfl, hb, hc⟩ := hbt.2.2.2 (by omega)
  have hcx := fun (W : World) (hW : Below w.heap.size w W) (i : Nat) (hi : i < n) => (hW.cell (p := ⟨b, off + i, none⟩) hb).trans (hc i hi)
  have hd : decide ((n : Int) < 10) = false := by simp; omega
  have hm := many_at (xs := xs) (by omega)
  have ho := ori_at (xs := xs) (by omega)
  have hlt := getD_lt hbt.2.1 9
  have hlt0 := getD_lt hbt.2.1 0
  have hsq : (lsaAt xs).2.1 = sgn (num ((xs.drop 1).take 8)) := rfl
  have hN8 : num ((xs.drop 1).take 8) < 18446744073709551616 := by
    have h1 := num_lt ((xs.drop 1).take 8) (take_lt (drop_lt hbt.2.1 1) 8)
    have h2 : ((xs.drop 1).take 8).length ≤ 8 := by rw [List.length_take]; omega
    exact Nat.lt_of_lt_of_le h1 (Nat.pow_le_pow_right (by decide) h2)
  have hN4 : ∀ k, num ((xs.drop (11 + 5 * k)).take 4) < 4294967296 := fun k => by
    have h1 := num_lt ((xs.drop (11 + 5 * k)).take 4) (take_lt (drop_lt hbt.2.1 _) 4)
    have h2 : ((xs.drop (11 + 5 * k)).take 4).length ≤ 4 := by rw [List.length_take]; omega
    exact Nat.lt_of_lt_of_le h1 (Nat.pow_le_pow_right (by decide) h2)
  have hxb := fun k => getD_lt hbt.2.1 (10 + 5 * k)
  have hlk := fun (k : Nat) (hk : 15 + 5 * k ≤ n) => lkAt_at (xs := xs) (k := k) (by omega)
  have r8 := fun (W : World) (hW : Below w.heap.size w W) => rread_num (some ⟨b, off, none⟩) n c xs 1 8 8 rfl W (sl_up h hW) (by omega) (by omega) (by omega)
  have e1 : ((1 : Nat) : Int) = 1 := rfl
  rw [e1] at r8
  have r4 := fun (W : World) (hW : Below w.heap.size w W) (k : Nat) (hk : 15 + 5 * k ≤ n) => rread_num (some ⟨b, off, none⟩) n c xs (11 + 5 * k) 4 4 rfl W (sl_up h hW) (by omega) (by omega) (by omega)
  have hw8 := sgn_wrap hN8
  rw [← hsq] at hw8
  have hla : (lsaAt xs).2.2 = (List.range (many xs)).map (lkAt (xs.drop 10)) := rfl
  have hia : isAt xs = may (lsaAt xs).1 (lsaAt xs).2.1 (lsaAt xs).2.2 := by simp [isAt, hl, h10, hs]
  have hpr : lsaAt xs = ((lsaAt xs).1, (lsaAt xs).2.1, (lsaAt xs).2.2) := rfl
  rw [hia]
  generalize lsaAt xs = LS at *
  obtain ⟨o, sq, lks⟩ := LS
  simp only at ho hsq hla hw8 ⊢
  rw [hm] at hs hla ⊢
  generalize num ((xs.drop 1).take 8) = N8 at *
  generalize hm9 : xs.getD 9 0 = m at *
  generalize ho0 : xs.getD 0 0 = o0 at *
  have hd2 : decide ((n : Int) < 10 + 5 * (m : Int)) = false := by simp; omega
  have h9 : 9 < n := by omega
  have h00 : 0 < n := by omega
  subst ho
  have c9 := fun W hW => hcx W hW 9 h9
  have c00 := fun W hW => hcx W hW 0 h00
  rw [hm9] at c9
  rw [ho0] at c00
  simp only [Nat.add_zero] at c00
  have d9 := c9 _ hb1
  have HC9 := Lib.hid c9; clear c9
  have HC0 := Lib.hid c00; clear c00
  have HCX := Lib.hid hcx; clear hcx
  have HB1 := Lib.hid hb1; clear hb1
  have K0 := Lib.hid k0; clear k0
  have R8 := Lib.hid r8; clear r8
  have R4 := Lib.hid r4; clear r4
  have HLK := Lib.hid hlk; clear hlk
  have HN4 := Lib.hid hN4; clear hN4
  have HXB := Lib.hid hxb; clear hxb
  have HLA := Lib.hid hla; clear hla
  clear hm9 ho0 hia hpr hsq hm hc h hbt e1
  have HL := Lib.hid hl; clear hl
  have HSS := Lib.hid hs; clear hs
  have HN8 := Lib.hid hN8; clear hN8
  have my := fun (A : Option Addr) (c : Nat) (W : World) (hL : Lks W W.heap.size (.slice A m c) lks) => may_any (o0 : Int) sq A m c lks W hL
  generalize may (o0 : Int) sq lks = mb at *
  have MY := Lib.hid my; clear my
  obtain ⟨L0, hL0⟩ : ∃ L0 : Int × Int × List Lk, L0 = (if mb = true then ((o0 : Int), sq, lks) else (0, 0, [])) := ⟨_, rfl⟩
  obtain ⟨N0, hN0⟩ : ∃ N0 : Nat, N0 = (if mb = true then 10 + 5 * m else 0) := ⟨_, rfl⟩
  rw [← hL0, ← hN0]
  have HL0 := Lib.hid hL0; clear hL0
  have HN0 := Lib.hid hN0; clear hN0
  go_enter Try.func41, Try.ntmps41
  go_wp2_with (go_at_call 62; refine (R8.out _ HB1.out).mono ?_; rintro e w2 ⟨r0, r1, r2, rfl, hr0, hb2⟩; have HB2 := Lib.hid (HB1.out.trans (hb2.mono HB1.out.size)); have K2 := Lib.hid (K0.out.below hb2 K0.out.lt); have f0 := HC0.out _ (up1 HB2.out (.cells #[.slice (some ⟨b, off, none⟩) n c, .int .i64 r1, .bool r2] 98)); clear hb2 hr0)
  go_loopw [7] (fun i wr => ∃ (k : Nat) (vk : Value), k ≤ m ∧ i = .int .i64 k ∧ wr.ownsRow (w2.heap.size + 2) 85 2 vk k (lkCells ((List.range k).map (lkAt (xs.drop 10)))) ∧ Blk wr (w2.heap.size + 1) 49 #[.int .i64 (o0 : Nat), .int .i64 sq, vk] ∧ Blk wr w.heap.size 49 #[.int .i64 0, .int .i64 0, .slice none 0 0] ∧ Below w.heap.size w wr) (fun i _ => m - (intOf i).toNat)
  case atStart =>
    refine ⟨0, .slice none 0 0, Nat.zero_le _, rfl, own_none _ _, ?_, (K2.out.alloc _).alloc _, up1 (up1 HB2.out _) _⟩
    have := Blk.new (w2.alloc (.cells #[.slice (some ⟨b, off, none⟩) n c, .int .i64 r1, .bool r2] 98)) 49 #[.int .i64 (o0 : Nat), .int .i64 sq, .slice none 0 0]
    simpa using this
  case round =>
    obtain ⟨k, vk, hk, rfl, hown, hbl, hbz, hbw⟩ := hrel
    obtain ⟨A5, c5, rfl⟩ := own_form hown
    have g9 := HC9.out _ hbw
    have hsz := K2.out.lt
    by_cases hlt : k < m
    · have hss := HSS.out
      have hc10 := fun W (hW : Below w.heap.size w W) => HCX.out W hW (10 + 5 * k) (by omega)
      have q4 := R4.out wr hbw k (by omega)
      have ec : ((11 + 5 * k : Nat) : Int) = 11 + 5 * (k : Int) := by omega
      rewrite [ec] at q4
      have hlk := HLK.out k (by omega)
      have hb4 := HN4.out k
      have hb8 := HXB.out k
      generalize xs.getD (10 + 5 * k) 0 = t0 at *
      generalize num ((xs.drop (11 + 5 * k)).take 4) = N4 at *
      have hnext : lkCells ((List.range k).map (lkAt (xs.drop 10))) ++ lkCells [((t0 : Nat), (N4 : Nat))] = lkCells ((List.range (k + 1)).map (lkAt (xs.drop 10))) := by
        rw [range_snoc, lkCells_app, hlk]
      have HNEXT := Lib.hid hnext; clear hnext hlk ec
      generalize (List.range k).map (lkAt (xs.drop 10)) = l0 at *
      have HC10 := Lib.hid hc10; clear hc10
      have Q4 := Lib.hid q4; clear q4
      have HOW := Lib.hid hown; clear hown
      have HBL := Lib.hid hbl; clear hbl
      have HBZ0 := Lib.hid hbz; clear hbz
      have HBW := Lib.hid hbw; clear hbw
      have hk9 : k ≤ 255 := by omega
      have hi1 : (10 : Int) + 5 * (k : Int) < (n : Int) := by omega
      have hi0 : (0 : Int) ≤ 10 + 5 * (k : Int) := by omega
      have hws := HBL.out.lt
      go_wp2_with (go_at_call 62; refine (Q4.out).mono ?_; rintro e w3 ⟨r0', r3, r4, rfl, hr0', hb3⟩; have HB3 := Lib.hid (up1 (HBW.out.trans (hb3.mono HBW.out.size)) (.cells #[.slice (some ⟨b, off, none⟩) n c, .int .i64 r3, .bool r4] 98)); have HL3 := Lib.hid ((HBL.out.below hb3 hws).alloc (.cells #[.slice (some ⟨b, off, none⟩) n c, .int .i64 r3, .bool r4] 98)); have HZ3 := Lib.hid ((HBZ0.out.below hb3 (by omega)).alloc (.cells #[.slice (some ⟨b, off, none⟩) n c, .int .i64 r3, .bool r4] 98)); have HO3 := Lib.hid ((own_below HOW.out hb3).alloc (.cells #[.slice (some ⟨b, off, none⟩) n c, .int .i64 r3, .bool r4] 98)); clear hb3 hr0')
      generalize w3.alloc (.cells #[.slice (some ⟨b, off, none⟩) n c, .int .i64 r3, .bool r4] 98) = wz at *
      have x2 := (blk_cells3 HL3.out).2.2.1
      have x3 := (blk_cells3 (HL3.out.alloc (.cells #[.int .i64 (t0 : Nat), .int .i64 (N4 : Nat)] 85))).2.2.1
      have x4 := HC10.out _ HB3.out
      have x5 := HC10.out _ (up1 HB3.out (.cells #[.int .i64 (t0 : Nat), .int .i64 (N4 : Nat)] 85))
      have hws3 := HL3.out.lt
      have e0 : (10 + 5 * (k : Int)).toNat = 10 + 5 * k := by omega
      have e1 : IntKind.i64.wrap (5 * (k : Int)) = 5 * (k : Int) := IntWalk.i64_in _ (by omega)
      have e2 : IntKind.i64.wrap (10 + 5 * (k : Int)) = 10 + 5 * (k : Int) := IntWalk.i64_in _ (by omega)
      have e3 : IntKind.i64.wrap (N4 : Int) = (N4 : Int) := IntWalk.i64_in _ (by omega)
      have e4 : IntKind.i64.wrap (t0 : Int) = (t0 : Int) := IntWalk.i64_in _ (by omega)
      go_region_law (refine step_append_any _ rfl (.tmp 56) (.tmp 67) 47 rfl (w2.heap.size + 2) 85 i0 (.agg #[.int .i64 0, .int .i64 0]) 2 16 Try.underlying47 HI.out HZ0.out HZ1.out HZ2.out rfl (by decide) (.slice A5 k c5) k (lkCells l0) rfl ((HO3.out.alloc (.cells #[.int .i64 (t0 : Nat), .int .i64 (N4 : Nat)] 85)).drew) (wz.heap.size + 1) (some ⟨wz.heap.size, 0, none⟩) 1 1 (lkCells [((t0 : Nat), (N4 : Nat))]) rfl ((reads_link wz _ _ _ rfl).drew) (lkCells_one' _) (by unfold maxLen; omega) (by omega) (by simp; omega) ?_; intro v6 w6 hown6 hg6 _; obtain ⟨A6, c6, rfl⟩ := own_form hown6; have hl6 := ((HL3.out.alloc (.cells #[.int .i64 (t0 : Nat), .int .i64 (N4 : Nat)] 85)).drew).grown hg6 (fun e => by have := ((HO3.out.alloc (.cells #[.int .i64 (t0 : Nat), .int .i64 (N4 : Nat)] 85)).lt _ e.symm).1; omega); have y2 := (blk_cells3 hl6).2.2.1; have y3 := (blk_fz3 hl6).2.2; have y4 := hl6.lt; have HL6 := Lib.hid hl6; have HZ6 := Lib.hid (((HZ3.out.alloc (.cells #[.int .i64 (t0 : Nat), .int .i64 (N4 : Nat)] 85)).drew).grown hg6 (fun e => by have := ((HO3.out.alloc (.cells #[.int .i64 (t0 : Nat), .int .i64 (N4 : Nat)] 85)).lt _ e.symm).1; omega)); have HB6 := Lib.hid (((up1 HB3.out (.cells #[.int .i64 (t0 : Nat), .int .i64 (N4 : Nat)] 85)).drew).grown hg6 (up1 HB3.out (.cells #[.int .i64 (t0 : Nat), .int .i64 (N4 : Nat)] 85)).size (fun q hq => by have := ((HO3.out.alloc (.cells #[.int .i64 (t0 : Nat), .int .i64 (N4 : Nat)] 85)).lt q hq).1; omega)); have HO6 := Lib.hid hown6; clear hown6 hg6 hl6)
      all_goals
        go_wp2
        go_roundw
        case rel =>
          refine ⟨k + 1, .slice A6 (k + 1) c6, hlt, by go_num, ?_, ?_, ?_, ?_⟩
          · exact ownsRow_setCell_below (a := ⟨w2.heap.size + 1, 2, none⟩) (HNEXT.out ▸ HO6.out) (Nat.lt_succ_self _) _
          · have := HL6.out.set_ 2 (.slice A6 (k + 1) c6)
            simpa using this
          · exact HZ6.out.far (p := ⟨w2.heap.size + 1, 2, none⟩) (Nat.ne_of_lt (Nat.lt_succ_of_lt hsz)) _
          · exact HB6.out.setCell (Nat.le_of_lt (Nat.lt_succ_of_lt hsz)) _
        case measure => simp [intOf]; omega
    · obtain rfl : k = m := by omega
      have hlw := lks_own hown
      rw [← HLA.out] at hlw
      obtain ⟨x0, x1, x2, x3⟩ := blk_cells3 hbl
      have m0 := MY.out A5 c5 wr hlw
      have HLW := Lib.hid hlw; clear hlw
      have M0 := Lib.hid m0; clear m0
      have HOW := Lib.hid hown; clear hown
      have HBL := Lib.hid hbl; clear hbl
      have HBZ0 := Lib.hid hbz; clear hbz
      have HBW := Lib.hid hbw; clear hbw
      cases mb
      · have hl0 := HL0.out
        have hn0 := HN0.out
        rw [if_neg (by simp)] at hl0 hn0
        subst hl0 hn0
        go_wp2_with (go_at_call 26; refine (M0.out).mono ?_; rintro e w7 ⟨rfl, hb7⟩; have HB7 := Lib.hid (HBW.out.trans (hb7.mono HBW.out.size)); have HZ7 := Lib.hid (HBZ0.out.below hb7 HBZ0.out.lt); obtain ⟨z0, z1, z2, z3⟩ := blk_cells3 HZ7.out; obtain ⟨f0', f1, f2⟩ := blk_fz3 HZ7.out; clear hb7)
        refine bodyPost_ret (v := .tuple #[lsaV 0 0 (.slice none 0 0), .int .i64 0]) ?_ rfl ⟨.slice none 0 0, rfl, ⟨0, own_none _ _⟩, upd3_below (g := w.heap.size) HB7.out (Nat.le_refl _)⟩
        simp [results, Try.results41, go_sem, z0, z1, z2, z3]
      · have hl0 := HL0.out
        have hn0 := HN0.out
        rw [if_pos rfl] at hl0 hn0
        subst hl0 hn0
        have hne1 : w.heap.size ≠ w2.heap.size + 1 := by omega
        have hne2 : b ≠ w.heap.size := by omega
        have hne3 : w.heap.size ≠ b := by omega
        have hmm : k ≤ 255 := by omega
        have e1 : IntKind.i64.wrap (5 * (k : Int)) = 5 * (k : Int) := IntWalk.i64_in _ (by omega)
        have e2 : IntKind.i64.wrap (10 + 5 * (k : Int)) = 10 + 5 * (k : Int) := IntWalk.i64_in _ (by omega)
        have e4 : IntKind.i64.wrap (k : Int) = (k : Int) := IntWalk.i64_in _ (by omega)
        have h90 : (9 : Int) < (n : Int) := by omega
        go_wp2_with (go_at_call 26; refine (M0.out).mono ?_; rintro e w7 ⟨rfl, hb7⟩; have HB7 := Lib.hid (HBW.out.trans (hb7.mono HBW.out.size)); have HZ7 := Lib.hid (HBZ0.out.below hb7 HBZ0.out.lt); have HL7 := Lib.hid (HBL.out.below hb7 HBL.out.lt); have HO7 := Lib.hid (own_below HOW.out hb7); obtain ⟨z0, z1, z2, z3⟩ := blk_cells3 HZ7.out; obtain ⟨f0', f1, f2⟩ := blk_fz3 HZ7.out; obtain ⟨y0, y1, y2, y3⟩ := blk_cells3 HL7.out; have y9 := HC9.out _ HB7.out; clear hb7)
        go_region_held3 (fun W => W.cell? ⟨w2.heap.size + 1, 0, none⟩ = some (.int .i64 (o0 : Nat)) ∧ W.cell? ⟨w2.heap.size + 1, 1, none⟩ = some (.int .i64 sq) ∧ W.cell? ⟨w2.heap.size + 1, 2, none⟩ = some (.slice A5 k c5) ∧ W.cell? ⟨b, off + 9, none⟩ = some (.int .u8 (k : Nat)))
          (first
            | with_reducible exact ⟨y0, y1, y2, y9⟩
            | go_keep
            | (refine ⟨by simp [*], by simp [*], by simp [*], ?_⟩; exact HC9.out _ (Below.drew (upd3_below (g := w.heap.size) HB7.out (Nat.le_refl _)))))
          (fail)
        all_goals
          go_wp2
          have ho7 : w7.ownsRow (w2.heap.size + 2) 85 2 (.slice A5 k c5) k (lkCells lks) := by rw [HLA.out]; exact HO7.out
          refine bodyPost_ret (v := .tuple #[lsaV (o0 : Nat) sq (.slice A5 k c5), .int .i64 ((10 + 5 * k : Nat) : Int)]) ?_ rfl ?_
          · simp [results, Try.results41, go_sem, z0, z1, z2, z3]
          · first
              | exact ⟨_, rfl, ⟨k, own_mono (World.ownsRow.drew (upd3_own (g := w.heap.size) ho7 (by omega))) (by omega)⟩, Below.drew (upd3_below (g := w.heap.size) HB7.out (Nat.le_refl _))⟩
              | exact ⟨_, rfl, ⟨k, own_mono (upd3_own (g := w.heap.size) (World.ownsRow.drew ho7) (by omega)) (by omega)⟩, upd3_below (g := w.heap.size) (Below.drew HB7.out) (Nat.le_refl _)⟩
/-- which Lsa any bytes begin with -/
theorem rread_own (A : Option Addr) (n c : Nat) (xs : List Nat) (w : World) (h : Sl w w.heap.size (.slice A n c) xs) :
    Calls Try.prog 41 #[.slice A n c] w (RReadOwn w (if isAt xs = true then lsaAt xs else (0, 0, [])) (if isAt xs = true then 10 + 5 * many xs else 0)) := by
  have hbt : Bts w w.heap.size A n xs := by
    obtain ⟨A', n', c', e, hb, _⟩ := h
    injection e with e1 e2 e3
    subst e1 e2 e3
    exact hb
  have hl := hbt.1
  by_cases hs : n < 10 ∨ n < 10 + 5 * many xs
  · have hi : isAt xs = false := by
      simp only [isAt, Bool.and_eq_false_iff, decide_eq_false_iff_not]
      rcases hs with h | h
      · exact .inl (by omega)
      · exact .inr (.inl (by omega))
    rw [hi, if_neg (by simp), if_neg (by simp)]
    exact rread_short A n c xs w hbt hs
  · exact rread_long A n c xs w h (by omega) (by omega)
end Go.Proofs.Ytpolpppnajfhdaa.Lsa
