/- Which states are alike, by the document's own answer (layer 11): waymarkref11.Same. -/
import Derived.Test.YtcojimbnenibnaaBasRef
namespace Go.Proofs.Ytcojimbnenibnaa.Bas
open Go.RowKit Go.Proofs.Ytcojimbnenibnaa.Mem Go.Proofs.Ytcojimbnenibnaa.Oct Go.Proofs.Ytcojimbnenibnaa.Lsa Go.Proofs.Ytcojimbnenibnaa.Chg
set_option linter.unusedVariables false
set_option linter.unusedSimpArgs false
set_option maxRecDepth 20000 in
set_option maxHeartbeats 8000000 in
theorem rsame_st (s t : Sta) (dv ev dv' ev' : Value) (w : World) (h : StM w w.heap.size dv ev s) (h' : StM w w.heap.size dv' ev' t) :
    Calls Try.prog 14 #[stV s dv ev, stV t dv' ev'] w fun e w' => e = .returned (.bool (sameS s t)) ∧ Below w.heap.size w w' := by
  obtain ⟨db, up, bo, ep⟩ := s
  obtain ⟨db', up', bo', ep'⟩ := t
  obtain ⟨h1, h2⟩ := h
  obtain ⟨h1', h2'⟩ := h'
  obtain ⟨A1, n1, c1, rfl, hr_⟩ := id h1
  obtain ⟨A2, n2, c2, rfl, hs_⟩ := id h2
  obtain ⟨A3, n3, c3, rfl, ht_⟩ := id h1'
  obtain ⟨A4, n4, c4, rfl, hu_⟩ := id h2'
  clear hr_ hs_ ht_ hu_
  obtain ⟨hl, hnc, hcm, _⟩ := lks_len h2
  obtain ⟨hl', hnc', hcm', _⟩ := lks_len h2'
  unfold maxLen at hcm hcm'
  simp only [stV] at *
  have hb := low2 w (.cells #[.slice A1 n1 c1, .int .i64 up, .int .i64 bo, .slice A2 n2 c2] 25) (.cells #[.slice A3 n3 c3, .int .i64 up', .int .i64 bo', .slice A4 n4 c4] 25)
  have k0 := (Blk.new w 25 #[.slice A1 n1 c1, .int .i64 up, .int .i64 bo, .slice A2 n2 c2]).alloc (.cells #[.slice A3 n3 c3, .int .i64 up', .int .i64 bo', .slice A4 n4 c4] 25)
  have k1 := blk_second w (.cells #[.slice A1 n1 c1, .int .i64 up, .int .i64 bo, .slice A2 n2 c2] 25) 25 #[.slice A3 n3 c3, .int .i64 up', .int .i64 bo', .slice A4 n4 c4]
  have al := rall_db A1 A3 n1 n3 c1 c3 db db' _ (h1.up hb) (h1'.up hb)
  obtain ⟨x0, x1, x2, x3, x4⟩ := blk_cells4 k0
  obtain ⟨y0, y1, y2, y3, y4⟩ := blk_cells4 k1
  have K0 := Lib.hid k0; clear k0
  have K1 := Lib.hid k1; clear k1
  have HB := Lib.hid hb; clear hb
  unfold sameS
  simp only
  cases g1 : (up == up')
  · have b1 : (up != up') = true := by simp [bne, g1]
    clear al
    go_enter Try.func14, Try.ntmps14
    go_wp2
    go_ret
    exact ⟨rfl, HB.out⟩
  have b1 : (up != up') = false := by simp [bne, g1]
  cases g2 : (bo == bo')
  · have b2 : (bo != bo') = true := by simp [bne, g2]
    clear al
    go_enter Try.func14, Try.ntmps14
    go_wp2
    go_ret
    exact ⟨rfl, HB.out⟩
  have b2 : (bo != bo') = false := by simp [bne, g2]
  simp only [Bool.true_and]
  cases g3 : sameDb db db'
  · rw [g3] at al
    have AL := Lib.hid al; clear al
    go_enter Try.func14, Try.ntmps14
    go_wp2_with (go_at_call 31; refine (AL.out).mono ?_; rintro e w3 ⟨rfl, hb3⟩; have HB3 := Lib.hid (low_low HB.out hb3); obtain ⟨z0, z1, z2, z3, z4⟩ := blk_cells4 (K0.out.below hb3 K0.out.lt); obtain ⟨u0, u1, u2, u3, u4⟩ := blk_cells4 (K1.out.below hb3 K1.out.lt); clear hb3)
    go_ret
    exact ⟨rfl, HB3.out⟩
  rw [g3] at al
  have AL := Lib.hid al; clear al
  simp only [Bool.true_and]
  by_cases hn : n2 = n4
  · subst hn
    have hbn : ((n2 : Int) != (n2 : Int)) = false := by simp
    obtain ⟨z, hz⟩ : ∃ z, z = decide (ep = ep') := ⟨_, rfl⟩
    rw [← hz]
    have HZ := Lib.hid hz; clear hz
    have HL := Lib.hid hl; clear hl
    have HL' := Lib.hid hl'; clear hl'
    have HS := Lib.hid h2; clear h2
    have HS' := Lib.hid h2'; clear h2'
    clear h1 h1'
    go_enter Try.func14, Try.ntmps14
    go_wp2_with (go_at_call 31; refine (AL.out).mono ?_; rintro e w3 ⟨rfl, hb3⟩; have HB3 := Lib.hid (low_low HB.out hb3); have Q0 := Lib.hid (K0.out.below hb3 K0.out.lt); have Q1 := Lib.hid (K1.out.below hb3 K1.out.lt); obtain ⟨z0, z1, z2, z3, z4⟩ := blk_cells4 Q0.out; obtain ⟨u0, u1, u2, u3, u4⟩ := blk_cells4 Q1.out; clear hb3)
    go_loopw [5] (fun i wr => ∃ k : Nat, k ≤ n2 ∧ i = .int .i64 k ∧ Hid (z = decide (ep.drop k = ep'.drop k)) ∧ Hid (∃ m, wr = w3.drewN m)) (fun i _ => n2 - (intOf i).toNat)
    case atStart => exact ⟨0, Nat.zero_le _, rfl, HZ, Lib.hid ⟨0, rfl⟩⟩
    case round =>
      obtain ⟨k, hk, rfl, HZ2, HW⟩ := hrel
      obtain ⟨m, rfl⟩ := HW.out
      clear HW
      by_cases hlt : k < n2
      · obtain ⟨b, off, rfl, hb, hc⟩ := lks_at HS.out (by omega)
        obtain ⟨b', off', rfl, hb', hc'⟩ := lks_at HS'.out (by omega)
        obtain ⟨c0, c1⟩ := hc k hlt
        obtain ⟨d0, d1⟩ := hc' k hlt
        replace c0 := (HB3.out.cell (p := ⟨b, off + k * 2, none⟩) hb).trans c0
        replace c1 := (HB3.out.cell (p := ⟨b, off + k * 2 + 1, none⟩) hb).trans c1
        replace d0 := (HB3.out.cell (p := ⟨b', off' + k * 2, none⟩) hb').trans d0
        replace d1 := (HB3.out.cell (p := ⟨b', off' + k * 2 + 1, none⟩) hb').trans d1
        have hz := HZ2.out
        rw [drop_at ep (0, 0) k (by have := HL.out; omega), drop_at ep' (0, 0) k (by have := HL'.out; omega)] at hz
        clear hc hc'
        generalize ep.getD k (0, 0) = x at *
        generalize ep'.getD k (0, 0) = y at *
        obtain ⟨t, u⟩ := x
        obtain ⟨t', u'⟩ := y
        simp only at c0 c1 d0 d1
        by_cases e1 : t = t'
        · subst e1
          by_cases e2 : u = u'
          · subst e2
            rw [dec_cons] at hz
            have HZ3 := Lib.hid hz; clear hz
            go_wp2
            go_quiet (fail)
            go_wp2
            go_roundw
            case rel => exact ⟨k + 1, by omega, by go_num, HZ3, Lib.hid ⟨_, rfl⟩⟩
            case measure => simp [intOf]; omega
          · rw [dec_ne (fun e => e2 (by injection e))] at hz
            have HZ3 := Lib.hid hz; clear hz
            go_wp2
            go_quiet (fail)
            go_wp2
            go_ret
            exact ⟨ret_bool HZ3.out.symm, below_drewN (below_drewN HB3.out _) _⟩
        · rw [dec_ne (fun e => e1 (by injection e))] at hz
          have HZ3 := Lib.hid hz; clear hz
          go_wp2
          go_quiet (fail)
          go_wp2
          go_ret
          exact ⟨ret_bool HZ3.out.symm, below_drewN (below_drewN HB3.out _) _⟩
      · obtain rfl : k = n2 := by omega
        have hz := HZ2.out
        rw [List.drop_eq_nil_of_le (by have := HL.out; omega), List.drop_eq_nil_of_le (by have := HL'.out; omega)] at hz
        have HZ3 := Lib.hid hz; clear hz
        go_wp2
        go_ret
        exact ⟨ret_bool (by simp [HZ3.out]), below_drewN HB3.out _⟩
  · have hbn : ((n2 : Int) != (n4 : Int)) = true := by rw [bne_iff_ne]; omega
    have hd : decide (ep = ep') = false := decide_eq_false (fun e => hn (by rw [← hl, ← hl', e]))
    rw [hd]
    go_enter Try.func14, Try.ntmps14
    go_wp2_with (go_at_call 31; refine (AL.out).mono ?_; rintro e w3 ⟨rfl, hb3⟩; have HB3 := Lib.hid (low_low HB.out hb3); obtain ⟨z0, z1, z2, z3, z4⟩ := blk_cells4 (K0.out.below hb3 K0.out.lt); obtain ⟨u0, u1, u2, u3, u4⟩ := blk_cells4 (K1.out.below hb3 K1.out.lt); clear hb3)
    go_ret
    exact ⟨rfl, HB3.out⟩
end Go.Proofs.Ytcojimbnenibnaa.Bas
