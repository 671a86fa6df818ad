/- Lsas looked at (layer 9): the contracts of lsa.Same, Newer, Cost and Copy, of slices.Equal and slices.Clone at links, and of the reference's Same and Cost. -/
import Derived.Test.YtpolpppnajfhdaaPgLsaCheck
namespace Go.Proofs.Ytpolpppnajfhdaa.Lsa
open Go.RowKit Go.Proofs.Ytpolpppnajfhdaa.Mem Go.Proofs.Ytpolpppnajfhdaa.Oct
set_option linter.unusedVariables false
set_option linter.unusedSimpArgs false
theorem dec_cons (x : Lk) (r r' : List Lk) : decide (x :: r = x :: r') = decide (r = r') := by simp
theorem dec_ne {x y : Lk} (h : x ≠ y) (r r' : List Lk) : decide (x :: r = y :: r') = false := by simp [h]
set_option maxRecDepth 20000 in
set_option maxHeartbeats 4000000 in
theorem equal_any (A A' : Option Addr) (n n' c c' B B' : Nat) (ls ls' : List Lk) (w : World) (h : Lks w B (.slice A n c) ls) (h' : Lks w B' (.slice A' n' c') ls') :
    Calls Try.prog 51 #[.slice A n c, .slice A' n' c'] w fun e w' => e = .returned (.bool (decide (ls = ls'))) ∧ ∃ m, w' = w.drewN m := by
  obtain ⟨hl, hnc, hcm, _⟩ := lks_len h
  obtain ⟨hl', hnc', hcm', _⟩ := lks_len h'
  unfold maxLen at hcm hcm'
  by_cases hn : n = n'
  · subst hn
    have HL := Lib.hid hl; clear hl
    have HL' := Lib.hid hl'; clear hl'
    have HS := Lib.hid h; clear h
    have HS' := Lib.hid h'; clear h'
    obtain ⟨z, hz⟩ : ∃ z, z = decide (ls = ls') := ⟨_, rfl⟩
    rw [← hz]
    have HZ := Lib.hid hz; clear hz
    go_enter Try.func51, Try.ntmps51
    go_wp2
    go_loopw [13] (fun i wr => (∃ k : Nat, k ≤ n ∧ i = .int .i64 k ∧ z = decide (ls.drop k = ls'.drop k)) ∧ ∃ m, wr = w.drewN m) (fun i _ => n - (intOf i).toNat)
    case atStart => exact ⟨⟨0, Nat.zero_le _, rfl, HZ.out⟩, 0, rfl⟩
    case round =>
      obtain ⟨⟨k, hk, rfl, hz⟩, m, rfl⟩ := hrel
      by_cases hlt : k < n
      · obtain ⟨b, off, rfl, hb, hc⟩ := lks_at HS.out (by omega)
        obtain ⟨b', off', rfl, hb', hc'⟩ := lks_at HS'.out (by omega)
        obtain ⟨c0, c1⟩ := hc k hlt
        obtain ⟨d0, d1⟩ := hc' k hlt
        rw [drop_at ls (0, 0) k (by have := HL.out; omega), drop_at ls' (0, 0) k (by have := HL'.out; omega)] at hz
        clear hc hc'
        generalize ls.getD k (0, 0) = x at *
        generalize ls'.getD k (0, 0) = y at *
        obtain ⟨t, u⟩ := x
        obtain ⟨t', u'⟩ := y
        simp only at c0 c1 d0 d1
        by_cases e1 : t = t'
        · subst e1
          by_cases e2 : u = u'
          · subst e2
            rw [dec_cons] at hz
            have HZ2 := Lib.hid hz; clear hz
            go_wp2
            go_quiet (fail)
            go_wp2
            go_roundw
            case rel => exact ⟨⟨k + 1, by omega, by go_num, HZ2.out⟩, _, rfl⟩
            case measure => simp [intOf]; omega
          · rw [dec_ne (fun e => e2 (by injection e))] at hz
            have HZ2 := Lib.hid hz; clear hz
            go_wp2
            go_quiet (fail)
            go_wp2
            go_ret
            exact ⟨ret_bool HZ2.out.symm, _, World.drewN_drewN _ _ _⟩
        · rw [dec_ne (fun e => e1 (by injection e))] at hz
          have HZ2 := Lib.hid hz; clear hz
          go_wp2
          go_quiet (fail)
          go_wp2
          go_ret
          exact ⟨ret_bool HZ2.out.symm, _, World.drewN_drewN _ _ _⟩
      · obtain rfl : k = n := by omega
        rw [List.drop_eq_nil_of_le (by have := HL.out; omega), List.drop_eq_nil_of_le (by have := HL'.out; omega)] at hz
        have HZ2 := Lib.hid hz; clear hz
        go_wp2
        go_ret
        exact ⟨ret_bool (HZ2.out.symm ▸ rfl), m, rfl⟩
  · have hb : ((n : Int) != (n' : Int)) = true := by rw [bne_iff_ne]; omega
    have hd : decide (ls = ls') = false := decide_eq_false (fun e => hn (by rw [← hl, ← hl', e]))
    rw [hd]
    go_enter Try.func51, Try.ntmps51
    go_wp2
    go_ret
    exact ⟨rfl, 0, rfl⟩
/-- are two Lsas alike? -/
def sameB (o s : Int) (ls : List Lk) (o' s' : Int) (ls' : List Lk) : Bool := (o == o') && ((s == s') && decide (ls = ls'))
theorem two_boxes (w : World) (o s o' s' : Int) (v v' : Value) : Below w.heap.size w ((w.alloc (.cells #[.int .i64 o, .int .i64 s, v] 49)).alloc (.cells #[.int .i64 o', .int .i64 s', v'] 49)) :=
  palloc (palloc (Below.refl _ _) _ (Nat.le_refl _)) _ (by simp)
set_option maxRecDepth 20000 in
set_option maxHeartbeats 4000000 in
theorem rsame_lsa (o s o' s' : Int) (v v' : Value) (ls ls' : List Lk) (w : World) (h : Lks w w.heap.size v ls) (h' : Lks w w.heap.size v' ls') :
    Calls Try.prog 52 #[lsaV o s v, lsaV o' s' v'] w fun e w' => e = .returned (.bool (sameB o s ls o' s' ls')) ∧ Below w.heap.size w w' := by
  obtain ⟨A, n, c, rfl, _⟩ := id h
  obtain ⟨A', n', c', rfl, _⟩ := id h'
  obtain ⟨hl, hnc, hcm, _⟩ := lks_len h
  obtain ⟨hl', hnc', hcm', _⟩ := lks_len h'
  unfold maxLen at hcm hcm'
  have HB := Lib.hid (two_boxes w o s o' s' (.slice A n c) (.slice A' n' c'))
  unfold sameB
  cases h0 : (o == o')
  · have b0 : (o != o') = true := by simp [bne, h0]
    go_enter Try.func52, Try.ntmps52
    go_wp2
    go_ret
    exact ⟨rfl, HB.out⟩
  have b0 : (o != o') = false := by simp [bne, h0]
  cases h1 : (s == s')
  · have b1 : (s != s') = true := by simp [bne, h1]
    go_enter Try.func52, Try.ntmps52
    go_wp2
    go_ret
    exact ⟨rfl, HB.out⟩
  have b1 : (s != s') = false := by simp [bne, h1]
  by_cases hn : n = n'
  · subst hn
    have HL := Lib.hid hl; clear hl
    have HL' := Lib.hid hl'; clear hl'
    have HS := Lib.hid h; clear h
    have HS' := Lib.hid h'; clear h'
    obtain ⟨z, hz⟩ : ∃ z, z = decide (ls = ls') := ⟨_, rfl⟩
    rw [← hz]
    have HZ := Lib.hid hz; clear hz
    have hbn : ((n : Int) != (n : Int)) = false := by simp
    go_enter Try.func52, Try.ntmps52
    go_wp2
    go_loopw [5] (fun i wr => ∃ k : Nat, k ≤ n ∧ i = .int .i64 k ∧ z = decide (ls.drop k = ls'.drop k) ∧ Blk wr w.heap.size 49 #[.int .i64 o, .int .i64 s, .slice A n c] ∧ Blk wr (w.heap.size + 1) 49 #[.int .i64 o', .int .i64 s', .slice A' n c'] ∧ Below w.heap.size w wr) (fun i _ => n - (intOf i).toNat)
    case atStart => exact ⟨0, Nat.zero_le _, rfl, HZ.out, (Blk.new _ _ _).alloc _, by have := Blk.new (w.alloc (.cells #[.int .i64 o, .int .i64 s, .slice A n c] 49)) 49 #[.int .i64 o', .int .i64 s', .slice A' n c']; simpa using this, HB.out⟩
    case round =>
      obtain ⟨k, hk, rfl, hz, hk1, hk2, hbw⟩ := hrel
      obtain ⟨x0, x1, x2, x3⟩ := blk_cells3 hk1
      obtain ⟨y0, y1, y2, y3⟩ := blk_cells3 hk2
      have HK1 := Lib.hid hk1; clear hk1
      have HK2 := Lib.hid hk2; clear hk2
      have HBW := Lib.hid hbw; clear hbw
      by_cases hlt : k < n
      · obtain ⟨b, off, rfl, hb, hc⟩ := lks_at HS.out (by omega)
        obtain ⟨b', off', rfl, hb', hc'⟩ := lks_at HS'.out (by omega)
        obtain ⟨c0, c1⟩ := hc k hlt
        obtain ⟨d0, d1⟩ := hc' k hlt
        replace c0 := (HBW.out.cell (p := ⟨b, off + k * 2, none⟩) hb).trans c0
        replace c1 := (HBW.out.cell (p := ⟨b, off + k * 2 + 1, none⟩) hb).trans c1
        replace d0 := (HBW.out.cell (p := ⟨b', off' + k * 2, none⟩) hb').trans d0
        replace d1 := (HBW.out.cell (p := ⟨b', off' + k * 2 + 1, none⟩) hb').trans d1
        rw [drop_at ls (0, 0) k (by have := HL.out; omega), drop_at ls' (0, 0) k (by have := HL'.out; omega)] at hz
        clear hc hc'
        generalize ls.getD k (0, 0) = x at *
        generalize ls'.getD k (0, 0) = y at *
        obtain ⟨t, u⟩ := x
        obtain ⟨t', u'⟩ := y
        simp only at c0 c1 d0 d1
        by_cases e1 : t = t'
        · subst e1
          by_cases e2 : u = u'
          · subst e2
            rw [dec_cons] at hz
            have HZ2 := Lib.hid hz; clear hz
            go_wp2
            go_quiet (fail)
            go_wp2
            go_roundw
            case rel => exact ⟨k + 1, by omega, by go_num, HZ2.out, HK1.out.drewN _, HK2.out.drewN _, below_drewN HBW.out _⟩
            case measure => simp [intOf]; omega
          · rw [dec_ne (fun e => e2 (by injection e))] at hz
            have HZ2 := Lib.hid hz; clear hz
            go_wp2
            go_quiet (fail)
            go_wp2
            go_ret
            exact ⟨ret_bool (by simp [HZ2.out]), below_drewN HBW.out _⟩
        · rw [dec_ne (fun e => e1 (by injection e))] at hz
          have HZ2 := Lib.hid hz; clear hz
          go_wp2
          go_quiet (fail)
          go_wp2
          go_ret
          exact ⟨ret_bool (by simp [HZ2.out]), below_drewN HBW.out _⟩
      · obtain rfl : k = n := by omega
        rw [List.drop_eq_nil_of_le (by have := HL.out; omega), List.drop_eq_nil_of_le (by have := HL'.out; omega)] at hz
        have HZ2 := Lib.hid hz; clear hz
        go_wp2
        go_ret
        exact ⟨ret_bool (by simp [HZ2.out]), HBW.out⟩
  · have hb : ((n : Int) != (n' : Int)) = true := by rw [bne_iff_ne]; omega
    have hd : decide (ls = ls') = false := decide_eq_false (fun e => hn (by rw [← hl, ← hl', e]))
    rw [hd]
    go_enter Try.func52, Try.ntmps52
    go_wp2
    go_ret
    exact ⟨rfl, HB.out⟩
end Go.Proofs.Ytpolpppnajfhdaa.Lsa
