/- CheckThree's walk (layer 1): three slices of bytes, exclusive-ored, have as their check the exclusive or of their checks. Conditions: in the lemmas' own premises. -/
import Derived.Test.YtkonbnpbojepbaaAt
import Derived.Deep.RegionHeld3
import Derived.StillTailTactics
import Derived.Deep.AppendLies
import Derived.BigQuiet
import Derived.Deep.QuietTactic
namespace Go.Proofs.Ytkonbnpbojepbaa.checkThree
open Go.Proofs.Ytkonbnpbojepbaa.Crc
open Go.RowKit
set_option linter.unusedVariables false
theorem ml {n : Nat} (k : Nat) (h : n ≤ 1500) (hk : k < n) : k + 1 ≤ maxLen := by unfold maxLen; omega
set_option maxHeartbeats 1000000 in
theorem walk_short (a0 a1 a2 : Option Addr) (n c0 n1 c1 n2 c2 : Nat) (xs ys zs : List Nat) (w : World) (h : n ≤ 1500) (h1 : n ≤ n1) (h2 : n ≤ n2) (h3 : n1 ≤ 3000) (h4 : n2 ≤ 3000)
    (k0 : n ≤ c0) (k1 : n1 ≤ c1) (k2 : n2 ≤ c2) (q0 : c0 ≤ maxLen) (q1 : c1 ≤ maxLen) (q2 : c2 ≤ maxLen)
    (b0 : Bts w w.heap.size a0 n xs) (b1 : Bts w w.heap.size a1 n1 ys) (b2 : Bts w w.heap.size a2 n2 zs) :
    Calls Try.prog 4 #[.slice a0 n c0, .slice a1 n1 c1, .slice a2 n2 c2] w fun e w' => e = .returned (.bool true) ∧ Below w.heap.size w w' := by
  obtain ⟨i0, hi, hz0, hz1, hz2⟩ := info_parts Try.info5
  have d1 : decide ((1500 : Int) < n) = false := by simp; omega
  have d2 : decide (n1 < n) = false := by simp; omega
  have d3 : decide (n2 < n) = false := by simp; omega
  have d4 : decide ((3000 : Int) < n1) = false := by simp; omega
  have d5 : decide ((3000 : Int) < n2) = false := by simp; omega
  obtain ⟨A1, e1, f1⟩ := cut_h b1 n h1 k1
  obtain ⟨ys', hys⟩ : ∃ l, l = ys.take n := ⟨_, rfl⟩
  obtain ⟨zs', hzs⟩ : ∃ l, l = zs.take n := ⟨_, rfl⟩
  obtain ⟨A2, e2, f2⟩ := cut_h b2 n h2 k2
  have hown0 : ∀ W : World, (W.alloc (.cells #[] 5)).ownsRow W.heap.size 5 1 (.slice (some ⟨W.heap.size, 0, none⟩) 0 0) 0 [] := fun W => World.ownsRow_lit W #[] 0 (Nat.le_refl _) (by unfold maxLen; omega) rfl
  have HO := Lib.hid hown0; clear hown0
  have HI := Lib.hid hi; clear hi
  have HZ0 := Lib.hid hz0; clear hz0
  have HZ1 := Lib.hid hz1; clear hz1
  have HZ2 := Lib.hid hz2; clear hz2
  rw [← hys] at f1
  rw [← hzs] at f2
  have HYS := Lib.hid hys; clear hys
  have HZS := Lib.hid hzs; clear hzs
  have HB0 := Lib.hid b0; clear b0
  have HF1 := Lib.hid f1; clear f1
  have HF2 := Lib.hid f2; clear f2
  clear b1 b2
  unfold maxLen at q0 q1 q2
  go_enter Try.func4, Try.ntmps4
  go_wp2
  go_region
  go_wp2
  have ho0 : ((w.alloc (.cells #[] 5)).drew).ownsRow w.heap.size 5 1 (.slice (some ⟨w.heap.size, 0, none⟩) 0 0) 0 (vals (mix3 xs ys' zs' 0)) := (HO.out w).drew
  have HO0 := Lib.hid ho0; clear ho0
  go_loopw [7, 8] (fun v i wr => ∃ k : Nat, k ≤ n ∧ i = .int .i64 k ∧ wr.ownsRow w.heap.size 5 1 v k (vals (mix3 xs ys' zs' k)) ∧ Below w.heap.size w wr) (fun _ i _ => n - (intOf i).toNat)
  case atStart => exact ⟨0, Nat.zero_le _, rfl, HO0.out, ((Below.refl _ _).alloc (Nat.le_refl _) _).drew⟩
  case round =>
    obtain ⟨k, hk, rfl, hown, hbel⟩ := hrel
    have HOWN := Lib.hid hown; clear hown
    by_cases hlt : k < n
    · obtain ⟨p0, o0, rfl, hp0, hc0⟩ := HB0.out.2.2.2 (by omega)
      obtain ⟨p1, o1, rfl, hp1, hc1⟩ := HF1.out.2.2.2 (by omega)
      obtain ⟨p2, o2, rfl, hp2, hc2⟩ := HF2.out.2.2.2 (by omega)
      have g0 := (hbel.cell (p := ⟨p0, o0 + k, none⟩) hp0).trans (hc0 k hlt)
      have g1 := (hbel.cell (p := ⟨p1, o1 + k, none⟩) hp1).trans (hc1 k hlt)
      have g2 := (hbel.cell (p := ⟨p2, o2 + k, none⟩) hp2).trans (hc2 k hlt)
      have x0 := getD_lt HB0.out.2.1 k
      have x1 := getD_lt HF1.out.2.1 k
      have x2 := getD_lt HF2.out.2.1 k
      have hs := mix3_succ xs ys' zs' k
      have c0' := hc0 k hlt
      have c1' := hc1 k hlt
      have c2' := hc2 k hlt
      clear hc0 hc1 hc2
      generalize xs.getD k 0 = X at *
      generalize ys'.getD k 0 = Y at *
      generalize zs'.getD k 0 = Z at *
      have u1 := u8x X Y x0 x1
      have u2 := u8x (X ^^^ Y) Z (xor_lt256 x0 x1) x2
      have x3 := xor_lt256 (xor_lt256 x0 x1) x2
      have HS := Lib.hid hs; clear hs
      have G0 := Lib.hid c0'; clear c0'
      have G1 := Lib.hid c1'; clear c1'
      have G2 := Lib.hid c2'; clear c2'
      have BEL := Lib.hid hbel; clear hbel
      generalize hX3 : (X ^^^ Y) ^^^ Z = X3 at *
      have HX3 := Lib.hid hX3; clear hX3
      go_wp2
      go_region_held3 (fun W => W.cell? ⟨p0, o0 + k, none⟩ = some (.int .u8 (X : Nat)) ∧ W.cell? ⟨p1, o1 + k, none⟩ = some (.int .u8 (Y : Nat)) ∧ W.cell? ⟨p2, o2 + k, none⟩ = some (.int .u8 (Z : Nat)))
        (first
          | go_keep
          | exact ⟨(bel2.cell (p := ⟨p0, o0 + k, none⟩) hp0).trans G0.out, (bel2.cell (p := ⟨p1, o1 + k, none⟩) hp1).trans G1.out, (bel2.cell (p := ⟨p2, o2 + k, none⟩) hp2).trans G2.out⟩)
        (first | (refine step_append_lies _ rfl (.tmp 52) (.tmp 67) 22 rfl w.heap.size 5 i0 (.int .u8 0) 1 1 Try.underlying22 HI.out HZ0.out HZ1.out HZ2.out rfl (by decide) _ k (vals (mix3 xs ys' zs' k)) rfl ((HOWN.out.alloc _).drew) ⟨wr.heap.size, 0, none⟩ 1 1 [.int .u8 (X3 : Nat)] rfl rfl (World.news_of_block (cs := #[.int .u8 (X3 : Nat)]) (t := 5) (fr := (0, 0)) (heap_alloc_new wr _)) (one8 X3) (by omega) (ml k h hlt) (by omega) (Nat.le_trans BEL.out.size (by simp)) (wr.heap.size + 1) (by simp) ?_; intro gg cap w1 hown1 hgrow hat hlt2; have bel2 : Below w.heap.size w w1 := ((BEL.out.alloc BEL.out.size _).drew).grown hgrow (Nat.le_trans BEL.out.size (by simp)) (fun j hj => (HOWN.out.lt j hj).1)))
      go_wp2
      go_roundw
      case rel => exact ⟨k + 1, by omega, by go_num, by rw [HS.out, vals_append]; exact hown1, bel2⟩
      case measure => simp [intOf]; omega
    · have hkn : k = n := by omega
      subst hkn
      obtain ⟨A3, c3, rfl, b3, -, -⟩ := bts_own HOWN.out (mix3_lt xs ys' zs' k HB0.out.2.1 HF1.out.2.1 HF2.out.2.1) (by omega)
      have hcrc := crc_three xs ys' zs' k HB0.out.2.1 HF1.out.2.1 HF2.out.2.1 HB0.out.1 HF1.out.1 HF2.out.1
      have p0 := crc_lt xs
      have p1 := crc_lt ys'
      have p2 := crc_lt zs'
      have hB := hbel.size
      have D0 := Lib.hid (HB0.out.below hbel (Nat.le_refl _))
      have D1 := Lib.hid (HF1.out.below hbel (Nat.le_refl _))
      have D2 := Lib.hid (HF2.out.below hbel (Nat.le_refl _))
      have D3 := Lib.hid b3; clear b3
      have y1 := of_one_at wr (c := c3) D3.out (Nat.le_refl _)
      have y2 := fun (W : World) (g : Nat) (hW : Bts W w.heap.size a0 k xs) (hB : w.heap.size ≤ W.heap.size) (hg : W.heap.size = g) => of_at W g (c := c0) hW hB hg
      have y3 := fun (W : World) (g : Nat) (hW : Bts W w.heap.size A1 k ys') (hB : w.heap.size ≤ W.heap.size) (hg : W.heap.size = g) => of_at W g (c := c1) hW hB hg
      have y4 := fun (W : World) (g : Nat) (hW : Bts W w.heap.size A2 k zs') (hB : w.heap.size ≤ W.heap.size) (hg : W.heap.size = g) => of_at W g (c := c2) hW hB hg
      rw [hcrc] at y1
      clear hcrc
      generalize crc xs = r0 at *
      generalize crc ys' = r1 at *
      generalize crc zs' = r2 at *
      have u1 := xor32 r0 r1 p0 p1
      have u2 := xor32 (r0 ^^^ r1) r2 (Nat.xor_lt_two_pow p0 p1) p2
      generalize (r0 ^^^ r1) ^^^ r2 = r3 at *
      generalize r0 ^^^ r1 = r4 at *
      have Y1 := Lib.hid y1; clear y1
      have Y2 := Lib.hid y2; clear y2
      have Y3 := Lib.hid y3; clear y3
      have Y4 := Lib.hid y4; clear y4
      have BEL := Lib.hid hbel; clear hbel
      go_wp2_with fail
      (with_reducible refine (Y1.out).mono ?_); rintro e w' ⟨rfl, rfl⟩
      go_wp2_with fail
      (with_reducible refine (Y2.out _ _ (D0.out.alloc hB _) (by simp; omega) (by simp)).mono ?_); rintro e w' ⟨rfl, rfl⟩
      go_wp2_with fail
      (with_reducible refine (Y3.out _ _ ((D1.out.alloc hB _).alloc (by simp; omega) _) (by simp; omega) (by simp)).mono ?_); rintro e w' ⟨rfl, rfl⟩
      go_wp2_with fail
      (with_reducible refine (Y4.out _ _ (((D2.out.alloc hB _).alloc (by simp; omega) _).alloc (by simp; omega) _) (by simp; omega) (by simp)).mono ?_); rintro e w' ⟨rfl, rfl⟩
      go_wp2_with fail
      (with_reducible refine (awake_any _).mono ?_); rintro e w4 ⟨rfl, hb4⟩
      go_wp2
      go_ret
      exact ⟨rfl, (((((BEL.out.alloc hB _).alloc (by simp; omega) _).alloc (by simp; omega) _).alloc (by simp; omega) _).trans (hb4.mono (by simp; omega)))⟩
end Go.Proofs.Ytkonbnpbojepbaa.checkThree
