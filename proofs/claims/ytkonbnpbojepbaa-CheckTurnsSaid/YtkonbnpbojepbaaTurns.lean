/- CheckTurns' walk (layer 1): bytes some of whose bits are turned, all within 32 in a row, have another check. Conditions: in the lemmas' own premises. -/
import Derived.Test.YtkonbnpbojepbaaAt
import Derived.Test.YtkonbnpbojepbaaFlip
import Derived.Deep.AppendLies
import Derived.Laws.OwnMore
namespace Go.Proofs.Ytkonbnpbojepbaa.checkTurns
open Go.Proofs.Ytkonbnpbojepbaa.Crc
open Go.RowKit
set_option linter.unusedVariables false
theorem vals_set (l : List Nat) (j v : Nat) : (vals l).set j (.int .u8 (v : Int)) = vals (l.set j v) := by simp [vals, List.map_set]
theorem odd_yes (P k : Nat) (h : (((P : Int) / 2 ^ k).tmod 2 == 1) = true) : P / 2 ^ k % 2 = 1 := by
  rw [tmod_nat] at h
  have := beq_iff_eq.1 h
  omega
theorem odd_no (P k : Nat) (h : (((P : Int) / 2 ^ k).tmod 2 == 1) = false) : ¬ P / 2 ^ k % 2 = 1 := by
  rw [tmod_nat] at h
  have := beq_eq_false_iff_ne.1 h
  intro hh
  rw [hh] at this
  exact this rfl
theorem flip_yes {w wr : World} {g n cap : Nat} {xs : List Nat} {f P k j r q : Nat} (h : (((P : Int) / 2 ^ k).tmod 2 == 1) = true) (hj : j = (f + k) / 8) (hr : r = (f + k) % 8)
    (hq : q = (flipTo xs f P k).getD j 0) (hx : ∀ x ∈ xs, x < 256)
    (hown : wr.ownsRow w.heap.size 5 1 (.slice (some ⟨g, 0, none⟩) n cap) n (vals (flipTo xs f P k))) :
    (wr.setCell ⟨g, j, none⟩ (.int .u8 (bits .xor .u8 (q : Int) (2 ^ r % 256)))).ownsRow w.heap.size 5 1 (.slice (some ⟨g, 0, none⟩) n cap) n (vals (flipTo xs f P (k + 1))) := by
  have h8 : r < 8 := by omega
  have hq2 : q < 256 := by rw [hq]; exact getD_lt (flipTo_lt hx f P k) j
  have e : bits .xor .u8 (q : Int) (2 ^ r % 256) = ((q ^^^ 2 ^ r : Nat) : Int) := by
    have e3 : (2 : Int) ^ r % 256 = ((2 ^ r : Nat) : Int) := by
      have h3 := pow_lt256 r h8
      have h4 : ((2 : Int) ^ r) = ((2 ^ r : Nat) : Int) := by simp
      rw [h4]
      generalize 2 ^ r = m at h3
      exact Int.emod_eq_of_lt (Int.natCast_nonneg _) (by omega)
    rw [e3]
    exact u8x q (2 ^ r) hq2 (pow_lt256 r h8)
  have e2 : flipTo xs f P (k + 1) = (flipTo xs f P k).set j (q ^^^ 2 ^ r) := by
    rw [hq, hj, hr]
    show (if _ then _ else _) = _
    rw [if_pos (odd_yes P k h)]
  rw [e2, e, ← vals_set]
  exact (hown.stored j _).1
theorem flip_no {xs : List Nat} {f P k : Nat} (h : (((P : Int) / 2 ^ k).tmod 2 == 1) = false) : flipTo xs f P (k + 1) = flipTo xs f P k := by
  show (if _ then _ else _) = _
  rw [if_neg (odd_no P k h)]
theorem turned_yes {P k : Nat} (h : (((P : Int) / 2 ^ k).tmod 2 == 1) = true) : Value.bool true = Value.bool (turned P (k + 1)) := by
  rw [turned_succ, if_pos (odd_yes P k h)]
theorem turned_no {P k : Nat} (h : (((P : Int) / 2 ^ k).tmod 2 == 1) = false) : Value.bool (turned P k) = Value.bool (turned P (k + 1)) := by
  rw [turned_succ, if_neg (odd_no P k h)]
theorem own_bts {w : World} {base n c : Nat} {A : Option Addr} {xs : List Nat} (h : w.ownsRow base 5 1 (.slice A n c) n (vals xs)) (hx : ∀ x ∈ xs, x < 256) (hn : n ≤ 1000000) : Bts w w.heap.size A n xs := by
  obtain ⟨A', c', e, hb, _⟩ := bts_own h hx hn
  injection e with e1 e2 e3
  subst e1
  exact hb
set_option maxHeartbeats 1000000 in
theorem walk_short (ad : Addr) (n c0 x P : Nat) (xs : List Nat) (w : World) (h0 : 0 < n) (h : n ≤ 1500) (hx : x < 65536) (hP : P < 4294967296)
    (k0 : n ≤ c0) (q0 : c0 ≤ maxLen) (b0 : Bts w w.heap.size (some ad) n xs) :
    Calls Try.prog 5 #[.slice (some ad) n c0, .int .u16 (x : Int), .int .u32 (P : Int)] w fun e w' => e = .returned (.bool true) ∧ Below w.heap.size w w' := by
  obtain ⟨i0, hi, hz0, hz1, hz2⟩ := info_parts Try.info5
  have d1 : decide ((1500 : Int) < n) = false := by simp; omega
  have d2 : ((n : Int) == 0) = false := by simp; omega
  have hcells := bts_cells b0
  have hlen := b0.1
  have hown0 : (w.alloc (.cells #[] 5)).ownsRow w.heap.size 5 1 (.slice (some ⟨w.heap.size, 0, none⟩) 0 0) 0 [] := World.ownsRow_lit w #[] 0 (Nat.le_refl _) (by unfold maxLen; omega) rfl
  have HO := Lib.hid hown0; clear hown0
  have HI := Lib.hid hi; clear hi
  have HZ0 := Lib.hid hz0; clear hz0
  have HZ1 := Lib.hid hz1; clear hz1
  have HZ2 := Lib.hid hz2; clear hz2
  have HB0 := Lib.hid b0; clear b0
  have HC := Lib.hid hcells; clear hcells
  have HL := Lib.hid hlen; clear hlen
  unfold maxLen at q0
  have f0 : 0 ≤ (x : Int) % (8 * (n : Int)) := Int.emod_nonneg _ (by omega)
  have f1 : (x : Int) % (8 * (n : Int)) < 8 * (n : Int) := Int.emod_lt_of_pos _ (by omega)
  go_enter Try.func5, Try.ntmps5
  go_wp2_with (at_builtin; (refine wpList_append_lies _ rfl (.tmp 27) (.tmp 28) 22 rfl w.heap.size 5 i0 (.int .u8 0) 1 1 Try.underlying22 HI.out HZ0.out HZ1.out HZ2.out rfl (by decide) (.slice (some ⟨w.heap.size, 0, none⟩) 0 0) 0 [] rfl HO.out ad n c0 (vals xs) rfl (by rw [vals_length, HL.out, Nat.mul_one]) (fun j u hu => (World.cell?_alloc_lt w _ _ (block_lt_of_cell (HC.out j u hu))).trans (HC.out j u hu)) (vals_one xs) h0 (by unfold maxLen; omega) (by omega) (by simp) (w.heap.size + 1) (by simp) ?_; intro g cap w2 hown2 hg2 _ hlt2; have hbel2 : Below w.heap.size w w2 := (((Below.refl _ _).alloc (Nat.le_refl _) _).grown hg2 (by simp) (fun k hk => by simp [Value.ownBlock] at hk; omega)); have HOWN := Lib.hid hown2; clear hown2; have BEL := Lib.hid hbel2; clear hbel2))
  obtain ⟨f, hf⟩ : ∃ f : Nat, (x : Int) % (8 * (n : Int)) = f := Int.eq_ofNat_of_zero_le f0
  rw [hf] at f1 ⊢
  clear hf f0
  clear hx
  go_loopw [9, 10, 11] (fun t i kk wr => ∃ k : Nat, k ≤ 32 ∧ f + k ≤ 8 * n ∧ i = .int .i64 k ∧ t = .bool (turned P k) ∧ wr.ownsRow w.heap.size 5 1 (.slice (some ⟨g, 0, none⟩) n cap) n (vals (flipTo xs f P k)) ∧ Below w.heap.size w wr) (fun _ i _ _ => 32 - (intOf i).toNat)
  case atStart => exact ⟨0, by omega, by omega, rfl, by simp [turned, Nat.mod_one], by have := HOWN.out; rw [Nat.zero_add, List.nil_append] at this; exact this, BEL.out⟩
  case round =>
    obtain ⟨k, hk, hfk, rfl, rfl, hown, hbel⟩ := hrel
    obtain ⟨j, hj⟩ : ∃ j, j = (f + k) / 8 := ⟨_, rfl⟩
    obtain ⟨r, hr⟩ : ∃ r, r = (f + k) % 8 := ⟨_, rfl⟩
    have hl := flipTo_length xs f P k
    have HOWN := Lib.hid hown; clear hown
    have BEL := Lib.hid hbel; clear hbel
    by_cases hlt : k < 32
    · by_cases hlt2 : f + k < 8 * n
      · have hjj : ((f : Int) + (k : Int)) / 8 = (j : Int) := by omega
        have hrr : ((f : Int) + (k : Int)) % 8 = (r : Int) := by omega
        have hjn : j < n := by omega
        have hr8 : r < 8 := by omega
        have HJ := Lib.hid hj; clear hj
        have HR := Lib.hid hr; clear hr
        have hc := (HOWN.out.cellAt j (by omega)).trans (vals_get _ j (by rw [hl, HL.out]; exact hjn))
        have hfz := HOWN.out.frozenAt j
        clear hl
        obtain ⟨q, hq⟩ : ∃ q, q = (flipTo xs f P k).getD j 0 := ⟨_, rfl⟩
        rw [← hq] at hc
        have HQ := Lib.hid hq; clear hq
        generalize hT : turned P k = t0 at *
        have HT := Lib.hid hT; clear hT
        go_wp2
        · have hbit : (((P : Int) / 2 ^ k).tmod 2 == 1) = true := by assumption
          go_roundw
          case rel => exact ⟨k + 1, by omega, by omega, by go_num, turned_yes hbit, flip_yes hbit HJ.out HR.out HQ.out HB0.out.2.1 HOWN.out, BEL.out.setCell (HOWN.out.lt g rfl).1 _⟩
          case measure => simp [intOf]; omega
        · have hbit : (((P : Int) / 2 ^ k).tmod 2 == 1) = false := by assumption
          go_roundw
          case rel => exact ⟨k + 1, by omega, by omega, by go_num, by rw [← HT.out]; exact turned_no hbit, by rw [flip_no hbit]; exact HOWN.out, BEL.out⟩
          case measure => simp [intOf]; omega
      · clear hj hr hl j r
        have hend := crc_turned xs HB0.out.2.1 f P k (by omega) (by have := HL.out; omega)
        have b3 := own_bts HOWN.out (flipTo_lt HB0.out.2.1 f P k) (by omega)
        have hB := BEL.out.size
        have D0 := Lib.hid (HB0.out.below BEL.out (Nat.le_refl _))
        have D3 := Lib.hid b3; clear b3
        have y2 := fun (W : World) (g : Nat) (hW : Bts W w.heap.size (some ad) n xs) (hB : w.heap.size ≤ W.heap.size) (hg : W.heap.size = g) => of_at W g (c := c0) hW hB hg
        have y3 := fun (W : World) (k' : Nat) (hW : Bts W wr.heap.size (some ⟨g, 0, none⟩) n (flipTo xs f P k)) (hB : wr.heap.size ≤ W.heap.size) (hg : W.heap.size = k') => of_at W k' (c := cap) hW hB hg
        generalize turned P k = t0 at *
        generalize crc xs = r0 at *
        generalize crc (flipTo xs f P k) = r1 at *
        have hne1 : (((r0 : Int) != (r1 : Int)) == t0) = true := by
          rcases t0 with _ | _
          · have := hend.2 rfl
            subst this
            simp
          · have : ¬ r0 = r1 := fun h => by have := hend.1 h; cases this
            have h2 : ((r0 : Int) != (r1 : Int)) = true := by rw [bne_iff_ne]; omega
            rw [h2]; rfl
        clear hend
        have Y2 := Lib.hid y2; clear y2
        have Y3 := Lib.hid y3; clear y3
        go_wp2_with fail
        (with_reducible refine (Y2.out _ _ D0.out hB rfl).mono ?_); rintro e w' ⟨rfl, rfl⟩
        go_wp2_with fail
        (with_reducible refine (Y3.out _ _ (D3.out.alloc (Nat.le_refl _) _) (by simp) (by simp)).mono ?_); rintro e w' ⟨rfl, rfl⟩
        go_wp2_with fail
        (with_reducible refine (awake_any _).mono ?_); rintro e w4 ⟨rfl, hb4⟩
        go_wp2
        go_ret
        exact ⟨rfl, (((BEL.out.alloc hB _).alloc (by simp; omega) _).trans (hb4.mono (by simp; omega)))⟩
    · clear hj hr hl j r
      have hend := crc_turned xs HB0.out.2.1 f P k (by omega) (by have := HL.out; omega)
      have b3 := own_bts HOWN.out (flipTo_lt HB0.out.2.1 f P k) (by omega)
      have hB := BEL.out.size
      have D0 := Lib.hid (HB0.out.below BEL.out (Nat.le_refl _))
      have D3 := Lib.hid b3; clear b3
      have y2 := fun (W : World) (g : Nat) (hW : Bts W w.heap.size (some ad) n xs) (hB : w.heap.size ≤ W.heap.size) (hg : W.heap.size = g) => of_at W g (c := c0) hW hB hg
      have y3 := fun (W : World) (k' : Nat) (hW : Bts W wr.heap.size (some ⟨g, 0, none⟩) n (flipTo xs f P k)) (hB : wr.heap.size ≤ W.heap.size) (hg : W.heap.size = k') => of_at W k' (c := cap) hW hB hg
      generalize turned P k = t0 at *
      generalize crc xs = r0 at *
      generalize crc (flipTo xs f P k) = r1 at *
      have hne1 : (((r0 : Int) != (r1 : Int)) == t0) = true := by
        rcases t0 with _ | _
        · have := hend.2 rfl
          subst this
          simp
        · have : ¬ r0 = r1 := fun h => by have := hend.1 h; cases this
          have h2 : ((r0 : Int) != (r1 : Int)) = true := by rw [bne_iff_ne]; omega
          rw [h2]; rfl
      clear hend
      have Y2 := Lib.hid y2; clear y2
      have Y3 := Lib.hid y3; clear y3
      go_wp2_with fail
      (with_reducible refine (Y2.out _ _ D0.out hB rfl).mono ?_); rintro e w' ⟨rfl, rfl⟩
      go_wp2_with fail
      (with_reducible refine (Y3.out _ _ (D3.out.alloc (Nat.le_refl _) _) (by simp) (by simp)).mono ?_); rintro e w' ⟨rfl, rfl⟩
      go_wp2_with fail
      (with_reducible refine (awake_any _).mono ?_); rintro e w4 ⟨rfl, hb4⟩
      go_wp2
      go_ret
      exact ⟨rfl, (((BEL.out.alloc hB _).alloc (by simp; omega) _).trans (hb4.mono (by simp; omega)))⟩
end Go.Proofs.Ytkonbnpbojepbaa.checkTurns
