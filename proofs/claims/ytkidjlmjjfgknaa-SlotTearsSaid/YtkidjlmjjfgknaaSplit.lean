/- A record's pages (layer 5): the contract of record.Split. -/
import Derived.Test.YtkidjlmjjfgknaaFilled
namespace Go.Proofs.Ytkidjlmjjfgknaa.Rcd
open Go.RowKit Go.Proofs.Ytkidjlmjjfgknaa.Mem Go.Proofs.Ytkidjlmjjfgknaa.Oct Go.Proofs.Ytkidjlmjjfgknaa.Pg
set_option linter.unusedVariables false
set_option linter.unusedSimpArgs false
theorem Sf.one {w : World} {lo : Nat} {v : Value} {xs : List Nat} (h : Sf w lo v xs) : v.oneCell' = true := by
  obtain ⟨A, n, c, rfl, _⟩ := h
  rfl
theorem row_all (p : P) {v : Value} (h : v.oneCell' = true) : (row p v).toArray.all (·.oneCell') = true := by
  simp only [row, List.all_toArray, List.all_cons, List.all_nil, h, Bool.and_true]
  rfl
set_option maxRecDepth 20000 in
set_option maxHeartbeats 400000 in
theorem split_none (p : P) (v : Value) (A : Option Addr) (n c : Nat) (w : World) (h0 : 7808 < n) :
    Calls Try.prog 25 #[pgV p v, .slice A n c] w fun e w' => e = .returned (.tuple #[.slice none 0 0, .int .i64 5]) ∧ Below w.heap.size w w' := by
  obtain ⟨kind, gen, mark, index, part, parts_, b⟩ := p
  unfold pgV
  simp only
  have hp := fun (W : World) => parts_any (n : Int) W
  rw [partsI_nat, parts_zero h0] at hp
  have e0 : ((0 : Nat) : Int) = 0 := rfl
  rw [e0] at hp
  clear e0
  have HP := Lib.hid hp; clear hp
  go_enter Try.func25, Try.ntmps25
  go_wp2_with (go_at_call 24; refine (HP.out _).mono ?_; rintro e w' ⟨rfl, rfl⟩)
  go_ret2
  exact ⟨rfl, (Below.refl _ w).alloc (Nat.le_refl _) _⟩
set_option maxRecDepth 20000 in
set_option maxHeartbeats 400000 in
theorem split_some (p : P) (v : Value) (A : Option Addr) (n c : Nat) (bs : List Nat) (w : World) (h : Sl w w.heap.size (.slice A n c) bs) (hb : bs.length = n) (h0 : n ≤ 7808) (hx : In64 p.index) :
    Calls Try.prog 25 #[pgV p v, .slice A n c] w fun e w' => ∃ v', e = .returned (.tuple #[v', .int .i64 (if fits p bs = true then 0 else 1)]) ∧ Pgs w' w'.heap.size v' (if fits p bs = true then pages p bs else []) ∧ Below w.heap.size w w' := by
  have hp := fun (W : World) => parts_any (n : Int) W
  rw [partsI_nat] at hp
  have hm1 := parts_pos h0
  have hm16 := parts_le n
  have hsm := fun i (hi : i < parts n) => parts_small hi
  have HSM := Lib.hid hsm; clear hsm
  have HP := Lib.hid hp; clear hp
  have HBL := Lib.hid hb; clear hb
  obtain ⟨m, hm⟩ : ∃ m, m = parts n := ⟨_, rfl⟩
  rw [← hm] at hm1 hm16 HP HSM
  have HM := Lib.hid hm; clear hm
  obtain ⟨i0, hi, hz0, hz1, hz2⟩ := info_parts info24
  have HI := Lib.hid hi; clear hi
  have HZ0 := Lib.hid hz0; clear hz0
  have HZ1 := Lib.hid hz1; clear hz1
  have HZ2 := Lib.hid hz2; clear hz2
  obtain ⟨er, her⟩ : ∃ er : Int, er = if fits p bs = true then 0 else 1 := ⟨_, rfl⟩
  obtain ⟨pl, hpl⟩ : ∃ pl : List P, pl = if fits p bs = true then pages p bs else [] := ⟨_, rfl⟩
  rw [← her, ← hpl]
  obtain ⟨kind, gen, mark, index, part, parts_, b⟩ := p
  have HER := Lib.hid her; clear her
  have HPL := Lib.hid hpl; clear hpl
  have kb := Blk.new w 43 #[.int .i64 kind, .int .i64 gen, .int .i64 mark, .int .i64 index, .int .i64 part, .int .i64 parts_, v]
  have hb0 := (Below.refl w.heap.size w).alloc (Nat.le_refl _) (Obj.cells #[.int .i64 kind, .int .i64 gen, .int .i64 mark, .int .i64 index, .int .i64 part, .int .i64 parts_, v] 43)
  have KB := Lib.hid kb; clear kb
  have HB0 := Lib.hid hb0; clear hb0
  unfold pgV
  simp only
  go_enter Try.func25, Try.ntmps25
  go_wp2_with (first
    | (go_at_call 24; refine (HP.out _).mono ?_; rintro e w' ⟨rfl, rfl⟩)
    | (at_make; refine wpList_make_full _ rfl _ _ 47 rfl w.heap.size 43 i0 zPg 7 Try.underlying47 HI.out HZ0.out HZ1.out _ _ _ _ m rfl rfl rfl rfl (by rw [HZ2.out]; omega) (by unfold maxLen; omega) (by simp) ?_; intro w1 hown1 hg1))
  have hsz : (w.alloc (Obj.cells #[.int .i64 kind, .int .i64 gen, .int .i64 mark, .int .i64 index, .int .i64 part, .int .i64 parts_, v] 43)).heap.size = w.heap.size + 1 := by simp
  rw [hsz] at hown1
  have fl1 : Filled w1 (w.heap.size + 1) m 0 (nth ⟨kind, gen, mark, index, part, parts_, b⟩ bs m) := filled_made hown1 (by omega) _
  have kb1 := KB.out.grown hg1 (by simp)
  have hb1 := HB0.out.grown hg1 HB0.out.size (by simp)
  have FL1 := Lib.hid fl1; clear fl1
  have KB1 := Lib.hid kb1; clear kb1
  have HB1 := Lib.hid hb1; clear hb1
  clear hown1 hg1 KB HB0 hsz
  have HH := Lib.hid h; clear h
  go_loopw [20] (fun i wr => ∃ k : Nat, k ≤ m ∧ i = .int .i64 k ∧ Filled wr (w.heap.size + 1) m k (nth ⟨kind, gen, mark, index, part, parts_, b⟩ bs m) ∧ Below w.heap.size w wr ∧ Blk wr w.heap.size 43 #[.int .i64 kind, .int .i64 gen, .int .i64 mark, .int .i64 index, .int .i64 part, .int .i64 parts_, v] ∧ ∀ j, j < k → ((nth ⟨kind, gen, mark, index, part, parts_, b⟩ bs m) j).may = true) (fun i _ => m - (intOf i).toNat)
  case atStart => exact ⟨0, Nat.zero_le _, rfl, FL1.out, HB1.out, KB1.out, fun j hj => absurd hj (by omega)⟩
  case round =>
    obtain ⟨k, hk, rfl, hfl, hbw, hkb, hmy⟩ := hrel
    have HMY := Lib.hid hmy; clear hmy
    have FL := Lib.hid hfl; clear hfl
    have HB := Lib.hid hbw; clear hbw
    have KB := Lib.hid hkb; clear hkb
    by_cases hlt : k < m
    · have hi0 : -9223372036854775808 ≤ index + (k : Int) ∧ index + (k : Int) ≤ 9223372036854775807 := by
        rcases Nat.eq_zero_or_pos k with e | e
        · have h1 := hx.1
          have h2 := hx.2
          omega
        · have h1 := win_yes ((may_iff _).1 (HMY.out 0 e)).i
          simp only [nth] at h1
          omega
      have pa := fun (W : World) (hW : Below w.heap.size w W) => part_any ⟨kind, gen, mark, index, part, parts_, b⟩ v A n c k m bs W ((HH.out.below hW (Nat.le_refl _)).more hW.size) (HSM.out k hlt) h0 hm16 hi0.1 hi0.2
      have PA := Lib.hid pa; clear pa hi0
      have hgl := FL.out.lt
      have hkw := KB.out.lt
      have hpm : parts bs.length = m := by rw [HBL.out]; exact HM.out.symm
      cases hmay : ((nth ⟨kind, gen, mark, index, part, parts_, b⟩ bs m) k).may
      · go_wp2_with (first
          | (refine wpList_load_row rfl 43 (.tmp 2) rfl w.heap.size rfl 43 #[.int .i64 kind, .int .i64 gen, .int .i64 mark, .int .i64 index, .int .i64 part, .int .i64 parts_, v] (0, 0) _ KB.out Try.underlying43 rfl (by rw [size24]; rfl) ?_)
          | (go_at_call 39; refine (PA.out _ ?hb).mono ?_; (case hb => with_reducible repeat (first | exact HB.out | refine below_drewN ?_ _ | refine pdrew ?_)); rintro e w3 ⟨v3, rfl, hsf, hb3⟩; have H1C := Lib.hid hsf.one; have HS3 := Lib.hid (hsf.more (Nat.succ_le_of_lt FL.out.lt)); have FL3 := Lib.hid (FL.out.below hb3); have KB3 := Lib.hid (KB.out.below hb3 hkw); have HB3 := Lib.hid (HB.out.trans (hb3.mono HB.out.size)); clear hsf hb3)
          | (refine wpList_store_mid rfl 43 (.tmp 30) (.tmp 29) rfl (w.heap.size + 1) (k * 7) (row ((nth ⟨kind, gen, mark, index, part, parts_, b⟩ bs m) k) v3).toArray rfl rfl (FL3.out.there k hlt) (by rw [size24]; rfl) (row_all _ H1C.out) ?_; rw [List.toList_toArray]; have FL4 := Lib.hid (FL3.out.step hlt HS3.out); have hg4 := setCells_grown (w.heap.size + 1) (row ((nth ⟨kind, gen, mark, index, part, parts_, b⟩ bs m) k) v3) (k * 7) w3; have KB4 := Lib.hid (KB3.out.grown hg4 (by simp)); have HB4 := Lib.hid (HB3.out.grown hg4 HB3.out.size (fun q hq => by cases hq; omega)); have RG4 := Lib.hid (World.rangeAt_setCells_same w3 (w.heap.size + 1) (k * 7) (row ((nth ⟨kind, gen, mark, index, part, parts_, b⟩ bs m) k) v3) (FL3.out.there k hlt)); have HS4 := Lib.hid ((HS3.out.grown hg4 (Nat.lt_succ_self _)).sb); clear hg4; generalize hw4 : World.setCells w3 (w.heap.size + 1) (k * 7) (row ((nth ⟨kind, gen, mark, index, part, parts_, b⟩ bs m) k) v3) = w4 at FL4 KB4 HB4 RG4 HS4 ⊢; clear hw4)
          | (refine wpList_load_mid rfl 43 (.tmp 34) rfl (w.heap.size + 1) (k * 7) rfl (row ((nth ⟨kind, gen, mark, index, part, parts_, b⟩ bs m) k) v3) _ RG4.out Try.underlying43 rfl (by rw [size24]; rfl) ?_)
          | (go_at_call 26; refine (put_any ((nth ⟨kind, gen, mark, index, part, parts_, b⟩ bs m) k) v3 _ ?hs).mono ?_; (case hs => exact HS4.out); rintro e w5 ⟨v5, rfl, hs5, hb5⟩; rw [hmay]; obtain ⟨A5, n5, c5, rfl, _⟩ := hs5; have FL5 := Lib.hid (FL4.out.below hb5); have KB5 := Lib.hid (KB4.out.below hb5 KB4.out.lt); have HB5 := Lib.hid (HB4.out.trans (hb5.mono HB4.out.size)); clear hb5))
        go_ret2
        have hf := fits_no (p := ⟨kind, gen, mark, index, part, parts_, b⟩) (b := bs) (j := k) (by rw [hpm]; exact hlt) (by rw [hpm]; exact hmay)
        have e1 := HER.out
        have e2 := HPL.out
        rw [hf, if_neg (by simp)] at e1 e2
        subst e1 e2
        exact ⟨_, rfl, pgs_nil _ _, HB5.out⟩
      · go_wp2_with (first
          | (refine wpList_load_row rfl 43 (.tmp 2) rfl w.heap.size rfl 43 #[.int .i64 kind, .int .i64 gen, .int .i64 mark, .int .i64 index, .int .i64 part, .int .i64 parts_, v] (0, 0) _ KB.out Try.underlying43 rfl (by rw [size24]; rfl) ?_)
          | (go_at_call 39; refine (PA.out _ ?hb).mono ?_; (case hb => with_reducible repeat (first | exact HB.out | refine below_drewN ?_ _ | refine pdrew ?_)); rintro e w3 ⟨v3, rfl, hsf, hb3⟩; have H1C := Lib.hid hsf.one; have HS3 := Lib.hid (hsf.more (Nat.succ_le_of_lt FL.out.lt)); have FL3 := Lib.hid (FL.out.below hb3); have KB3 := Lib.hid (KB.out.below hb3 hkw); have HB3 := Lib.hid (HB.out.trans (hb3.mono HB.out.size)); clear hsf hb3)
          | (refine wpList_store_mid rfl 43 (.tmp 30) (.tmp 29) rfl (w.heap.size + 1) (k * 7) (row ((nth ⟨kind, gen, mark, index, part, parts_, b⟩ bs m) k) v3).toArray rfl rfl (FL3.out.there k hlt) (by rw [size24]; rfl) (row_all _ H1C.out) ?_; rw [List.toList_toArray]; have FL4 := Lib.hid (FL3.out.step hlt HS3.out); have hg4 := setCells_grown (w.heap.size + 1) (row ((nth ⟨kind, gen, mark, index, part, parts_, b⟩ bs m) k) v3) (k * 7) w3; have KB4 := Lib.hid (KB3.out.grown hg4 (by simp)); have HB4 := Lib.hid (HB3.out.grown hg4 HB3.out.size (fun q hq => by cases hq; omega)); have RG4 := Lib.hid (World.rangeAt_setCells_same w3 (w.heap.size + 1) (k * 7) (row ((nth ⟨kind, gen, mark, index, part, parts_, b⟩ bs m) k) v3) (FL3.out.there k hlt)); have HS4 := Lib.hid ((HS3.out.grown hg4 (Nat.lt_succ_self _)).sb); clear hg4; generalize hw4 : World.setCells w3 (w.heap.size + 1) (k * 7) (row ((nth ⟨kind, gen, mark, index, part, parts_, b⟩ bs m) k) v3) = w4 at FL4 KB4 HB4 RG4 HS4 ⊢; clear hw4)
          | (refine wpList_load_mid rfl 43 (.tmp 34) rfl (w.heap.size + 1) (k * 7) rfl (row ((nth ⟨kind, gen, mark, index, part, parts_, b⟩ bs m) k) v3) _ RG4.out Try.underlying43 rfl (by rw [size24]; rfl) ?_)
          | (go_at_call 26; refine (put_any ((nth ⟨kind, gen, mark, index, part, parts_, b⟩ bs m) k) v3 _ ?hs).mono ?_; (case hs => exact HS4.out); rintro e w5 ⟨v5, rfl, hs5, hb5⟩; rw [hmay]; obtain ⟨A5, n5, c5, rfl, _⟩ := hs5; have FL5 := Lib.hid (FL4.out.below hb5); have KB5 := Lib.hid (KB4.out.below hb5 KB4.out.lt); have HB5 := Lib.hid (HB4.out.trans (hb5.mono HB4.out.size)); clear hb5))
        go_roundw
        case rel =>
          refine ⟨k + 1, by omega, by go_num, FL5.out, HB5.out, KB5.out, fun j hj => ?_⟩
          by_cases e : j = k
          · subst e
            exact hmay
          · exact HMY.out j (by omega)
        case measure => simp [intOf]; omega
    · obtain rfl : k = m := by omega
      have hpm : parts bs.length = k := by rw [HBL.out]; exact HM.out.symm
      go_wp2
      go_ret2
      have hf : fits ⟨kind, gen, mark, index, part, parts_, b⟩ bs = true := fits_yes (by rw [hpm]; exact hm1) (fun j hj => by rw [hpm]; rw [hpm] at hj; exact HMY.out j hj)
      have e1 := HER.out
      have e2 := HPL.out
      rw [hf, if_pos rfl] at e1 e2
      subst e1 e2
      exact ⟨_, rfl, FL.out.pgs (by unfold maxLen; omega) (by rw [pages_length, hpm]) (fun i hi => by rw [pages_getD _ _ _ (by rw [hpm]; exact hi), hpm]), HB.out⟩
/-- the pages of any bytes -/
theorem split_any (p : P) (v : Value) (A : Option Addr) (n c : Nat) (bs : List Nat) (w : World) (h : Sl w w.heap.size (.slice A n c) bs) (hb : bs.length = n) (hx : In64 p.index) :
    Calls Try.prog 25 #[pgV p v, .slice A n c] w fun e w' => ∃ v', e = .returned (.tuple #[v', .int .i64 (if 7808 < n then 5 else if fits p bs = true then 0 else 1)]) ∧ Pgs w' w'.heap.size v' (if fits p bs = true then pages p bs else []) ∧ Below w.heap.size w w' := by
  by_cases h0 : 7808 < n
  · refine (split_none p v A n c w h0).mono ?_
    rintro e w' ⟨rfl, hb'⟩
    rw [fits_none (by rw [hb]; exact parts_zero h0)]
    exact ⟨_, by rw [if_pos h0], pgs_nil _ _, hb'⟩
  · rw [if_neg h0]
    exact split_some p v A n c bs w h hb (by omega) hx
end Go.Proofs.Ytkidjlmjjfgknaa.Rcd
