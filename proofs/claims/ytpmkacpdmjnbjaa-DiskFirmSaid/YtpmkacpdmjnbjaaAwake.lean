/- The law's own helper of layer 3: awake. -/
import Derived.Test.YtpmkacpdmjnbjaaDoW
namespace Go.Proofs.Ytpmkacpdmjnbjaa.Dsk
open Go.RowKit Go.Maps Go.Shelf Go.Proofs.Ytpmkacpdmjnbjaa.Mem
set_option linter.unusedVariables false
set_option linter.unusedSimpArgs false
def aw1 : St := ((St.new 2).write 1 (torn [7] noughts)).1
theorem aw1_eq : (St.new 2).write 1 (torn [7] noughts) = ({ St.new 2 with fw := upd1 (fun _ => none) 1 (torn [7] noughts) }, 0) := by
  have h : (torn [7] noughts).length = 512 := (torn_sec (by simp) isSec_noughts).1
  simp [St.write, St.new, St.act, h]
theorem aw1_wait : aw1.waiting = [1] := by
  unfold aw1
  rw [aw1_eq]
  simp [St.waiting, St.new, upd1, List.range_succ]
theorem aw2_read : (aw1.crash []).read 1 = (noughts, 0) := by
  have h : aw1.waiting.zip ([] : List (Int × List Nat)) = [] := by simp
  unfold St.crash
  rw [h]
  unfold aw1
  rw [aw1_eq]
  simp [St.tears, St.read, St.new, St.get]
theorem aw2_n : (aw1.crash []).n = 2 := by
  have h : aw1.waiting.zip ([] : List (Int × List Nat)) = [] := by simp
  unfold St.crash
  rw [h]
  unfold aw1
  rw [aw1_eq]
  rfl
theorem lit_sl (W : World) (x : Nat) (hx : x < 256) : Sl (W.alloc (.cells #[.int .u8 (x : Nat)] 5)) (W.alloc (.cells #[.int .u8 (x : Nat)] 5)).heap.size (.slice (some ⟨W.heap.size, 0, none⟩) 1 1) [x] := by
  refine ⟨_, 1, 1, rfl, ⟨rfl, by simpa using hx, by omega, fun _ => ⟨W.heap.size, 0, rfl, by simp, fun i hi => ?_⟩⟩, by omega, by unfold maxLen; omega, fun e => by cases e⟩
  obtain rfl : i = 0 := by omega
  exact (Blk.new W 5 #[.int .u8 (x : Nat)]).cell 0
theorem aw_bytes : IsSec (torn [7] noughts) := torn_sec (by simp) isSec_noughts
theorem aw_write (g bs bw gF : Nat) (w : World) (hD : DiskAt w g bs bw (St.new 2)) (hF : Blk w gF 5 (vals (torn [7] noughts)).toArray) (hne : gF ≠ g) :
    Calls Try.prog 18 #[ptr g, .int .i64 1, .slice (some ⟨gF, 0, none⟩) 512 512] w fun e w' => e = .returned (.int .i64 0) ∧ DiskAt w' g bs bw aw1 ∧ KeptBut w w' [g, bs, bw] := by
  have h := write_any g bs bw (St.new 2) 1 (some ⟨gF, 0, none⟩) 512 512 (torn [7] noughts) w hD aw_bytes.1 aw_bytes.2 (fun w3 hg3 => by
    obtain ⟨A, n, c, e, hb, _⟩ := row_sl (hF.grown hg3 (by simp; exact hne)) aw_bytes
    injection e with e1 e2 e3
    subst e1 e2 e3
    exact hb)
  rw [show ((St.new 2).write 1 (torn [7] noughts)).2 = 0 from by rw [aw1_eq]] at h
  exact h
theorem aw_waits (g bs bw : Nat) (w : World) (hD : DiskAt w g bs bw aw1) :
    Calls Try.prog 23 #[ptr g] w fun e w' => ∃ b c, e = .returned (.slice (some ⟨b, 0, none⟩) 1 c) ∧ w.heap.size ≤ b ∧ b < w'.heap.size ∧ w'.cell? ⟨b, 0, none⟩ = some (.int .i64 1) ∧ Below w.heap.size w w' := by
  refine (waits_any g bs bw aw1 w hD).mono ?_
  rintro e w' ⟨v, rfl, hr, hb⟩
  rw [aw1_wait] at hr
  obtain ⟨A, c, rfl, h⟩ := own_ints hr rfl
  obtain ⟨b, rfl, h1, h2, h3⟩ := h (by simp)
  exact ⟨b, c, rfl, h1, h2, h3 0 (by simp), hb⟩
theorem aw_read (g bs bw : Nat) (w : World) (hD : DiskAt w g bs bw (aw1.crash [])) :
    Calls Try.prog 16 #[ptr g, .int .i64 1] w fun e w' => ∃ b o c, e = .returned (.tuple #[.slice (some ⟨b, o, none⟩) 512 c, .int .i64 0]) ∧ b < w'.heap.size ∧ w'.cell? ⟨b, o, none⟩ = some (.int .u8 0) ∧ Below w.heap.size w w' := by
  refine (read_any g bs bw (aw1.crash []) 1 w hD).mono ?_
  rintro e w' ⟨v, rfl, hs, hb⟩
  rw [aw2_read] at hs ⊢
  obtain ⟨A, n, c, rfl, hbt, _⟩ := hs
  have hn : n = 512 := by rw [← hbt.1]; exact isSec_noughts.1
  subst hn
  obtain ⟨b, o, rfl, h1, h2⟩ := hbt.2.2.2 (by omega)
  have h3 := h2 0 (by omega)
  have h0 : noughts.getD 0 0 = 0 := rfl
  rw [h0] at h3
  exact ⟨b, o, c, rfl, h1, by simpa using h3, hb⟩
set_option maxRecDepth 20000 in
set_option maxHeartbeats 4000000 in
theorem awake_any (w : World) : Calls Try.prog 11 #[] w fun e w' => e = .returned (.bool true) ∧ Below w.heap.size w w' := by
  have c1 := new_ok 2 w (by omega) (by omega)
  have C1 := Lib.hid c1; clear c1
  go_enter Try.func11, Try.ntmps11
  go_wp2_with (first
    | (go_at_call 12; refine (C1.out).mono ?_; rintro e w1 ⟨g, bs, bw, rfl, hD, hb, hS⟩; have hf := fill_any (.slice (some ⟨w1.heap.size, 0, none⟩) 1 1) [7] (w1.alloc (.cells #[.int .u8 7] 5)) (lit_sl w1 7 (by omega)); have F := Lib.hid hf; clear hf; have HD1 := Lib.hid hD; clear hD; have HB1 := Lib.hid hb; clear hb; have HS := Lib.hid hS; clear hS)
    | (go_at_call 19; refine (F.out).mono ?_; rintro e w2 ⟨rfl, hF, hb⟩; have HD2 := Lib.hid (HD1.out.below (((Below.refl _ w1).alloc (Nat.le_refl _) _).trans (hb.mono (by simp)))); have HB2 := Lib.hid (HB1.out.trans ((((Below.refl _ w1).alloc (Nat.le_refl _) _).trans (hb.mono (by simp))).mono HB1.out.size)); simp at hF; have WR := Lib.hid (aw_write g bs bw _ w2 HD2.out hF (by have := HD1.out.lt; omega)); clear hF hb)
    | (go_at_call 18; refine (WR.out).mono ?_; rintro e w3 ⟨rfl, hD, hK⟩; have HD3 := Lib.hid hD; clear hD; have HK3 := Lib.hid hK; clear hK)
    | (go_at_call 23; refine (aw_waits g bs bw w3 HD3.out).mono ?_; rintro e w4 ⟨bq, cq, rfl, hq1, hq2, hq3, hb⟩; have HD4 := Lib.hid (HD3.out.below hb); have HK4 := Lib.hid (HK3.out.trans (kept_of_below hb (Nat.le_refl _))); clear hb)
    | (go_at_call 17; refine (crash_any g bs bw w.heap.size aw1 (.slice none 0 0) [] w4 HD4.out (tears_nil _ _) HS.out).mono ?_; rintro e w5 ⟨rfl, hD, hK⟩; have hq4 := (hK.cell (p := ⟨bq, 0, none⟩) hq2 (by have := HD3.out.lt; simp; omega)).trans hq3; have hq5 := Nat.lt_of_lt_of_le hq2 hK.size; have HD5 := Lib.hid hD; clear hD; have HK5 := Lib.hid (HK4.out.trans hK); clear hK)
    | (go_at_call 16; refine (aw_read g bs bw w5 HD5.out).mono ?_; rintro e w6 ⟨br, or, cr, rfl, hr1, hr2, hb⟩; have hq6 := (hb.cell (p := ⟨bq, 0, none⟩) hq5).trans hq4; have hq7 := Nat.lt_of_lt_of_le hq5 hb.size; have HD6 := Lib.hid (HD5.out.below hb); have SZ := Lib.hid (size_any g bs bw _ w6 HD6.out); have HK6 := Lib.hid (HK5.out.trans (kept_of_below hb (Nat.le_refl _))); clear hb)
    | (go_at_call 27; refine (SZ.out).mono ?_; rintro e w7 ⟨rfl, rfl⟩; rw [aw2_n]))
  go_ret
  exact ⟨rfl, HB2.out.trans (HK6.out.below HS.out HB2.out.size)⟩
end Go.Proofs.Ytpmkacpdmjnbjaa.Dsk
