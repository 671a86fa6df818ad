/- A node's own numbers (layer 13): the contracts of After, Take, Want and Grant, of the reference's May and Want, and the law's awake. -/
import Derived.Test.YtgcmkcohfpgcfaaMem
import Derived.WalkKit
import Derived.WalkSpells
import Derived.Lib.Hide
import Derived.Deep.QuietTactic
import Derived.BigQuiet
import Derived.Deep.RegionHeld3
import Derived.StillTailTactics
import Derived.IntWalk
namespace Go.Proofs.Ytgcmkcohfpgcfaa.Spc
open Go.RowKit Go.Proofs.Ytgcmkcohfpgcfaa.Mem
set_option linter.unusedVariables false
set_option linter.unusedSimpArgs false
abbrev spV (n u : Int) : Value := .agg #[.int .i64 n, .int .i64 u]
/-- may numbers be reserved up to it? -/
def upB (u : Int) : Bool := decide (0 ≤ u) && decide (u ≤ 4611686018427387904)
/-- may a space be? -/
def mayB (n u : Int) : Bool := upB u && decide (1 ≤ n) && decide (n ≤ u + 1)
theorem upB_yes {u : Int} (h : upB u = true) : 0 ≤ u ∧ u ≤ 4611686018427387904 := by simpa [upB] using h
theorem upB_no {u : Int} (h : upB u = false) : u < 0 ∨ 4611686018427387904 < u := by
  simp only [upB, Bool.and_eq_false_iff, decide_eq_false_iff_not] at h
  omega
theorem upB_mk {u : Int} (h : 0 ≤ u) (h2 : u ≤ 4611686018427387904) : upB u = true := by simp [upB, h, h2]
theorem mayB_yes {n u : Int} (h : mayB n u = true) : 0 ≤ u ∧ u ≤ 4611686018427387904 ∧ 1 ≤ n ∧ n ≤ u + 1 := by
  simp only [mayB, Bool.and_eq_true, decide_eq_true_eq] at h
  have := upB_yes h.1.1
  omega
theorem mayB_no {n u : Int} (h : mayB n u = false) : u < 0 ∨ 4611686018427387904 < u ∨ (0 ≤ u ∧ u ≤ 4611686018427387904 ∧ n < 1) ∨ (0 ≤ u ∧ u ≤ 4611686018427387904 ∧ 1 ≤ n ∧ u + 1 < n) := by
  simp only [mayB, Bool.and_eq_false_iff, decide_eq_false_iff_not] at h
  rcases h with (h | h) | h
  · have := upB_no h; omega
  · omega
  · omega
theorem mayB_mk {n u : Int} (h : 0 ≤ u) (h2 : u ≤ 4611686018427387904) (h3 : 1 ≤ n) (h4 : n ≤ u + 1) : mayB n u = true := by simp [mayB, upB, h, h2, h3, h4]
set_option maxHeartbeats 1000000 in
theorem isUpto_any (n : Int) (w : World) : Calls Try.prog 12 #[.int .i64 n] w fun e w' => e = .returned (.bool (upB n)) ∧ w = w' := by
  unfold upB
  by_cases h0 : 0 ≤ n
  · have d0 : decide (0 ≤ n) = true := by simpa using h0
    by_cases h1 : n ≤ 4611686018427387904
    · have d1 : decide (n ≤ 4611686018427387904) = true := by simpa using h1
      rw [d0, d1]
      go_enter Try.func12, Try.ntmps12
      go_wp2
      go_ret
      exact ⟨rfl, rfl⟩
    · have d1 : decide (n ≤ 4611686018427387904) = false := by simpa using h1
      rw [d0, d1]
      go_enter Try.func12, Try.ntmps12
      go_wp2
      go_ret
      exact ⟨rfl, rfl⟩
  · have d0 : decide (0 ≤ n) = false := by simpa using h0
    rw [d0]
    go_enter Try.func12, Try.ntmps12
    go_wp2
    go_ret
    exact ⟨rfl, rfl⟩
/-- a call of isUpto -/
theorem isUpto_is {n : Int} {b : Bool} (h : upB n = b) (w : World) : Calls Try.prog 12 #[.int .i64 n] w fun e w' => e = .returned (.bool b) ∧ w = w' := by
  subst h; exact isUpto_any n w
set_option maxHeartbeats 1000000 in
theorem mayBe_any (n u : Int) (w : World) : Calls Try.prog 13 #[spV n u] w fun e w' => e = .returned (.bool (mayB n u)) ∧ Below w.heap.size w w' := by
  cases hm : mayB n u
  · have hc := mayB_no hm
    cases hu : upB u
    · clear hm hc
      go_enter Try.func13, Try.ntmps13
      go_wp2_with (go_at_call 12; refine (isUpto_is hu _).mono ?_; rintro e w1 ⟨rfl, rfl⟩)
      go_ret
      exact ⟨rfl, (Below.refl _ _).alloc (Nat.le_refl _) _⟩
    · obtain ⟨u0, u1⟩ := upB_yes hu
      have HU := Lib.hid hu; clear hu hm
      by_cases h1 : 1 ≤ n
      · have h2 : u + 1 < n := by omega
        have d1 : decide (1 ≤ n) = true := by simpa using h1
        have d2 : decide (n ≤ u + 1) = false := by simpa using h2
        clear hc
        go_enter Try.func13, Try.ntmps13
        go_wp2_with (go_at_call 12; refine (isUpto_is HU.out _).mono ?_; rintro e w1 ⟨rfl, rfl⟩)
        go_ret
        exact ⟨rfl, (Below.refl _ _).alloc (Nat.le_refl _) _⟩
      · have d1 : decide (1 ≤ n) = false := by simpa using h1
        clear hc
        go_enter Try.func13, Try.ntmps13
        go_wp2_with (go_at_call 12; refine (isUpto_is HU.out _).mono ?_; rintro e w1 ⟨rfl, rfl⟩)
        go_ret
        exact ⟨rfl, (Below.refl _ _).alloc (Nat.le_refl _) _⟩
  · obtain ⟨u0, u1, h1, h2⟩ := mayB_yes hm
    have HU := Lib.hid (upB_mk u0 u1); clear hm
    have d1 : decide (1 ≤ n) = true := by simpa using h1
    have d2 : decide (n ≤ u + 1) = true := by simpa using h2
    go_enter Try.func13, Try.ntmps13
    go_wp2_with (go_at_call 12; refine (isUpto_is HU.out _).mono ?_; rintro e w1 ⟨rfl, rfl⟩)
    go_ret
    exact ⟨rfl, (Below.refl _ _).alloc (Nat.le_refl _) _⟩
theorem mayBe_is {n u : Int} {b : Bool} (h : mayB n u = b) (w : World) : Calls Try.prog 13 #[spV n u] w fun e w' => e = .returned (.bool b) ∧ Below w.heap.size w w' := by
  subst h; exact mayBe_any n u w
set_option maxHeartbeats 1000000 in
theorem rmay_sp (n u : Int) (w : World) : Calls Try.prog 9 #[spV n u] w fun e w' => e = .returned (.bool (mayB n u)) ∧ Below w.heap.size w w' := by
  cases hm : mayB n u
  · have hc := mayB_no hm; clear hm
    rcases hc with h | h | ⟨u0, u1, h⟩ | ⟨u0, u1, h1, h2⟩
    · have d0 : decide (0 ≤ u) = false := by simp; omega
      go_enter Try.func9, Try.ntmps9
      go_wp2
      go_ret
      exact ⟨rfl, (Below.refl _ _).alloc (Nat.le_refl _) _⟩
    · have d0 : decide (0 ≤ u) = true := by simp; omega
      have d1 : decide (u ≤ 4611686018427387904) = false := by simp; omega
      go_enter Try.func9, Try.ntmps9
      go_wp2
      go_ret
      exact ⟨rfl, (Below.refl _ _).alloc (Nat.le_refl _) _⟩
    · have d0 : decide (0 ≤ u) = true := by simp; omega
      have d1 : decide (u ≤ 4611686018427387904) = true := by simp; omega
      have d2 : decide (1 ≤ n) = false := by simp; omega
      go_enter Try.func9, Try.ntmps9
      go_wp2
      go_ret
      exact ⟨rfl, (Below.refl _ _).alloc (Nat.le_refl _) _⟩
    · have d0 : decide (0 ≤ u) = true := by simp; omega
      have d1 : decide (u ≤ 4611686018427387904) = true := by simp; omega
      have d2 : decide (1 ≤ n) = true := by simp; omega
      have d3 : decide (n ≤ u + 1) = false := by simp; omega
      go_enter Try.func9, Try.ntmps9
      go_wp2
      go_ret
      exact ⟨rfl, (Below.refl _ _).alloc (Nat.le_refl _) _⟩
  · obtain ⟨u0, u1, h1, h2⟩ := mayB_yes hm
    clear hm
    have d0 : decide (0 ≤ u) = true := by simp; omega
    have d1 : decide (u ≤ 4611686018427387904) = true := by simp; omega
    have d2 : decide (1 ≤ n) = true := by simp; omega
    have d3 : decide (n ≤ u + 1) = true := by simp; omega
    go_enter Try.func9, Try.ntmps9
    go_wp2
    go_ret
    exact ⟨rfl, (Below.refl _ _).alloc (Nat.le_refl _) _⟩
theorem rmay_is {n u : Int} {b : Bool} (h : mayB n u = b) (w : World) : Calls Try.prog 9 #[spV n u] w fun e w' => e = .returned (.bool b) ∧ Below w.heap.size w w' := by
  subst h; exact rmay_sp n u w
/-! the space behind a number -/
set_option maxHeartbeats 1000000 in
theorem after_no (n : Int) (w : World) (h : upB n = false) : Calls Try.prog 5 #[.int .i64 n] w fun e w' => e = .returned (.tuple #[spV 0 0, .int .i64 1]) ∧ Below w.heap.size w w' := by
  have HU := Lib.hid h; clear h
  go_enter Try.func5, Try.ntmps5
  go_wp2_with (go_at_call 12; refine (isUpto_is HU.out _).mono ?_; rintro e w1 ⟨rfl, rfl⟩)
  exact bodyPost_ret (v := .tuple #[spV 0 0, .int .i64 1]) (by simp [results, Try.results5, go_sem]) rfl ⟨rfl, (Below.refl _ _).alloc (Nat.le_refl _) _⟩
set_option maxHeartbeats 1000000 in
theorem after_yes (n : Int) (w : World) (h : upB n = true) : Calls Try.prog 5 #[.int .i64 n] w fun e w' => e = .returned (.tuple #[spV (n + 1) n, .int .i64 0]) ∧ Below w.heap.size w w' := by
  obtain ⟨u0, u1⟩ := upB_yes h
  have HU := Lib.hid h; clear h
  go_enter Try.func5, Try.ntmps5
  go_wp2_with (go_at_call 12; refine (isUpto_is HU.out _).mono ?_; rintro e w1 ⟨rfl, rfl⟩)
  exact bodyPost_ret (v := .tuple #[spV (n + 1) n, .int .i64 0]) (by simp [results, Try.results5, go_sem]) rfl ⟨rfl, (Below.refl _ _).alloc (Nat.le_refl _) _⟩
theorem bcell {W w1 : World} (hb : Below W.heap.size W w1) : (∀ b o, b < W.heap.size → w1.cell? ⟨b, o, none⟩ = W.cell? ⟨b, o, none⟩) ∧ (∀ b o, b < W.heap.size → w1.frozen? ⟨b, o, none⟩ = W.frozen? ⟨b, o, none⟩) :=
  ⟨fun b o h => hb.cell (p := ⟨b, o, none⟩) h, fun b o h => hb.frozen (p := ⟨b, o, none⟩) h⟩
/-! the next number is taken -/
theorem below_end {w w1 : World} {o1 o2 : Obj} (hb : Below ((w.alloc o1).alloc o2).heap.size ((w.alloc o1).alloc o2) w1) : Below w.heap.size w w1 :=
  (((Below.refl _ _).alloc (Nat.le_refl _) o1).alloc (by simp) o2).trans (hb.mono (by simp; omega))
set_option maxHeartbeats 1000000 in
theorem take_arg (n u : Int) (w : World) (h : mayB n u = false) : Calls Try.prog 6 #[spV n u] w fun e w' => e = .returned (.tuple #[.int .i64 0, spV 0 0, .int .i64 1]) ∧ Below w.heap.size w w' := by
  have HM := Lib.hid h; clear h
  go_enter Try.func6, Try.ntmps6
  go_wp2_with (go_at_call 13; refine (mayBe_is HM.out _).mono ?_; rintro e w1 ⟨rfl, hb⟩; have hz : w.heap.size + 1 < w1.heap.size := (by have := hb.size; simp at this; omega); obtain ⟨hc, hf⟩ := bcell hb; have HB := Lib.hid hb; clear hb)
  exact bodyPost_ret (v := .tuple #[.int .i64 0, spV 0 0, .int .i64 1]) (by simp [results, Try.results6, go_sem, hc, hz]) rfl ⟨rfl, ((below_end HB.out).setCell (by simp) _).setCell (by simp) _⟩
set_option maxHeartbeats 1000000 in
theorem take_none (n u : Int) (w : World) (h : mayB n u = true) (h2 : u < n) : Calls Try.prog 6 #[spV n u] w fun e w' => e = .returned (.tuple #[.int .i64 0, spV 0 0, .int .i64 3]) ∧ Below w.heap.size w w' := by
  have HM := Lib.hid h; clear h
  have d0 : decide (u < n) = true := by simpa using h2
  go_enter Try.func6, Try.ntmps6
  go_wp2_with (go_at_call 13; refine (mayBe_is HM.out _).mono ?_; rintro e w1 ⟨rfl, hb⟩; have hz : w.heap.size + 1 < w1.heap.size := (by have := hb.size; simp at this; omega); obtain ⟨hc, hf⟩ := bcell hb; have HB := Lib.hid hb; clear hb)
  exact bodyPost_ret (v := .tuple #[.int .i64 0, spV 0 0, .int .i64 3]) (by simp [results, Try.results6, go_sem, hc, hz]) rfl ⟨rfl, ((below_end HB.out).setCell (by simp) _).setCell (by simp) _⟩
set_option maxHeartbeats 1000000 in
theorem take_ok (n u : Int) (w : World) (h : mayB n u = true) (h2 : n ≤ u) : Calls Try.prog 6 #[spV n u] w fun e w' => e = .returned (.tuple #[.int .i64 n, spV (n + 1) u, .int .i64 0]) ∧ Below w.heap.size w w' := by
  obtain ⟨u0, u1, n0, n1⟩ := mayB_yes h
  have HM := Lib.hid h; clear h n1
  have d0 : decide (u < n) = false := by simp; omega
  have hw : IntKind.i64.wrap (n + 1) = n + 1 := IntWalk.i64_in _ (by omega)
  go_enter Try.func6, Try.ntmps6
  go_wp2_with (go_at_call 13; refine (mayBe_is HM.out _).mono ?_; rintro e w1 ⟨rfl, hb⟩; have hz : w.heap.size + 1 < w1.heap.size := (by have := hb.size; simp at this; omega); obtain ⟨hc, hf⟩ := bcell hb; have HB := Lib.hid hb; clear hb)
  go_still_tail 9, (by kernel_rfl)
  change wpList _ _ _ _ _ w1.drew
  go_wp2
  exact bodyPost_ret (v := .tuple #[.int .i64 n, spV (n + 1) u, .int .i64 0]) (by simp [results, Try.results6, go_sem, hc, hz]) rfl ⟨rfl, ((below_end HB.out).drew.setCell (by simp) _).setCell (by simp) _⟩
/-! how far is to be reserved -/
def wantI (n : Int) : Int := min (n + 7) 4611686018427387904
set_option maxHeartbeats 1000000 in
theorem want_arg (n u : Int) (w : World) (h : mayB n u = false) : Calls Try.prog 7 #[spV n u] w fun e w' => e = .returned (.tuple #[.int .i64 0, .int .i64 1]) ∧ Below w.heap.size w w' := by
  have HM := Lib.hid h; clear h
  go_enter Try.func7, Try.ntmps7
  go_wp2_with (go_at_call 13; refine (mayBe_is HM.out _).mono ?_; rintro e w1 ⟨rfl, hb⟩; have hz : w.heap.size < w1.heap.size := (by have := hb.size; simp at this; omega); obtain ⟨hc, hf⟩ := bcell hb; have HB := Lib.hid hb; clear hb)
  go_ret2
  exact ⟨rfl, ((Below.refl _ _).alloc (Nat.le_refl _) _).trans (HB.out.mono (by simp))⟩
set_option maxHeartbeats 1000000 in
theorem want_spent (n u : Int) (w : World) (h : mayB n u = true) (h2 : 4611686018427387904 < n) : Calls Try.prog 7 #[spV n u] w fun e w' => e = .returned (.tuple #[.int .i64 0, .int .i64 9]) ∧ Below w.heap.size w w' := by
  have HM := Lib.hid h; clear h
  have d0 : decide (4611686018427387904 < n) = true := by simpa using h2
  go_enter Try.func7, Try.ntmps7
  go_wp2_with (go_at_call 13; refine (mayBe_is HM.out _).mono ?_; rintro e w1 ⟨rfl, hb⟩; have hz : w.heap.size < w1.heap.size := (by have := hb.size; simp at this; omega); obtain ⟨hc, hf⟩ := bcell hb; have HB := Lib.hid hb; clear hb)
  go_ret2
  exact ⟨rfl, ((Below.refl _ _).alloc (Nat.le_refl _) _).trans (HB.out.mono (by simp))⟩
theorem ret_two {a b : Int} {c : Value} (h : a = b) : Ending.returned (.tuple #[.int .i64 a, c]) = .returned (.tuple #[.int .i64 b, c]) := by rw [h]
set_option maxHeartbeats 1000000 in
theorem want_ok (n u : Int) (w : World) (h : mayB n u = true) (h2 : n ≤ 4611686018427387904) : Calls Try.prog 7 #[spV n u] w fun e w' => e = .returned (.tuple #[.int .i64 (wantI n), .int .i64 0]) ∧ Below w.heap.size w w' := by
  obtain ⟨u0, u1, n0, n1⟩ := mayB_yes h
  have HM := Lib.hid h; clear h n1
  have d0 : decide (4611686018427387904 < n) = false := by simp; omega
  by_cases h3 : n + 7 ≤ 4611686018427387904
  · have hq : wantI n = n + 8 - 1 := by unfold wantI; omega
    have h4 : n + 8 - 1 ≤ 4611686018427387904 := by omega
    have HQ := Lib.hid hq; clear hq
    go_enter Try.func7, Try.ntmps7
    go_wp2_with (go_at_call 13; refine (mayBe_is HM.out _).mono ?_; rintro e w1 ⟨rfl, hb⟩; have hz : w.heap.size < w1.heap.size := (by have := hb.size; simp at this; omega); obtain ⟨hc, hf⟩ := bcell hb; have HB := Lib.hid hb; clear hb)
    go_ret2
    rw [HQ.out]
    exact ⟨ret_two (by omega), ((Below.refl _ _).alloc (Nat.le_refl _) _).trans (HB.out.mono (by simp))⟩
  · have hq : wantI n = 4611686018427387904 := by unfold wantI; omega
    have h4 : 4611686018427387904 < n + 8 - 1 := by omega
    have HQ := Lib.hid hq; clear hq
    go_enter Try.func7, Try.ntmps7
    go_wp2_with (go_at_call 13; refine (mayBe_is HM.out _).mono ?_; rintro e w1 ⟨rfl, hb⟩; have hz : w.heap.size < w1.heap.size := (by have := hb.size; simp at this; omega); obtain ⟨hc, hf⟩ := bcell hb; have HB := Lib.hid hb; clear hb)
    go_ret2
    rw [HQ.out]
    exact ⟨ret_two (by omega), ((Below.refl _ _).alloc (Nat.le_refl _) _).trans (HB.out.mono (by simp))⟩
/-! numbers are reserved -/
set_option maxHeartbeats 1000000 in
theorem grant_arg (n u up : Int) (w : World) (h : mayB n u = false) : Calls Try.prog 8 #[spV n u, .int .i64 up] w fun e w' => e = .returned (.tuple #[spV 0 0, .int .i64 1]) ∧ Below w.heap.size w w' := by
  have HM := Lib.hid h; clear h
  go_enter Try.func8, Try.ntmps8
  go_wp2_with (first | (go_at_call 13; refine (mayBe_is HM.out _).mono ?_; rintro e w1 ⟨rfl, hb⟩; have hz : w.heap.size + 1 < w1.heap.size := (by have := hb.size; simp at this; omega); obtain ⟨hc, hf⟩ := bcell hb; have HB := Lib.hid hb; clear hb) | (go_at_call 12; refine (isUpto_is HU.out _).mono ?_; rintro e w2 ⟨rfl, rfl⟩))
  exact bodyPost_ret (v := .tuple #[spV 0 0, .int .i64 1]) (by simp [results, Try.results8, go_sem, hc, hz]) rfl ⟨rfl, ((below_end HB.out).setCell (by simp) _).setCell (by simp) _⟩
set_option maxHeartbeats 1000000 in
theorem grant_far (n u up : Int) (w : World) (h : mayB n u = true) (h2 : upB up = false) : Calls Try.prog 8 #[spV n u, .int .i64 up] w fun e w' => e = .returned (.tuple #[spV 0 0, .int .i64 1]) ∧ Below w.heap.size w w' := by
  have HM := Lib.hid h; clear h
  have HU := Lib.hid h2; clear h2
  go_enter Try.func8, Try.ntmps8
  go_wp2_with (first | (go_at_call 13; refine (mayBe_is HM.out _).mono ?_; rintro e w1 ⟨rfl, hb⟩; have hz : w.heap.size + 1 < w1.heap.size := (by have := hb.size; simp at this; omega); obtain ⟨hc, hf⟩ := bcell hb; have HB := Lib.hid hb; clear hb) | (go_at_call 12; refine (isUpto_is HU.out _).mono ?_; rintro e w2 ⟨rfl, rfl⟩))
  exact bodyPost_ret (v := .tuple #[spV 0 0, .int .i64 1]) (by simp [results, Try.results8, go_sem, hc, hz]) rfl ⟨rfl, ((below_end HB.out).setCell (by simp) _).setCell (by simp) _⟩
set_option maxHeartbeats 1000000 in
theorem grant_low (n u up : Int) (w : World) (h : mayB n u = true) (h2 : upB up = true) (h3 : up ≤ u) : Calls Try.prog 8 #[spV n u, .int .i64 up] w fun e w' => e = .returned (.tuple #[spV 0 0, .int .i64 1]) ∧ Below w.heap.size w w' := by
  have HM := Lib.hid h; clear h
  have HU := Lib.hid h2; clear h2
  have d0 : decide (up ≤ u) = true := by simpa using h3
  go_enter Try.func8, Try.ntmps8
  go_wp2_with (first | (go_at_call 13; refine (mayBe_is HM.out _).mono ?_; rintro e w1 ⟨rfl, hb⟩; have hz : w.heap.size + 1 < w1.heap.size := (by have := hb.size; simp at this; omega); obtain ⟨hc, hf⟩ := bcell hb; have HB := Lib.hid hb; clear hb) | (go_at_call 12; refine (isUpto_is HU.out _).mono ?_; rintro e w2 ⟨rfl, rfl⟩))
  exact bodyPost_ret (v := .tuple #[spV 0 0, .int .i64 1]) (by simp [results, Try.results8, go_sem, hc, hz]) rfl ⟨rfl, ((below_end HB.out).setCell (by simp) _).setCell (by simp) _⟩
set_option maxHeartbeats 1000000 in
theorem grant_ok (n u up : Int) (w : World) (h : mayB n u = true) (h2 : upB up = true) (h3 : u < up) : Calls Try.prog 8 #[spV n u, .int .i64 up] w fun e w' => e = .returned (.tuple #[spV n up, .int .i64 0]) ∧ Below w.heap.size w w' := by
  have HM := Lib.hid h; clear h
  have HU := Lib.hid h2; clear h2
  have d0 : decide (up ≤ u) = false := by simp; omega
  go_enter Try.func8, Try.ntmps8
  go_wp2_with (first | (go_at_call 13; refine (mayBe_is HM.out _).mono ?_; rintro e w1 ⟨rfl, hb⟩; have hz : w.heap.size + 1 < w1.heap.size := (by have := hb.size; simp at this; omega); obtain ⟨hc, hf⟩ := bcell hb; have HB := Lib.hid hb; clear hb) | (go_at_call 12; refine (isUpto_is HU.out _).mono ?_; rintro e w2 ⟨rfl, rfl⟩))
  exact bodyPost_ret (v := .tuple #[spV n up, .int .i64 0]) (by simp [results, Try.results8, go_sem, hc, hz]) rfl ⟨rfl, ((below_end HB.out).setCell (by simp) _).setCell (by simp) _⟩
/-! the reference's Want -/
set_option maxHeartbeats 1000000 in
theorem rwant_spent (n u : Int) (w : World) (h2 : 4611686018427387904 < n) : Calls Try.prog 11 #[spV n u] w fun e w' => e = .returned (.int .i64 0) ∧ Below w.heap.size w w' := by
  have d0 : decide (4611686018427387904 < n) = true := by simpa using h2
  go_enter Try.func11, Try.ntmps11
  go_wp2
  go_ret
  exact ⟨rfl, (Below.refl _ _).alloc (Nat.le_refl _) _⟩
theorem ret_one {a b : Int} (h : a = b) : Ending.returned (.int .i64 a) = .returned (.int .i64 b) := by rw [h]
set_option maxHeartbeats 1000000 in
theorem rwant_ok (n u : Int) (w : World) (h1 : 1 ≤ n) (h2 : n ≤ 4611686018427387904) : Calls Try.prog 11 #[spV n u] w fun e w' => e = .returned (.int .i64 (wantI n)) ∧ Below w.heap.size w w' := by
  have d0 : decide (4611686018427387904 < n) = false := by simp; omega
  have HB := Lib.hid ((Below.refl w.heap.size w).alloc (Nat.le_refl _) (.cells #[.int .i64 n, .int .i64 u] 23))
  go_enter Try.func11, Try.ntmps11
  go_wp2
  go_loop [3, 4] (fun m i => ∃ k : Nat, 1 ≤ k ∧ k ≤ 8 ∧ i = .int .i64 k ∧ m = .int .i64 (n + k - 1) ∧ n + k - 1 ≤ 4611686018427387904) (fun _ i => 8 - (intOf i).toNat)
  case atStart => exact ⟨1, by omega, by omega, rfl, by go_num, by omega⟩
  case round =>
    obtain ⟨k, hk1, hk8, rfl, rfl, hm⟩ := hrel
    by_cases hlt : k < 8
    · by_cases hn : n + k - 1 < 4611686018427387904
      · have d1 : decide ((k : Int) < 8) = true := by simp; omega
        have d2 : decide (n + k - 1 < 4611686018427387904) = true := by simp; omega
        go_wp2
        go_round
        case rel => exact ⟨k + 1, by omega, by omega, by go_num, by go_num, by omega⟩
        case measure => simp [intOf]; omega
      · have d1 : decide ((k : Int) < 8) = true := by simp; omega
        have d2 : decide (n + k - 1 < 4611686018427387904) = false := by simp; omega
        have hq : wantI n = n + k - 1 := by unfold wantI; omega
        have HQ := Lib.hid hq; clear hq
        go_wp2
        go_ret
        rw [HQ.out]
        exact ⟨rfl, HB.out⟩
    · have d1 : decide ((k : Int) < 8) = false := by simp; omega
      have hq : wantI n = n + k - 1 := by unfold wantI; omega
      have HQ := Lib.hid hq; clear hq
      go_wp2
      go_ret
      rw [HQ.out]
      exact ⟨rfl, HB.out⟩
/-! the law's awake -/
set_option maxHeartbeats 2000000 in
theorem awake13_any (w : World) : Calls Try.prog 10 #[] w fun e w' => e = .returned (.bool true) ∧ Below w.heap.size w w' := by
  have AF := Lib.hid (fun W : World => after_yes 0 W rfl)
  have T1 := Lib.hid (fun W : World => take_none 1 0 W rfl (by omega))
  have wt : ∀ W : World, Calls Try.prog 7 #[spV 1 0] W fun e w' => e = .returned (.tuple #[.int .i64 8, .int .i64 0]) ∧ Below W.heap.size W w' := fun W => want_ok 1 0 W rfl (by omega)
  have WT := Lib.hid wt; clear wt
  have GR := Lib.hid (fun W : World => grant_ok 1 0 8 W rfl rfl (by omega))
  have T2 := Lib.hid (fun W : World => take_ok 1 8 W rfl (by omega))
  go_enter Try.func10, Try.ntmps10
  go_wp2_with (first
    | (go_at_call 5; refine (AF.out _).mono ?_; rintro e w1 ⟨rfl, hb⟩; have HB1 := Lib.hid (hb.alloc hb.size (.cells #[.int .i64 1, .int .i64 0] 23)); have HS := Lib.hid hb.size; have KP1 := Lib.hid (Blk.new w1 23 #[.int .i64 1, .int .i64 0]); clear hb; have c_0 := KP1.out.cell 0; have c_1 := KP1.out.cell 1; have f_0 := KP1.out.frozen 0; have f_1 := KP1.out.frozen 1; simp at c_0 c_1; have hlt := KP1.out.lt)
    | (go_at_call 7; refine (WT.out _).mono ?_; rintro e w3 ⟨rfl, hb⟩; have KP3 := Lib.hid (KP2.out.below hb KP2.out.lt); have HB3 := Lib.hid (HB2.out.trans (hb.mono HB2.out.size)); clear c_0 c_1 f_0 f_1 hlt hb; have c_0 := KP3.out.cell 0; have c_1 := KP3.out.cell 1; have f_0 := KP3.out.frozen 0; have f_1 := KP3.out.frozen 1; simp at c_0 c_1; have hlt := KP3.out.lt)
    | (go_at_call 8; refine (GR.out _).mono ?_; rintro e w4 ⟨rfl, hb⟩; have KP4 := Lib.hid (KP3.out.below hb KP3.out.lt); have HB4 := Lib.hid (HB3.out.trans (hb.mono HB3.out.size)); clear c_0 c_1 f_0 f_1 hlt hb; have c_0 := KP4.out.cell 0; have c_1 := KP4.out.cell 1; have f_0 := KP4.out.frozen 0; have f_1 := KP4.out.frozen 1; simp at c_0 c_1; have hlt := KP4.out.lt)
    | (go_at_call 6; first
      | (have zz := KP4; refine (T2.out _).mono ?_; rintro e w5 ⟨rfl, hb⟩; have HB5 := Lib.hid hb; clear hb)
      | (refine (T1.out _).mono ?_; rintro e w2 ⟨rfl, hb⟩; have KP2 := Lib.hid ((KP1.out.below hb KP1.out.lt).alloc (.cells #[.int .i64 0, .int .i64 0] 23)); have HB2 := Lib.hid ((HB1.out.trans (hb.mono HB1.out.size)).alloc (HB1.out.trans (hb.mono HB1.out.size)).size (.cells #[.int .i64 0, .int .i64 0] 23)); clear c_0 c_1 f_0 f_1 hlt hb; have c_0 := KP2.out.cell 0; have c_1 := KP2.out.cell 1; have f_0 := KP2.out.frozen 0; have f_1 := KP2.out.frozen 1; simp at c_0 c_1; have hlt := KP2.out.lt)))
  go_ret
  have h4 := (HB4.out.setCell (p := ⟨w1.heap.size, 0, none⟩) HS.out (.int .i64 1)).setCell (p := ⟨w1.heap.size, 1, none⟩) HS.out (.int .i64 8)
  have h5 := h4.trans (HB5.out.mono h4.size)
  exact ⟨rfl, h5.alloc h5.size _⟩
end Go.Proofs.Ytgcmkcohfpgcfaa.Spc
