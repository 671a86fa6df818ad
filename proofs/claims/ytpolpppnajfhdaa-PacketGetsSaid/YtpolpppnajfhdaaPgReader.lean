/- The contracts of a reader of bytes (layer 2): what each call answers in any memory where the reader lies, and what it leaves. Condition: at most 1000000 bytes. -/
import Derived.Test.YtpolpppnajfhdaaPgBytes
import Derived.Test.YtpolpppnajfhdaaPgPureAll
import Derived.BigQuiet
import Derived.Deep.QuietTactic
namespace Go.Proofs.Ytpolpppnajfhdaa.Oct
open Go.RowKit Go.Proofs.Ytpolpppnajfhdaa.Mem
set_option linter.unusedVariables false
/-- a reader in block g: what is left, and whether nothing was wrong -/
def Rdr (w : World) (g : Nat) (st : St) : Prop :=
  ∃ (A : Option Addr) (n c : Nat), Blk w g 88 #[.slice A n c, .bool st.2] ∧ Bts w g A n st.1 ∧ n ≤ c ∧ c ≤ maxLen
abbrev ptr (g : Nat) : Value := .pointer (some ⟨g, 0, none⟩)
set_option maxHeartbeats 400000 in
theorem isWidth_any (k : Int) (w : World) :
    Calls Try.prog 42 #[.int .i64 k] w fun e w' => e = .returned (.bool (isW k)) ∧ w = w' := by
  by_cases h : 1 ≤ k
  · have hd : decide ((1 : Int) ≤ k) = true := by simpa using h
    have e : isW k = decide (k ≤ 8) := by simp [isW, hd]
    go_enter Try.func42, Try.ntmps42
    go_wp2
    go_ret
    exact ⟨ret_bool e.symm, rfl⟩
  · have hd : decide ((1 : Int) ≤ k) = false := by simpa using h
    have e : isW k = false := by simp [isW, hd]
    go_enter Try.func42, Try.ntmps42
    go_wp2
    go_ret
    exact ⟨rfl, rfl⟩
set_option maxHeartbeats 400000 in
theorem spoil_any (g : Nat) (st : St) (w : World) (h : Rdr w g st) :
    Calls Try.prog 66 #[ptr g] w fun e w' => e = .returned (.tuple #[]) ∧ Rdr w' g (st.1, false) ∧ w.grownBy w' (some g) := by
  obtain ⟨A, n, c, hb, hx, hnc, hm⟩ := h
  have hc1 : w.cell? ⟨g, 1, none⟩ = some (.bool st.2) := by rw [hb.cell]; rfl
  have hf1 := hb.frozen 1
  go_enter Try.func66, Try.ntmps66
  go_wp2
  go_end0
  refine ⟨rfl, ⟨A, n, c, hb.set_ 1 _, ?_, hnc, hm⟩, grown_set w ⟨g, 1, none⟩ _⟩
  exact hx.grown (grown_set w ⟨g, 1, none⟩ _) (by have := hb.lt; omega) (fun k hk => by cases hk; exact Nat.le_refl _)
set_option maxHeartbeats 400000 in
theorem wrong_any (g : Nat) (st : St) (w : World) (h : Rdr w g st) :
    Calls Try.prog 59 #[ptr g] w fun e w' => e = .returned (.bool (!st.2)) ∧ w = w' := by
  obtain ⟨A, n, c, hb, hx, hnc, hm⟩ := h
  have hc1 : w.cell? ⟨g, 1, none⟩ = some (.bool st.2) := by rw [hb.cell]; rfl
  go_enter Try.func59, Try.ntmps59
  go_wp2
  go_ret
  exact ⟨rfl, rfl⟩
theorem beq0 (n : Nat) : ((n : Int) == 0) = decide (n = 0) := by
  rcases Nat.eq_zero_or_pos n with h | h
  · subst h; rfl
  · rw [beq_false_of_ne (by omega), decide_eq_false (by omega)]
set_option maxHeartbeats 400000 in
theorem take_bad (g : Nat) (st : St) (k : Nat) (w : World) (h : Rdr w g st) (hk : k ≤ 1000000) (hno : ¬ (st.2 = true ∧ k ≤ st.1.length)) :
    Calls Try.prog 67 #[ptr g, .int .i64 (k : Nat)] w fun e w' => e = .returned (.slice none 0 0) ∧ Rdr w' g (st.1, false) ∧ w.grownBy w' (some g) := by
  obtain ⟨xs, s⟩ := st
  have h1 := wrong_any g _ w h
  have h2 := spoil_any g _ w h
  have H1 := Lib.hid h1; clear h1
  have H2 := Lib.hid h2; clear h2
  obtain ⟨A, n, c, hb, hx, hnc, hm⟩ := h
  have hc0 : w.cell? ⟨g, 0, none⟩ = some (.slice A n c) := by rw [hb.cell]; rfl
  have hl := hx.1
  cases s
  · go_enter Try.func67, Try.ntmps67
    go_wp2_with (first
      | (go_at_call 59; refine (H1.out).mono ?_; rintro e w' ⟨rfl, rfl⟩)
      | (go_at_call 66; refine (H2.out).mono ?_; rintro e w' ⟨rfl, hr, hg⟩))
    go_ret
    exact ⟨rfl, hr, hg⟩
  · have hlt : n < k := by simp at hno; simp at hl; omega
    have hd : decide ((n : Int) < (k : Int)) = true := by simpa using hlt
    go_enter Try.func67, Try.ntmps67
    go_wp2_with (first
      | (go_at_call 59; refine (H1.out).mono ?_; rintro e w' ⟨rfl, rfl⟩)
      | (go_at_call 66; refine (H2.out).mono ?_; rintro e w' ⟨rfl, hr, hg⟩))
    go_ret
    exact ⟨rfl, hr, hg⟩
set_option maxHeartbeats 400000 in
theorem take_ok (g : Nat) (xs : List Nat) (k : Nat) (w : World) (h : Rdr w g (xs, true)) (hk : k ≤ xs.length) :
    Calls Try.prog 67 #[ptr g, .int .i64 (k : Nat)] w fun e w' => ∃ A c, e = .returned (.slice A k c) ∧ Bts w' g A k (xs.take k) ∧ k ≤ c ∧ c ≤ maxLen ∧ Rdr w' g (xs.drop k, true) ∧ w.grownBy w' (some g) := by
  have h1 := wrong_any g _ w h
  have H1 := Lib.hid h1; clear h1
  obtain ⟨A, n, c, hb, hx, hnc, hm⟩ := h
  have hc0 : w.cell? ⟨g, 0, none⟩ = some (.slice A n c) := by rw [hb.cell]; rfl
  have hf0 := hb.frozen 0
  have hl := hx.1
  have hn1 := hx.2.2.1
  have hkn : k ≤ n := by simp at hl; omega
  have hd : decide ((n : Int) < (k : Int)) = false := by simpa using hkn
  have hcI : (k : Int) ≤ (c : Int) := by omega
  unfold maxLen at hm
  obtain ⟨A2, h2, hx2⟩ := cut_l hx k hkn hnc
  have HX := Lib.hid hx; clear hx
  have HX2 := Lib.hid hx2; clear hx2
  have HB := Lib.hid hb; clear hb
  go_enter Try.func67, Try.ntmps67
  go_wp2_with (first
    | (go_at_call 59; refine (H1.out).mono ?_; rintro e w' ⟨rfl, rfl⟩))
  go_ret
  have hlt := HB.out.lt
  have hgs := fun (u : Value) => grown_set w ⟨g, 0, none⟩ u
  refine ⟨_, _, rfl, ?_, Nat.le_refl _, by unfold maxLen; omega, ⟨_, _, _, HB.out.set_ 0 _, ?_, by omega, by unfold maxLen; omega⟩, hgs _⟩
  · exact (HX.out.take hkn).grown (hgs _) (by omega) (fun j hj => by cases hj; exact Nat.le_refl _)
  · exact HX2.out.grown (hgs _) (by omega) (fun j hj => by cases hj; exact Nat.le_refl _)
theorem rnum_no {st : St} {k : Int} (h : ¬ (st.2 = true ∧ isW k = true ∧ k.toNat ≤ st.1.length)) : rnum st k = ((st.1, false), 0) := by
  unfold rnum
  rw [if_neg]
  simp only [Bool.and_eq_true, decide_eq_true_eq]
  exact fun hh => h ⟨hh.1.1, hh.1.2, hh.2⟩
theorem rnum_yes {xs : List Nat} {m : Nat} (h1 : isW (m : Int) = true) (h : m ≤ xs.length) : rnum (xs, true) (m : Int) = ((xs.drop m, true), num (xs.take m)) := by
  unfold rnum
  rw [if_pos (by simp [h1, h])]
  rfl
set_option maxHeartbeats 400000 in
theorem num_w (g : Nat) (st : St) (k : Int) (w : World) (h : Rdr w g st) (hk : isW k = false) :
    Calls Try.prog 54 #[ptr g, .int .i64 k] w fun e w' => e = .returned (.int .u64 0) ∧ Rdr w' g (st.1, false) ∧ w.grownBy w' (some g) := by
  have h1 := isWidth_any k w
  rw [hk] at h1
  have h2 := spoil_any g _ w h
  have H1 := Lib.hid h1; clear h1
  have H2 := Lib.hid h2; clear h2
  go_enter Try.func54, Try.ntmps54
  go_wp2_with (first
    | (go_at_call 42; refine (H1.out).mono ?_; rintro e w' ⟨rfl, rfl⟩)
    | (go_at_call 66; refine (H2.out).mono ?_; rintro e w' ⟨rfl, hr, hg⟩))
  go_ret
  exact ⟨rfl, hr, hg⟩
set_option maxHeartbeats 400000 in
theorem num_bad (g : Nat) (st : St) (k : Nat) (w : World) (h : Rdr w g st) (hk : isW (k : Int) = true) (hk1 : k ≤ 8) (hno : ¬ (st.2 = true ∧ k ≤ st.1.length)) :
    Calls Try.prog 54 #[ptr g, .int .i64 (k : Nat)] w fun e w' => e = .returned (.int .u64 0) ∧ Rdr w' g (st.1, false) ∧ w.grownBy w' (some g) := by
  have h1 := isWidth_any k w
  rw [hk] at h1
  have h2 := take_bad g st k w h (by omega) hno
  have H1 := Lib.hid h1; clear h1
  have H2 := Lib.hid h2; clear h2
  clear h hno hk
  go_enter Try.func54, Try.ntmps54
  go_wp2_with (first
    | (go_at_call 42; refine (H1.out).mono ?_; rintro e w' ⟨rfl, rfl⟩)
    | (go_at_call 67; refine (H2.out).mono ?_; rintro e w' ⟨rfl, hr, hg⟩))
  go_loop [5, 17] (fun x i => i = .int .i64 0 ∧ x = .int .u64 0) (fun _ i => 8 - (intOf i).toNat)
  case atStart => exact ⟨rfl, rfl⟩
  case round =>
    obtain ⟨rfl, rfl⟩ := hrel
    go_wp2
    go_ret
    exact ⟨rfl, hr, hg⟩
theorem or_low (n b : Nat) (hn : n < 72057594037927936) (hb : b < 256) : bits .or .u64 ((n : Int) * 256) (b : Int) = ((n * 256 + b : Nat) : Int) := by
  have h := u64_or_nat (n * 256) b (by omega) (by omega)
  have e : n * 256 ||| b = n * 256 + b := by
    have := Nat.shiftLeft_add_eq_or_of_lt (i := 8) (b := b) (by omega) n
    rw [Nat.shiftLeft_eq] at this
    exact this.symm
  rw [e] at h
  rw [← h]
  rfl
set_option maxHeartbeats 400000 in
theorem num_ok (g : Nat) (xs : List Nat) (k : Nat) (w : World) (h : Rdr w g (xs, true)) (hk : isW (k : Int) = true) (hk1 : k ≤ 8) (hl : k ≤ xs.length) :
    Calls Try.prog 54 #[ptr g, .int .i64 (k : Nat)] w fun e w' => e = .returned (.int .u64 (num (xs.take k) : Nat)) ∧ Rdr w' g (xs.drop k, true) ∧ w.grownBy w' (some g) := by
  have h1 := isWidth_any k w
  rw [hk] at h1
  have h2 := take_ok g xs k w h hl
  have H1 := Lib.hid h1; clear h1
  have H2 := Lib.hid h2; clear h2
  clear h hk
  generalize xs.drop k = us at *
  generalize xs.take k = ys at *
  go_enter Try.func54, Try.ntmps54
  go_wp2_with (first
    | (go_at_call 42; refine (H1.out).mono ?_; rintro e w' ⟨rfl, rfl⟩)
    | (go_at_call 67; refine (H2.out).mono ?_; rintro e w' ⟨A, c, rfl, hx, hkc, hm, hr, hg⟩; have HX := Lib.hid hx; clear hx; have HR := Lib.hid hr; clear hr; have HG := Lib.hid hg; clear hg))
  go_loop [5, 17] (fun x i => ∃ j : Nat, j ≤ k ∧ i = .int .i64 j ∧ x = .int .u64 (num (ys.take j) : Nat)) (fun _ i => k - (intOf i).toNat)
  case atStart => exact ⟨0, Nat.zero_le _, rfl, rfl⟩
  case round =>
    obtain ⟨j, hj, rfl, rfl⟩ := hrel
    by_cases hlt : j < k
    · obtain ⟨b, off, rfl, _, hcell⟩ := HX.out.2.2.2 (by omega)
      have hc := hcell j hlt
      clear hcell
      have hq := getD_lt HX.out.2.1 j
      have hN : num (ys.take j) < 256 ^ 7 := by
        have h3 := num_lt (ys.take j) (take_lt HX.out.2.1 j)
        have h4 : (ys.take j).length ≤ 7 := by rw [List.length_take]; omega
        exact Nat.lt_of_lt_of_le h3 (Nat.pow_le_pow_right (by decide) h4)
      have hs := num_take_succ ys j (by rw [HX.out.1]; exact hlt)
      generalize ys.getD j 0 = q at *
      generalize num (ys.take j) = N at *
      have HS := Lib.hid hs; clear hs
      go_wp2
      go_round
      case rel => exact ⟨j + 1, by omega, by go_num, val_int (by rw [HS.out, ← or_low N q hN hq])⟩
      case measure => simp [intOf]; omega
    · obtain rfl : j = k := by omega
      go_wp2
      go_ret
      refine ⟨ret_int ?_, HR.out, HG.out⟩
      rw [List.take_of_length_le (by rw [HX.out.1]; exact Nat.le_refl _)]
/-- a number is read -/
theorem rnum_any (g : Nat) (st : St) (k : Int) (w : World) (h : Rdr w g st) :
    Calls Try.prog 54 #[ptr g, .int .i64 k] w fun e w' => e = .returned (.int .u64 ((rnum st k).2 : Nat)) ∧ Rdr w' g (rnum st k).1 ∧ w.grownBy w' (some g) := by
  by_cases hk : isW k = true
  · obtain ⟨m, rfl, h1, h8⟩ := isW_nat hk
    by_cases hno : st.2 = true ∧ m ≤ st.1.length
    · obtain ⟨xs, s⟩ := st
      obtain ⟨rfl, hl⟩ := hno
      have e := rnum_yes hk hl
      rw [e]
      exact num_ok g xs m w h hk h8 hl
    · rw [rnum_no (fun hh => hno ⟨hh.1, by simpa using hh.2.2⟩)]
      exact num_bad g st m w h hk h8 hno
  · rw [rnum_no (fun hh => hk hh.2.1)]
    exact num_w g st k w h (by simpa using hk)
theorem Rdr.lt {w : World} {g : Nat} {st : St} (h : Rdr w g st) : ∀ x ∈ st.1, x < 256 := by
  obtain ⟨A, n, c, hb, hx, hnc, hm⟩ := h
  exact hx.2.1
theorem Rdr.size {w : World} {g : Nat} {st : St} (h : Rdr w g st) : g < w.heap.size := by
  obtain ⟨A, n, c, hb, hx, hnc, hm⟩ := h
  exact hb.lt
theorem Rdr.below {w w' : World} {g B : Nat} {st : St} (h : Rdr w g st) (hb : Below B w w') (hg : g < B) : Rdr w' g st := by
  obtain ⟨A, n, c, hk, hx, h1⟩ := h
  exact ⟨A, n, c, hk.below hb hg, hx.below hb (by omega), h1⟩
theorem Rdr.grown {w w' : World} {g : Nat} {row : Option Nat} {st : St} (h : Rdr w g st) (hg : w.grownBy w' row) (hr : ∀ q, row = some q → g < q) : Rdr w' g st := by
  have hs := h.size
  obtain ⟨A, n, c, hk, hx, h1⟩ := h
  exact ⟨A, n, c, hk.grown hg (fun e => by have := hr _ e.symm; omega), hx.grown hg (by omega) (fun q hq => by have := hr q hq; omega), h1⟩
theorem Rdr.alloc {w : World} {g : Nat} {st : St} (h : Rdr w g st) (o : Obj) : Rdr (w.alloc o) g st := h.grown (World.grownBy_alloc w o none) (fun q hq => by cases hq)
theorem Rdr.setFar {w : World} {g : Nat} {st : St} (h : Rdr w g st) (p : Addr) (hp : g < p.block) (u : Value) : Rdr (w.setCell p u) g st := h.grown (grown_set w p u) (fun q hq => by cases hq; exact hp)
theorem Rdr.upd3 {w : World} {g g2 : Nat} {st : St} {u0 u1 u2 : Value} (h : Rdr w g st) (hg : g < g2) : Rdr (upd3 w g2 u0 u1 u2) g st :=
  ((h.setFar ⟨g2, 0, none⟩ hg _).setFar ⟨g2, 1, none⟩ hg _).setFar ⟨g2, 2, none⟩ hg _
theorem Rdr.drew {w : World} {g : Nat} {st : St} (h : Rdr w g st) : Rdr w.drew g st := h
theorem Rdr.drewN {w : World} {g : Nat} {st : St} (h : Rdr w g st) (m : Nat) : Rdr (w.drewN m) g st := h
end Go.Proofs.Ytpolpppnajfhdaa.Oct
