/- The contracts of the reference reader (layer 2). -/
import Derived.Test.YtpolpppnajfhdaaPgRef
namespace Go.Proofs.Ytpolpppnajfhdaa.Oct
open Go.RowKit Go.Proofs.Ytpolpppnajfhdaa.Mem
set_option linter.unusedVariables false
/-- the reference reader, by value -/
def rval (v : Value) (at_ : Nat) (s : Bool) : Value := .agg #[v, .int .i64 (at_ : Nat), .bool (!s)]
set_option maxHeartbeats 1000000 in
theorem refread_bad (A : Option Addr) (n c at_ : Nat) (s : Bool) (k : Int) (w : World) (hl : at_ ≤ n) (hn : n ≤ 1000000) (hno : ¬ (s = true ∧ isW k = true ∧ k.toNat ≤ n - at_)) :
    Calls Try.prog 62 #[rval (.slice A n c) at_ s, .int .i64 k] w fun e w' => e = .returned (.tuple #[rval (.slice A n c) at_ false, .int .u64 0]) ∧ Below w.heap.size w w' := by
  unfold rval
  cases s
  · clear hno
    go_enter Try.func62, Try.ntmps62
    go_wp2
    exact bodyPost_ret (v := .tuple #[.agg #[.slice A n c, .int .i64 (at_ : Nat), .bool true], .int .u64 0]) (by simp [results, Try.results62, go_sem]) rfl ⟨rfl, ((Below.refl _ _).alloc (Nat.le_refl _) _).alloc (by simp) _⟩
  · by_cases h1 : k < 1
    · have hd : decide (k < 1) = true := by simpa using h1
      clear hno
      go_enter Try.func62, Try.ntmps62
      go_wp2
      exact bodyPost_ret (v := .tuple #[.agg #[.slice A n c, .int .i64 (at_ : Nat), .bool true], .int .u64 0]) (by simp [results, Try.results62, go_sem]) rfl ⟨rfl, ((Below.refl _ _).alloc (Nat.le_refl _) _).alloc (by simp) _⟩
    · have hd : decide (k < 1) = false := by simpa using h1
      by_cases h8 : 8 < k
      · have hd8 : decide (8 < k) = true := by simpa using h8
        clear hno
        go_enter Try.func62, Try.ntmps62
        go_wp2
        exact bodyPost_ret (v := .tuple #[.agg #[.slice A n c, .int .i64 (at_ : Nat), .bool true], .int .u64 0]) (by simp [results, Try.results62, go_sem]) rfl ⟨rfl, ((Below.refl _ _).alloc (Nat.le_refl _) _).alloc (by simp) _⟩
      · have hd8 : decide (8 < k) = false := by simpa using h8
        have hm : ((n : Int) - at_) < k := by
          have : isW k = true := by simp only [isW, Bool.and_eq_true, decide_eq_true_eq]; omega
          simp only [this, true_and] at hno
          omega
        have hdm : decide (((n : Int) - at_) < k) = true := by simpa using hm
        clear hno
        go_enter Try.func62, Try.ntmps62
        go_wp2
        exact bodyPost_ret (v := .tuple #[.agg #[.slice A n c, .int .i64 (at_ : Nat), .bool true], .int .u64 0]) (by simp [results, Try.results62, go_sem]) rfl ⟨rfl, ((Below.refl _ _).alloc (Nat.le_refl _) _).alloc (by simp) _⟩
theorem num_cut_succ (xs : List Nat) (at_ j : Nat) (h : at_ + j < xs.length) : num ((xs.drop at_).take (j + 1)) = num ((xs.drop at_).take j) * 256 + xs.getD (at_ + j) 0 := by
  rw [num_take_succ _ _ (by rw [List.length_drop]; omega)]
  congr 1
  simp [List.getD, List.getElem?_drop]
set_option maxHeartbeats 1000000 in
theorem refread_ok (A : Option Addr) (n c at_ k : Nat) (xs : List Nat) (w : World) (hl : at_ + k ≤ n) (h1 : 1 ≤ k) (h8 : k ≤ 8) (hb : Bts w w.heap.size A n xs) :
    Calls Try.prog 62 #[rval (.slice A n c) at_ true, .int .i64 (k : Nat)] w fun e w' => e = .returned (.tuple #[rval (.slice A n c) (at_ + k) true, .int .u64 (num ((xs.drop at_).take k) : Nat)]) ∧ Below w.heap.size w w' := by
  unfold rval
  have hn := hb.2.2.1
  have hd : decide ((k : Int) < 1) = false := by simp; omega
  have hd8 : decide ((8 : Int) < k) = false := by simp; omega
  have hdm : decide (((n : Int) - at_) < k) = false := by simp; omega
  have hxl := hb.1
  have HB := Lib.hid hb; clear hb
  have HXL := Lib.hid hxl; clear hxl
  go_enter Try.func62, Try.ntmps62
  go_wp2
  go_loop [6, 7] (fun x i => ∃ j : Nat, j ≤ k ∧ i = .int .i64 j ∧ x = .int .u64 (num ((xs.drop at_).take j) : Nat)) (fun _ i => k - (intOf i).toNat)
  case atStart => exact ⟨0, Nat.zero_le _, rfl, rfl⟩
  case round =>
    obtain ⟨j, hj, rfl, rfl⟩ := hrel
    by_cases hlt : j < k
    · obtain ⟨b, off, rfl, hbl, hcell⟩ := HB.out.2.2.2 (by omega)
      have hc := hcell (at_ + j) (by omega)
      clear hcell
      have hq := getD_lt HB.out.2.1 (at_ + j)
      have hN : num ((xs.drop at_).take j) < 256 ^ 7 := by
        have h3 := num_lt ((xs.drop at_).take j) (take_lt (drop_lt HB.out.2.1 at_) j)
        have h4 : ((xs.drop at_).take j).length ≤ 7 := by rw [List.length_take]; omega
        exact Nat.lt_of_lt_of_le h3 (Nat.pow_le_pow_right (by decide) h4)
      have hs := num_cut_succ xs at_ j (by rw [HXL.out]; omega)
      generalize xs.getD (at_ + j) 0 = q at *
      generalize num ((xs.drop at_).take j) = N at *
      have HS := Lib.hid hs; clear hs
      go_wp2
      go_round
      case rel => exact ⟨j + 1, by omega, by go_num, val_int (by rw [HS.out]; omega)⟩
      case measure => simp [intOf]; omega
    · obtain rfl : j = k := by omega
      go_wp2
      exact bodyPost_ret (v := .tuple #[.agg #[.slice A n c, .int .i64 ((at_ + j : Nat) : Int), .bool false], .int .u64 (num ((xs.drop at_).take j) : Nat)]) (by simp [results, Try.results62, go_sem]) rfl ⟨rfl, ((Below.refl _ _).alloc (Nat.le_refl _) _).alloc (by simp) _⟩
theorem refread_any (v : Value) (xs : List Nat) (at_ : Nat) (s : Bool) (k : Int) (w : World) (h : Sl w w.heap.size v xs) (hl : at_ ≤ xs.length) :
    Calls Try.prog 62 #[rval v at_ s, .int .i64 k] w fun e w' => ∃ at', at' ≤ xs.length ∧ (rnum (xs.drop at_, s) k).1.1 = xs.drop at' ∧ e = .returned (.tuple #[rval v at' (rnum (xs.drop at_, s) k).1.2, .int .u64 ((rnum (xs.drop at_, s) k).2 : Nat)]) ∧ Below w.heap.size w w' := by
  obtain ⟨A, n, c, rfl, hb, h1, h2, h3⟩ := h
  have hxl := hb.1
  by_cases hok : s = true ∧ isW k = true ∧ k.toNat ≤ n - at_
  · obtain ⟨rfl, hk, hle⟩ := hok
    obtain ⟨m, rfl, h1', h8⟩ := isW_nat hk
    rw [rnum_yes hk (by rw [List.length_drop]; simp at hle; omega)]
    refine (refread_ok A n c at_ m xs w (by simp at hle; omega) h1' h8 hb).mono ?_
    rintro e w' ⟨rfl, hbel⟩
    exact ⟨at_ + m, by simp at hle; omega, by rw [List.drop_drop], rfl, hbel⟩
  · rw [rnum_no (by rw [List.length_drop, hxl]; exact hok)]
    refine (refread_bad A n c at_ s k w (by omega) (by have := hb.2.2.1; omega) hok).mono ?_
    rintro e w' ⟨rfl, hbel⟩
    exact ⟨at_, hl, rfl, rfl, hbel⟩
end Go.Proofs.Ytpolpppnajfhdaa.Oct
