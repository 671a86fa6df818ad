/- The reference Same of layer 1: whether two slices of bytes hold the same. Condition: at most 1000000 bytes each. -/
import Derived.Test.YtkflbhaomoaonaaBytes
import Derived.Deep.QuietTactic
import Derived.BigQuiet
namespace Go.Proofs.Ytkflbhaomoaonaa.Mem
open Go.RowKit
theorem getD_of_ne {xs ys : List Nat} (hl : xs.length = ys.length) (h : xs ≠ ys) : ∃ d, d < xs.length ∧ xs.getD d 0 ≠ ys.getD d 0 ∧ ∀ j, j < d → xs.getD j 0 = ys.getD j 0 := by
  induction xs generalizing ys with
  | nil =>
    have : ys = [] := List.eq_nil_of_length_eq_zero (by simpa using hl.symm)
    exact absurd this.symm h
  | cons x xs ih =>
    rcases ys with _ | ⟨y, ys⟩
    · simp at hl
    · by_cases e : x = y
      · subst e
        obtain ⟨d, h1, h2, h3⟩ := ih (by simpa using hl) (fun e => h (by rw [e]))
        refine ⟨d + 1, by simp; omega, by simpa using h2, ?_⟩
        intro j hj
        rcases j with _ | j
        · simp
        · simpa using h3 j (by omega)
      · exact ⟨0, by simp, by simpa using e, fun j hj => absurd hj (by omega)⟩
set_option maxHeartbeats 400000 in
theorem same_yes (A A' : Option Addr) (n c c' B B' : Nat) (xs : List Nat) (w : World) (h : Bts w B A n xs) (h' : Bts w B' A' n xs) :
    Calls Try.prog 14 #[.slice A n c, .slice A' n c'] w fun e w' => e = .returned (.bool true) ∧ ∃ m, w' = w.drewN m := by
  obtain ⟨hl, _, hn, hA⟩ := h
  obtain ⟨_, _, _, hA'⟩ := h'
  have HL := Lib.hid hl; clear hl
  have HA := Lib.hid hA; clear hA
  have HA' := Lib.hid hA'; clear hA'
  go_enter Try.func14, Try.ntmps14
  go_wp2
  go_loopw [5] (fun i wr => (∃ k : Nat, k ≤ n ∧ i = .int .i64 k) ∧ ∃ m, wr = w.drewN m) (fun i _ => n - (intOf i).toNat)
  case atStart => exact ⟨⟨0, Nat.zero_le _, rfl⟩, 0, rfl⟩
  case round =>
    obtain ⟨⟨k, hk, rfl⟩, m, rfl⟩ := hrel
    by_cases hlt : k < n
    · obtain ⟨b, off, rfl, _, hc⟩ := HA.out (by omega)
      obtain ⟨b', off', rfl, _, hc'⟩ := HA'.out (by omega)
      have g := hc k hlt
      have g' := hc' k hlt
      clear hc hc'
      generalize xs.getD k 0 = q at g g'
      go_wp2
      go_quiet (fail)
      go_wp2
      go_roundw
      case rel => exact ⟨⟨k + 1, by omega, by go_num⟩, _, rfl⟩
      case measure => simp [intOf]; omega
    · go_wp2
      go_ret
      exact ⟨rfl, m, rfl⟩
set_option maxHeartbeats 400000 in
theorem same_len (A A' : Option Addr) (n n' c c' : Nat) (w : World) (h : n ≠ n') :
    Calls Try.prog 14 #[.slice A n c, .slice A' n' c'] w fun e w' => e = .returned (.bool false) ∧ ∃ m, w' = w.drewN m := by
  have hb : ((n : Int) != (n' : Int)) = true := by rw [bne_iff_ne]; omega
  go_enter Try.func14, Try.ntmps14
  go_wp2
  go_ret
  exact ⟨rfl, 0, rfl⟩
set_option maxHeartbeats 400000 in
theorem same_no (A A' : Option Addr) (n c c' B B' : Nat) (xs ys : List Nat) (w : World) (h : Bts w B A n xs) (h' : Bts w B' A' n ys) (hne : xs ≠ ys) :
    Calls Try.prog 14 #[.slice A n c, .slice A' n c'] w fun e w' => e = .returned (.bool false) ∧ ∃ m, w' = w.drewN m := by
  obtain ⟨hl, _, hn, hA⟩ := h
  obtain ⟨hl', _, _, hA'⟩ := h'
  obtain ⟨d, hd, hdn, hde⟩ := getD_of_ne (by omega) hne
  rw [hl] at hd
  have HL := Lib.hid hl; clear hl
  have HL' := Lib.hid hl'; clear hl'
  have HA := Lib.hid hA; clear hA
  have HA' := Lib.hid hA'; clear hA'
  have HD := Lib.hid hdn; clear hdn
  have HE := Lib.hid hde; clear hde
  clear hne
  go_enter Try.func14, Try.ntmps14
  go_wp2
  go_loopw [5] (fun i wr => (∃ k : Nat, k ≤ d ∧ i = .int .i64 k) ∧ ∃ m, wr = w.drewN m) (fun i _ => n - (intOf i).toNat)
  case atStart => exact ⟨⟨0, Nat.zero_le _, rfl⟩, 0, rfl⟩
  case round =>
    obtain ⟨⟨k, hk, rfl⟩, m, rfl⟩ := hrel
    obtain ⟨b, off, rfl, _, hc⟩ := HA.out (by omega)
    obtain ⟨b', off', rfl, _, hc'⟩ := HA'.out (by omega)
    have g := hc k (by omega)
    have g' := hc' k (by omega)
    clear hc hc'
    have hkn : k < n := by omega
    by_cases hlt : k < d
    · have he := HE.out k hlt
      rw [← he] at g'
      clear he
      generalize xs.getD k 0 = q at g g'
      go_wp2
      go_quiet (fail)
      go_wp2
      go_roundw
      case rel => exact ⟨⟨k + 1, by omega, by go_num⟩, _, rfl⟩
      case measure => simp [intOf]; omega
    · obtain rfl : k = d := by omega
      have he := HD.out
      generalize xs.getD k 0 = q at g he
      generalize ys.getD k 0 = q' at g' he
      have hb : ((q : Int) != (q' : Int)) = true := by rw [bne_iff_ne]; omega
      clear he
      go_wp2
      go_quiet (fail)
      go_wp2
      go_ret
      exact ⟨rfl, _, World.drewN_drewN _ _ _⟩
/-- the reference Same: are the bytes the same? -/
theorem rsame_any (A A' : Option Addr) (n n' c c' B B' : Nat) (xs ys : List Nat) (w : World) (h : Bts w B A n xs) (h' : Bts w B' A' n' ys) :
    Calls Try.prog 14 #[.slice A n c, .slice A' n' c'] w fun e w' => e = .returned (.bool (decide (xs = ys))) ∧ ∃ m, w' = w.drewN m := by
  by_cases e : xs = ys
  · subst e
    obtain rfl : n = n' := h.1.symm.trans h'.1
    rw [decide_eq_true rfl]
    exact same_yes A A' n c c' B B' xs w h h'
  · rw [decide_eq_false e]
    by_cases hn : n = n'
    · subst hn
      exact same_no A A' n c c' B B' xs ys w h h' e
    · exact same_len A A' n n' c c' w hn
end Go.Proofs.Ytkflbhaomoaonaa.Mem
