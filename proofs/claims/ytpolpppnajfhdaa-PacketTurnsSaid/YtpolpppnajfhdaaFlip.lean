/- Plain facts on bytes whose bits are turned (layer 1): the bits of what comes, and its check. No program is named here; the conditions stand in each fact. -/
import Derived.Test.YtpolpppnajfhdaaPlain
namespace Go.Proofs.Ytpolpppnajfhdaa.Crc
def turned (P k : Nat) : Bool := decide (P % 2 ^ k ≠ 0)
def flipTo (xs : List Nat) (f P : Nat) : Nat → List Nat
  | 0 => xs
  | k + 1 => if P / 2 ^ k % 2 = 1 then (flipTo xs f P k).set ((f + k) / 8) ((flipTo xs f P k).getD ((f + k) / 8) 0 ^^^ 2 ^ ((f + k) % 8)) else flipTo xs f P k
theorem flipTo_length (xs : List Nat) (f P k : Nat) : (flipTo xs f P k).length = xs.length := by
  induction k with
  | zero => rfl
  | succ k ih => unfold flipTo; split <;> simp [ih]
theorem pow_lt256 (s : Nat) (h : s < 8) : 2 ^ s < 256 := Nat.pow_lt_pow_right (a := 2) (n := 8) (by decide) h
theorem flipTo_lt {xs : List Nat} (hx : ∀ x ∈ xs, x < 256) (f P k : Nat) : ∀ x ∈ flipTo xs f P k, x < 256 := by
  induction k with
  | zero => exact hx
  | succ k ih =>
    unfold flipTo
    split
    · intro x h
      rcases List.mem_or_eq_of_mem_set h with h | rfl
      · exact ih x h
      · exact xor_lt256 (getD_lt ih _) (pow_lt256 _ (Nat.mod_lt _ (by decide)))
    · exact ih
theorem pow_bit (s t : Nat) : 2 ^ s / 2 ^ t % 2 = if s = t then 1 else 0 := by
  have h1 := Nat.testBit_eq_decide_div_mod_eq (x := 2 ^ s) (i := t)
  rw [Nat.testBit_two_pow] at h1
  have h2 : 2 ^ s / 2 ^ t % 2 < 2 := Nat.mod_lt _ (by decide)
  by_cases h : s = t
  · rw [if_pos h]
    simpa [h] using h1
  · rw [if_neg h]
    have h3 : ¬ (2 ^ s / 2 ^ t % 2 = 1) := by simpa [h] using h1
    omega
theorem turned_succ (P k : Nat) : turned P (k + 1) = if P / 2 ^ k % 2 = 1 then true else turned P k := by
  have h1 : P % 2 ^ (k + 1) = P % 2 ^ k + 2 ^ k * (P / 2 ^ k % 2) := Nat.mod_pow_succ
  have h2 : 0 < 2 ^ k := Nat.two_pow_pos k
  unfold turned
  split
  · rename_i h
    rw [h1, h]
    simp
  · rename_i h
    have h3 : P / 2 ^ k % 2 = 0 := by omega
    rw [h1, h3]
    simp
theorem getD_set (l : List Nat) (i j v : Nat) (h : i < l.length) : (l.set i v).getD j 0 = if i = j then v else l.getD j 0 := by
  by_cases hij : i = j
  · subst hij
    simp [List.getD, h]
  · simp [List.getD, hij]
theorem bit_flipTo (xs : List Nat) (f P : Nat) (k : Nat) (hk : f + k ≤ 8 * xs.length) (j : Nat) :
    bit (flipTo xs f P k) j = bit xs j ^^^ (if f ≤ j ∧ j < f + k then P / 2 ^ (j - f) % 2 else 0) := by
  induction k with
  | zero => rw [if_neg (by omega), Nat.xor_zero]; rfl
  | succ k ih =>
    have ih := ih (by omega)
    unfold flipTo
    split
    · rename_i h
      unfold bit
      rw [getD_set _ _ _ _ (by rw [flipTo_length]; omega)]
      by_cases hj : (f + k) / 8 = j / 8
      · rw [if_pos hj, bit_xor2, pow_bit, hj]
        show bit (flipTo xs f P k) j ^^^ _ = _
        rw [ih, Nat.xor_assoc]
        by_cases he : j = f + k
        · subst he
          rw [if_neg (by omega), if_pos rfl, if_pos (by omega), Nat.zero_xor, show f + k - f = k by omega, h]
          rfl
        · rw [if_neg (show ¬ (f + k) % 8 = j % 8 by omega), Nat.xor_zero]
          show bit xs j ^^^ _ = bit xs j ^^^ _
          congr 1
          by_cases hr : f ≤ j ∧ j < f + k
          · rw [if_pos hr, if_pos (by omega)]
          · rw [if_neg hr, if_neg (by omega)]
      · rw [if_neg hj]
        show bit (flipTo xs f P k) j = _
        rw [ih]
        show bit xs j ^^^ _ = bit xs j ^^^ _
        congr 1
        by_cases hr : f ≤ j ∧ j < f + k
        · rw [if_pos hr, if_pos (by omega)]
        · rw [if_neg hr, if_neg (by intro hh; apply hj; have : j = f + k := by omega
                                    rw [this])]
    · rename_i h
      rw [ih]
      congr 1
      by_cases he : j = f + k
      · subst he
        rw [if_neg (by omega), if_pos (by omega), show f + k - f = k by omega]
        omega
      · by_cases hr : f ≤ j ∧ j < f + k
        · rw [if_pos hr, if_pos (by omega)]
        · rw [if_neg hr, if_neg (by omega)]
/-- the check of what is turned is another, just where a bit is turned -/
theorem crc_turned (xs : List Nat) (hx : ∀ x ∈ xs, x < 256) (f P m : Nat) (hm : m ≤ 32) (hf : f + m ≤ 8 * xs.length) :
    crc xs = crc (flipTo xs f P m) ↔ turned P m = false := by
  rw [crc_differ xs (flipTo xs f P m) xs.length hx (flipTo_lt hx f P m) rfl (flipTo_length xs f P m) P f m hm hf
    (fun j hj => by rw [bit_flipTo xs f P m hf j, ← Nat.xor_assoc, Nat.xor_self, Nat.zero_xor])]
  unfold turned
  simp
end Go.Proofs.Ytpolpppnajfhdaa.Crc
