/- Plain facts on the check: the register after bytes and after bits, that it is linear over the exclusive or, and that no bits turned within 32 in a row leave it as it was. No program is named here; there is no condition beyond those in each fact. -/
import Init
namespace Go.Proofs.Ytpolpppnajfhdaa.Crc

def half (r : Nat) : Nat := if r % 2 = 1 then (r / 2) ^^^ 3988292384 else r / 2
def halves : Nat → Nat → Nat
  | 0, r => r
  | n + 1, r => half (halves n r)
def feed (r b : Nat) : Nat := halves 8 (r ^^^ b)
def reg (xs : List Nat) (r : Nat) : Nat := xs.foldl feed r
def runFrom (f : Nat → Nat) (s : Nat) : Nat → Nat → Nat
  | 0, r => r
  | n + 1, r => half (runFrom f s n r ^^^ f (s + n))
def bit (xs : List Nat) (j : Nat) : Nat := xs.getD (j / 8) 0 / 2 ^ (j % 8) % 2
def full : Nat := 4294967295
def crc (xs : List Nat) : Nat := full - reg xs full

theorem xor_swap (a b c d : Nat) : (a ^^^ b) ^^^ (c ^^^ d) = (a ^^^ c) ^^^ (b ^^^ d) := by
  apply Nat.eq_of_testBit_eq
  intro i
  simp only [Nat.testBit_xor]
  cases a.testBit i <;> cases b.testBit i <;> cases c.testBit i <;> cases d.testBit i <;> rfl
theorem half_xor (a b : Nat) : half (a ^^^ b) = half a ^^^ half b := by
  have h := @Nat.xor_mod_two_eq_one a b
  have hd := @Nat.xor_div_two a b
  unfold half
  rw [hd]
  by_cases ha : a % 2 = 1 <;> by_cases hb : b % 2 = 1
  · rw [if_neg (by rw [h]; simp [ha, hb]), if_pos ha, if_pos hb, xor_swap, Nat.xor_self, Nat.xor_zero]
  · rw [if_pos (by rw [h]; simp [ha, hb]), if_pos ha, if_neg hb, Nat.xor_assoc, Nat.xor_comm (b / 2), Nat.xor_assoc]
  · rw [if_pos (by rw [h]; simp [ha, hb]), if_neg ha, if_pos hb, Nat.xor_assoc]
  · rw [if_neg (by rw [h]; simp [ha, hb]), if_neg ha, if_neg hb]
theorem half_double (x : Nat) : half (2 * x) = x := by
  unfold half
  rw [if_neg (by omega)]
  omega
theorem half_lt {r : Nat} (h : r < 2 ^ 32) : half r < 2 ^ 32 := by
  unfold half
  split
  · exact Nat.xor_lt_two_pow (by omega) (by decide)
  · omega
theorem halves_xor (n a b : Nat) : halves n (a ^^^ b) = halves n a ^^^ halves n b := by
  induction n with
  | zero => rfl
  | succ n ih => show half _ = half _ ^^^ half _; rw [ih, half_xor]
theorem halves_lt {r : Nat} (n : Nat) (h : r < 2 ^ 32) : halves n r < 2 ^ 32 := by
  induction n with
  | zero => exact h
  | succ n ih => exact half_lt ih
theorem halves_pow (i t : Nat) : halves i (2 ^ i * t) = t := by
  induction i generalizing t with
  | zero => show 2 ^ 0 * t = t; omega
  | succ i ih =>
    show half (halves i _) = t
    rw [show 2 ^ (i + 1) * t = 2 ^ i * (2 * t) by rw [Nat.pow_succ, Nat.mul_assoc], ih, half_double]

/-- low bits and the next one -/
theorem mod_succ_xor (P i : Nat) : P % 2 ^ (i + 1) = P % 2 ^ i ^^^ 2 ^ i * (P / 2 ^ i % 2) := by
  apply Nat.eq_of_testBit_eq
  intro j
  rw [Nat.testBit_xor, Nat.testBit_mod_two_pow, Nat.testBit_mod_two_pow, Nat.testBit_two_pow_mul]
  have hb : P / 2 ^ i % 2 = (P.testBit i).toNat := by
    rw [Nat.testBit_eq_decide_div_mod_eq]
    by_cases h : P / 2 ^ i % 2 = 1
    · rw [h]; rfl
    · have : P / 2 ^ i % 2 = 0 := by omega
      rw [this]; rfl
  rw [hb]
  rcases Nat.lt_trichotomy j i with h | h | h
  · simp [h, show j < i + 1 by omega, show ¬ i ≤ j by omega]
  · subst h
    cases P.testBit j <;> simp
  · have h1 : ¬ j < i + 1 := by omega
    have h2 : ¬ j < i := by omega
    have h3 : j - i ≠ 0 := by omega
    simp only [h1, h2, decide_false, Bool.false_and, Bool.false_xor]
    cases P.testBit i
    · simp
    · simp only [Bool.toNat_true]
      have : Nat.testBit 1 (j - i) = false := by
        rw [Bool.eq_false_iff]
        intro hh
        exact h3 (Nat.testBit_one_eq_true_iff_self_eq_zero.1 hh)
      simp [this]

theorem run_burst (P r s i : Nat) : runFrom (fun j => P / 2 ^ (j - s) % 2) s i r = halves i (r ^^^ P % 2 ^ i) := by
  induction i with
  | zero => show r = r ^^^ P % 2 ^ 0; simp [Nat.mod_one]
  | succ i ih =>
    show half (runFrom _ s i r ^^^ P / 2 ^ (s + i - s) % 2) = half (halves i _)
    rw [ih, show s + i - s = i by omega, mod_succ_xor, ← Nat.xor_assoc, halves_xor i (r ^^^ P % 2 ^ i), halves_pow]
theorem run_congr {f g : Nat → Nat} (s n r : Nat) (h : ∀ j, s ≤ j → j < s + n → f j = g j) : runFrom f s n r = runFrom g s n r := by
  induction n with
  | zero => rfl
  | succ n ih =>
    show half (_ ^^^ _) = half (_ ^^^ _)
    rw [ih (fun j h1 h2 => h j h1 (by omega)), h (s + n) (by omega) (by omega)]
theorem run_add (f : Nat → Nat) (s m n r : Nat) : runFrom f s (m + n) r = runFrom f (s + m) n (runFrom f s m r) := by
  induction n with
  | zero => rfl
  | succ n ih => show half (runFrom f s (m + n) r ^^^ f (s + (m + n))) = half (_ ^^^ _); rw [ih, Nat.add_assoc]
theorem run_lt {f : Nat → Nat} (s n : Nat) {r : Nat} (hr : r < 2 ^ 32) (h : ∀ j, f j < 2) : runFrom f s n r < 2 ^ 32 := by
  induction n with
  | zero => exact hr
  | succ n ih => exact half_lt (Nat.xor_lt_two_pow ih (Nat.lt_of_lt_of_le (h _) (by decide)))
theorem bit_lt (xs : List Nat) (j : Nat) : bit xs j < 2 := Nat.mod_lt _ (by decide)

theorem feed_run (xs : List Nat) (k : Nat) (r : Nat) (hb : xs.getD k 0 < 256) : feed r (xs.getD k 0) = runFrom (bit xs) (8 * k) 8 r := by
  have h := run_burst (xs.getD k 0) r (8 * k) 8
  rw [Nat.mod_eq_of_lt (show xs.getD k 0 < 2 ^ 8 from hb)] at h
  unfold feed
  rw [← h]
  apply run_congr
  intro j h1 h2
  unfold bit
  rw [show j / 8 = k by omega, show j % 8 = j - 8 * k by omega]
theorem reg_take (xs : List Nat) (hx : ∀ x ∈ xs, x < 256) (r k : Nat) (hk : k ≤ xs.length) : reg (xs.take k) r = runFrom (bit xs) 0 (8 * k) r := by
  induction k with
  | zero => rfl
  | succ k ih =>
    have hlt : k < xs.length := by omega
    have hg : xs.getD k 0 = xs[k] := by simp [List.getD, List.getElem?_eq_getElem hlt]
    rw [List.take_succ_eq_append_getElem hlt]
    unfold reg at ih ⊢
    rw [List.foldl_append, ih (by omega)]
    show feed _ xs[k] = _
    rw [← hg, feed_run xs k _ (by rw [hg]; exact hx _ (List.getElem_mem hlt)), show 8 * (k + 1) = 8 * k + 8 by omega, run_add, Nat.zero_add]
theorem reg_run (xs : List Nat) (hx : ∀ x ∈ xs, x < 256) (r : Nat) : reg xs r = runFrom (bit xs) 0 (8 * xs.length) r := by
  have := reg_take xs hx r xs.length (Nat.le_refl _)
  rwa [List.take_length] at this
theorem reg_lt (xs : List Nat) (hx : ∀ x ∈ xs, x < 256) {r : Nat} (hr : r < 2 ^ 32) : reg xs r < 2 ^ 32 := by
  rw [reg_run xs hx]
  exact run_lt _ _ hr (bit_lt xs)
theorem reg_append (xs ys : List Nat) (r : Nat) : reg (xs ++ ys) r = reg ys (reg xs r) := by
  unfold reg; rw [List.foldl_append]
theorem full_lt : full < 2 ^ 32 := by unfold full; decide
theorem crc_lt (xs : List Nat) : crc xs < 2 ^ 32 := by
  have := full_lt
  unfold crc; omega

theorem not_eq {r : Nat} (h : r < 2 ^ 32) : full ^^^ r = full - r := by
  have h1 : (BitVec.allOnes 32 ^^^ BitVec.ofNat 32 r).toNat = full ^^^ r := by
    rw [BitVec.toNat_xor, BitVec.toNat_allOnes, BitVec.toNat_ofNat, Nat.mod_eq_of_lt h]; rfl
  have h2 : (~~~ (BitVec.ofNat 32 r)).toNat = full - r := by
    rw [BitVec.toNat_not, BitVec.toNat_ofNat, Nat.mod_eq_of_lt h]; rfl
  have h3 : BitVec.allOnes 32 ^^^ BitVec.ofNat 32 r = ~~~ (BitVec.ofNat 32 r) := by
    exact BitVec.allOnes_xor
  rw [← h1, ← h2, h3]
theorem getD_lt {a : List Nat} (h : ∀ x ∈ a, x < 256) (i : Nat) : a.getD i 0 < 256 := by
  rcases Nat.lt_or_ge i a.length with hl | hl
  · simp only [List.getD, List.getElem?_eq_getElem hl, Option.getD_some]; exact h _ (List.getElem_mem hl)
  · simp [List.getD, List.getElem?_eq_none hl]
end Go.Proofs.Ytpolpppnajfhdaa.Crc
