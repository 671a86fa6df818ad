/- Plain facts on the check: the register after bytes and after bits, that it is linear over the exclusive or, and that no bits turned within 32 in a row leave it as it was. No program is named here; there is no condition beyond those in each fact. -/
import Init
namespace Go.Proofs.Ytpolpppnajfhdaa.Crc

def half (r : Nat) : Nat := if r % 2 = 1 then (r / 2) ^^^ 3988292384 else r / 2
def halves : Nat → Nat → Nat
  | 0, r => r
  | n + 1, r => half (halves n r)
def feed (r b : Nat) : Nat := halves 8 (r ^^^ b)
def reg (xs : List Nat) (r : Nat) : Nat := xs.foldl feed r
def runFrom (f : Nat → Nat) (s : Nat) : Nat → Nat → Nat
  | 0, r => r
  | n + 1, r => half (runFrom f s n r ^^^ f (s + n))
def bit (xs : List Nat) (j : Nat) : Nat := xs.getD (j / 8) 0 / 2 ^ (j % 8) % 2
def full : Nat := 4294967295
def crc (xs : List Nat) : Nat := full - reg xs full

theorem xor_swap (a b c d : Nat) : (a ^^^ b) ^^^ (c ^^^ d) = (a ^^^ c) ^^^ (b ^^^ d) := by
  apply Nat.eq_of_testBit_eq
  intro i
  simp only [Nat.testBit_xor]
  cases a.testBit i <;> cases b.testBit i <;> cases c.testBit i <;> cases d.testBit i <;> rfl
theorem xor_eq_zero {a b : Nat} (h : a ^^^ b = 0) : a = b := by
  apply Nat.eq_of_testBit_eq
  intro i
  have h2 : (a ^^^ b).testBit i = false := by rw [h]; simp
  rw [Nat.testBit_xor] at h2
  revert h2
  cases a.testBit i <;> cases b.testBit i <;> simp
theorem half_xor (a b : Nat) : half (a ^^^ b) = half a ^^^ half b := by
  have h := @Nat.xor_mod_two_eq_one a b
  have hd := @Nat.xor_div_two a b
  unfold half
  rw [hd]
  by_cases ha : a % 2 = 1 <;> by_cases hb : b % 2 = 1
  · rw [if_neg (by rw [h]; simp [ha, hb]), if_pos ha, if_pos hb, xor_swap, Nat.xor_self, Nat.xor_zero]
  · rw [if_pos (by rw [h]; simp [ha, hb]), if_pos ha, if_neg hb, Nat.xor_assoc, Nat.xor_comm (b / 2), Nat.xor_assoc]
  · rw [if_pos (by rw [h]; simp [ha, hb]), if_neg ha, if_pos hb, Nat.xor_assoc]
  · rw [if_neg (by rw [h]; simp [ha, hb]), if_neg ha, if_neg hb]
theorem half_zero : half 0 = 0 := rfl
theorem half_double (x : Nat) : half (2 * x) = x := by
  unfold half
  rw [if_neg (by omega)]
  omega
theorem half_lt {r : Nat} (h : r < 2 ^ 32) : half r < 2 ^ 32 := by
  unfold half
  split
  · exact Nat.xor_lt_two_pow (by omega) (by decide)
  · omega
theorem half_eq_zero {r : Nat} (h : r < 2 ^ 32) (h0 : half r = 0) : r = 0 := by
  unfold half at h0
  split at h0
  · have := xor_eq_zero h0
    omega
  · omega
theorem halves_xor (n a b : Nat) : halves n (a ^^^ b) = halves n a ^^^ halves n b := by
  induction n with
  | zero => rfl
  | succ n ih => show half _ = half _ ^^^ half _; rw [ih, half_xor]
theorem halves_zero (n : Nat) : halves n 0 = 0 := by
  induction n with
  | zero => rfl
  | succ n ih => show half _ = 0; rw [ih, half_zero]
theorem halves_lt {r : Nat} (n : Nat) (h : r < 2 ^ 32) : halves n r < 2 ^ 32 := by
  induction n with
  | zero => exact h
  | succ n ih => exact half_lt ih
theorem halves_eq_zero {r : Nat} (n : Nat) (h : r < 2 ^ 32) (h0 : halves n r = 0) : r = 0 := by
  induction n with
  | zero => exact h0
  | succ n ih => exact ih (half_eq_zero (halves_lt n h) h0)
theorem halves_add (m n r : Nat) : halves (m + n) r = halves n (halves m r) := by
  induction n with
  | zero => rfl
  | succ n ih => show half (halves (m + n) r) = half _; rw [ih]
theorem halves_pow (i t : Nat) : halves i (2 ^ i * t) = t := by
  induction i generalizing t with
  | zero => show 2 ^ 0 * t = t; omega
  | succ i ih =>
    show half (halves i _) = t
    rw [show 2 ^ (i + 1) * t = 2 ^ i * (2 * t) by rw [Nat.pow_succ, Nat.mul_assoc], ih, half_double]

/-- low bits and the next one -/
theorem mod_succ_xor (P i : Nat) : P % 2 ^ (i + 1) = P % 2 ^ i ^^^ 2 ^ i * (P / 2 ^ i % 2) := by
  apply Nat.eq_of_testBit_eq
  intro j
  rw [Nat.testBit_xor, Nat.testBit_mod_two_pow, Nat.testBit_mod_two_pow, Nat.testBit_two_pow_mul]
  have hb : P / 2 ^ i % 2 = (P.testBit i).toNat := by
    rw [Nat.testBit_eq_decide_div_mod_eq]
    by_cases h : P / 2 ^ i % 2 = 1
    · rw [h]; rfl
    · have : P / 2 ^ i % 2 = 0 := by omega
      rw [this]; rfl
  rw [hb]
  rcases Nat.lt_trichotomy j i with h | h | h
  · simp [h, show j < i + 1 by omega, show ¬ i ≤ j by omega]
  · subst h
    cases P.testBit j <;> simp
  · have h1 : ¬ j < i + 1 := by omega
    have h2 : ¬ j < i := by omega
    have h3 : j - i ≠ 0 := by omega
    simp only [h1, h2, decide_false, Bool.false_and, Bool.false_xor]
    cases P.testBit i
    · simp
    · simp only [Bool.toNat_true]
      have : Nat.testBit 1 (j - i) = false := by
        rw [Bool.eq_false_iff]
        intro hh
        exact h3 (Nat.testBit_one_eq_true_iff_self_eq_zero.1 hh)
      simp [this]

theorem run_burst (P r s i : Nat) : runFrom (fun j => P / 2 ^ (j - s) % 2) s i r = halves i (r ^^^ P % 2 ^ i) := by
  induction i with
  | zero => show r = r ^^^ P % 2 ^ 0; simp [Nat.mod_one]
  | succ i ih =>
    show half (runFrom _ s i r ^^^ P / 2 ^ (s + i - s) % 2) = half (halves i _)
    rw [ih, show s + i - s = i by omega, mod_succ_xor, ← Nat.xor_assoc, halves_xor i (r ^^^ P % 2 ^ i), halves_pow]
theorem run_congr {f g : Nat → Nat} (s n r : Nat) (h : ∀ j, s ≤ j → j < s + n → f j = g j) : runFrom f s n r = runFrom g s n r := by
  induction n with
  | zero => rfl
  | succ n ih =>
    show half (_ ^^^ _) = half (_ ^^^ _)
    rw [ih (fun j h1 h2 => h j h1 (by omega)), h (s + n) (by omega) (by omega)]
theorem run_add (f : Nat → Nat) (s m n r : Nat) : runFrom f s (m + n) r = runFrom f (s + m) n (runFrom f s m r) := by
  induction n with
  | zero => rfl
  | succ n ih => show half (runFrom f s (m + n) r ^^^ f (s + (m + n))) = half (_ ^^^ _); rw [ih, Nat.add_assoc]
theorem run_zero {f : Nat → Nat} (s n r : Nat) (h : ∀ j, s ≤ j → j < s + n → f j = 0) : runFrom f s n r = halves n r := by
  induction n with
  | zero => rfl
  | succ n ih =>
    show half (_ ^^^ _) = half _
    rw [ih (fun j h1 h2 => h j h1 (by omega)), h (s + n) (by omega) (by omega), Nat.xor_zero]
theorem run_xor (f g : Nat → Nat) (s n a b : Nat) : runFrom (fun j => f j ^^^ g j) s n (a ^^^ b) = runFrom f s n a ^^^ runFrom g s n b := by
  induction n with
  | zero => rfl
  | succ n ih => show half (_ ^^^ _) = half _ ^^^ half _; rw [ih, ← half_xor, xor_swap]
theorem run_lt {f : Nat → Nat} (s n : Nat) {r : Nat} (hr : r < 2 ^ 32) (h : ∀ j, f j < 2) : runFrom f s n r < 2 ^ 32 := by
  induction n with
  | zero => exact hr
  | succ n ih => exact half_lt (Nat.xor_lt_two_pow ih (Nat.lt_of_lt_of_le (h _) (by decide)))
theorem bit_lt (xs : List Nat) (j : Nat) : bit xs j < 2 := Nat.mod_lt _ (by decide)

theorem feed_run (xs : List Nat) (k : Nat) (r : Nat) (hb : xs.getD k 0 < 256) : feed r (xs.getD k 0) = runFrom (bit xs) (8 * k) 8 r := by
  have h := run_burst (xs.getD k 0) r (8 * k) 8
  rw [Nat.mod_eq_of_lt (show xs.getD k 0 < 2 ^ 8 from hb)] at h
  unfold feed
  rw [← h]
  apply run_congr
  intro j h1 h2
  unfold bit
  rw [show j / 8 = k by omega, show j % 8 = j - 8 * k by omega]
theorem reg_take (xs : List Nat) (hx : ∀ x ∈ xs, x < 256) (r k : Nat) (hk : k ≤ xs.length) : reg (xs.take k) r = runFrom (bit xs) 0 (8 * k) r := by
  induction k with
  | zero => rfl
  | succ k ih =>
    have hlt : k < xs.length := by omega
    have hg : xs.getD k 0 = xs[k] := by simp [List.getD, List.getElem?_eq_getElem hlt]
    rw [List.take_succ_eq_append_getElem hlt]
    unfold reg at ih ⊢
    rw [List.foldl_append, ih (by omega)]
    show feed _ xs[k] = _
    rw [← hg, feed_run xs k _ (by rw [hg]; exact hx _ (List.getElem_mem hlt)), show 8 * (k + 1) = 8 * k + 8 by omega, run_add, Nat.zero_add]
theorem reg_run (xs : List Nat) (hx : ∀ x ∈ xs, x < 256) (r : Nat) : reg xs r = runFrom (bit xs) 0 (8 * xs.length) r := by
  have := reg_take xs hx r xs.length (Nat.le_refl _)
  rwa [List.take_length] at this
theorem feed_lt {r b : Nat} (hr : r < 2 ^ 32) (hb : b < 256) : feed r b < 2 ^ 32 :=
  halves_lt 8 (Nat.xor_lt_two_pow hr (by omega))
theorem reg_lt (xs : List Nat) (hx : ∀ x ∈ xs, x < 256) {r : Nat} (hr : r < 2 ^ 32) : reg xs r < 2 ^ 32 := by
  rw [reg_run xs hx]
  exact run_lt _ _ hr (bit_lt xs)
theorem reg_append (xs ys : List Nat) (r : Nat) : reg (xs ++ ys) r = reg ys (reg xs r) := by
  unfold reg; rw [List.foldl_append]
theorem full_lt : full < 2 ^ 32 := by unfold full; decide
theorem crc_lt (xs : List Nat) : crc xs < 2 ^ 32 := by
  have := full_lt
  unfold crc; omega

theorem not_eq {r : Nat} (h : r < 2 ^ 32) : full ^^^ r = full - r := by
  have h1 : (BitVec.allOnes 32 ^^^ BitVec.ofNat 32 r).toNat = full ^^^ r := by
    rw [BitVec.toNat_xor, BitVec.toNat_allOnes, BitVec.toNat_ofNat, Nat.mod_eq_of_lt h]; rfl
  have h2 : (~~~ (BitVec.ofNat 32 r)).toNat = full - r := by
    rw [BitVec.toNat_not, BitVec.toNat_ofNat, Nat.mod_eq_of_lt h]; rfl
  have h3 : BitVec.allOnes 32 ^^^ BitVec.ofNat 32 r = ~~~ (BitVec.ofNat 32 r) := by
    exact BitVec.allOnes_xor
  rw [← h1, ← h2, h3]
theorem crc_xor (xs : List Nat) (hx : ∀ x ∈ xs, x < 256) : crc xs = full ^^^ reg xs full := by
  rw [not_eq (reg_lt xs hx full_lt)]; rfl

/-! three texts -/
def mix3 (a b c : List Nat) (n : Nat) : List Nat := (List.range n).map fun i => a.getD i 0 ^^^ b.getD i 0 ^^^ c.getD i 0
theorem mix3_getD (a b c : List Nat) (n i : Nat) (h : i < n) : (mix3 a b c n).getD i 0 = a.getD i 0 ^^^ b.getD i 0 ^^^ c.getD i 0 := by
  simp [mix3, List.getD, h]
theorem mix3_length (a b c : List Nat) (n : Nat) : (mix3 a b c n).length = n := by simp [mix3]
theorem mix3_succ (a b c : List Nat) (n : Nat) : mix3 a b c (n + 1) = mix3 a b c n ++ [a.getD n 0 ^^^ b.getD n 0 ^^^ c.getD n 0] := by
  simp [mix3, List.range_succ]
theorem getD_lt {a : List Nat} (h : ∀ x ∈ a, x < 256) (i : Nat) : a.getD i 0 < 256 := by
  rcases Nat.lt_or_ge i a.length with hl | hl
  · simp only [List.getD, List.getElem?_eq_getElem hl, Option.getD_some]; exact h _ (List.getElem_mem hl)
  · simp [List.getD, List.getElem?_eq_none hl]
theorem xor_lt256 {x y : Nat} (hx : x < 256) (hy : y < 256) : x ^^^ y < 256 := Nat.xor_lt_two_pow (n := 8) hx hy
theorem mix3_lt (a b c : List Nat) (n : Nat) (ha : ∀ x ∈ a, x < 256) (hb : ∀ x ∈ b, x < 256) (hc : ∀ x ∈ c, x < 256) : ∀ x ∈ mix3 a b c n, x < 256 := by
  intro x hx
  simp only [mix3, List.mem_map] at hx
  obtain ⟨i, _, rfl⟩ := hx
  exact xor_lt256 (xor_lt256 (getD_lt ha i) (getD_lt hb i)) (getD_lt hc i)
theorem bit_xor2 (x y m : Nat) : (x ^^^ y) / 2 ^ m % 2 = (x / 2 ^ m % 2) ^^^ (y / 2 ^ m % 2) := by
  have h := @Nat.xor_mod_two_pow (x / 2 ^ m) (y / 2 ^ m) 1
  rw [Nat.xor_div_two_pow]
  simpa using h
theorem bit_mix3 (a b c : List Nat) (n j : Nat) (h : j < 8 * n) : bit (mix3 a b c n) j = bit a j ^^^ bit b j ^^^ bit c j := by
  unfold bit
  rw [mix3_getD a b c n (j / 8) (by omega), bit_xor2, bit_xor2]
theorem reg_three (a b c : List Nat) (n : Nat) (ha : ∀ x ∈ a, x < 256) (hb : ∀ x ∈ b, x < 256) (hc : ∀ x ∈ c, x < 256)
    (na : a.length = n) (nb : b.length = n) (nc : c.length = n) (r : Nat) :
    reg (mix3 a b c n) r = reg a r ^^^ reg b r ^^^ reg c r := by
  rw [reg_run _ (mix3_lt a b c n ha hb hc), reg_run a ha, reg_run b hb, reg_run c hc, mix3_length, na, nb, nc, ← run_xor, ← run_xor, Nat.xor_self, Nat.zero_xor]
  exact run_congr _ _ _ fun j _ h => bit_mix3 a b c n j (by omega)
theorem crc_three (a b c : List Nat) (n : Nat) (ha : ∀ x ∈ a, x < 256) (hb : ∀ x ∈ b, x < 256) (hc : ∀ x ∈ c, x < 256)
    (na : a.length = n) (nb : b.length = n) (nc : c.length = n) :
    crc (mix3 a b c n) = crc a ^^^ crc b ^^^ crc c := by
  rw [crc_xor _ (mix3_lt a b c n ha hb hc), crc_xor a ha, crc_xor b hb, crc_xor c hc, reg_three a b c n ha hb hc na nb nc full,
    xor_swap full, Nat.xor_self, Nat.zero_xor, ← Nat.xor_assoc (_ ^^^ _) full, Nat.xor_comm (_ ^^^ _) full, Nat.xor_assoc full]

/-! turned bits -/
theorem crc_differ (b c : List Nat) (n : Nat) (hb : ∀ x ∈ b, x < 256) (hc : ∀ x ∈ c, x < 256) (nb : b.length = n) (nc : c.length = n)
    (P s m : Nat) (hm : m ≤ 32) (hs : s + m ≤ 8 * n)
    (hd : ∀ j, j < 8 * n → bit b j ^^^ bit c j = if s ≤ j ∧ j < s + m then P / 2 ^ (j - s) % 2 else 0) :
    crc b = crc c ↔ P % 2 ^ m = 0 := by
  have h1 : reg b full ^^^ reg c full = halves (8 * n - s) (P % 2 ^ m) := by
    rw [reg_run b hb, reg_run c hc, nb, nc, ← run_xor, Nat.xor_self]
    rw [show 8 * n = s + (m + (8 * n - s - m)) by omega, run_add, run_add, Nat.zero_add]
    rw [run_zero 0 s 0 (fun j _ h => by rw [hd j (by omega), if_neg (by omega)]), halves_zero]
    rw [run_congr (g := fun j => P / 2 ^ (j - s) % 2) s m 0 (fun j h1 h2 => by rw [hd j (by omega), if_pos (by omega)]), run_burst, Nat.zero_xor]
    rw [run_zero (s + m) _ _ (fun j h1 h2 => by rw [hd j (by omega), if_neg (by omega)]), ← halves_add]
    congr 1
    omega
  have hlt : P % 2 ^ m < 2 ^ 32 := Nat.lt_of_lt_of_le (Nat.mod_lt _ (Nat.two_pow_pos m)) (Nat.pow_le_pow_right (by decide) hm)
  have rb := reg_lt b hb full_lt
  have rc := reg_lt c hc full_lt
  constructor
  · intro h
    have e : reg b full = reg c full := by
      have := full_lt
      unfold crc at h
      unfold full at h rb rc this ⊢
      omega
    rw [e, Nat.xor_self] at h1
    exact halves_eq_zero _ hlt h1.symm
  · intro h
    rw [h, halves_zero] at h1
    unfold crc
    rw [xor_eq_zero h1]
end Go.Proofs.Ytpolpppnajfhdaa.Crc
