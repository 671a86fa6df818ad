/- Plain facts on numbers as bytes, highest first, and on reading them. No program is named here. -/
import Init
namespace Go.Proofs.Ytpolpppnajfhdaa.Oct
/-- a number's bytes of a width, the highest first -/
def be : Nat → Nat → List Nat
  | 0, _ => []
  | k + 1, n => (n / 256 ^ k % 256) :: be k n
theorem be_length (k n : Nat) : (be k n).length = k := by
  induction k with
  | zero => rfl
  | succ k ih => simp [be, ih]
theorem be_lt (k n : Nat) : ∀ x ∈ be k n, x < 256 := by
  induction k with
  | zero => simp [be]
  | succ k ih =>
    intro x hx
    simp only [be, List.mem_cons] at hx
    rcases hx with rfl | hx
    · exact Nat.mod_lt _ (by decide)
    · exact ih x hx
/-- the number of bytes -/
def num (xs : List Nat) : Nat := xs.foldl (fun n b => n * 256 + b) 0
theorem num_take_succ (xs : List Nat) (j : Nat) (h : j < xs.length) : num (xs.take (j + 1)) = num (xs.take j) * 256 + xs.getD j 0 := by
  rw [List.take_succ_eq_append_getElem h]
  unfold num
  rw [List.foldl_append]
  simp [List.getD, List.getElem?_eq_getElem h]
theorem num_lt (xs : List Nat) (h : ∀ x ∈ xs, x < 256) : num xs < 256 ^ xs.length := by
  have aux : ∀ (ys : List Nat) (a k : Nat), (∀ x ∈ ys, x < 256) → a < 256 ^ k → ys.foldl (fun n b => n * 256 + b) a < 256 ^ (k + ys.length) := by
    intro ys
    induction ys with
    | nil => intro a k _ ha; simpa using ha
    | cons y ys ih =>
      intro a k hy ha
      have h1 : y < 256 := hy y (by simp)
      have h2 := ih (a * 256 + y) (k + 1) (fun x hx => hy x (by simp [hx])) (by rw [Nat.pow_succ]; omega)
      simp only [List.foldl_cons, List.length_cons]
      rw [show k + (ys.length + 1) = k + 1 + ys.length by omega]
      exact h2
  have := aux xs 0 0 h (by simp)
  simpa [num] using this
/-- what is put is read -/
theorem num_be (k n : Nat) : num (be k n) = n % 256 ^ k := by
  have aux : ∀ (k a : Nat), (be k n).foldl (fun n b => n * 256 + b) a = a * 256 ^ k + n % 256 ^ k := by
    intro k
    induction k with
    | zero => intro a; simp [be, Nat.mod_one]
    | succ k ih =>
      intro a
      simp only [be, List.foldl_cons]
      rw [ih]
      have h := Nat.mod_mul_right_div_self n (256 ^ k) 256
      have h2 := Nat.mod_mul (x := n) (a := 256 ^ k) (b := 256)
      rw [Nat.pow_succ, h2, Nat.add_mul, Nat.mul_assoc, Nat.mul_comm 256 (256 ^ k), Nat.mul_comm (n / 256 ^ k % 256)]
      omega
  have := aux k 0
  simpa [num] using this
def isW (k : Int) : Bool := decide (1 ≤ k) && decide (k ≤ 8)
theorem isW_nat {k : Int} (h : isW k = true) : ∃ m : Nat, k = (m : Int) ∧ 1 ≤ m ∧ m ≤ 8 := by
  simp only [isW, Bool.and_eq_true, decide_eq_true_eq] at h
  exact ⟨k.toNat, by omega, by omega, by omega⟩
theorem isW_of {m : Nat} (h1 : 1 ≤ m) (h8 : m ≤ 8) : isW (m : Int) = true := by
  simp only [isW, Bool.and_eq_true, decide_eq_true_eq]; omega
/-- what is put behind -/
def putNum (xs : List Nat) (k : Int) (n : Nat) : List Nat := if isW k = true then xs ++ be k.toNat n else xs
def putText (xs ts : List Nat) : List Nat := if ts.length ≤ 65535 then xs ++ (be 2 ts.length ++ ts) else xs
theorem putNum_lt {xs : List Nat} (h : ∀ x ∈ xs, x < 256) (k : Int) (n : Nat) : ∀ x ∈ putNum xs k n, x < 256 := by
  unfold putNum
  split
  · intro x hx
    rcases List.mem_append.1 hx with hx | hx
    · exact h x hx
    · exact be_lt _ _ x hx
  · exact h
/-- a reader: what is left, and whether nothing was wrong -/
abbrev St := List Nat × Bool
def rnum (st : St) (k : Int) : St × Nat := if (st.2 && isW k && decide (k.toNat ≤ st.1.length)) = true then ((st.1.drop k.toNat, true), num (st.1.take k.toNat)) else ((st.1, false), 0)
def rtext (st : St) : St × List Nat :=
  if (rnum st 2).1.2 = true ∧ (rnum st 2).2 ≤ (rnum st 2).1.1.length then (((rnum st 2).1.1.drop (rnum st 2).2, true), (rnum st 2).1.1.take (rnum st 2).2) else ((st.1, false), [])
theorem be_two (n : Nat) (h : n < 65536) : be 2 n = [n / 256, n % 256] := by
  simp [be]
  omega
end Go.Proofs.Ytpolpppnajfhdaa.Oct
