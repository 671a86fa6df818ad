/- PureAll: the texts Pure, LsaPure, ChgPure, BasePure, BaseRefs, BaseBytes, BaseRead, BaseWithin, BaseSame, BaseStand, BaseGet in one. (Printed by tools/mergeall.py.) -/
import Init
/- Plain facts on numbers as bytes, highest first, and on reading them. No program is named here. -/
namespace Go.Proofs.Ytpolpppnajfhdaa.Oct
/-- a number's bytes of a width, the highest first -/
def be : Nat → Nat → List Nat
  | 0, _ => []
  | k + 1, n => (n / 256 ^ k % 256) :: be k n
theorem be_length (k n : Nat) : (be k n).length = k := by
  induction k with
  | zero => rfl
  | succ k ih => simp [be, ih]
theorem be_lt (k n : Nat) : ∀ x ∈ be k n, x < 256 := by
  induction k with
  | zero => simp [be]
  | succ k ih =>
    intro x hx
    simp only [be, List.mem_cons] at hx
    rcases hx with rfl | hx
    · exact Nat.mod_lt _ (by decide)
    · exact ih x hx
/-- the number of bytes -/
def num (xs : List Nat) : Nat := xs.foldl (fun n b => n * 256 + b) 0
theorem num_take_succ (xs : List Nat) (j : Nat) (h : j < xs.length) : num (xs.take (j + 1)) = num (xs.take j) * 256 + xs.getD j 0 := by
  rw [List.take_succ_eq_append_getElem h]
  unfold num
  rw [List.foldl_append]
  simp [List.getD, List.getElem?_eq_getElem h]
theorem num_lt (xs : List Nat) (h : ∀ x ∈ xs, x < 256) : num xs < 256 ^ xs.length := by
  have aux : ∀ (ys : List Nat) (a k : Nat), (∀ x ∈ ys, x < 256) → a < 256 ^ k → ys.foldl (fun n b => n * 256 + b) a < 256 ^ (k + ys.length) := by
    intro ys
    induction ys with
    | nil => intro a k _ ha; simpa using ha
    | cons y ys ih =>
      intro a k hy ha
      have h1 : y < 256 := hy y (by simp)
      have h2 := ih (a * 256 + y) (k + 1) (fun x hx => hy x (by simp [hx])) (by rw [Nat.pow_succ]; omega)
      simp only [List.foldl_cons, List.length_cons]
      rw [show k + (ys.length + 1) = k + 1 + ys.length by omega]
      exact h2
  have := aux xs 0 0 h (by simp)
  simpa [num] using this
/-- what is put is read -/
theorem num_be (k n : Nat) : num (be k n) = n % 256 ^ k := by
  have aux : ∀ (k a : Nat), (be k n).foldl (fun n b => n * 256 + b) a = a * 256 ^ k + n % 256 ^ k := by
    intro k
    induction k with
    | zero => intro a; simp [be, Nat.mod_one]
    | succ k ih =>
      intro a
      simp only [be, List.foldl_cons]
      rw [ih]
      have h := Nat.mod_mul_right_div_self n (256 ^ k) 256
      have h2 := Nat.mod_mul (x := n) (a := 256 ^ k) (b := 256)
      rw [Nat.pow_succ, h2, Nat.add_mul, Nat.mul_assoc, Nat.mul_comm 256 (256 ^ k), Nat.mul_comm (n / 256 ^ k % 256)]
      omega
  have := aux k 0
  simpa [num] using this
def isW (k : Int) : Bool := decide (1 ≤ k) && decide (k ≤ 8)
theorem isW_nat {k : Int} (h : isW k = true) : ∃ m : Nat, k = (m : Int) ∧ 1 ≤ m ∧ m ≤ 8 := by
  simp only [isW, Bool.and_eq_true, decide_eq_true_eq] at h
  exact ⟨k.toNat, by omega, by omega, by omega⟩
theorem isW_of {m : Nat} (h1 : 1 ≤ m) (h8 : m ≤ 8) : isW (m : Int) = true := by
  simp only [isW, Bool.and_eq_true, decide_eq_true_eq]; omega
/-- what is put behind -/
def putNum (xs : List Nat) (k : Int) (n : Nat) : List Nat := if isW k = true then xs ++ be k.toNat n else xs
theorem putNum_lt {xs : List Nat} (h : ∀ x ∈ xs, x < 256) (k : Int) (n : Nat) : ∀ x ∈ putNum xs k n, x < 256 := by
  unfold putNum
  split
  · intro x hx
    rcases List.mem_append.1 hx with hx | hx
    · exact h x hx
    · exact be_lt _ _ x hx
  · exact h
/-- a reader: what is left, and whether nothing was wrong -/
abbrev St := List Nat × Bool
def rnum (st : St) (k : Int) : St × Nat := if (st.2 && isW k && decide (k.toNat ≤ st.1.length)) = true then ((st.1.drop k.toNat, true), num (st.1.take k.toNat)) else ((st.1, false), 0)
end Go.Proofs.Ytpolpppnajfhdaa.Oct
/- Plain facts on Lsas (layer 9): which there may be, their bytes, how they are read, and that what is put is read. No program is named here. -/
namespace Go.Proofs.Ytpolpppnajfhdaa.Lsa
open Go.Proofs.Ytpolpppnajfhdaa.Oct
abbrev Lk := Int × Int
def win (n hi : Int) : Bool := decide (1 ≤ n) && decide (n ≤ hi)
theorem win_iff {n hi : Int} : win n hi = true ↔ 1 ≤ n ∧ n ≤ hi := by simp [win]
def lkOk (o last : Int) (k : Lk) : Bool := win k.1 64 && (!decide (k.1 ≤ last) && (!(k.1 == o) && win k.2 1073741824))
def linksOk (o : Int) : Int → List Lk → Bool
  | _, [] => true
  | last, k :: r => lkOk o last k && linksOk o k.1 r
def may (o s : Int) (ls : List Lk) : Bool := win o 64 && (win s 4611686018427387904 && (decide (ls.length ≤ 16) && linksOk o 0 ls))
theorem lkOk_iff {o last : Int} {k : Lk} : lkOk o last k = true ↔ (1 ≤ k.1 ∧ k.1 ≤ 64) ∧ last < k.1 ∧ k.1 ≠ o ∧ 1 ≤ k.2 ∧ k.2 ≤ 1073741824 := by
  simp [lkOk, win]
theorem may_iff {o s : Int} {ls : List Lk} : may o s ls = true ↔ (1 ≤ o ∧ o ≤ 64) ∧ (1 ≤ s ∧ s ≤ 4611686018427387904) ∧ ls.length ≤ 16 ∧ linksOk o 0 ls = true := by
  simp [may, win]
theorem linksOk_all {o : Int} : ∀ {ls : List Lk} {last : Int}, linksOk o last ls = true → ∀ k ∈ ls, (1 ≤ k.1 ∧ k.1 ≤ 64) ∧ 1 ≤ k.2 ∧ k.2 ≤ 1073741824
  | [], _, _, k, hk => by simp at hk
  | x :: r, last, h, k, hk => by
    simp only [linksOk, Bool.and_eq_true] at h
    have hx := lkOk_iff.1 h.1
    rcases List.mem_cons.1 hk with rfl | hk
    · exact ⟨hx.1, hx.2.2.2⟩
    · exact linksOk_all h.2 k hk
theorem drop_at {α : Type} (ls : List α) (d : α) (k : Nat) (h : k < ls.length) : ls.drop k = ls.getD k d :: ls.drop (k + 1) := by
  rw [List.drop_eq_getElem_cons h]
  simp [List.getD, List.getElem?_eq_getElem h]
theorem linksOk_step (o last : Int) (ls : List Lk) (k : Nat) (h : k < ls.length) : linksOk o last (ls.drop k) = (lkOk o last (ls.getD k (0, 0)) && linksOk o (ls.getD k (0, 0)).1 (ls.drop (k + 1))) := by
  rw [drop_at ls (0, 0) k h, linksOk]
/-- the last To ahead of a place -/
def lastOf (ls : List Lk) (k : Nat) : Int := if k = 0 then 0 else (ls.getD (k - 1) (0, 0)).1
theorem lastOf_succ (ls : List Lk) (k : Nat) : lastOf ls (k + 1) = (ls.getD k (0, 0)).1 := by simp [lastOf]
/-- the bytes of a link; of an Lsa -/
def lkBytes (k : Lk) : List Nat := be 1 k.1.toNat ++ be 4 k.2.toNat
def linkBytes (ls : List Lk) : List Nat := ls.flatMap lkBytes
theorem lkBytes_length (k : Lk) : (lkBytes k).length = 5 := by simp [lkBytes, be_length]
theorem linkBytes_length (ls : List Lk) : (linkBytes ls).length = 5 * ls.length := by
  unfold linkBytes
  induction ls with
  | nil => rfl
  | cons k r ih => rw [List.flatMap_cons, List.length_append, ih, lkBytes_length, List.length_cons]; omega
def headBytes (o s : Int) (n : Nat) : List Nat := be 1 o.toNat ++ be 8 s.toNat ++ be 1 n
def bytesOf (o s : Int) (ls : List Lk) : List Nat := headBytes o s ls.length ++ linkBytes ls
theorem headBytes_length (o s : Int) (n : Nat) : (headBytes o s n).length = 10 := by simp [headBytes, be_length]
theorem bytesOf_length (o s : Int) (ls : List Lk) : (bytesOf o s ls).length = 10 + 5 * ls.length := by
  rw [bytesOf, List.length_append, headBytes_length, linkBytes_length]
theorem lkBytes_lt (k : Lk) : ∀ x ∈ lkBytes k, x < 256 := by
  intro x hx
  rcases List.mem_append.1 hx with h | h <;> exact be_lt _ _ x h
theorem linkBytes_lt (ls : List Lk) : ∀ x ∈ linkBytes ls, x < 256 := by
  intro x hx
  obtain ⟨k, _, hk⟩ := List.mem_flatMap.1 hx
  exact lkBytes_lt k x hk
theorem headBytes_lt (o s : Int) (n : Nat) : ∀ x ∈ headBytes o s n, x < 256 := by
  intro x hx
  rcases List.mem_append.1 hx with h | h
  · rcases List.mem_append.1 h with h | h <;> exact be_lt _ _ x h
  · exact be_lt _ _ x h
theorem bytesOf_lt (o s : Int) (ls : List Lk) : ∀ x ∈ bytesOf o s ls, x < 256 := by
  intro x hx
  rcases List.mem_append.1 hx with h | h
  · exact headBytes_lt _ _ _ x h
  · exact linkBytes_lt _ x h
theorem linkBytes_succ (ls : List Lk) (k : Nat) (h : k < ls.length) : linkBytes (ls.take (k + 1)) = linkBytes (ls.take k) ++ lkBytes (ls.getD k (0, 0)) := by
  unfold linkBytes
  rw [List.take_succ_eq_append_getElem h, List.flatMap_append]
  simp [List.getD, List.getElem?_eq_getElem h]
def rlk (p : St × List Lk) : St × List Lk := ((rnum (rnum p.1 1).1 4).1, p.2 ++ [((((rnum p.1 1).2 : Nat) : Int), (((rnum (rnum p.1 1).1 4).2 : Nat) : Int))])
def rlks (st : St) : Nat → St × List Lk
  | 0 => (st, [])
  | k + 1 => rlk (rlks st k)
theorem rlks_len (st : St) (k : Nat) : (rlks st k).2.length = k := by
  induction k with
  | zero => rfl
  | succ k ih => simp [rlks, rlk, ih]
/-- a 64-bit number without sign as one with a sign -/
def sgn (n : Nat) : Int := if n < 9223372036854775808 then n else (n : Int) - 18446744073709551616
def rOri (st : St) : St × Nat := rnum st 1
def rSeq (st : St) : St × Nat := rnum (rOri st).1 8
def rMany (st : St) : St × Nat := rnum (rSeq st).1 1
def rAll (st : St) : St × List Lk := rlks (rMany st).1 (rMany st).2
/-- the Lsa that is read next: its origin, its number, its links -/
def rLsa (st : St) : Int × Int × List Lk := (((rOri st).2 : Nat), sgn (rSeq st).2, (rAll st).2)
def rOk (st : St) : Bool := (rAll st).1.2 && may (rLsa st).1 (rLsa st).2.1 (rLsa st).2.2
theorem rnum_at {xs : List Nat} {k : Nat} {K : Int} (hK : K = (k : Int)) (h : k ≤ xs.length) (h1 : 1 ≤ k) (h8 : k ≤ 8) : rnum (xs, true) K = ((xs.drop k, true), num (xs.take k)) := by
  subst hK
  unfold rnum
  rw [if_pos (by simp [isW_of h1 h8, h])]
  simp
theorem rnum_short {xs : List Nat} {s : Bool} {k : Nat} {K : Int} (hK : K = (k : Int)) (h : xs.length < k) : rnum (xs, s) K = ((xs, false), 0) := by
  subst hK
  unfold rnum
  rw [if_neg]
  simp
  omega
theorem rnum_spoilt {xs : List Nat} (k : Int) : rnum (xs, false) k = ((xs, false), 0) := by
  unfold rnum
  rw [if_neg (by simp)]
theorem rlk_spoilt (xs : List Nat) (l : List Lk) : (rlk ((xs, false), l)).1.2 = false := by
  simp [rlk, rnum_spoilt]
theorem rlks_false (st : St) (h : st.2 = false) : ∀ k, (rlks st k).1.2 = false
  | 0 => h
  | k + 1 => by
    have ih := rlks_false st h k
    rw [rlks]
    generalize rlks st k = q at *
    obtain ⟨⟨ys, s⟩, l⟩ := q
    simp only at ih
    subst ih
    exact rlk_spoilt _ _
/-- the link at a place of bytes -/
def lkAt (xs : List Nat) (i : Nat) : Lk := ((num ((xs.drop (5 * i)).take 1) : Nat), (num ((xs.drop (5 * i + 1)).take 4) : Nat))
theorem rlks_at (xs : List Nat) : ∀ k, 5 * k ≤ xs.length → rlks (xs, true) k = ((xs.drop (5 * k), true), (List.range k).map (lkAt xs))
  | 0, _ => by simp [rlks]
  | k + 1, h => by
    rw [rlks, rlks_at xs k (by omega), rlk]
    have e1 := rnum_at (xs := xs.drop (5 * k)) (K := 1) (k := 1) rfl (by rw [List.length_drop]; omega) (by omega) (by omega)
    have e2 := rnum_at (xs := (xs.drop (5 * k)).drop 1) (K := 4) (k := 4) rfl (by simp only [List.length_drop]; omega) (by omega) (by omega)
    simp only [List.drop_drop] at e1 e2
    simp only [e1, e2, List.range_succ, List.map_append, List.map_cons, List.map_nil, lkAt]
    rw [show 5 * k + 1 + 4 = 5 * (k + 1) by omega]
theorem rlks_short (xs : List Nat) : ∀ k, xs.length < 5 * k → (rlks (xs, true) k).1.2 = false
  | 0, h => absurd h (by omega)
  | k + 1, h => by
    by_cases hk : 5 * k ≤ xs.length
    · rw [rlks, rlks_at xs k hk, rlk]
      by_cases h1 : 5 * k + 1 ≤ xs.length
      · have e1 := rnum_at (xs := xs.drop (5 * k)) (K := 1) (k := 1) rfl (by rw [List.length_drop]; omega) (by omega) (by omega)
        have e2 := rnum_short (xs := (xs.drop (5 * k)).drop 1) (s := true) (K := 4) (k := 4) rfl (by simp only [List.length_drop]; omega)
        simp only [e1, e2]
      · have e1 := rnum_short (xs := xs.drop (5 * k)) (s := true) (K := 1) (k := 1) rfl (by rw [List.length_drop]; omega)
        simp only [e1, rnum_spoilt]
    · have ih := rlks_short xs k (by omega)
      rw [rlks]
      generalize rlks (xs, true) k = q at *
      obtain ⟨⟨ys, s⟩, l⟩ := q
      simp only at ih
      subst ih
      exact rlk_spoilt _ _
/-- the whole, of bytes that are long enough -/
theorem head_at {xs : List Nat} (h : 10 ≤ xs.length) : rOri (xs, true) = ((xs.drop 1, true), num (xs.take 1)) ∧ rSeq (xs, true) = ((xs.drop 9, true), num ((xs.drop 1).take 8)) ∧ rMany (xs, true) = ((xs.drop 10, true), num ((xs.drop 9).take 1)) := by
  have e1 := rnum_at (xs := xs) (K := 1) (k := 1) rfl (by omega) (by omega) (by omega)
  have e2 := rnum_at (xs := xs.drop 1) (K := 8) (k := 8) rfl (by rw [List.length_drop]; omega) (by omega) (by omega)
  have e3 := rnum_at (xs := xs.drop 9) (K := 1) (k := 1) rfl (by rw [List.length_drop]; omega) (by omega) (by omega)
  simp only [List.drop_drop] at e1 e2 e3
  refine ⟨e1, ?_, ?_⟩
  · rw [rSeq, rOri, e1]; exact e2
  · rw [rMany, rSeq, rOri, e1]; simp only; rw [e2]; exact e3
theorem head_short {xs : List Nat} (h : xs.length < 10) : (rMany (xs, true)).1.2 = false := by
  by_cases h1 : xs.length < 1
  · have e1 := rnum_short (xs := xs) (s := true) (K := 1) (k := 1) rfl h1
    simp only [rMany, rSeq, rOri, e1, rnum_spoilt]
  · have e1 := rnum_at (xs := xs) (K := 1) (k := 1) rfl (by omega) (by omega) (by omega)
    by_cases h2 : xs.length < 9
    · have e2 := rnum_short (xs := xs.drop 1) (s := true) (K := 8) (k := 8) rfl (by rw [List.length_drop]; omega)
      simp only [rMany, rSeq, rOri, e1, e2, rnum_spoilt]
    · have e2 := rnum_at (xs := xs.drop 1) (K := 8) (k := 8) rfl (by rw [List.length_drop]; omega) (by omega) (by omega)
      have e3 := rnum_short (xs := xs.drop 9) (s := true) (K := 1) (k := 1) rfl (by rw [List.length_drop]; omega)
      simp only [List.drop_drop] at e2 e3
      simp only [rMany, rSeq, rOri, e1, e2, e3]
def many (xs : List Nat) : Nat := num ((xs.drop 9).take 1)
def linksAt (xs : List Nat) : List Lk := (List.range (many xs)).map (lkAt (xs.drop 10))
def lsaAt (xs : List Nat) : Int × Int × List Lk := ((num (xs.take 1) : Nat), sgn (num ((xs.drop 1).take 8)), linksAt xs)
/-- is one there in whole, that may be? -/
def isAt (xs : List Nat) : Bool := decide (10 ≤ xs.length) && (decide (10 + 5 * many xs ≤ xs.length) && may (lsaAt xs).1 (lsaAt xs).2.1 (lsaAt xs).2.2)
theorem rAll_at {xs : List Nat} (h : 10 ≤ xs.length) (h' : 10 + 5 * many xs ≤ xs.length) : rAll (xs, true) = ((xs.drop (10 + 5 * many xs), true), linksAt xs) ∧ rLsa (xs, true) = lsaAt xs := by
  obtain ⟨e1, e2, e3⟩ := head_at h
  have e4 := rlks_at (xs.drop 10) (many xs) (by rw [List.length_drop]; omega)
  have e5 : rAll (xs, true) = ((xs.drop (10 + 5 * many xs), true), linksAt xs) := by
    rw [rAll, e3]
    show rlks (xs.drop 10, true) (many xs) = _
    rw [e4, List.drop_drop]
    rfl
  refine ⟨e5, ?_⟩
  rw [rLsa, e5, e1, e2]
  rfl
theorem rOk_at (xs : List Nat) : rOk (xs, true) = isAt xs := by
  unfold rOk isAt
  by_cases h : 10 ≤ xs.length
  · by_cases h' : 10 + 5 * many xs ≤ xs.length
    · obtain ⟨e1, e2⟩ := rAll_at h h'
      rw [e1, e2]
      simp [h, h']
    · obtain ⟨_, _, e3⟩ := head_at h
      have : (rAll (xs, true)).1.2 = false := by
        rw [rAll, e3]
        exact rlks_short (xs.drop 10) (many xs) (by rw [List.length_drop]; omega)
      rw [this]
      simp [h']
  · have : (rAll (xs, true)).1.2 = false := by
      rw [rAll]
      exact rlks_false _ (head_short (by omega)) _
    rw [this]
    simp [h]
/-! ### what is put is read -/
theorem rnum_be {k n : Nat} {K : Int} (hK : K = (k : Int)) (xs : List Nat) (h1 : 1 ≤ k) (h8 : k ≤ 8) (hn : n < 256 ^ k) : rnum (be k n ++ xs, true) K = ((xs, true), n) := by
  rw [rnum_at hK (by simp [be_length]) h1 h8, List.drop_left' (be_length k n), List.take_left' (be_length k n), num_be, Nat.mod_eq_of_lt hn]
theorem rlk_back (k : Lk) (xs : List Nat) (l : List Lk) (h1 : 0 ≤ k.1) (h1' : k.1 < 256) (h2 : 0 ≤ k.2) (h2' : k.2 < 4294967296) : rlk ((lkBytes k ++ xs, true), l) = ((xs, true), l ++ [k]) := by
  obtain ⟨a, b⟩ := k
  simp only at h1 h1' h2 h2'
  have e1 := rnum_be (K := 1) (k := 1) (n := a.toNat) rfl (be 4 b.toNat ++ xs) (by omega) (by omega) (by omega)
  have e2 := rnum_be (K := 4) (k := 4) (n := b.toNat) rfl xs (by omega) (by omega) (by omega)
  simp only [rlk, lkBytes, List.append_assoc, e1, e2, Int.toNat_of_nonneg h1, Int.toNat_of_nonneg h2]
theorem rlks_back (ls : List Lk) (more : List Nat) (hk : ∀ k ∈ ls, (1 ≤ k.1 ∧ k.1 ≤ 64) ∧ 1 ≤ k.2 ∧ k.2 ≤ 1073741824) : ∀ k, k ≤ ls.length → rlks (linkBytes ls ++ more, true) k = ((linkBytes (ls.drop k) ++ more, true), ls.take k)
  | 0, _ => by simp [rlks]
  | k + 1, h => by
    rw [rlks, rlks_back ls more hk k (by omega), drop_at ls (0, 0) k (by omega)]
    have hm : ls.getD k (0, 0) ∈ ls := by
      simp only [List.getD, List.getElem?_eq_getElem (show k < ls.length by omega), Option.getD_some]
      exact List.getElem_mem _
    have hb := hk _ hm
    rw [show linkBytes (ls.getD k (0, 0) :: ls.drop (k + 1)) ++ more = lkBytes (ls.getD k (0, 0)) ++ (linkBytes (ls.drop (k + 1)) ++ more) by simp [linkBytes]]
    rw [rlk_back _ _ _ (by omega) (by omega) (by omega) (by omega), List.take_succ_eq_append_getElem (show k < ls.length by omega)]
    simp [List.getD, List.getElem?_eq_getElem (show k < ls.length by omega)]
theorem read_back (o s : Int) (ls : List Lk) (more : List Nat) (h : may o s ls = true) : rAll (bytesOf o s ls ++ more, true) = ((more, true), ls) ∧ rLsa (bytesOf o s ls ++ more, true) = (o, s, ls) ∧ rOk (bytesOf o s ls ++ more, true) = true := by
  obtain ⟨h1, h2, h3, h4⟩ := may_iff.1 h
  have e0 : bytesOf o s ls ++ more = be 1 o.toNat ++ (be 8 s.toNat ++ (be 1 ls.length ++ (linkBytes ls ++ more))) := by simp [bytesOf, headBytes]
  have e1 := rnum_be (K := 1) (k := 1) (n := o.toNat) rfl (be 8 s.toNat ++ (be 1 ls.length ++ (linkBytes ls ++ more))) (by omega) (by omega) (by omega)
  have e2 := rnum_be (K := 8) (k := 8) (n := s.toNat) rfl (be 1 ls.length ++ (linkBytes ls ++ more)) (by omega) (by omega) (by omega)
  have e3 := rnum_be (K := 1) (k := 1) (n := ls.length) rfl (linkBytes ls ++ more) (by omega) (by omega) (by omega)
  have e4 := rlks_back ls more (linksOk_all h4) ls.length (Nat.le_refl _)
  have e5 : rAll (bytesOf o s ls ++ more, true) = ((more, true), ls) := by
    rw [e0]
    simp only [rAll, rMany, rSeq, rOri, e1, e2, e3, e4]
    simp [linkBytes]
  have e6 : rLsa (bytesOf o s ls ++ more, true) = (o, s, ls) := by
    rw [rLsa, e5, e0]
    simp only [rSeq, rOri, e1, e2, sgn]
    rw [if_pos (by omega), Int.toNat_of_nonneg (by omega), Int.toNat_of_nonneg (by omega)]
  refine ⟨e5, e6, ?_⟩
  rw [rOk, e5, e6]
  simp [h]
end Go.Proofs.Ytpolpppnajfhdaa.Lsa
/- Plain facts on changes (layer 10): which there may be, their bytes, how they are read, that what is put is read, and that no other bytes are. No program is named here. -/
namespace Go.Proofs.Ytpolpppnajfhdaa.Chg
open Go.Proofs.Ytpolpppnajfhdaa.Oct Go.Proofs.Ytpolpppnajfhdaa.Lsa
structure Ch where
  k : Int
  o : Int
  s : Int
  ls : List Lk
  n : Int
  f : Int
def zeroC : Ch := ⟨0, 0, 0, [], 0, 0⟩
def smL (o s : Int) (ls : List Lk) (o' s' : Int) (ls' : List Lk) : Bool := (o == o') && ((s == s') && decide (ls = ls'))
def noL (o s : Int) (ls : List Lk) : Bool := smL o s ls 0 0 []
theorem noL_iff {o s : Int} {ls : List Lk} : noL o s ls = true ↔ o = 0 ∧ s = 0 ∧ ls = [] := by
  simp [noL, smL]
def mayC (c : Ch) : Bool :=
  if c.k = 1 then may c.o c.s c.ls && ((c.n == 0) && (c.f == 0))
  else if c.k = 2 then win c.n 4611686018427387904 && ((c.f == 0) && noL c.o c.s c.ls)
  else if c.k = 3 then win c.n 1073741824 && ((c.f == 0) && noL c.o c.s c.ls)
  else if c.k = 4 then win c.f 64 && (win c.n 1073741824 && noL c.o c.s c.ls)
  else false
theorem mayC_kind {c : Ch} (h : mayC c = true) : c.k = 1 ∨ c.k = 2 ∨ c.k = 3 ∨ c.k = 4 := by
  unfold mayC at h
  split at h
  · omega
  · split at h
    · omega
    · split at h
      · omega
      · split at h
        · omega
        · cases h
theorem mayC_1 {o s n f : Int} {ls : List Lk} : mayC ⟨1, o, s, ls, n, f⟩ = (may o s ls && ((n == 0) && (f == 0))) := by simp [mayC]
theorem mayC_2 {o s n f : Int} {ls : List Lk} : mayC ⟨2, o, s, ls, n, f⟩ = (win n 4611686018427387904 && ((f == 0) && noL o s ls)) := by simp [mayC]
theorem mayC_3 {o s n f : Int} {ls : List Lk} : mayC ⟨3, o, s, ls, n, f⟩ = (win n 1073741824 && ((f == 0) && noL o s ls)) := by simp [mayC]
theorem mayC_4 {o s n f : Int} {ls : List Lk} : mayC ⟨4, o, s, ls, n, f⟩ = (win f 64 && (win n 1073741824 && noL o s ls)) := by simp [mayC]
def bodyC (c : Ch) : List Nat :=
  if c.k = 1 then bytesOf c.o c.s c.ls else if c.k = 2 then be 8 c.n.toNat else if c.k = 4 then be 1 c.f.toNat ++ be 4 c.n.toNat else be 4 c.n.toNat
def bytesC (c : Ch) : List Nat := be 1 c.k.toNat ++ bodyC c
def cat (l : List Ch) : List Nat := l.flatMap bytesC
def putC (l : List Ch) : List Nat := be 1 l.length ++ cat l
def okAll (l : List Ch) : Bool := l.all mayC && (decide (1 ≤ l.length) && decide (l.length ≤ 40))
theorem cat_cons (c : Ch) (l : List Ch) : cat (c :: l) = bytesC c ++ cat l := by simp [cat]
theorem cat_app (l : List Ch) (c : Ch) : cat (l ++ [c]) = cat l ++ bytesC c := by simp [cat]
theorem okAll_iff {l : List Ch} : okAll l = true ↔ l.all mayC = true ∧ 1 ≤ l.length ∧ l.length ≤ 40 := by simp [okAll]
def lsaO (st : St) : Int × Int × List Lk := if rOk st = true then rLsa st else (0, 0, [])
def readBody (k : Int) (st : St) : St × Ch :=
  if k = 1 then ((rAll st).1, ⟨k, (lsaO st).1, (lsaO st).2.1, (lsaO st).2.2, 0, 0⟩)
  else if k = 2 then ((rnum st 8).1, ⟨k, 0, 0, [], sgn (rnum st 8).2, 0⟩)
  else if k = 3 then ((rnum st 4).1, ⟨k, 0, 0, [], ((rnum st 4).2 : Nat), 0⟩)
  else if k = 4 then ((rnum (rnum st 1).1 4).1, ⟨k, 0, 0, [], ((rnum (rnum st 1).1 4).2 : Nat), ((rnum st 1).2 : Nat)⟩)
  else (st, ⟨k, 0, 0, [], 0, 0⟩)
def readC (st : St) : St × Ch := readBody ((rnum st 1).2 : Nat) (rnum st 1).1
theorem num_inj : ∀ (xs ys : List Nat) (a b : Nat), xs.length = ys.length → (∀ x ∈ xs, x < 256) → (∀ x ∈ ys, x < 256) → xs.foldl (fun n b => n * 256 + b) a = ys.foldl (fun n b => n * 256 + b) b → a = b ∧ xs = ys
  | [], [], a, b, _, _, _, h => ⟨h, rfl⟩
  | [], y :: ys, _, _, hl, _, _, _ => by simp at hl
  | x :: xs, [], _, _, hl, _, _, _ => by simp at hl
  | x :: xs, y :: ys, a, b, hl, hx, hy, h => by
    have ih := num_inj xs ys (a * 256 + x) (b * 256 + y) (by simpa using hl) (fun z hz => hx z (List.mem_cons_of_mem _ hz)) (fun z hz => hy z (List.mem_cons_of_mem _ hz)) h
    have h1 := hx x List.mem_cons_self
    have h2 := hy y List.mem_cons_self
    refine ⟨by omega, ?_⟩
    rw [ih.2, show x = y by omega]
theorem be_num {xs : List Nat} (hx : ∀ x ∈ xs, x < 256) : be xs.length (num xs) = xs := by
  have h1 := num_be xs.length (num xs)
  rw [Nat.mod_eq_of_lt (num_lt xs hx)] at h1
  exact (num_inj _ _ 0 0 (be_length _ _) (be_lt _ _) hx h1).2
theorem rnum_bytes {st : St} {K : Int} (h : ∀ x ∈ st.1, x < 256) : ∀ x ∈ (rnum st K).1.1, x < 256 := by
  unfold rnum
  split
  · intro x hx
    exact h x (List.mem_of_mem_drop hx)
  · exact h
theorem rnum_sound {st : St} {K : Int} {k : Nat} (hK : K = (k : Int)) (h : ∀ x ∈ st.1, x < 256) (ht : (rnum st K).1.2 = true) : st.1 = be k (rnum st K).2 ++ (rnum st K).1.1 ∧ st.2 = true := by
  subst hK
  unfold rnum at ht ⊢
  split at ht
  · rename_i hc
    rw [if_pos hc]
    simp only [Bool.and_eq_true, decide_eq_true_eq, Int.toNat_natCast] at hc
    simp only [Int.toNat_natCast]
    have hl : (st.1.take k).length = k := by rw [List.length_take]; omega
    have hb := be_num (xs := st.1.take k) (fun x hx => h x (List.mem_of_mem_take hx))
    rw [hl] at hb
    exact ⟨by rw [hb, List.take_append_drop], hc.1.1⟩
  · cases ht
theorem rlks_sound (st : St) (h : ∀ x ∈ st.1, x < 256) : ∀ k, (rlks st k).1.2 = true → st.1 = linkBytes (rlks st k).2 ++ (rlks st k).1.1 ∧ st.2 = true ∧ ∀ x ∈ (rlks st k).1.1, x < 256
  | 0, ht => ⟨by simp [rlks, linkBytes], ht, h⟩
  | k + 1, ht => by
    rw [rlks] at ht ⊢
    generalize hq : rlks st k = q at *
    obtain ⟨t, l⟩ := q
    have ht1 : (rnum (rnum t 1).1 4).1.2 = true := ht
    have hs : t.2 = true := by
      cases h2 : t.2
      · obtain ⟨xs, b⟩ := t
        simp only at h2
        subst h2
        rw [rnum_spoilt, rnum_spoilt] at ht1
        cases ht1
      · rfl
    have ih := rlks_sound st h k (by rw [hq]; exact hs)
    rw [hq] at ih
    obtain ⟨h1, h2, h3⟩ := ih
    simp only at h1 h3
    have b1 := rnum_bytes (K := 1) h3
    have s2 := rnum_sound (K := 4) (k := 4) rfl b1 ht1
    have s1 := rnum_sound (K := 1) (k := 1) rfl h3 s2.2
    refine ⟨?_, h2, rnum_bytes b1⟩
    simp only [rlk]
    rw [h1, s1.1, s2.1]
    simp [linkBytes, lkBytes]
theorem lsa_sound {st : St} (h : ∀ x ∈ st.1, x < 256) (ht : rOk st = true) : st.1 = bytesOf (rLsa st).1 (rLsa st).2.1 (rLsa st).2.2 ++ (rAll st).1.1 ∧ st.2 = true ∧ ∀ x ∈ (rAll st).1.1, x < 256 := by
  unfold rOk at ht
  simp only [Bool.and_eq_true] at ht
  obtain ⟨ht, hm⟩ := ht
  obtain ⟨ho, hs, hn, hl⟩ := may_iff.1 hm
  have b1 : ∀ x ∈ (rOri st).1.1, x < 256 := rnum_bytes h
  have b2 : ∀ x ∈ (rSeq st).1.1, x < 256 := rnum_bytes b1
  have b3 : ∀ x ∈ (rMany st).1.1, x < 256 := rnum_bytes b2
  obtain ⟨q1, q2, q3⟩ := rlks_sound (rMany st).1 b3 (rMany st).2 ht
  have s3 := rnum_sound (st := (rSeq st).1) (K := 1) (k := 1) rfl b2 q2
  have s2 := rnum_sound (st := (rOri st).1) (K := 8) (k := 8) rfl b1 s3.2
  have s1 := rnum_sound (st := st) (K := 1) (k := 1) rfl h s2.2
  have hlen : (rLsa st).2.2.length = (rMany st).2 := rlks_len _ _
  have hsg : (rLsa st).2.1.toNat = (rSeq st).2 := by
    have e : (rLsa st).2.1 = sgn (rSeq st).2 := rfl
    rw [e] at hs ⊢
    unfold sgn at hs ⊢
    split at hs
    · rw [if_pos (by assumption), Int.toNat_natCast]
    · exfalso
      have hlt : (rSeq st).2 < 18446744073709551616 := by
        unfold rSeq rnum
        split
        · have h1 := num_lt ((rOri st).1.1.take (8 : Int).toNat) (fun x hx => b1 x (List.mem_of_mem_take hx))
          have h2 : ((rOri st).1.1.take (8 : Int).toNat).length ≤ 8 := by rw [List.length_take]; simp; omega
          exact Nat.lt_of_lt_of_le h1 (Nat.pow_le_pow_right (by decide) h2)
        · show (0 : Nat) < _
          decide
      omega
  have hor : (rLsa st).1.toNat = (rOri st).2 := by
    have e : (rLsa st).1 = ((rOri st).2 : Nat) := rfl
    rw [e, Int.toNat_natCast]
  refine ⟨?_, s1.2, q3⟩
  rw [bytesOf, headBytes, hlen, hsg, hor]
  have e1 : st.1 = be 1 (rOri st).2 ++ (rOri st).1.1 := s1.1
  have e2 : (rOri st).1.1 = be 8 (rSeq st).2 ++ (rSeq st).1.1 := s2.1
  have e3 : (rSeq st).1.1 = be 1 (rMany st).2 ++ (rMany st).1.1 := s3.1
  have e4 : (rMany st).1.1 = linkBytes (rLsa st).2.2 ++ (rAll st).1.1 := q1
  rw [e1, e2, e3, e4]
  simp
theorem body_sound (k : Int) (st : St) (h : ∀ x ∈ st.1, x < 256) (ht : (readBody k st).1.2 = true) (hm : mayC (readBody k st).2 = true) : st.1 = bodyC (readBody k st).2 ++ (readBody k st).1.1 ∧ st.2 = true ∧ (readBody k st).2.k = k ∧ ∀ x ∈ (readBody k st).1.1, x < 256 := by
  have hk : (readBody k st).2.k = k := by
    unfold readBody
    by_cases h1 : k = 1
    · rw [if_pos h1]
    · rw [if_neg h1]
      by_cases h2 : k = 2
      · rw [if_pos h2]
      · rw [if_neg h2]
        by_cases h3 : k = 3
        · rw [if_pos h3]
        · rw [if_neg h3]
          by_cases h4 : k = 4
          · rw [if_pos h4]
          · rw [if_neg h4]
  rcases mayC_kind hm with h1 | h1 | h1 | h1 <;> rw [hk] at h1 <;> subst h1
  · have e : readBody 1 st = ((rAll st).1, ⟨1, (lsaO st).1, (lsaO st).2.1, (lsaO st).2.2, 0, 0⟩) := by simp [readBody]
    rw [e] at hm ht ⊢
    rw [mayC_1] at hm
    simp only [Bool.and_eq_true] at hm
    have hok : rOk st = true := by
      cases hq : rOk st
      · exfalso
        have e0 : lsaO st = (0, 0, []) := by rw [lsaO, hq]; simp
        rw [e0] at hm
        have := (may_iff.1 hm.1).1
        omega
      · rfl
    have eo : lsaO st = rLsa st := by rw [lsaO, if_pos hok]
    obtain ⟨q1, q2, q3⟩ := lsa_sound h hok
    refine ⟨?_, q2, rfl, q3⟩
    have eb : bodyC ⟨1, (lsaO st).1, (lsaO st).2.1, (lsaO st).2.2, 0, 0⟩ = bytesOf (lsaO st).1 (lsaO st).2.1 (lsaO st).2.2 := by simp [bodyC]
    rw [eb, eo]
    exact q1
  · have e : readBody 2 st = ((rnum st 8).1, ⟨2, 0, 0, [], sgn (rnum st 8).2, 0⟩) := by simp [readBody]
    rw [e] at hm ht ⊢
    have q := rnum_sound (K := 8) (k := 8) rfl h ht
    refine ⟨?_, q.2, rfl, rnum_bytes h⟩
    have eb : bodyC ⟨2, 0, 0, [], sgn (rnum st 8).2, 0⟩ = be 8 (sgn (rnum st 8).2).toNat := by simp [bodyC]
    rw [eb]
    rw [mayC_2] at hm
    simp only [Bool.and_eq_true] at hm
    have hw := win_iff.1 hm.1
    have hsg : (sgn (rnum st 8).2).toNat = (rnum st 8).2 := by
      unfold sgn at hw ⊢
      split at hw
      · rw [if_pos (by assumption), Int.toNat_natCast]
      · exfalso
        have hlt : (rnum st 8).2 < 18446744073709551616 := by
          unfold rnum
          split
          · have h1 := num_lt (st.1.take (8 : Int).toNat) (fun x hx => h x (List.mem_of_mem_take hx))
            have h2 : (st.1.take (8 : Int).toNat).length ≤ 8 := by rw [List.length_take]; simp; omega
            exact Nat.lt_of_lt_of_le h1 (Nat.pow_le_pow_right (by decide) h2)
          · show (0 : Nat) < _
            decide
        omega
    rw [hsg]
    exact q.1
  · have e : readBody 3 st = ((rnum st 4).1, ⟨3, 0, 0, [], ((rnum st 4).2 : Nat), 0⟩) := by simp [readBody]
    rw [e] at hm ht ⊢
    have q := rnum_sound (K := 4) (k := 4) rfl h ht
    refine ⟨?_, q.2, rfl, rnum_bytes h⟩
    have eb : bodyC ⟨3, 0, 0, [], ((rnum st 4).2 : Nat), 0⟩ = be 4 (rnum st 4).2 := by simp [bodyC]
    rw [eb]
    exact q.1
  · have e : readBody 4 st = ((rnum (rnum st 1).1 4).1, ⟨4, 0, 0, [], ((rnum (rnum st 1).1 4).2 : Nat), ((rnum st 1).2 : Nat)⟩) := by simp [readBody]
    rw [e] at hm ht ⊢
    have q2 := rnum_sound (K := 4) (k := 4) rfl (rnum_bytes h) ht
    have q1 := rnum_sound (K := 1) (k := 1) rfl h q2.2
    refine ⟨?_, q1.2, rfl, rnum_bytes (rnum_bytes h)⟩
    have eb : bodyC ⟨4, 0, 0, [], ((rnum (rnum st 1).1 4).2 : Nat), ((rnum st 1).2 : Nat)⟩ = be 1 (rnum st 1).2 ++ be 4 (rnum (rnum st 1).1 4).2 := by simp [bodyC]
    rw [eb, List.append_assoc, ← q2.1]
    exact q1.1
theorem readC_sound (st : St) (h : ∀ x ∈ st.1, x < 256) (ht : (readC st).1.2 = true) (hm : mayC (readC st).2 = true) : st.1 = bytesC (readC st).2 ++ (readC st).1.1 ∧ st.2 = true ∧ ∀ x ∈ (readC st).1.1, x < 256 := by
  obtain ⟨q1, q2, q3, q4⟩ := body_sound _ _ (rnum_bytes (K := 1) h) ht hm
  have q := rnum_sound (K := 1) (k := 1) rfl h q2
  refine ⟨?_, q.2, q4⟩
  have hk : (readC st).2.k = ((rnum st 1).2 : Nat) := q3
  rw [bytesC, hk, Int.toNat_natCast, List.append_assoc]
  refine q.1.trans ?_
  congr 1
theorem readC_back (c : Ch) (more : List Nat) (h : mayC c = true) : readC (bytesC c ++ more, true) = ((more, true), c) := by
  obtain ⟨k, o, s, ls, n, f⟩ := c
  have hk := mayC_kind h
  simp only at hk
  have e1 : rnum (bytesC ⟨k, o, s, ls, n, f⟩ ++ more, true) 1 = ((bodyC ⟨k, o, s, ls, n, f⟩ ++ more, true), k.toNat) := by
    rw [bytesC, List.append_assoc]
    exact rnum_be (K := 1) (k := 1) (n := k.toNat) rfl _ (by omega) (by omega) (by omega)
  rw [readC, e1]
  simp only
  rw [Int.toNat_of_nonneg (by omega)]
  rcases hk with rfl | rfl | rfl | rfl
  · rw [mayC_1] at h
    simp only [Bool.and_eq_true, beq_iff_eq] at h
    obtain ⟨h1, rfl, rfl⟩ := h
    obtain ⟨r1, r2, r3⟩ := read_back o s ls more h1
    have eb : bodyC ⟨1, o, s, ls, 0, 0⟩ = bytesOf o s ls := by simp [bodyC]
    rw [eb]
    simp [readBody, lsaO, r1, r2, r3]
  · rw [mayC_2] at h
    simp only [Bool.and_eq_true, beq_iff_eq] at h
    obtain ⟨h1, rfl, h3⟩ := h
    obtain ⟨rfl, rfl, rfl⟩ := noL_iff.1 h3
    have hw := win_iff.1 h1
    have eb : bodyC ⟨2, 0, 0, [], n, 0⟩ = be 8 n.toNat := by simp [bodyC]
    have e2 := rnum_be (K := 8) (k := 8) (n := n.toNat) rfl more (by omega) (by omega) (by omega)
    rw [eb]
    have e3 : sgn n.toNat = n := by
      unfold sgn
      rw [if_pos (by omega), Int.toNat_of_nonneg (by omega)]
    simp [readBody, e2, e3]
  · rw [mayC_3] at h
    simp only [Bool.and_eq_true, beq_iff_eq] at h
    obtain ⟨h1, rfl, h3⟩ := h
    obtain ⟨rfl, rfl, rfl⟩ := noL_iff.1 h3
    have hw := win_iff.1 h1
    have eb : bodyC ⟨3, 0, 0, [], n, 0⟩ = be 4 n.toNat := by simp [bodyC]
    have e2 := rnum_be (K := 4) (k := 4) (n := n.toNat) rfl more (by omega) (by omega) (by omega)
    rw [eb]
    simp [readBody, e2]
    omega
  · rw [mayC_4] at h
    simp only [Bool.and_eq_true] at h
    obtain ⟨h1, h2, h3⟩ := h
    obtain ⟨rfl, rfl, rfl⟩ := noL_iff.1 h3
    have hw := win_iff.1 h1
    have hw2 := win_iff.1 h2
    have eb : bodyC ⟨4, 0, 0, [], n, f⟩ = be 1 f.toNat ++ be 4 n.toNat := by simp [bodyC]
    have e2 := rnum_be (K := 1) (k := 1) (n := f.toNat) rfl (be 4 n.toNat ++ more) (by omega) (by omega) (by omega)
    have e3 := rnum_be (K := 4) (k := 4) (n := n.toNat) rfl more (by omega) (by omega) (by omega)
    rw [eb, List.append_assoc]
    simp [readBody, e2, e3]
    omega
/-! ### all -/
def reads (st : St) : Nat → Option (St × List Ch)
  | 0 => some (st, [])
  | k + 1 => match reads st k with
    | none => none
    | some (t, l) => if mayC (readC t).2 = true then some ((readC t).1, l ++ [(readC t).2]) else none
def getC (xs : List Nat) : Option (List Ch) :=
  if 1 ≤ (rnum (xs, true) 1).2 ∧ (rnum (xs, true) 1).2 ≤ 40 then
    match reads (rnum (xs, true) 1).1 (rnum (xs, true) 1).2 with
    | none => none
    | some (t, l) => if (t.2 && decide (t.1.length = 0)) = true then some l else none
  else none
theorem reads_yes {st t : St} {l : List Ch} {k : Nat} (h : reads st k = some (t, l)) (hm : mayC (readC t).2 = true) : reads st (k + 1) = some ((readC t).1, l ++ [(readC t).2]) := by
  simp only [reads, h, hm, if_pos]
theorem reads_len {st : St} : ∀ {k : Nat} {t : St} {l : List Ch}, reads st k = some (t, l) → l.length = k
  | 0, t, l, h => by
    simp only [reads, Option.some.injEq, Prod.mk.injEq] at h
    rw [← h.2]; rfl
  | k + 1, t, l, h => by
    cases hq : reads st k with
    | none => simp [reads, hq] at h
    | some p =>
      obtain ⟨t', l'⟩ := p
      have ih := reads_len hq
      simp only [reads, hq] at h
      split at h
      · simp only [Option.some.injEq, Prod.mk.injEq] at h
        rw [← h.2]; simp [ih]
      · cases h
theorem readC_false (st : St) (h : st.2 = false) : (readC st).1.2 = false := by
  obtain ⟨xs, b⟩ := st
  simp only at h
  subst h
  rw [readC, rnum_spoilt]
  rfl
theorem reads_sound {st : St} (hx : ∀ x ∈ st.1, x < 256) : ∀ {k : Nat} {t : St} {l : List Ch}, reads st k = some (t, l) → t.2 = true → st.1 = cat l ++ t.1 ∧ st.2 = true ∧ l.all mayC = true ∧ ∀ x ∈ t.1, x < 256
  | 0, t, l, h, ht => by
    simp only [reads, Option.some.injEq, Prod.mk.injEq] at h
    obtain ⟨rfl, rfl⟩ := h
    exact ⟨rfl, ht, rfl, hx⟩
  | k + 1, t, l, h, ht => by
    cases hq : reads st k with
    | none => simp [reads, hq] at h
    | some p =>
      obtain ⟨t', l'⟩ := p
      simp only [reads, hq] at h
      split at h
      · rename_i hm
        simp only [Option.some.injEq, Prod.mk.injEq] at h
        obtain ⟨rfl, rfl⟩ := h
        have ht' : t'.2 = true := by
          cases h2 : t'.2
          · rw [readC_false t' h2] at ht; cases ht
          · rfl
        obtain ⟨i1, i2, i3, i4⟩ := reads_sound hx hq ht'
        obtain ⟨s1, s2, s3⟩ := readC_sound t' i4 ht hm
        refine ⟨?_, i2, by simp [i3, hm], s3⟩
        rw [i1, cat_app, List.append_assoc, ← s1]
      · cases h
theorem reads_back (l : List Ch) (more : List Nat) (h : l.all mayC = true) : ∀ k, k ≤ l.length → reads (cat l ++ more, true) k = some ((cat (l.drop k) ++ more, true), l.take k)
  | 0, _ => by simp [reads]
  | k + 1, hk => by
    have hm : mayC (l.getD k zeroC) = true := by
      rw [List.all_eq_true] at h
      refine h _ ?_
      simp only [List.getD, List.getElem?_eq_getElem (show k < l.length by omega), Option.getD_some]
      exact List.getElem_mem _
    have hr := readC_back (l.getD k zeroC) (cat (l.drop (k + 1)) ++ more) hm
    have hc : cat (l.drop k) ++ more = bytesC (l.getD k zeroC) ++ (cat (l.drop (k + 1)) ++ more) := by
      rw [drop_at l zeroC k (by omega), cat_cons, List.append_assoc]
    have := reads_yes (reads_back l more h k (by omega)) (by rw [hc, hr]; exact hm)
    rw [this, hc, hr, List.take_succ_eq_append_getElem (show k < l.length by omega)]
    simp [List.getD, List.getElem?_eq_getElem (show k < l.length by omega)]
theorem getC_sound {xs : List Nat} {l : List Ch} (hx : ∀ x ∈ xs, x < 256) (h : getC xs = some l) : okAll l = true ∧ putC l = xs := by
  unfold getC at h
  split at h
  · rename_i hm
    cases hq : reads (rnum (xs, true) 1).1 (rnum (xs, true) 1).2 with
    | none => simp [hq] at h
    | some p =>
      obtain ⟨t, l'⟩ := p
      simp only [hq] at h
      split at h
      · rename_i hd
        simp only [Option.some.injEq] at h
        subst h
        simp only [Bool.and_eq_true, decide_eq_true_eq] at hd
        obtain ⟨i1, i2, i3, i4⟩ := reads_sound (rnum_bytes (K := 1) (st := (xs, true)) hx) hq hd.1
        have hl := reads_len hq
        have s1 := rnum_sound (st := (xs, true)) (K := 1) (k := 1) rfl hx i2
        refine ⟨okAll_iff.2 ⟨i3, by omega, by omega⟩, ?_⟩
        have ht : t.1 = [] := List.eq_nil_of_length_eq_zero hd.2
        rw [ht, List.append_nil] at i1
        rw [putC, hl, ← i1]
        exact s1.1.symm
      · cases h
  · cases h
theorem getC_back {l : List Ch} (h : okAll l = true) : getC (putC l) = some l := by
  obtain ⟨h1, h2, h3⟩ := okAll_iff.1 h
  have e1 : rnum (putC l, true) 1 = ((cat l, true), l.length) := rnum_be (K := 1) (k := 1) (n := l.length) rfl _ (by omega) (by omega) (by omega)
  have e2 := reads_back l [] h1 l.length (Nat.le_refl _)
  rw [List.append_nil, List.drop_length, List.take_length] at e2
  unfold getC
  rw [e1]
  simp only [h2, h3, and_self, if_true, e2]
  simp [cat]
/-! ### the reference's way -/
end Go.Proofs.Ytpolpppnajfhdaa.Chg
/- Plain facts on states (layer 11): which there may be, what a change does, and that changes done in two parts are as done in one. No program is named here. -/
namespace Go.Proofs.Ytpolpppnajfhdaa.Bas
open Go.Proofs.Ytpolpppnajfhdaa.Oct Go.Proofs.Ytpolpppnajfhdaa.Lsa Go.Proofs.Ytpolpppnajfhdaa.Chg
/-- an Lsa: its origin, its number, its links -/
structure La where
  o : Int
  s : Int
  ls : List Lk
def laOk (a : La) : Bool := may a.o a.s a.ls
structure Sta where
  db : List La
  up : Int
  bo : Int
  ep : List (Int × Int)
/-- origins rise behind `last` -/
def dbOk : Int → List La → Bool
  | _, [] => true
  | last, a :: r => laOk a && (decide (last < a.o) && dbOk a.o r)
def epOne (last : Int) (e : Int × Int) : Bool := win e.1 64 && (win e.2 1073741824 && decide (last < e.1))
def epOk : Int → List (Int × Int) → Bool
  | _, [] => true
  | last, e :: r => epOne last e && epOk e.1 r
def seqOf : List La → Int → Int
  | [], _ => 0
  | a :: r, o => if a.o = o then a.s else seqOf r o
def getOf : List La → Int → La
  | [], _ => ⟨0, 0, []⟩
  | a :: r, o => if a.o = o then a else getOf r o
def epoch : List (Int × Int) → Int → Int
  | [], _ => 0
  | e :: r, o => if e.1 = o then e.2 else epoch r o
end Go.Proofs.Ytpolpppnajfhdaa.Bas
/- Plain facts on states (layer 11): nothing is less, or older, behind changes; the document's own ways of putting an Lsa and an epoch. No program is named here. -/
namespace Go.Proofs.Ytpolpppnajfhdaa.Bas
open Go.Proofs.Ytpolpppnajfhdaa.Oct Go.Proofs.Ytpolpppnajfhdaa.Lsa Go.Proofs.Ytpolpppnajfhdaa.Chg
/-! ### nothing is less, or older -/
def Up (s t : Sta) : Prop := (∀ o, seqOf s.db o < seqOf t.db o ∨ seqOf s.db o = seqOf t.db o ∧ getOf s.db o = getOf t.db o) ∧ (∀ o, epoch s.ep o ≤ epoch t.ep o) ∧ s.up ≤ t.up ∧ s.bo ≤ t.bo
theorem Up.refl (s : Sta) : Up s s := ⟨fun _ => .inr ⟨rfl, rfl⟩, fun _ => Int.le_refl _, Int.le_refl _, Int.le_refl _⟩
theorem Up.trans {s t u : Sta} (h : Up s t) (g : Up t u) : Up s u := by
  refine ⟨fun o => ?_, fun o => Int.le_trans (h.2.1 o) (g.2.1 o), Int.le_trans h.2.2.1 g.2.2.1, Int.le_trans h.2.2.2 g.2.2.2⟩
  rcases h.1 o with h1 | ⟨h1, h2⟩
  · rcases g.1 o with g1 | ⟨g1, g2⟩
    · exact .inl (by omega)
    · exact .inl (by omega)
  · rcases g.1 o with g1 | ⟨g1, g2⟩
    · exact .inl (by omega)
    · exact .inr ⟨h1.trans g1, h2.trans g2⟩
end Go.Proofs.Ytpolpppnajfhdaa.Bas
/- Plain facts on states (layer 11): their bytes, and that no two states that may be have the same. No program is named here. -/
namespace Go.Proofs.Ytpolpppnajfhdaa.Bas
open Go.Proofs.Ytpolpppnajfhdaa.Oct Go.Proofs.Ytpolpppnajfhdaa.Lsa Go.Proofs.Ytpolpppnajfhdaa.Chg
def laBytes (a : La) : List Nat := bytesOf a.o a.s a.ls
def dbBytes (db : List La) : List Nat := db.flatMap laBytes
/-- a link, or an epoch, whose bytes are told apart -/
def Fits (k : Lk) : Prop := (0 ≤ k.1 ∧ k.1 < 256) ∧ 0 ≤ k.2 ∧ k.2 < 4294967296
theorem dbOk_all : ∀ {db : List La} {last : Int}, dbOk last db = true → ∀ a ∈ db, laOk a = true
  | [], _, _, a, ha => by cases ha
  | b :: r, last, h, a, ha => by
    simp only [dbOk, Bool.and_eq_true] at h
    rcases List.mem_cons.1 ha with rfl | ha
    · exact h.1
    · exact dbOk_all h.2.2 a ha
theorem epOk_all : ∀ {l : List (Int × Int)} {last : Int}, epOk last l = true → ∀ a ∈ l, Fits a
  | [], _, _, a, ha => by cases ha
  | b :: r, last, h, a, ha => by
    simp only [epOk, epOne, Bool.and_eq_true, decide_eq_true_eq] at h
    rcases List.mem_cons.1 ha with rfl | ha
    · have h1 := win_iff.1 h.1.1
      have h2 := win_iff.1 h.1.2.1
      exact ⟨by omega, by omega⟩
    · exact epOk_all h.2 a ha
end Go.Proofs.Ytpolpppnajfhdaa.Bas
/- Plain facts on states (layer 11): how the document reads a state's bytes: what it finds is the one state whose bytes they are. No program is named here. -/
namespace Go.Proofs.Ytpolpppnajfhdaa.Bas
open Go.Proofs.Ytpolpppnajfhdaa.Oct Go.Proofs.Ytpolpppnajfhdaa.Lsa Go.Proofs.Ytpolpppnajfhdaa.Chg
theorem ep_all : ∀ {l : List (Int × Int)} {last : Int}, epOk last l = true → 0 ≤ last → ∀ a ∈ l, (1 ≤ a.1 ∧ a.1 ≤ 64) ∧ 1 ≤ a.2 ∧ a.2 ≤ 1073741824
  | [], _, _, _, a, ha => by cases ha
  | b :: r, last, h, h0, a, ha => by
    simp only [epOk, epOne, Bool.and_eq_true, decide_eq_true_eq] at h
    have h1 := win_iff.1 h.1.1
    have h2 := win_iff.1 h.1.2.1
    rcases List.mem_cons.1 ha with rfl | ha
    · exact ⟨h1, h2⟩
    · exact ep_all h.2 (by omega) a ha
end Go.Proofs.Ytpolpppnajfhdaa.Bas
/- Plain facts on states (layer 11): the document's loops over a state, step by step; nothing less, or older, said by a Bool. No program is named here. -/
namespace Go.Proofs.Ytpolpppnajfhdaa.Bas
open Go.Proofs.Ytpolpppnajfhdaa.Oct Go.Proofs.Ytpolpppnajfhdaa.Lsa Go.Proofs.Ytpolpppnajfhdaa.Chg
def zeroL : La := ⟨0, 0, []⟩
theorem dbOk_step (last : Int) (db : List La) (k : Nat) (h : k < db.length) : dbOk last (db.drop k) = (laOk (db.getD k zeroL) && (decide (last < (db.getD k zeroL).o) && dbOk (db.getD k zeroL).o (db.drop (k + 1)))) := by
  rw [drop_at db zeroL k h, dbOk]
/-- the origin ahead of a place; the node ahead -/
def lastO (db : List La) (k : Nat) : Int := if k = 0 then 0 else (db.getD (k - 1) zeroL).o
theorem dbBytes_succ (db : List La) (k : Nat) (h : k < db.length) : dbBytes (db.take (k + 1)) = dbBytes (db.take k) ++ laBytes (db.getD k zeroL) := by
  have e : db.take (k + 1) = db.take k ++ [db.getD k zeroL] := by
    rw [List.take_succ_eq_append_getElem h]
    simp [List.getD, List.getElem?_eq_getElem h]
  rw [e]
  unfold dbBytes
  rw [List.flatMap_append, List.flatMap_cons, List.flatMap_nil, List.append_nil]
/-! ### a change, by its kind -/
end Go.Proofs.Ytpolpppnajfhdaa.Bas
/- Plain facts on states (layer 11): which are alike, by a Bool. No program is named here. -/
namespace Go.Proofs.Ytpolpppnajfhdaa.Bas
open Go.Proofs.Ytpolpppnajfhdaa.Oct Go.Proofs.Ytpolpppnajfhdaa.Lsa Go.Proofs.Ytpolpppnajfhdaa.Chg
def sameL (a b : La) : Bool := smL a.o a.s a.ls b.o b.s b.ls
theorem sameL_iff {a b : La} : sameL a b = true ↔ a = b := by
  obtain ⟨o, s, ls⟩ := a
  obtain ⟨o', s', ls'⟩ := b
  simp [sameL, smL]
def sameDb : List La → List La → Bool
  | [], [] => true
  | a :: r, b :: q => sameL a b && sameDb r q
  | _, _ => false
theorem sameDb_iff : ∀ {d e : List La}, sameDb d e = true ↔ d = e
  | [], [] => by simp [sameDb]
  | [], b :: q => by simp [sameDb]
  | a :: r, [] => by simp [sameDb]
  | a :: r, b :: q => by
    simp only [sameDb, Bool.and_eq_true, sameL_iff, sameDb_iff (d := r) (e := q), List.cons.injEq]
theorem sameDb_step (d e : List La) (k : Nat) (h : k < d.length) (h' : k < e.length) : sameDb (d.drop k) (e.drop k) = (sameL (d.getD k zeroL) (e.getD k zeroL) && sameDb (d.drop (k + 1)) (e.drop (k + 1))) := by
  rw [drop_at d zeroL k h, drop_at e zeroL k h', sameDb]
end Go.Proofs.Ytpolpppnajfhdaa.Bas
/- Plain facts on rows whose nodes rise (layer 11): the place of a node, and what putting there makes. No program is named here. -/
namespace Go.Proofs.Ytpolpppnajfhdaa.Bas
open Go.Proofs.Ytpolpppnajfhdaa.Oct Go.Proofs.Ytpolpppnajfhdaa.Lsa Go.Proofs.Ytpolpppnajfhdaa.Chg
/-- behind how many a node stands -/
def Rank (n : Nat) (K : Nat → Int) (t : Int) (r : Nat) : Prop := r ≤ n ∧ (∀ j, j < r → K j < t) ∧ ∀ j, r ≤ j → j < n → t ≤ K j
theorem Rank.none {n : Nat} {K : Nat → Int} {t : Int} {r : Nat} (h : Rank n K t r) (hm : ∀ i j, i ≤ j → j < n → K i ≤ K j) (hne : r < n → K r ≠ t) : ∀ j, j < n → K j ≠ t := fun j hj e => by
  by_cases hjr : j < r
  · have := h.2.1 j hjr; omega
  · have h1 := h.2.2 r (Nat.le_refl _) (by omega)
    have h2 := hm r j (by omega) hj
    exact hne (by omega) (by omega)
end Go.Proofs.Ytpolpppnajfhdaa.Bas
/- Plain facts on states (layer 11): how the code reads a state's bytes, and that it finds what the document finds. No program is named here. -/
namespace Go.Proofs.Ytpolpppnajfhdaa.Bas
open Go.Proofs.Ytpolpppnajfhdaa.Oct Go.Proofs.Ytpolpppnajfhdaa.Lsa Go.Proofs.Ytpolpppnajfhdaa.Chg
def laOf (st : St) : La := ⟨(lsaO st).1, (lsaO st).2.1, (lsaO st).2.2⟩
/-- so many Lsas are read, the zero one where there is none -/
def rdbs (st : St) : Nat → St × List La
  | 0 => (st, [])
  | k + 1 => ((rAll (rdbs st k).1).1, (rdbs st k).2 ++ [laOf (rdbs st k).1])
theorem rdbs_len (st : St) : ∀ k, (rdbs st k).2.length = k
  | 0 => rfl
  | k + 1 => by rw [rdbs, List.length_append, rdbs_len st k]; rfl
theorem laOf_ok {st : St} (h : laOk (laOf st) = true) : rOk st = true ∧ laOf st = ⟨(rLsa st).1, (rLsa st).2.1, (rLsa st).2.2⟩ := by
  unfold laOf lsaO at h ⊢
  by_cases hr : rOk st = true
  · rw [if_pos hr]
    exact ⟨hr, rfl⟩
  · rw [if_neg hr] at h
    exact absurd h (by decide)
theorem rlks_bytes (st : St) (h : ∀ x ∈ st.1, x < 256) : ∀ k, ∀ x ∈ (rlks st k).1.1, x < 256
  | 0 => h
  | k + 1 => by
    rw [rlks]
    unfold rlk
    exact rnum_bytes (rnum_bytes (rlks_bytes st h k))
theorem rAll_bytes {st : St} (h : ∀ x ∈ st.1, x < 256) : ∀ x ∈ (rAll st).1.1, x < 256 := by
  have b3 : ∀ x ∈ (rMany st).1.1, x < 256 := rnum_bytes (rnum_bytes (rnum_bytes h))
  exact rlks_bytes _ b3 _
theorem rdbs_bytes {st : St} (h : ∀ x ∈ st.1, x < 256) : ∀ k, ∀ x ∈ (rdbs st k).1.1, x < 256
  | 0 => h
  | k + 1 => by
    rw [rdbs]
    exact rAll_bytes (rdbs_bytes h k)
theorem rdbs_sound {st : St} (h : ∀ x ∈ st.1, x < 256) : ∀ k, (rdbs st k).1.2 = true → (∀ a ∈ (rdbs st k).2, laOk a = true) → st.1 = dbBytes (rdbs st k).2 ++ (rdbs st k).1.1 ∧ st.2 = true
  | 0, ht, _ => ⟨by simp [rdbs, dbBytes], ht⟩
  | k + 1, ht, ha => by
    rw [rdbs] at ht ha ⊢
    simp only at ht ha ⊢
    obtain ⟨hk, hl⟩ := laOf_ok (ha (laOf (rdbs st k).1) (by simp))
    obtain ⟨e1, e2, _⟩ := lsa_sound (rdbs_bytes h k) hk
    obtain ⟨i1, i2⟩ := rdbs_sound h k e2 (fun a hm => ha a (by simp [hm]))
    refine ⟨?_, i2⟩
    have e3 : laBytes (laOf (rdbs st k).1) = bytesOf (rLsa (rdbs st k).1).1 (rLsa (rdbs st k).1).2.1 (rLsa (rdbs st k).1).2.2 := by rw [hl]; rfl
    rw [← e3] at e1
    have e4 : dbBytes ((rdbs st k).2 ++ [laOf (rdbs st k).1]) = dbBytes (rdbs st k).2 ++ laBytes (laOf (rdbs st k).1) := by
      unfold dbBytes
      rw [List.flatMap_append, List.flatMap_cons, List.flatMap_nil, List.append_nil]
    rw [e4, List.append_assoc, ← e1]
    exact i1
theorem rdbs_back (db : List La) (more : List Nat) (h : ∀ a ∈ db, laOk a = true) : ∀ k, k ≤ db.length → rdbs (dbBytes db ++ more, true) k = ((dbBytes (db.drop k) ++ more, true), db.take k)
  | 0, _ => by simp [rdbs]
  | k + 1, hk => by
    have hkl : k < db.length := by omega
    rw [rdbs, rdbs_back db more h k (by omega), drop_at db zeroL k hkl]
    have hm : db.getD k zeroL ∈ db := by
      simp only [List.getD, List.getElem?_eq_getElem hkl, Option.getD_some]
      exact List.getElem_mem _
    have ha := h _ hm
    have e1 : dbBytes (db.getD k zeroL :: db.drop (k + 1)) ++ more = laBytes (db.getD k zeroL) ++ (dbBytes (db.drop (k + 1)) ++ more) := by
      unfold dbBytes
      rw [List.flatMap_cons, List.append_assoc]
    have e2 : db.take (k + 1) = db.take k ++ [db.getD k zeroL] := by
      rw [List.take_succ_eq_append_getElem hkl]
      simp [List.getD, List.getElem?_eq_getElem hkl]
    rw [e1, e2]
    generalize db.getD k zeroL = a at *
    obtain ⟨o, s, ls⟩ := a
    obtain ⟨r1, r2, r3⟩ := read_back o s ls (dbBytes (db.drop (k + 1)) ++ more) ha
    have e3 : laOf (laBytes ⟨o, s, ls⟩ ++ (dbBytes (db.drop (k + 1)) ++ more), true) = ⟨o, s, ls⟩ := by
      show laOf (bytesOf o s ls ++ (dbBytes (db.drop (k + 1)) ++ more), true) = _
      unfold laOf lsaO
      rw [if_pos r3, r2]
    simp only
    rw [e3]
    show ((rAll (bytesOf o s ls ++ (dbBytes (db.drop (k + 1)) ++ more), true)).1, _) = _
    rw [r1]
theorem rnum_small {st : St} {k : Nat} {K : Int} (hK : K = (k : Int)) (h : ∀ x ∈ st.1, x < 256) : (rnum st K).2 < 256 ^ k := by
  subst hK
  unfold rnum
  split
  · have h1 := num_lt (st.1.take (k : Int).toNat) (fun x hx => h x (List.mem_of_mem_take hx))
    have h2 : (st.1.take (k : Int).toNat).length ≤ k := by rw [List.length_take]; simp; omega
    exact Nat.lt_of_lt_of_le h1 (Nat.pow_le_pow_right (by decide) h2)
  · exact Nat.pow_pos (by decide)
theorem sgn_back {n : Nat} (h : n < 18446744073709551616) (h0 : 0 ≤ sgn n) : (sgn n).toNat = n := by
  unfold sgn at h0 ⊢
  split
  · rw [Int.toNat_natCast]
  · next hc =>
    rw [if_neg hc] at h0
    omega
end Go.Proofs.Ytpolpppnajfhdaa.Bas
