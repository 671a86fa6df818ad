/- Plain facts on Lsas (layer 9): which there may be, their bytes, how they are read, and that what is put is read. No program is named here. -/
import Derived.Test.YtpolpppnajfhdaaPure
namespace Go.Proofs.Ytpolpppnajfhdaa.Lsa
open Go.Proofs.Ytpolpppnajfhdaa.Oct
abbrev Lk := Int × Int
def win (n hi : Int) : Bool := decide (1 ≤ n) && decide (n ≤ hi)
theorem win_iff {n hi : Int} : win n hi = true ↔ 1 ≤ n ∧ n ≤ hi := by simp [win]
def lkOk (o last : Int) (k : Lk) : Bool := win k.1 64 && (!decide (k.1 ≤ last) && (!(k.1 == o) && win k.2 1073741824))
def linksOk (o : Int) : Int → List Lk → Bool
  | _, [] => true
  | last, k :: r => lkOk o last k && linksOk o k.1 r
def may (o s : Int) (ls : List Lk) : Bool := win o 64 && (win s 4611686018427387904 && (decide (ls.length ≤ 16) && linksOk o 0 ls))
theorem lkOk_iff {o last : Int} {k : Lk} : lkOk o last k = true ↔ (1 ≤ k.1 ∧ k.1 ≤ 64) ∧ last < k.1 ∧ k.1 ≠ o ∧ 1 ≤ k.2 ∧ k.2 ≤ 1073741824 := by
  simp [lkOk, win]
theorem may_iff {o s : Int} {ls : List Lk} : may o s ls = true ↔ (1 ≤ o ∧ o ≤ 64) ∧ (1 ≤ s ∧ s ≤ 4611686018427387904) ∧ ls.length ≤ 16 ∧ linksOk o 0 ls = true := by
  simp [may, win]
theorem linksOk_all {o : Int} : ∀ {ls : List Lk} {last : Int}, linksOk o last ls = true → ∀ k ∈ ls, (1 ≤ k.1 ∧ k.1 ≤ 64) ∧ 1 ≤ k.2 ∧ k.2 ≤ 1073741824
  | [], _, _, k, hk => by simp at hk
  | x :: r, last, h, k, hk => by
    simp only [linksOk, Bool.and_eq_true] at h
    have hx := lkOk_iff.1 h.1
    rcases List.mem_cons.1 hk with rfl | hk
    · exact ⟨hx.1, hx.2.2.2⟩
    · exact linksOk_all h.2 k hk
theorem drop_at {α : Type} (ls : List α) (d : α) (k : Nat) (h : k < ls.length) : ls.drop k = ls.getD k d :: ls.drop (k + 1) := by
  rw [List.drop_eq_getElem_cons h]
  simp [List.getD, List.getElem?_eq_getElem h]
theorem linksOk_step (o last : Int) (ls : List Lk) (k : Nat) (h : k < ls.length) : linksOk o last (ls.drop k) = (lkOk o last (ls.getD k (0, 0)) && linksOk o (ls.getD k (0, 0)).1 (ls.drop (k + 1))) := by
  rw [drop_at ls (0, 0) k h, linksOk]
/-- the last To ahead of a place -/
def lastOf (ls : List Lk) (k : Nat) : Int := if k = 0 then 0 else (ls.getD (k - 1) (0, 0)).1
theorem lastOf_succ (ls : List Lk) (k : Nat) : lastOf ls (k + 1) = (ls.getD k (0, 0)).1 := by simp [lastOf]
/-- the bytes of a link; of an Lsa -/
def lkBytes (k : Lk) : List Nat := be 1 k.1.toNat ++ be 4 k.2.toNat
def linkBytes (ls : List Lk) : List Nat := ls.flatMap lkBytes
theorem lkBytes_length (k : Lk) : (lkBytes k).length = 5 := by simp [lkBytes, be_length]
theorem linkBytes_length (ls : List Lk) : (linkBytes ls).length = 5 * ls.length := by
  unfold linkBytes
  induction ls with
  | nil => rfl
  | cons k r ih => rw [List.flatMap_cons, List.length_append, ih, lkBytes_length, List.length_cons]; omega
def headBytes (o s : Int) (n : Nat) : List Nat := be 1 o.toNat ++ be 8 s.toNat ++ be 1 n
def bytesOf (o s : Int) (ls : List Lk) : List Nat := headBytes o s ls.length ++ linkBytes ls
theorem headBytes_length (o s : Int) (n : Nat) : (headBytes o s n).length = 10 := by simp [headBytes, be_length]
theorem bytesOf_length (o s : Int) (ls : List Lk) : (bytesOf o s ls).length = 10 + 5 * ls.length := by
  rw [bytesOf, List.length_append, headBytes_length, linkBytes_length]
theorem lkBytes_lt (k : Lk) : ∀ x ∈ lkBytes k, x < 256 := by
  intro x hx
  rcases List.mem_append.1 hx with h | h <;> exact be_lt _ _ x h
theorem linkBytes_lt (ls : List Lk) : ∀ x ∈ linkBytes ls, x < 256 := by
  intro x hx
  obtain ⟨k, _, hk⟩ := List.mem_flatMap.1 hx
  exact lkBytes_lt k x hk
theorem headBytes_lt (o s : Int) (n : Nat) : ∀ x ∈ headBytes o s n, x < 256 := by
  intro x hx
  rcases List.mem_append.1 hx with h | h
  · rcases List.mem_append.1 h with h | h <;> exact be_lt _ _ x h
  · exact be_lt _ _ x h
theorem bytesOf_lt (o s : Int) (ls : List Lk) : ∀ x ∈ bytesOf o s ls, x < 256 := by
  intro x hx
  rcases List.mem_append.1 hx with h | h
  · exact headBytes_lt _ _ _ x h
  · exact linkBytes_lt _ x h
theorem linkBytes_succ (ls : List Lk) (k : Nat) (h : k < ls.length) : linkBytes (ls.take (k + 1)) = linkBytes (ls.take k) ++ lkBytes (ls.getD k (0, 0)) := by
  unfold linkBytes
  rw [List.take_succ_eq_append_getElem h, List.flatMap_append]
  simp [List.getD, List.getElem?_eq_getElem h]
theorem put_head (xs : List Nat) (o s : Int) (n : Nat) : putNum (putNum (putNum xs 1 o.toNat) 8 s.toNat) 1 n = xs ++ headBytes o s n := by
  simp [putNum, isW, headBytes]
theorem put_link (xs : List Nat) (k : Lk) : putNum (putNum xs 1 k.1.toNat) 4 k.2.toNat = xs ++ lkBytes k := by
  simp [putNum, isW, lkBytes]
/-! ### reading -/
def rlk (p : St × List Lk) : St × List Lk := ((rnum (rnum p.1 1).1 4).1, p.2 ++ [((((rnum p.1 1).2 : Nat) : Int), (((rnum (rnum p.1 1).1 4).2 : Nat) : Int))])
def rlks (st : St) : Nat → St × List Lk
  | 0 => (st, [])
  | k + 1 => rlk (rlks st k)
theorem rlks_len (st : St) (k : Nat) : (rlks st k).2.length = k := by
  induction k with
  | zero => rfl
  | succ k ih => simp [rlks, rlk, ih]
/-- a 64-bit number without sign as one with a sign -/
def sgn (n : Nat) : Int := if n < 9223372036854775808 then n else (n : Int) - 18446744073709551616
def rOri (st : St) : St × Nat := rnum st 1
def rSeq (st : St) : St × Nat := rnum (rOri st).1 8
def rMany (st : St) : St × Nat := rnum (rSeq st).1 1
def rAll (st : St) : St × List Lk := rlks (rMany st).1 (rMany st).2
/-- the Lsa that is read next: its origin, its number, its links -/
def rLsa (st : St) : Int × Int × List Lk := (((rOri st).2 : Nat), sgn (rSeq st).2, (rAll st).2)
def rOk (st : St) : Bool := (rAll st).1.2 && may (rLsa st).1 (rLsa st).2.1 (rLsa st).2.2
theorem rnum_at {xs : List Nat} {k : Nat} {K : Int} (hK : K = (k : Int)) (h : k ≤ xs.length) (h1 : 1 ≤ k) (h8 : k ≤ 8) : rnum (xs, true) K = ((xs.drop k, true), num (xs.take k)) := by
  subst hK
  unfold rnum
  rw [if_pos (by simp [isW_of h1 h8, h])]
  simp
theorem rnum_short {xs : List Nat} {s : Bool} {k : Nat} {K : Int} (hK : K = (k : Int)) (h : xs.length < k) : rnum (xs, s) K = ((xs, false), 0) := by
  subst hK
  unfold rnum
  rw [if_neg]
  simp
  omega
theorem rnum_spoilt {xs : List Nat} (k : Int) : rnum (xs, false) k = ((xs, false), 0) := by
  unfold rnum
  rw [if_neg (by simp)]
theorem rlk_spoilt (xs : List Nat) (l : List Lk) : (rlk ((xs, false), l)).1.2 = false := by
  simp [rlk, rnum_spoilt]
theorem rlks_false (st : St) (h : st.2 = false) : ∀ k, (rlks st k).1.2 = false
  | 0 => h
  | k + 1 => by
    have ih := rlks_false st h k
    rw [rlks]
    generalize rlks st k = q at *
    obtain ⟨⟨ys, s⟩, l⟩ := q
    simp only at ih
    subst ih
    exact rlk_spoilt _ _
/-- the link at a place of bytes -/
def lkAt (xs : List Nat) (i : Nat) : Lk := ((num ((xs.drop (5 * i)).take 1) : Nat), (num ((xs.drop (5 * i + 1)).take 4) : Nat))
theorem rlks_at (xs : List Nat) : ∀ k, 5 * k ≤ xs.length → rlks (xs, true) k = ((xs.drop (5 * k), true), (List.range k).map (lkAt xs))
  | 0, _ => by simp [rlks]
  | k + 1, h => by
    rw [rlks, rlks_at xs k (by omega), rlk]
    have e1 := rnum_at (xs := xs.drop (5 * k)) (K := 1) (k := 1) rfl (by rw [List.length_drop]; omega) (by omega) (by omega)
    have e2 := rnum_at (xs := (xs.drop (5 * k)).drop 1) (K := 4) (k := 4) rfl (by simp only [List.length_drop]; omega) (by omega) (by omega)
    simp only [List.drop_drop] at e1 e2
    simp only [e1, e2, List.range_succ, List.map_append, List.map_cons, List.map_nil, lkAt]
    rw [show 5 * k + 1 + 4 = 5 * (k + 1) by omega]
theorem rlks_short (xs : List Nat) : ∀ k, xs.length < 5 * k → (rlks (xs, true) k).1.2 = false
  | 0, h => absurd h (by omega)
  | k + 1, h => by
    by_cases hk : 5 * k ≤ xs.length
    · rw [rlks, rlks_at xs k hk, rlk]
      by_cases h1 : 5 * k + 1 ≤ xs.length
      · have e1 := rnum_at (xs := xs.drop (5 * k)) (K := 1) (k := 1) rfl (by rw [List.length_drop]; omega) (by omega) (by omega)
        have e2 := rnum_short (xs := (xs.drop (5 * k)).drop 1) (s := true) (K := 4) (k := 4) rfl (by simp only [List.length_drop]; omega)
        simp only [e1, e2]
      · have e1 := rnum_short (xs := xs.drop (5 * k)) (s := true) (K := 1) (k := 1) rfl (by rw [List.length_drop]; omega)
        simp only [e1, rnum_spoilt]
    · have ih := rlks_short xs k (by omega)
      rw [rlks]
      generalize rlks (xs, true) k = q at *
      obtain ⟨⟨ys, s⟩, l⟩ := q
      simp only at ih
      subst ih
      exact rlk_spoilt _ _
/-- the whole, of bytes that are long enough -/
theorem head_at {xs : List Nat} (h : 10 ≤ xs.length) : rOri (xs, true) = ((xs.drop 1, true), num (xs.take 1)) ∧ rSeq (xs, true) = ((xs.drop 9, true), num ((xs.drop 1).take 8)) ∧ rMany (xs, true) = ((xs.drop 10, true), num ((xs.drop 9).take 1)) := by
  have e1 := rnum_at (xs := xs) (K := 1) (k := 1) rfl (by omega) (by omega) (by omega)
  have e2 := rnum_at (xs := xs.drop 1) (K := 8) (k := 8) rfl (by rw [List.length_drop]; omega) (by omega) (by omega)
  have e3 := rnum_at (xs := xs.drop 9) (K := 1) (k := 1) rfl (by rw [List.length_drop]; omega) (by omega) (by omega)
  simp only [List.drop_drop] at e1 e2 e3
  refine ⟨e1, ?_, ?_⟩
  · rw [rSeq, rOri, e1]; exact e2
  · rw [rMany, rSeq, rOri, e1]; simp only; rw [e2]; exact e3
theorem head_short {xs : List Nat} (h : xs.length < 10) : (rMany (xs, true)).1.2 = false := by
  by_cases h1 : xs.length < 1
  · have e1 := rnum_short (xs := xs) (s := true) (K := 1) (k := 1) rfl h1
    simp only [rMany, rSeq, rOri, e1, rnum_spoilt]
  · have e1 := rnum_at (xs := xs) (K := 1) (k := 1) rfl (by omega) (by omega) (by omega)
    by_cases h2 : xs.length < 9
    · have e2 := rnum_short (xs := xs.drop 1) (s := true) (K := 8) (k := 8) rfl (by rw [List.length_drop]; omega)
      simp only [rMany, rSeq, rOri, e1, e2, rnum_spoilt]
    · have e2 := rnum_at (xs := xs.drop 1) (K := 8) (k := 8) rfl (by rw [List.length_drop]; omega) (by omega) (by omega)
      have e3 := rnum_short (xs := xs.drop 9) (s := true) (K := 1) (k := 1) rfl (by rw [List.length_drop]; omega)
      simp only [List.drop_drop] at e2 e3
      simp only [rMany, rSeq, rOri, e1, e2, e3]
def many (xs : List Nat) : Nat := num ((xs.drop 9).take 1)
def linksAt (xs : List Nat) : List Lk := (List.range (many xs)).map (lkAt (xs.drop 10))
def lsaAt (xs : List Nat) : Int × Int × List Lk := ((num (xs.take 1) : Nat), sgn (num ((xs.drop 1).take 8)), linksAt xs)
/-- is one there in whole, that may be? -/
def isAt (xs : List Nat) : Bool := decide (10 ≤ xs.length) && (decide (10 + 5 * many xs ≤ xs.length) && may (lsaAt xs).1 (lsaAt xs).2.1 (lsaAt xs).2.2)
theorem rAll_at {xs : List Nat} (h : 10 ≤ xs.length) (h' : 10 + 5 * many xs ≤ xs.length) : rAll (xs, true) = ((xs.drop (10 + 5 * many xs), true), linksAt xs) ∧ rLsa (xs, true) = lsaAt xs := by
  obtain ⟨e1, e2, e3⟩ := head_at h
  have e4 := rlks_at (xs.drop 10) (many xs) (by rw [List.length_drop]; omega)
  have e5 : rAll (xs, true) = ((xs.drop (10 + 5 * many xs), true), linksAt xs) := by
    rw [rAll, e3]
    show rlks (xs.drop 10, true) (many xs) = _
    rw [e4, List.drop_drop]
    rfl
  refine ⟨e5, ?_⟩
  rw [rLsa, e5, e1, e2]
  rfl
theorem rOk_at (xs : List Nat) : rOk (xs, true) = isAt xs := by
  unfold rOk isAt
  by_cases h : 10 ≤ xs.length
  · by_cases h' : 10 + 5 * many xs ≤ xs.length
    · obtain ⟨e1, e2⟩ := rAll_at h h'
      rw [e1, e2]
      simp [h, h']
    · obtain ⟨_, _, e3⟩ := head_at h
      have : (rAll (xs, true)).1.2 = false := by
        rw [rAll, e3]
        exact rlks_short (xs.drop 10) (many xs) (by rw [List.length_drop]; omega)
      rw [this]
      simp [h']
  · have : (rAll (xs, true)).1.2 = false := by
      rw [rAll]
      exact rlks_false _ (head_short (by omega)) _
    rw [this]
    simp [h]
/-! ### what is put is read -/
theorem num_be1 {n : Nat} (h : n < 256) : num (be 1 n) = n := by rw [num_be]; omega
theorem num_be4 {n : Nat} (h : n < 4294967296) : num (be 4 n) = n := by rw [num_be]; omega
theorem num_be8 {n : Nat} (h : n < 18446744073709551616) : num (be 8 n) = n := by rw [num_be]; omega
theorem rnum_be {k n : Nat} {K : Int} (hK : K = (k : Int)) (xs : List Nat) (h1 : 1 ≤ k) (h8 : k ≤ 8) (hn : n < 256 ^ k) : rnum (be k n ++ xs, true) K = ((xs, true), n) := by
  rw [rnum_at hK (by simp [be_length]) h1 h8, List.drop_left' (be_length k n), List.take_left' (be_length k n), num_be, Nat.mod_eq_of_lt hn]
theorem rlk_back (k : Lk) (xs : List Nat) (l : List Lk) (h1 : 0 ≤ k.1) (h1' : k.1 < 256) (h2 : 0 ≤ k.2) (h2' : k.2 < 4294967296) : rlk ((lkBytes k ++ xs, true), l) = ((xs, true), l ++ [k]) := by
  obtain ⟨a, b⟩ := k
  simp only at h1 h1' h2 h2'
  have e1 := rnum_be (K := 1) (k := 1) (n := a.toNat) rfl (be 4 b.toNat ++ xs) (by omega) (by omega) (by omega)
  have e2 := rnum_be (K := 4) (k := 4) (n := b.toNat) rfl xs (by omega) (by omega) (by omega)
  simp only [rlk, lkBytes, List.append_assoc, e1, e2, Int.toNat_of_nonneg h1, Int.toNat_of_nonneg h2]
theorem rlks_back (ls : List Lk) (more : List Nat) (hk : ∀ k ∈ ls, (1 ≤ k.1 ∧ k.1 ≤ 64) ∧ 1 ≤ k.2 ∧ k.2 ≤ 1073741824) : ∀ k, k ≤ ls.length → rlks (linkBytes ls ++ more, true) k = ((linkBytes (ls.drop k) ++ more, true), ls.take k)
  | 0, _ => by simp [rlks]
  | k + 1, h => by
    rw [rlks, rlks_back ls more hk k (by omega), drop_at ls (0, 0) k (by omega)]
    have hm : ls.getD k (0, 0) ∈ ls := by
      simp only [List.getD, List.getElem?_eq_getElem (show k < ls.length by omega), Option.getD_some]
      exact List.getElem_mem _
    have hb := hk _ hm
    rw [show linkBytes (ls.getD k (0, 0) :: ls.drop (k + 1)) ++ more = lkBytes (ls.getD k (0, 0)) ++ (linkBytes (ls.drop (k + 1)) ++ more) by simp [linkBytes]]
    rw [rlk_back _ _ _ (by omega) (by omega) (by omega) (by omega), List.take_succ_eq_append_getElem (show k < ls.length by omega)]
    simp [List.getD, List.getElem?_eq_getElem (show k < ls.length by omega)]
theorem read_back (o s : Int) (ls : List Lk) (more : List Nat) (h : may o s ls = true) : rAll (bytesOf o s ls ++ more, true) = ((more, true), ls) ∧ rLsa (bytesOf o s ls ++ more, true) = (o, s, ls) ∧ rOk (bytesOf o s ls ++ more, true) = true := by
  obtain ⟨h1, h2, h3, h4⟩ := may_iff.1 h
  have e0 : bytesOf o s ls ++ more = be 1 o.toNat ++ (be 8 s.toNat ++ (be 1 ls.length ++ (linkBytes ls ++ more))) := by simp [bytesOf, headBytes]
  have e1 := rnum_be (K := 1) (k := 1) (n := o.toNat) rfl (be 8 s.toNat ++ (be 1 ls.length ++ (linkBytes ls ++ more))) (by omega) (by omega) (by omega)
  have e2 := rnum_be (K := 8) (k := 8) (n := s.toNat) rfl (be 1 ls.length ++ (linkBytes ls ++ more)) (by omega) (by omega) (by omega)
  have e3 := rnum_be (K := 1) (k := 1) (n := ls.length) rfl (linkBytes ls ++ more) (by omega) (by omega) (by omega)
  have e4 := rlks_back ls more (linksOk_all h4) ls.length (Nat.le_refl _)
  have e5 : rAll (bytesOf o s ls ++ more, true) = ((more, true), ls) := by
    rw [e0]
    simp only [rAll, rMany, rSeq, rOri, e1, e2, e3, e4]
    simp [linkBytes]
  have e6 : rLsa (bytesOf o s ls ++ more, true) = (o, s, ls) := by
    rw [rLsa, e5, e0]
    simp only [rSeq, rOri, e1, e2, sgn]
    rw [if_pos (by omega), Int.toNat_of_nonneg (by omega), Int.toNat_of_nonneg (by omega)]
  refine ⟨e5, e6, ?_⟩
  rw [rOk, e5, e6]
  simp [h]
theorem sgn_lt {n : Nat} (h : n < 18446744073709551616) : -9223372036854775808 ≤ sgn n ∧ sgn n ≤ 9223372036854775807 := by
  unfold sgn
  split <;> omega
end Go.Proofs.Ytpolpppnajfhdaa.Lsa
