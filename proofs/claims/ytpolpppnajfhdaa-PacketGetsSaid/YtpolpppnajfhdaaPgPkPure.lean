/- Packets as values (layer 14): which there may be, their bytes, and what is read of any bytes by the document's way. Pure. -/
import Derived.Test.YtpolpppnajfhdaaPgPureAll
import Derived.Test.YtpolpppnajfhdaaPgSeal
namespace Go.Proofs.Ytpolpppnajfhdaa.Pkt
open Go.Proofs.Ytpolpppnajfhdaa.Oct Go.Proofs.Ytpolpppnajfhdaa.Lsa Go.Proofs.Ytpolpppnajfhdaa.Bas
set_option linter.unusedVariables false
set_option linter.unusedSimpArgs false
structure Pk where
  k : Int
  f : Int
  b : Int
  t : Int
  tb : Int
  e : Int
  te : Int
  hd : List Lk
  it : List Lk
  ls : List La
def zeroP : Pk := ⟨0, 0, 0, 0, 0, 0, 0, [], [], []⟩
/-- items: origins rise -/
def itOne (last : Int) (x : Lk) : Bool := win x.1 64 && (win x.2 4611686018427387904 && decide (last < x.1))
def itOk : Int → List Lk → Bool
  | _, [] => true
  | last, x :: r => itOne last x && itOk x.1 r
/-- who and to whom -/
def ends (p : Pk) : Bool := win p.f 64 && (win p.t 64 && (!(p.f == p.t) && (win p.b 1073741824 && (decide (0 ≤ p.tb) && decide (p.tb ≤ 1073741824)))))
def hasE (p : Pk) : Bool := p.k == 2 || p.k == 3
def epochs (p : Pk) : Bool := (if hasE p then win p.e 1073741824 else p.e == 0) && (if p.k == 3 then win p.te 1073741824 else p.te == 0)
def kindOk (p : Pk) : Bool :=
  if p.k == 1 then decide (p.hd.length ≤ 16) && (decide (p.it.length = 0) && decide (p.ls.length = 0))
  else if p.k == 2 || p.k == 5 then decide (p.hd.length = 0) && decide (p.ls.length = 0)
  else if p.k == 3 then decide (p.hd.length = 0) && (decide (p.it.length = 0) && decide (p.ls.length = 0))
  else if p.k == 4 then decide (p.hd.length = 0) && (decide (p.it.length = 0) && (decide (1 ≤ p.ls.length) && decide (p.ls.length ≤ 8)))
  else false
def mayP (p : Pk) : Bool := ends p && (epOk 0 p.hd && (dbOk 0 p.ls && (itOk 0 p.it && (epochs p && kindOk p))))
theorem mayP_iff {p : Pk} : mayP p = true ↔ ends p = true ∧ epOk 0 p.hd = true ∧ dbOk 0 p.ls = true ∧ itOk 0 p.it = true ∧ epochs p = true ∧ kindOk p = true := by simp [mayP]
/-! ### its bytes -/
def itBytes (l : List Lk) : List Nat := l.flatMap fun x => be 1 x.1.toNat ++ be 8 x.2.toNat
def lsBytes (l : List La) : List Nat := l.flatMap fun a => bytesOf a.o a.s a.ls
def count (p : Pk) : Nat := p.hd.length + p.it.length + p.ls.length
def headP (p : Pk) : List Nat := be 1 p.k.toNat ++ (be 1 p.f.toNat ++ (be 4 p.b.toNat ++ (be 1 p.t.toNat ++ be 4 p.tb.toNat)))
def midP (p : Pk) : List Nat := (if hasE p then be 4 p.e.toNat else []) ++ (if p.k == 3 then be 4 p.te.toNat else be 1 (count p))
def bodyP (p : Pk) : List Nat := headP p ++ (midP p ++ (linkBytes p.hd ++ (itBytes p.it ++ lsBytes p.ls)))
def putP (p : Pk) : List Nat := Crc.sealed (bodyP p)
theorem itBytes_length (l : List Lk) : (itBytes l).length = 9 * l.length := by
  induction l with
  | nil => rfl
  | cons a r ih => simp [itBytes, be_length] at ih ⊢; omega
theorem itBytes_cons (a : Lk) (r : List Lk) : itBytes (a :: r) = be 1 a.1.toNat ++ (be 8 a.2.toNat ++ itBytes r) := by simp [itBytes]
theorem itBytes_app (l : List Lk) (a : Lk) : itBytes (l ++ [a]) = itBytes l ++ (be 1 a.1.toNat ++ be 8 a.2.toNat) := by simp [itBytes]
theorem lsBytes_cons (a : La) (r : List La) : lsBytes (a :: r) = bytesOf a.o a.s a.ls ++ lsBytes r := by simp [lsBytes]
theorem lsBytes_app (l : List La) (a : La) : lsBytes (l ++ [a]) = lsBytes l ++ bytesOf a.o a.s a.ls := by simp [lsBytes]
theorem app_lt {xs ys : List Nat} (h1 : ∀ x ∈ xs, x < 256) (h2 : ∀ x ∈ ys, x < 256) : ∀ x ∈ xs ++ ys, x < 256 := by
  intro x hx
  rcases List.mem_append.1 hx with h | h
  · exact h1 x h
  · exact h2 x h
theorem itBytes_lt (l : List Lk) : ∀ x ∈ itBytes l, x < 256 := by
  intro x hx
  unfold itBytes at hx
  obtain ⟨a, _, hx⟩ := List.mem_flatMap.1 hx
  exact app_lt (be_lt _ _) (be_lt _ _) x hx
theorem lsBytes_lt (l : List La) : ∀ x ∈ lsBytes l, x < 256 := by
  intro x hx
  unfold lsBytes at hx
  obtain ⟨a, _, hx⟩ := List.mem_flatMap.1 hx
  exact bytesOf_lt _ _ _ x hx
theorem headP_length (p : Pk) : (headP p).length = 11 := by simp [headP, be_length]
theorem midP_length (p : Pk) : (midP p).length = (if p.k == 2 then 5 else if p.k == 3 then 8 else 1) := by
  unfold midP hasE
  by_cases h2 : p.k = 2
  · simp [h2, be_length]
  · by_cases h3 : p.k = 3
    · simp [h3, be_length]
    · simp [h2, h3, be_length]
theorem bodyP_lt (p : Pk) : ∀ x ∈ bodyP p, x < 256 := by
  refine app_lt (app_lt (be_lt _ _) (app_lt (be_lt _ _) (app_lt (be_lt _ _) (app_lt (be_lt _ _) (be_lt _ _))))) (app_lt (app_lt ?_ ?_) (app_lt (linkBytes_lt _) (app_lt (itBytes_lt _) (lsBytes_lt _))))
  · split
    · exact be_lt _ _
    · simp
  · split <;> exact be_lt _ _
theorem putP_lt (p : Pk) : ∀ x ∈ putP p, x < 256 := Crc.sealed_lt (bodyP_lt p)
theorem putP_length (p : Pk) : (putP p).length = (bodyP p).length + 4 := by simp [putP, Crc.sealed, Crc.tail4]
/-! ### what bytes say, by the document's way -/
/-- so many bytes at a place, as a number; 0, if they are not there -/
def numAt (xs : List Nat) (a w : Nat) : Int := (rnum (xs.drop a, true) (w : Int)).2
def hdAt (xs : List Nat) (a : Nat) : Lk := ((xs.getD a 0 : Nat), numAt xs (a + 1) 4)
def itAt (xs : List Nat) (a : Nat) : Lk := ((xs.getD a 0 : Nat), sgn (rnum (xs.drop (a + 1), true) 8).2)
/-- so many of them, as long as there are bytes -/
def hds (xs : List Nat) : Nat → Nat → List Lk → List Lk
  | 0, _, l => l
  | m + 1, a, l => if a < xs.length then hds xs m (a + 5) (l ++ [hdAt xs a]) else l
def its (xs : List Nat) : Nat → Nat → List Lk → List Lk
  | 0, _, l => l
  | m + 1, a, l => if a < xs.length then its xs m (a + 9) (l ++ [itAt xs a]) else l
def lss (xs : List Nat) : Nat → Nat → List La → Option (List La)
  | 0, _, l => some l
  | m + 1, a, l => if a < xs.length then (if isAt (xs.drop a) = true then lss xs m (a + (10 + 5 * many (xs.drop a))) (l ++ [⟨(lsaAt (xs.drop a)).1, (lsaAt (xs.drop a)).2.1, (lsaAt (xs.drop a)).2.2⟩]) else none) else some l
def kOf (xs : List Nat) : Nat := xs.getD 0 0
def atOf (xs : List Nat) : Nat := if kOf xs = 2 ∨ kOf xs = 3 then 16 else 12
def manyOf (xs : List Nat) : Nat := if kOf xs = 3 then 0 else if kOf xs = 2 ∧ 15 < xs.length then xs.getD 15 0 else xs.getD 11 0
def baseP (xs : List Nat) : Pk := ⟨(kOf xs : Nat), (xs.getD 1 0 : Nat), numAt xs 2 4, (xs.getD 6 0 : Nat), numAt xs 7 4, if kOf xs = 2 ∨ kOf xs = 3 then numAt xs 11 4 else 0, if kOf xs = 3 then numAt xs 15 4 else 0, [], [], []⟩
def readP (xs : List Nat) : Option Pk :=
  if kOf xs = 1 then some { baseP xs with hd := hds xs (manyOf xs) (atOf xs) [] }
  else if kOf xs = 4 then (lss xs (manyOf xs) (atOf xs) []).map fun l => { baseP xs with ls := l }
  else some { baseP xs with it := its xs (manyOf xs) (atOf xs) [] }
def getP (xs : List Nat) : Option Pk := if xs.length < 15 then none else (readP xs).bind fun p => if mayP p = true ∧ putP p = xs then some p else none
theorem getP_sound {xs : List Nat} {p : Pk} (h : getP xs = some p) : mayP p = true ∧ putP p = xs := by
  unfold getP at h
  split at h
  · cases h
  · cases hr : readP xs with
    | none => rw [hr] at h; cases h
    | some q =>
      rw [hr] at h
      simp only [Option.bind_some] at h
      split at h
      · next hc => injection h with h; subst h; exact hc
      · cases h
/-! ### what is put is read -/
theorem getD_app_r {xs ys : List Nat} {i : Nat} (h : xs.length ≤ i) : (xs ++ ys).getD i 0 = ys.getD (i - xs.length) 0 := by simp [List.getD, List.getElem?_append_right h]
theorem drop_app {xs ys : List Nat} {n : Nat} (h : n = xs.length) : (xs ++ ys).drop n = ys := by subst h; simp
theorem be1_get (n : Nat) (ys : List Nat) (h : n < 256) : (be 1 n ++ ys).getD 0 0 = n := by
  have : be 1 n = [n % 256] := by simp [be]
  rw [this]
  simp
  omega
theorem num_at {k n : Nat} {xs more : List Nat} (h : xs = be k n ++ more) (h1 : 1 ≤ k) (h8 : k ≤ 8) (hn : n < 256 ^ k) : (rnum (xs, true) (k : Int)).2 = n := by
  rw [h, rnum_be rfl more h1 h8 hn]
theorem hds_back (pre more : List Nat) (hm : more ≠ []) : ∀ (l acc : List Lk) (k : Nat) (a : Nat) (xs : List Nat), epOk 0 l = true ∨ (∃ c, epOk c l = true) → xs.drop a = linkBytes l ++ more → k = l.length → hds xs k a acc = acc ++ l
  | [], acc, k, a, xs, _, _, hk => by subst hk; simp [hds]
  | x :: r, acc, k, a, xs, ho, hx, hk => by
    subst hk
    have ho : ∃ c, epOk c (x :: r) = true := ho.elim (fun h => ⟨0, h⟩) id
    obtain ⟨c, ho⟩ := ho
    simp only [epOk, epOne, Lsa.win, Bool.and_eq_true, decide_eq_true_eq] at ho
    have hlb : linkBytes (x :: r) = be 1 x.1.toNat ++ (be 4 x.2.toNat ++ linkBytes r) := by simp [linkBytes, lkBytes]
    rw [hlb] at hx
    have hal : a < xs.length := by
      have := congrArg List.length hx
      simp only [List.length_drop, List.length_append, be_length] at this
      omega
    have h0 : xs.getD a 0 = x.1.toNat := by
      have : (xs.drop a).getD 0 0 = xs.getD a 0 := by simp [List.getD]
      rw [← this, hx, List.append_assoc, List.append_assoc]
      exact be1_get _ _ (by omega)
    have h1 : xs.drop (a + 1) = be 4 x.2.toNat ++ (linkBytes r ++ more) := by
      have : xs.drop (a + 1) = (xs.drop a).drop 1 := by rw [List.drop_drop]
      rw [this, hx, List.append_assoc, List.append_assoc]
      exact drop_app (by simp [be_length])
    have h5 : xs.drop (a + 5) = linkBytes r ++ more := by
      have : xs.drop (a + 5) = (xs.drop (a + 1)).drop 4 := by rw [List.drop_drop]
      rw [this, h1]
      exact drop_app (by simp [be_length])
    have e : hdAt xs a = x := by
      unfold hdAt numAt
      rw [h0, num_at (k := 4) (n := x.2.toNat) h1 (by omega) (by omega) (by omega)]
      exact Prod.ext (by simp only; omega) (by simp only; omega)
    rw [List.length_cons, hds, if_pos hal, e, hds_back pre more hm r (acc ++ [x]) r.length (a + 5) xs (.inr ⟨_, ho.2⟩) h5 rfl]
    simp
end Go.Proofs.Ytpolpppnajfhdaa.Pkt
