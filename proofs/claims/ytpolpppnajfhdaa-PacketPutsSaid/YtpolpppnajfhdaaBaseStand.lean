/- Plain facts on rows whose nodes rise (layer 11): the place of a node, and what putting there makes. No program is named here. -/
import Derived.Test.YtpolpppnajfhdaaBaseSame
namespace Go.Proofs.Ytpolpppnajfhdaa.Bas
open Go.Proofs.Ytpolpppnajfhdaa.Oct Go.Proofs.Ytpolpppnajfhdaa.Lsa Go.Proofs.Ytpolpppnajfhdaa.Chg
/-- behind how many a node stands -/
def Rank (n : Nat) (K : Nat → Int) (t : Int) (r : Nat) : Prop := r ≤ n ∧ (∀ j, j < r → K j < t) ∧ ∀ j, r ≤ j → j < n → t ≤ K j
theorem Rank.tail {n : Nat} {K : Nat → Int} {t : Int} {r : Nat} (h : Rank (n + 1) K t (r + 1)) : Rank n (fun j => K (j + 1)) t r :=
  ⟨by have := h.1; omega, fun j hj => h.2.1 (j + 1) (by omega), fun j h1 h2 => h.2.2 (j + 1) (by omega) (by omega)⟩
def kL (db : List La) (j : Nat) : Int := (db.getD j zeroL).o
def kE (l : List (Int × Int)) (j : Nat) : Int := (l.getD j (0, 0)).1
theorem putOf_found {l : La} : ∀ {db : List La} {r : Nat}, Rank db.length (kL db) l.o r → r < db.length → kL db r = l.o → putOf db l = db.set r l
  | [], r, _, hr, _ => absurd hr (by simp)
  | a :: db, 0, h, hr, e => by
    have e : a.o = l.o := e
    unfold putOf
    rw [if_neg (by omega), if_pos e]
    rfl
  | a :: db, r + 1, h, hr, e => by
    have h0 : a.o < l.o := h.2.1 0 (by omega)
    have ih := putOf_found (db := db) (r := r) (l := l) h.tail (by simpa using hr) e
    unfold putOf
    rw [if_pos h0, ih]
    rfl
theorem putOf_new {l : La} : ∀ {db : List La} {r : Nat}, Rank db.length (kL db) l.o r → (r < db.length → kL db r ≠ l.o) → putOf db l = db.take r ++ (l :: db.drop r)
  | [], r, h, _ => by
    have : r = 0 := by have := h.1; simpa using this
    subst this
    rfl
  | a :: db, 0, h, e => by
    have e : a.o ≠ l.o := e (by simp)
    have h0 : l.o ≤ a.o := h.2.2 0 (by omega) (by simp)
    unfold putOf
    rw [if_neg (by omega), if_neg e]
    rfl
  | a :: db, r + 1, h, e => by
    have h0 : a.o < l.o := h.2.1 0 (by omega)
    have ih := putOf_new (db := db) (r := r) (l := l) h.tail (fun hr => e (by simpa using hr))
    unfold putOf
    rw [if_pos h0, ih]
    rfl
theorem seqOf_found {o : Int} : ∀ {db : List La} {r : Nat}, Rank db.length (kL db) o r → r < db.length → kL db r = o → seqOf db o = (db.getD r zeroL).s
  | [], r, _, hr, _ => absurd hr (by simp)
  | a :: db, 0, h, hr, e => by
    have e : a.o = o := e
    unfold seqOf
    rw [if_pos e]
    rfl
  | a :: db, r + 1, h, hr, e => by
    have h0 : a.o < o := h.2.1 0 (by omega)
    have ih := seqOf_found (db := db) (r := r) (o := o) h.tail (by simpa using hr) e
    unfold seqOf
    rw [if_neg (by omega), ih]
    rfl
theorem seqOf_none {o : Int} : ∀ {db : List La}, (∀ j, j < db.length → kL db j ≠ o) → seqOf db o = 0
  | [], _ => rfl
  | a :: db, h => by
    unfold seqOf
    rw [if_neg (show a.o ≠ o from h 0 (by simp)), seqOf_none (fun j hj => h (j + 1) (by simpa using hj))]
theorem Rank.none {n : Nat} {K : Nat → Int} {t : Int} {r : Nat} (h : Rank n K t r) (hm : ∀ i j, i ≤ j → j < n → K i ≤ K j) (hne : r < n → K r ≠ t) : ∀ j, j < n → K j ≠ t := fun j hj e => by
  by_cases hjr : j < r
  · have := h.2.1 j hjr; omega
  · have h1 := h.2.2 r (Nat.le_refl _) (by omega)
    have h2 := hm r j (by omega) hj
    exact hne (by omega) (by omega)
theorem putEp_found {x : Int × Int} : ∀ {l : List (Int × Int)} {r : Nat}, Rank l.length (kE l) x.1 r → r < l.length → kE l r = x.1 → putEp l x = l.set r x
  | [], r, _, hr, _ => absurd hr (by simp)
  | a :: l, 0, h, hr, e => by
    have e : a.1 = x.1 := e
    unfold putEp
    rw [if_neg (by omega), if_pos e]
    rfl
  | a :: l, r + 1, h, hr, e => by
    have h0 : a.1 < x.1 := h.2.1 0 (by omega)
    have ih := putEp_found (l := l) (r := r) (x := x) h.tail (by simpa using hr) e
    unfold putEp
    rw [if_pos h0, ih]
    rfl
theorem putEp_new {x : Int × Int} : ∀ {l : List (Int × Int)} {r : Nat}, Rank l.length (kE l) x.1 r → (r < l.length → kE l r ≠ x.1) → putEp l x = l.take r ++ (x :: l.drop r)
  | [], r, h, _ => by
    have : r = 0 := by have := h.1; simpa using this
    subst this
    rfl
  | a :: l, 0, h, e => by
    have e : a.1 ≠ x.1 := e (by simp)
    have h0 : x.1 ≤ a.1 := h.2.2 0 (by omega) (by simp)
    unfold putEp
    rw [if_neg (by omega), if_neg e]
    rfl
  | a :: l, r + 1, h, e => by
    have h0 : a.1 < x.1 := h.2.1 0 (by omega)
    have ih := putEp_new (l := l) (r := r) (x := x) h.tail (fun hr => e (by simpa using hr))
    unfold putEp
    rw [if_pos h0, ih]
    rfl
theorem epoch_found {o : Int} : ∀ {l : List (Int × Int)} {r : Nat}, Rank l.length (kE l) o r → r < l.length → kE l r = o → epoch l o = (l.getD r (0, 0)).2
  | [], r, _, hr, _ => absurd hr (by simp)
  | a :: l, 0, h, hr, e => by
    have e : a.1 = o := e
    unfold epoch
    rw [if_pos e]
    rfl
  | a :: l, r + 1, h, hr, e => by
    have h0 : a.1 < o := h.2.1 0 (by omega)
    have ih := epoch_found (l := l) (r := r) (o := o) h.tail (by simpa using hr) e
    unfold epoch
    rw [if_neg (by omega), ih]
    rfl
theorem epoch_no {o : Int} : ∀ {l : List (Int × Int)}, (∀ j, j < l.length → kE l j ≠ o) → epoch l o = 0
  | [], _ => rfl
  | a :: l, h => by
    unfold epoch
    rw [if_neg (show a.1 ≠ o from h 0 (by simp)), epoch_no (fun j hj => h (j + 1) (by simpa using hj))]
/-! ### rows that rise -/
theorem dbOk_rise : ∀ {db : List La} {last : Int}, dbOk last db = true → ∀ j, j < db.length → last < kL db j ∧ laOk (db.getD j zeroL) = true
  | [], _, _, j, hj => absurd hj (by simp)
  | a :: db, last, h, 0, _ => by
    simp only [dbOk, Bool.and_eq_true, decide_eq_true_eq] at h
    exact ⟨h.2.1, h.1⟩
  | a :: db, last, h, j + 1, hj => by
    simp only [dbOk, Bool.and_eq_true, decide_eq_true_eq] at h
    obtain ⟨h1, h2⟩ := dbOk_rise h.2.2 j (by simpa using hj)
    exact ⟨by show last < kL db j; omega, h2⟩
theorem dbOk_mono : ∀ {db : List La} {last : Int}, dbOk last db = true → ∀ i j, i ≤ j → j < db.length → kL db i ≤ kL db j
  | [], _, _, i, j, _, hj => absurd hj (by simp)
  | a :: db, last, h, 0, 0, _, _ => Int.le_refl _
  | a :: db, last, h, 0, j + 1, _, hj => by
    simp only [dbOk, Bool.and_eq_true, decide_eq_true_eq] at h
    have := (dbOk_rise h.2.2 j (by simpa using hj)).1
    show a.o ≤ kL db j
    omega
  | a :: db, last, h, i + 1, j + 1, hij, hj => by
    simp only [dbOk, Bool.and_eq_true, decide_eq_true_eq] at h
    exact dbOk_mono h.2.2 i j (by omega) (by simpa using hj)
theorem kL_win {db : List La} {last : Int} (h : dbOk last db = true) (j : Nat) (hj : j < db.length) : 0 ≤ kL db j ∧ kL db j ≤ 64 := by
  have := (laOk_iff.1 (dbOk_rise h j hj).2).1
  show 0 ≤ (db.getD j zeroL).o ∧ (db.getD j zeroL).o ≤ 64
  omega
theorem dbOk_le : ∀ {db : List La} {last : Int}, dbOk last db = true → 0 ≤ last → (db.length : Int) ≤ 64 - last ∨ db.length = 0
  | [], _, _, _ => .inr rfl
  | a :: db, last, h, h0 => by
    simp only [dbOk, Bool.and_eq_true, decide_eq_true_eq] at h
    have ha := (laOk_iff.1 h.1).1
    left
    rcases dbOk_le h.2.2 (by omega) with h1 | h1
    · simp only [List.length_cons]; omega
    · simp only [List.length_cons, h1]; omega
theorem epOk_rise : ∀ {l : List (Int × Int)} {last : Int}, epOk last l = true → ∀ j, j < l.length → last < kE l j ∧ kE l j ≤ 64
  | [], _, _, j, hj => absurd hj (by simp)
  | a :: l, last, h, 0, _ => by
    have := epOk_lt h a (by simp)
    exact ⟨this.1, this.2.1⟩
  | a :: l, last, h, j + 1, hj => by
    simp only [epOk, epOne, Bool.and_eq_true, decide_eq_true_eq] at h
    obtain ⟨h1, h2⟩ := epOk_rise h.2 j (by simpa using hj)
    exact ⟨by show last < kE l j; omega, h2⟩
theorem epOk_mono : ∀ {l : List (Int × Int)} {last : Int}, epOk last l = true → ∀ i j, i ≤ j → j < l.length → kE l i ≤ kE l j
  | [], _, _, i, j, _, hj => absurd hj (by simp)
  | a :: l, last, h, 0, 0, _, _ => Int.le_refl _
  | a :: l, last, h, 0, j + 1, _, hj => by
    simp only [epOk, epOne, Bool.and_eq_true, decide_eq_true_eq] at h
    have := (epOk_rise h.2 j (by simpa using hj)).1
    show a.1 ≤ kE l j
    omega
  | a :: l, last, h, i + 1, j + 1, hij, hj => by
    simp only [epOk, epOne, Bool.and_eq_true, decide_eq_true_eq] at h
    exact epOk_mono h.2 i j (by omega) (by simpa using hj)
theorem epOk_le : ∀ {l : List (Int × Int)} {last : Int}, epOk last l = true → 0 ≤ last → (l.length : Int) ≤ 64 - last ∨ l.length = 0
  | [], _, _, _ => .inr rfl
  | a :: l, last, h, h0 => by
    have ha := epOk_lt h a (by simp)
    simp only [epOk, epOne, Bool.and_eq_true, decide_eq_true_eq] at h
    left
    rcases epOk_le h.2 (by omega) with h1 | h1
    · simp only [List.length_cons]; omega
    · simp only [List.length_cons, h1]; omega
theorem mayS_len {s : Sta} (h : mayS s = true) : s.db.length ≤ 64 ∧ s.ep.length ≤ 64 := by
  obtain ⟨h1, h2, _⟩ := mayS_iff.1 h
  have a := dbOk_le h1 (by omega)
  have b := epOk_le h2 (by omega)
  omega
end Go.Proofs.Ytpolpppnajfhdaa.Bas
