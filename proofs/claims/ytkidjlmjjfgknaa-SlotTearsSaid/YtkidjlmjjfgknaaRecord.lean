/- A record's pages as a value (layer 5): how many, which, and which record any pages begin with. Pure. -/
import Derived.Test.YtkidjlmjjfgknaaPg
namespace Go.Proofs.Ytkidjlmjjfgknaa.Rcd
open Go.RowKit Go.Proofs.Ytkidjlmjjfgknaa.Mem Go.Proofs.Ytkidjlmjjfgknaa.Oct Go.Proofs.Ytkidjlmjjfgknaa.Pg
set_option linter.unusedVariables false
set_option linter.unusedSimpArgs false
def parts (n : Nat) : Nat := if n ≤ 7808 then (if n = 0 then 1 else (n + 487) / 488) else 0
def nth (p : P) (b : List Nat) (n i : Nat) : P := ⟨p.kind, p.gen, p.mark, p.index + i, i, n, (b.drop (i * 488)).take 488⟩
def pages (p : P) (b : List Nat) : List P := (List.range (parts b.length)).map (nth p b (parts b.length))
def fits (p : P) (b : List Nat) : Bool := decide (1 ≤ parts b.length) && (pages p b).all P.may
def told (l : List P) : List P := if 1 ≤ (l.headD zero).parts ∧ (l.headD zero).parts ≤ l.length ∧ (l.headD zero).parts ≤ 16 then l.take (l.headD zero).parts.toNat else []
where zero : P := ⟨0, 0, 0, 0, 0, 0, []⟩
def cat (l : List P) : List Nat := l.flatMap P.b
def joined (l : List P) : Option (List Nat × Nat) := match told l with
  | [] => none
  | q :: r => if fits q (cat (q :: r)) = true ∧ pages q (cat (q :: r)) = q :: r then some (cat (q :: r), (q :: r).length) else none
theorem parts_le (n : Nat) : parts n ≤ 16 := by unfold parts; split <;> (try split) <;> omega
theorem parts_pos {n : Nat} (h : n ≤ 7808) : 1 ≤ parts n := by unfold parts; rw [if_pos h]; split <;> omega
theorem parts_zero {n : Nat} (h : 7808 < n) : parts n = 0 := by unfold parts; rw [if_neg (by omega)]
theorem parts_big {n : Nat} (h : n ≤ 7808) : n ≤ parts n * 488 := by unfold parts; rw [if_pos h]; split <;> omega
theorem parts_small {n i : Nat} (h : i < parts n) : i * 488 ≤ n := by unfold parts at h; split at h <;> (try split at h) <;> omega
theorem parts_ge {n : Nat} (h : 1 ≤ parts n) : n ≤ 7808 := Nat.le_of_not_lt fun hn => by have := parts_zero hn; omega
theorem pages_length (p : P) (b : List Nat) : (pages p b).length = parts b.length := by simp [pages]
theorem pages_get (p : P) (b : List Nat) (i : Nat) (h : i < (pages p b).length) : (pages p b)[i] = nth p b (parts b.length) i := by simp [pages]
theorem pages_congr {p q : P} (b : List Nat) (h1 : q.kind = p.kind) (h2 : q.gen = p.gen) (h3 : q.mark = p.mark) (h4 : q.index = p.index) : pages q b = pages p b := by
  unfold pages
  apply List.map_congr_left
  intro i _
  simp [nth, h1, h2, h3, h4]
theorem cat_to (p : P) (b : List Nat) (n k : Nat) : cat ((List.range k).map (nth p b n)) = b.take (k * 488) := by
  induction k with
  | zero => simp [cat]
  | succ k ih =>
    have : cat ((List.range (k + 1)).map (nth p b n)) = cat ((List.range k).map (nth p b n)) ++ (b.drop (k * 488)).take 488 := by
      simp [List.range_succ, cat, nth]
    rw [this, ih, show (k + 1) * 488 = k * 488 + 488 by omega, List.take_add]
theorem cat_pages {p : P} {b : List Nat} (h : b.length ≤ 7808) : cat (pages p b) = b := by
  unfold pages
  rw [cat_to, List.take_of_length_le (parts_big h)]
theorem pages_cons {p : P} {b : List Nat} (h : b.length ≤ 7808) : ∃ r, pages p b = nth p b (parts b.length) 0 :: r := by
  have h1 := parts_pos h
  unfold pages
  obtain ⟨k, hk⟩ : ∃ k, parts b.length = k + 1 := ⟨parts b.length - 1, by omega⟩
  rw [hk, List.range_succ_eq_map]
  exact ⟨_, rfl⟩
theorem joined_of {l r : List P} {q : P} (h : told l = q :: r) : joined l = if fits q (cat (q :: r)) = true ∧ pages q (cat (q :: r)) = q :: r then some (cat (q :: r), (q :: r).length) else none := by
  unfold joined
  rw [h]
theorem joined_nil {l : List P} (h : told l = []) : joined l = none := by
  unfold joined
  rw [h]
theorem fits_len {p : P} {b : List Nat} (h : fits p b = true) : b.length ≤ 7808 := by
  simp only [fits, Bool.and_eq_true, decide_eq_true_eq] at h
  exact parts_ge h.1
theorem fits_congr {p q : P} {b : List Nat} (h : pages q b = pages p b) : fits q b = fits p b := by simp [fits, h]
theorem told_pages {p : P} {b : List Nat} (more : List P) (h : b.length ≤ 7808) : told (pages p b ++ more) = pages p b := by
  obtain ⟨r, hr⟩ := pages_cons (p := p) h
  have h1 := parts_pos h
  have h2 := parts_le b.length
  have h3 : (pages p b ++ more).headD told.zero = nth p b (parts b.length) 0 := by rw [hr]; rfl
  unfold told
  rw [h3]
  have h4 : (nth p b (parts b.length) 0).parts = (parts b.length : Int) := rfl
  rw [h4, if_pos ⟨by omega, by rw [List.length_append, pages_length]; omega, by omega⟩, Int.toNat_natCast, ← pages_length p b, List.take_left]
/-- what is split is joined -/
theorem join_pages {p : P} {b : List Nat} (more : List P) (h : fits p b = true) : joined (pages p b ++ more) = some (b, parts b.length) := by
  have hl := fits_len h
  obtain ⟨r, hr⟩ := pages_cons (p := p) hl
  rw [joined_of (r := r) (q := nth p b (parts b.length) 0) ((told_pages more hl).trans hr), ← hr, cat_pages hl]
  have hc : pages (nth p b (parts b.length) 0) b = pages p b := pages_congr b rfl rfl rfl (by simp [nth])
  rw [if_pos ⟨(fits_congr hc).trans h, hc⟩, pages_length]
/-- pages of two records never make one -/
theorem join_mixed {p q : P} {a b : List Nat} {k : Nat} (hp : fits p a = true) (hk : 1 ≤ k) (hk2 : k < parts a.length) (hne : ¬ (p.gen = q.gen ∧ p.mark = q.mark)) :
    joined ((pages p a).take k ++ (pages q b).drop k) = none := by
  have hl := fits_len hp
  obtain ⟨r, hr⟩ := pages_cons (p := p) hl
  have h2 := parts_le a.length
  generalize hL : (pages p a).take k ++ (pages q b).drop k = l
  have h3 : l.headD told.zero = nth p a (parts a.length) 0 := by
    rw [← hL, hr]
    obtain ⟨k', rfl⟩ : ∃ k', k = k' + 1 := ⟨k - 1, by omega⟩
    rfl
  by_cases hn : told l = []
  · exact joined_nil hn
  · have ht : told l = l.take (parts a.length) ∧ parts a.length ≤ l.length := by
      unfold told at hn ⊢
      rw [h3] at hn ⊢
      have h4 : (nth p a (parts a.length) 0).parts = (parts a.length : Int) := rfl
      rw [h4] at hn ⊢
      split at hn
      · rename_i hh
        rw [if_pos hh]
        exact ⟨by rw [Int.toNat_natCast], by omega⟩
      · exact absurd rfl hn
    obtain ⟨q0, r0, hq0⟩ : ∃ q0 r0, told l = q0 :: r0 := by
      cases h : told l with
      | nil => exact absurd h hn
      | cons x y => exact ⟨x, y, rfl⟩
    rw [joined_of hq0]
    apply if_neg
    rintro ⟨_, he⟩
    apply hne
    have hhd : q0 = nth p a (parts a.length) 0 := by
      have h5 : (told l).headD told.zero = q0 := by rw [hq0]; rfl
      rw [← h5, ht.1, ← h3]
      cases l with
      | nil => simp
      | cons x y =>
        obtain ⟨k', hk'⟩ : ∃ k', parts a.length = k' + 1 := ⟨parts a.length - 1, by omega⟩
        rw [hk']
        rfl
    have hkl : k < (told l).length := by rw [ht.1, List.length_take]; omega
    have e1 : (told l)[k]? = some ((told l)[k]) := List.getElem?_eq_getElem hkl
    have e2 : (told l)[k]? = l[k]? := by rw [ht.1, List.getElem?_take]; simp [hk2]
    have e3 : l[k]? = (pages q b)[k]? := by
      rw [← hL, List.getElem?_append_right (by rw [List.length_take, pages_length]; omega), List.length_take, pages_length, List.getElem?_drop]
      congr 1
      omega
    have hkq : k < (pages q b).length := by
      apply Nat.lt_of_not_le
      intro hh
      rw [e1] at e2
      rw [← e2, List.getElem?_eq_none hh] at e3
      cases e3
    have e4 : (told l)[k]? = some (nth q b (parts b.length) k) := by rw [e2, e3, List.getElem?_eq_getElem hkq, pages_get]
    rw [hq0, ← he] at e4
    have hk3 : k < (pages q0 (cat (q0 :: r0))).length := by
      apply Nat.lt_of_not_le
      intro hh
      rw [List.getElem?_eq_none hh] at e4
      cases e4
    rw [List.getElem?_eq_getElem hk3, pages_get] at e4
    have e5 := Option.some.inj e4
    have g1 := congrArg P.gen e5
    have g2 := congrArg P.mark e5
    simp only [nth, hhd] at g1 g2
    exact ⟨g1, g2⟩
/-- the reference's way to the same -/
theorem told_may {l : List P} {q : P} {r : List P} (hl : l = q :: r) (hm : q.may = true) (hn : q.parts ≤ l.length) : told l = l.take q.parts.toNat ∧ 1 ≤ q.parts.toNat ∧ q.parts.toNat ≤ l.length ∧ (q.parts.toNat : Int) = q.parts := by
  have h := win_yes ((may_iff q).1 hm).ps
  subst hl
  have e : told (q :: r) = if 1 ≤ q.parts ∧ q.parts ≤ (q :: r).length ∧ q.parts ≤ 16 then (q :: r).take q.parts.toNat else [] := rfl
  rw [e, if_pos ⟨h.1, hn, h.2⟩]
  exact ⟨rfl, by omega, by omega, by omega⟩
theorem joined_big {l : List P} {q : P} {r : List P} (hl : l = q :: r) (hn : ¬ q.parts ≤ l.length) : joined l = none := by
  apply joined_nil
  subst hl
  have e : told (q :: r) = if 1 ≤ q.parts ∧ q.parts ≤ (q :: r).length ∧ q.parts ≤ 16 then (q :: r).take q.parts.toNat else [] := rfl
  rw [e, if_neg (by omega)]
theorem told_head {l : List P} {q q' : P} {r r' : List P} (hl : l = q :: r) (h : told l = q' :: r') : q' = q := by
  subst hl
  have e : told (q :: r) = if 1 ≤ q.parts ∧ q.parts ≤ (q :: r).length ∧ q.parts ≤ 16 then (q :: r).take q.parts.toNat else [] := rfl
  rw [e] at h
  split at h
  · obtain ⟨k, hk⟩ : ∃ k, q.parts.toNat = k + 1 := ⟨q.parts.toNat - 1, by omega⟩
    rw [hk, List.take_succ_cons] at h
    injection h with h _
    exact h.symm
  · cases h
theorem joined_not {l : List P} {q : P} {r : List P} (hl : l = q :: r) (hm : q.may = false) : joined l = none := by
  cases h : told l with
  | nil => exact joined_nil h
  | cons q' r' =>
    have := told_head hl h
    subst this
    rw [joined_of h]
    apply if_neg
    rintro ⟨h1, h2⟩
    simp only [fits, Bool.and_eq_true] at h1
    have h3 := List.all_eq_true.1 h1.2 q' (by rw [h2]; simp)
    rw [hm] at h3
    cases h3
theorem fits_iff {q : P} {b : List Nat} {t : List P} (h0 : 1 ≤ t.length) : (fits q b = true ∧ pages q b = t) ↔ (parts b.length = t.length ∧ t.all P.may = true ∧ pages q b = t) := by
  constructor
  · rintro ⟨h1, rfl⟩
    simp only [fits, Bool.and_eq_true] at h1
    exact ⟨(pages_length q b).symm, h1.2, rfl⟩
  · rintro ⟨h1, h2, rfl⟩
    refine ⟨?_, rfl⟩
    simp only [fits, Bool.and_eq_true, decide_eq_true_eq]
    exact ⟨by omega, h2⟩
end Go.Proofs.Ytkidjlmjjfgknaa.Rcd
