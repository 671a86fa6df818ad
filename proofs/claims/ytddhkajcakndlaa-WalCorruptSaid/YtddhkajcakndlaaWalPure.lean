/- A log on a disk, as plain functions (layer 8): runs of pages, records laid one behind the other, and what becomes of them where a write is torn. Pure. -/
import Derived.Test.YtddhkajcakndlaaRecAll
import Derived.Test.YtddhkajcakndlaaSlotAll
namespace Go.Proofs.Ytddhkajcakndlaa.Wl
open Go.RowKit Go.Proofs.Ytddhkajcakndlaa.Mem Go.Proofs.Ytddhkajcakndlaa.Oct Go.Proofs.Ytddhkajcakndlaa.Pg Go.Proofs.Ytddhkajcakndlaa.Rcd Go.Proofs.Ytddhkajcakndlaa.Slt
set_option linter.unusedVariables false
set_option linter.unusedSimpArgs false
/-- the pages from a place on, as long as there is one -/
def run (f : Nat → Option P) : Nat → Nat → List P
  | 0, _ => []
  | k + 1, i => match f i with
    | none => []
    | some p => p :: run f k (i + 1)
section
variable {f f' : Nat → Option P}
theorem run_zero (f : Nat → Option P) (i : Nat) : run f 0 i = [] := rfl
theorem run_some {k i : Nat} {p : P} (h : f i = some p) : run f (k + 1) i = p :: run f k (i + 1) := by rw [run, h]
theorem run_none {k i : Nat} (h : f i = none) : run f (k + 1) i = [] := by rw [run, h]
theorem run_get {k i j : Nat} {p : P} (h : (run f k i)[j]? = some p) : f (i + j) = some p ∧ j < k := by
  induction k generalizing i j with
  | zero => simp [run] at h
  | succ k ih =>
    cases hf : f i with
    | none => rw [run_none hf] at h; simp at h
    | some q =>
      rw [run_some hf] at h
      cases j with
      | zero => simp at h; subst h; exact ⟨hf, by omega⟩
      | succ j =>
        rw [List.getElem?_cons_succ] at h
        have := ih h
        exact ⟨by rw [show i + (j + 1) = i + 1 + j by omega]; exact this.1, by omega⟩
theorem run_len (k i : Nat) : (run f k i).length ≤ k := by
  induction k generalizing i with
  | zero => simp [run]
  | succ k ih =>
    cases hf : f i with
    | none => rw [run_none hf]; simp
    | some q => rw [run_some hf, List.length_cons]; have := ih (i + 1); omega
theorem run_agree {k i n : Nat} (h : ∀ j, i ≤ j → j < i + n → f' j = f j) : (run f' k i).take n = (run f k i).take n := by
  induction k generalizing i n with
  | zero => rfl
  | succ k ih =>
    cases n with
    | zero => simp
    | succ n =>
      have h0 := h i (Nat.le_refl _) (by omega)
      cases hf : f i with
      | none => rw [hf] at h0; rw [run_none hf, run_none h0]
      | some q =>
        rw [hf] at h0
        rw [run_some hf, run_some h0, List.take_succ_cons, List.take_succ_cons, ih (fun j h1 h2 => h j (by omega) (by omega))]
/-- pages laid from a place on -/
theorem run_laid {k i : Nat} {ps : List P} (hk : ps.length ≤ k) (h : ∀ j, j < ps.length → f (i + j) = some (ps.getD j noP)) : run f k i = ps ++ run f (k - ps.length) (i + ps.length) := by
  induction ps generalizing k i with
  | nil => simp
  | cons p r ih =>
    rw [List.length_cons] at hk
    obtain ⟨k', rfl⟩ : ∃ k', k = k' + 1 := ⟨k - 1, by omega⟩
    have h0 := h 0 (by simp)
    simp only [Nat.add_zero, List.getD_cons_zero] at h0
    rw [run_some h0, ih (by omega) (fun j hj => by have := h (j + 1) (by simp; omega); rw [List.getD_cons_succ] at this; rw [← this]; congr 1; omega)]
    rw [List.cons_append, List.length_cons]
    congr 3
    · omega
    · omega
end
theorem parts_told {l : List P} {q : P} {r : List P} (hl : l = q :: r) : told l = if 1 ≤ q.parts ∧ q.parts ≤ l.length ∧ q.parts ≤ 16 then l.take q.parts.toNat else [] := by
  subst hl
  rfl
/-- a record that pages begin with: its pages -/
theorem joined_some {l : List P} {b : List Nat} {n : Nat} (h : joined l = some (b, n)) : ∃ q r, l = q :: r ∧ q.parts = n ∧ 1 ≤ n ∧ n ≤ l.length ∧ n ≤ 16 ∧ l.take n = pages q b ∧ parts b.length = n ∧ fits q b = true := by
  cases l with
  | nil => rw [joined_nil rfl] at h; cases h
  | cons q r =>
    cases ht : told (q :: r) with
    | nil => rw [joined_nil ht] at h; cases h
    | cons q' r' =>
      have hq := told_head rfl ht
      subst hq
      have ht2 := parts_told (l := q' :: r) rfl
      rw [ht] at ht2
      rw [joined_of ht] at h
      split at h
      · rename_i hh
        injection h with h
        injection h with h1 h2
        by_cases hc : 1 ≤ q'.parts ∧ q'.parts ≤ (q' :: r).length ∧ q'.parts ≤ 16
        · rw [if_pos hc] at ht2
          have hlen : (q' :: r').length = q'.parts.toNat := by
            rw [ht2, List.length_take]
            omega
          have hn : q'.parts = n := by omega
          refine ⟨q', r, rfl, hn, by omega, by omega, by omega, ?_, ?_, ?_⟩
          · have e : n = q'.parts.toNat := by omega
            rw [e, ← ht2, ← h1, hh.2]
          · rw [← h1, ← pages_length q' _, hh.2, h2]
          · rw [← h1]; exact hh.1
        · rw [if_neg hc] at ht2
          cases ht2
      · cases h
/-- it hangs on these pages alone -/
theorem joined_prefix {l l' : List P} {b : List Nat} {n : Nat} (h : joined l = some (b, n)) (ht : l'.take n = l.take n) : joined l' = some (b, n) := by
  obtain ⟨q, r, hl, hp, h1, h2, h16, hpg, hpl, hf⟩ := joined_some h
  have hn : n ≤ l'.length := by
    have := congrArg List.length ht
    rw [List.length_take, List.length_take] at this
    omega
  have hl' : l' = pages q b ++ l'.drop n := by
    conv => lhs; rw [← List.take_append_drop n l', ht, hpg]
  rw [hl', join_pages _ hf, hpl]
theorem joined_part {q : P} {r : List P} {b : List Nat} {n : Nat} (h : joined (q :: r) = some (b, n)) : q.part = 0 := by
  obtain ⟨q', r', hl, hp, h1, h2, h16, hpg, hpl, hf⟩ := joined_some h
  injection hl with e1 e2
  subst e1
  have e3 : ((q :: r).take n)[0]? = some q := by
    rw [List.getElem?_take, if_pos (by omega)]
    rfl
  rw [hpg] at e3
  have h0 : 0 < (pages q b).length := by rw [pages_length]; omega
  rw [List.getElem?_eq_getElem h0, pages_get] at e3
  have e4 := Option.some.inj e3
  rw [← e4]
  rfl
/-- all of a record's pages are of its first one's generation and mark -/
theorem joined_same {l : List P} {b : List Nat} {n : Nat} (h : joined l = some (b, n)) : ∃ q, l[0]? = some q ∧ q.parts = (n : Int) ∧ ∀ i, i < n → ∃ y, l[i]? = some y ∧ y.gen = q.gen ∧ y.mark = q.mark := by
  obtain ⟨q, r, hl, hp, h1, h2, h16, hpg, hpl, hf⟩ := joined_some h
  refine ⟨q, by rw [hl]; rfl, hp, fun i hi => ?_⟩
  have e : l[i]? = (pages q b)[i]? := by rw [← hpg, List.getElem?_take, if_pos hi]
  have h0 : i < (pages q b).length := by rw [pages_length]; omega
  rw [List.getElem?_eq_getElem h0, pages_get] at e
  exact ⟨_, e, rfl, rfl⟩
/-- THE MIXTURE: where each place of a write has no page, or the old one, or the new one, what is joined is the new record as a whole, or the old one -/
theorem mix {f f' : Nat → Option P} {i k n : Nat} {q : P} {b : List Nat} (hf : fits q b = true) (hn : n = parts b.length) (hnk : n ≤ k)
    (hin : ∀ j, j < n → f' (i + j) = none ∨ f' (i + j) = f (i + j) ∨ f' (i + j) = some (nth q b n j)) (hout : ∀ j, i + n ≤ j → f' j = f j)
    (hfr : ∀ j x, i ≤ j → f j = some x → ¬ (x.gen = q.gen ∧ x.mark = q.mark)) {b' : List Nat} {n' : Nat} (h : joined (run f' k i) = some (b', n')) :
    ((∀ j, j < n → f' (i + j) = some (nth q b n j)) ∧ b' = b ∧ n' = n) ∨ (run f k i).take n' = (run f' k i).take n' := by
  obtain ⟨p, hp0, hpp, hall⟩ := joined_same h
  have hf0 := (run_get hp0).1
  rw [Nat.add_zero] at hf0
  obtain ⟨_, _, _, _, h1, h2, _, _, _, _⟩ := joined_some h
  have hn1 : 1 ≤ n := by
    rw [hn]
    simp only [fits, Bool.and_eq_true, decide_eq_true_eq] at hf
    exact hf.1
  by_cases hm : p.gen = q.gen ∧ p.mark = q.mark
  · left
    -- the head is the new one
    have hnew : ∀ j, j < n' → j < n → f' (i + j) = some (nth q b n j) := fun j hj hjn => by
      obtain ⟨y, hy, hy1, hy2⟩ := hall j hj
      have hyf := (run_get hy).1
      rcases hin j hjn with e | e | e
      · rw [hyf] at e; cases e
      · rw [hyf] at e
        exact absurd ⟨hy1.trans hm.1, hy2.trans hm.2⟩ (hfr (i + j) y (by omega) e.symm)
      · exact e
    have h0 := hnew 0 (by omega) (by omega)
    rw [Nat.add_zero, hf0] at h0
    have hpq := Option.some.inj h0
    have hnn : n' = n := by
      have : p.parts = (n : Int) := by rw [hpq]; rfl
      omega
    have hno : ∀ j, j < n → f' (i + j) = some (nth q b n j) := fun j hj => hnew j (by omega) hj
    have hl : run f' k i = pages q b ++ run f' (k - n) (i + n) := by
      have := run_laid (f := f') (k := k) (i := i) (ps := pages q b) (by rw [pages_length, ← hn]; exact hnk) (fun j hj => by
        rw [pages_length, ← hn] at hj
        rw [hno j hj]
        have h3 : j < (pages q b).length := by rw [pages_length, ← hn]; exact hj
        simp only [List.getD, List.getElem?_eq_getElem h3, pages_get, Option.getD_some, ← hn])
      rw [pages_length, ← hn] at this
      exact this
    rw [hl, join_pages _ hf] at h
    injection h with h
    injection h with h3 h4
    exact ⟨hno, h3.symm, by omega⟩
  · right
    refine run_agree fun j h3 h4 => ?_
    by_cases hj : j < i + n
    · obtain ⟨y, hy, hy1, hy2⟩ := hall (j - i) (by omega)
      have hyf := (run_get hy).1
      rw [show i + (j - i) = j by omega] at hyf
      rcases hin (j - i) (by omega) with e | e | e
      · rw [show i + (j - i) = j by omega] at e
        rw [hyf] at e; cases e
      · rw [show i + (j - i) = j by omega] at e
        exact e.symm
      · rw [show i + (j - i) = j by omega] at e
        rw [hyf] at e
        have e2 := Option.some.inj e
        exact absurd ⟨by rw [← hy1, e2]; rfl, by rw [← hy2, e2]; rfl⟩ hm
    · exact (hout j (by omega)).symm
theorem all_new {f' : Nat → Option P} {i k n : Nat} {q : P} {b : List Nat} (hf : fits q b = true) (hn : n = parts b.length) (hnk : n ≤ k) (h : ∀ j, j < n → f' (i + j) = some (nth q b n j)) :
    joined (run f' k i) = some (b, n) := by
  have := run_laid (f := f') (k := k) (i := i) (ps := pages q b) (by rw [pages_length, ← hn]; exact hnk) (fun j hj => by
    rw [pages_length, ← hn] at hj
    rw [h j hj]
    have h3 : j < (pages q b).length := by rw [pages_length, ← hn]; exact hj
    simp only [List.getD, List.getElem?_eq_getElem h3, pages_get, Option.getD_some, ← hn])
  rw [this, join_pages _ hf, hn]
/-- records laid one behind the other -/
def Laid (f : Nat → Option P) (log : Nat) : List (List Nat) → Nat → Nat → Prop
  | [], i, e => i = e
  | b :: r, i, e => ∃ n, joined (run f (log - i) i) = some (b, n) ∧ Laid f log r (i + n) e
def tail (f : Nat → Option P) (log : Nat) : Nat → Nat → List (List Nat) × Nat
  | 0, i => ([], i)
  | k + 1, i => match joined (run f (log - i) i) with
    | none => ([], i)
    | some x => (x.1 :: (tail f log k (i + x.2)).1, (tail f log k (i + x.2)).2)
section
variable {f f' : Nat → Option P} {log : Nat}
theorem tail_none {k i : Nat} (h : joined (run f (log - i) i) = none) : tail f log k i = ([], i) := by
  cases k with
  | zero => rfl
  | succ k => rw [tail, h]
theorem tail_some {k i n : Nat} {b : List Nat} (h : joined (run f (log - i) i) = some (b, n)) : tail f log (k + 1) i = (b :: (tail f log k (i + n)).1, (tail f log k (i + n)).2) := by rw [tail, h]
theorem laid_tail {recs : List (List Nat)} {i e k : Nat} (h : Laid f log recs i e) (he : joined (run f (log - e) e) = none) (hk : recs.length ≤ k) : tail f log k i = (recs, e) := by
  induction recs generalizing i k with
  | nil =>
    have : i = e := h
    subst this
    exact tail_none he
  | cons b r ih =>
    obtain ⟨n, h1, h2⟩ := h
    obtain ⟨k', rfl⟩ : ∃ k', k = k' + 1 := ⟨k - 1, by rw [List.length_cons] at hk; omega⟩
    rw [tail_some h1, ih h2 (by rw [List.length_cons] at hk; omega)]
theorem laid_le {recs : List (List Nat)} {i e : Nat} (h : Laid f log recs i e) (hi : i ≤ log) : i + recs.length ≤ e ∧ e ≤ log := by
  induction recs generalizing i with
  | nil =>
    have : i = e := h
    subst this
    exact ⟨by simp, hi⟩
  | cons b r ih =>
    obtain ⟨n, h1, h2⟩ := h
    obtain ⟨_, _, _, _, h3, h4, _⟩ := joined_some h1
    have h5 := run_len (f := f) (log - i) i
    have := ih h2 (by omega)
    rw [List.length_cons]
    omega
theorem laid_agree {recs : List (List Nat)} {i e : Nat} (h : Laid f log recs i e) (hi : i ≤ log) (ha : ∀ j, j < e → f' j = f j) : Laid f' log recs i e := by
  induction recs generalizing i with
  | nil => exact h
  | cons b r ih =>
    obtain ⟨n, h1, h2⟩ := h
    obtain ⟨_, _, _, _, h3, h4, _⟩ := joined_some h1
    have h5 := run_len (f := f) (log - i) i
    have h6 := laid_le h2 (by omega)
    exact ⟨n, joined_prefix h1 (run_agree fun j _ hj => ha j (by omega)), ih h2 (by omega)⟩
theorem laid_app {recs rs : List (List Nat)} {i m e : Nat} (h : Laid f log recs i m) (h' : Laid f log rs m e) : Laid f log (recs ++ rs) i e := by
  induction recs generalizing i with
  | nil =>
    have : i = m := h
    subst this
    exact h'
  | cons b r ih =>
    obtain ⟨n, h1, h2⟩ := h
    exact ⟨n, h1, ih h2⟩
theorem laid_one {i n : Nat} {b : List Nat} (h : joined (run f (log - i) i) = some (b, n)) : Laid f log [b] i (i + n) := ⟨n, h, rfl⟩
end
/-- what the log holds, and what may stand behind its end -/
structure LogInv (f : Nat → Option P) (log : Nat) (recs : List (List Nat)) (e : Nat) (mk : Int) : Prop where
  laid : Laid f log recs 0 e
  stop : joined (run f (log - e) e) = none
  le : e ≤ log
  fresh : ∀ j x, e ≤ j → f j = some x → x.mark < mk
  part : ∀ j x, e < j → f j = some x → 1 ≤ x.part
theorem LogInv.tail_eq {f : Nat → Option P} {log e : Nat} {recs : List (List Nat)} {mk : Int} (h : LogInv f log recs e mk) {k : Nat} (hk : log ≤ k) : tail f log k 0 = (recs, e) :=
  laid_tail h.laid h.stop (by have := laid_le h.laid (Nat.zero_le _); omega)
/-- a record is written behind the others, whole or torn -/
theorem log_write {f f' : Nat → Option P} {log e n : Nat} {recs : List (List Nat)} {mk : Int} {q : P} {b : List Nat} (h : LogInv f log recs e mk) (hq : q.mark = mk) (hf : fits q b = true) (hn : n = parts b.length) (hnl : e + n ≤ log)
    (hin : ∀ j, j < n → f' (e + j) = none ∨ f' (e + j) = f (e + j) ∨ f' (e + j) = some (nth q b n j)) (hout : ∀ j, j < e ∨ e + n ≤ j → f' j = f j) (mk' : Int) (hmk : mk < mk') :
    LogInv f' log recs e mk' ∨ ((∀ j, j < n → f' (e + j) = some (nth q b n j)) ∧ LogInv f' log (recs ++ [b]) (e + n) mk') := by
  have hfr : ∀ j x, e ≤ j → f j = some x → ¬ (x.gen = q.gen ∧ x.mark = q.mark) := fun j x hj hx hh => by
    have := h.fresh j x hj hx
    omega
  have hlaid := laid_agree (f' := f') h.laid (Nat.zero_le _) (fun j hj => hout j (.inl hj))
  have hfresh : ∀ j x, e ≤ j → f' j = some x → x.mark < mk' := fun j x hj hx => by
    by_cases hjn : j < e + n
    · rcases hin (j - e) (by omega) with e1 | e1 | e1
      · rw [show e + (j - e) = j by omega, hx] at e1; cases e1
      · rw [show e + (j - e) = j by omega, hx] at e1
        have := h.fresh j x hj e1.symm
        omega
      · rw [show e + (j - e) = j by omega, hx] at e1
        have := Option.some.inj e1
        rw [this]
        show q.mark < mk'
        omega
    · rw [hout j (.inr (by omega))] at hx
      have := h.fresh j x hj hx
      omega
  have hpart : ∀ j x, e < j → f' j = some x → 1 ≤ x.part := fun j x hj hx => by
    by_cases hjn : j < e + n
    · rcases hin (j - e) (by omega) with e1 | e1 | e1
      · rw [show e + (j - e) = j by omega, hx] at e1; cases e1
      · rw [show e + (j - e) = j by omega, hx] at e1
        exact h.part j x hj e1.symm
      · rw [show e + (j - e) = j by omega, hx] at e1
        have := Option.some.inj e1
        rw [this]
        show (1 : Int) ≤ ((j - e : Nat) : Int)
        omega
    · rw [hout j (.inr (by omega))] at hx
      exact h.part j x hj hx
  cases hj : joined (run f' (log - e) e) with
  | none => exact .inl ⟨hlaid, hj, h.le, hfresh, hpart⟩
  | some x =>
    obtain ⟨b', n'⟩ := x
    rcases mix hf hn (by omega) hin (fun j hj => hout j (.inr hj)) hfr hj with ⟨h1, h2, h3⟩ | h1
    · right
      subst h2 h3
      refine ⟨h1, laid_app hlaid (laid_one hj), ?_, hnl, fun j x hj => hfresh j x (by omega), fun j x hj => hpart j x (by omega)⟩
      cases hj2 : joined (run f' (log - (e + n')) (e + n')) with
      | none => rfl
      | some y =>
        exfalso
        obtain ⟨b2, n2⟩ := y
        obtain ⟨p, hp0, _⟩ := joined_same hj2
        have hp1 := (run_get hp0).1
        rw [Nat.add_zero] at hp1
        obtain ⟨q2, r2, hl2, _, h4, _⟩ := joined_some hj2
        have h5 := hpart (e + n') p (by obtain ⟨_, _, _, _, h9, _⟩ := joined_some hj; omega) hp1
        rw [hl2] at hj2 hp0
        have h6 := joined_part hj2
        have h7 : q2 = p := by simpa using hp0
        rw [h7] at h6
        omega
    · have h2 := joined_prefix hj h1
      rw [h.stop] at h2
      cases h2
end Go.Proofs.Ytddhkajcakndlaa.Wl
