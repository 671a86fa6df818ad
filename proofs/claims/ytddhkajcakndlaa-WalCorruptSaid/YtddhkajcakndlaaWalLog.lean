/- The records that a log's pages begin with (layer 8): as the code finds them among all pages that follow each other, and as the reference among those of its own places. Pure. -/
import Derived.Test.YtddhkajcakndlaaWalInv
namespace Go.Proofs.Ytddhkajcakndlaa.Wl
open Go.RowKit Go.Proofs.Ytddhkajcakndlaa.Mem Go.Proofs.Ytddhkajcakndlaa.Oct Go.Proofs.Ytddhkajcakndlaa.Pg Go.Proofs.Ytddhkajcakndlaa.Rcd Go.Proofs.Ytddhkajcakndlaa.Slt
set_option linter.unusedVariables false
set_option linter.unusedSimpArgs false
def atB (p : P) (g : Int) (i : Nat) : Bool := decide (p.kind = 2) && decide (p.gen = g) && decide (p.index = (i : Int))
theorem atB_yes {p : P} {g : Int} {i : Nat} (h : atB p g i = true) : p.kind = 2 ∧ p.gen = g ∧ p.index = (i : Int) := by
  simp only [atB, Bool.and_eq_true, decide_eq_true_eq] at h
  exact ⟨h.1.1, h.1.2, h.2⟩
theorem atB_mk {p : P} {g : Int} {i : Nat} (h : p.kind = 2 ∧ p.gen = g ∧ p.index = (i : Int)) : atB p g i = true := by
  simp only [atB, Bool.and_eq_true, decide_eq_true_eq]
  exact ⟨⟨h.1, h.2.1⟩, h.2.2⟩
theorem pick_no {p : P} {g : Int} {i : Nat} (h : atB p g i = false) : pick g i (some p) = none := by
  cases e : pick g i (some p) with
  | none => rfl
  | some x =>
    obtain ⟨h1, h2⟩ := pick_some e
    injection h1 with h1
    rw [h1, atB_mk h2] at h
    cases h
section
variable {f h : Nat → Option P}
theorem run_sub (hs : ∀ j p, f j = some p → h j = some p) (k i : Nat) : run f k i = (run h k i).take (run f k i).length := by
  induction k generalizing i with
  | zero => rfl
  | succ k ih =>
    cases hf : f i with
    | none => rw [run_none hf]; simp
    | some p =>
      rw [run_some hf, run_some (hs _ _ hf), List.length_cons, List.take_succ_cons, ← ih]
theorem run_drop {k i m : Nat} (hm : m ≤ (run h k i).length) : (run h k i).drop m = run h (k - m) (i + m) := by
  induction m generalizing k i with
  | zero => simp
  | succ m ih =>
    cases k with
    | zero => simp [run] at hm
    | succ k =>
      cases hh : h i with
      | none => rw [run_none hh] at hm; simp at hm
      | some p =>
        rw [run_some hh] at hm ⊢
        rw [List.length_cons] at hm
        rw [List.drop_succ_cons, ih (by omega)]
        congr 1 <;> omega
theorem run_stop {k i : Nat} (hm : (run h k i).length < k) : h (i + (run h k i).length) = none := by
  induction k generalizing i with
  | zero => omega
  | succ k ih =>
    cases hh : h i with
    | none => rw [run_none hh]; simpa using hh
    | some p =>
      rw [run_some hh] at hm ⊢
      rw [List.length_cons] at hm ⊢
      have := ih (i := i + 1) (by omega)
      rw [show i + ((run h k (i + 1)).length + 1) = i + 1 + (run h k (i + 1)).length by omega]
      exact this
end
/-- the log's own pages, of all pages -/
def ofLog (h : Nat → Option P) (g : Int) (j : Nat) : Option P := pick g j (h j)
theorem ofLog_sub (h : Nat → Option P) (g : Int) : ∀ j p, ofLog h g j = some p → h j = some p := fun j p e => (pick_some e).1
section
variable {h : Nat → Option P} {g : Int} {log i : Nat}
theorem rec_none (hi : i ≤ (run h log 0).length) (hj : joined ((run h log 0).drop i) = none) : joined (run (ofLog h g) (log - i) i) = none := by
  rw [run_drop hi, Nat.zero_add] at hj
  cases hc : joined (run (ofLog h g) (log - i) i) with
  | none => rfl
  | some x =>
    obtain ⟨b, n⟩ := x
    have hs := run_sub (ofLog_sub h g) (log - i) i
    obtain ⟨_, _, _, _, _, h2, _⟩ := joined_some hc
    have := joined_prefix (l' := run h (log - i) i) hc (by
      conv => rhs; rw [hs]
      rw [List.take_take, Nat.min_eq_left h2])
    rw [this] at hj
    cases hj
theorem rec_some {p : P} {b : List Nat} {n : Nat} (hi : i < (run h log 0).length) (hp : (run h log 0)[i]? = some p) (ha : atB p g i = true) (hj : joined ((run h log 0).drop i) = some (b, n)) :
    joined (run (ofLog h g) (log - i) i) = some (b, n) ∧ 1 ≤ n ∧ i + n ≤ (run h log 0).length := by
  have hle := run_len (f := h) (log - i) i
  have hd := run_drop (h := h) (k := log) (i := 0) (m := i) (by omega)
  rw [Nat.zero_add] at hd
  obtain ⟨q, r, hl, hpn, h1, h2, h16, hpg, hpl, hf⟩ := joined_some hj
  have hlen : ((run h log 0).drop i).length = (run h log 0).length - i := List.length_drop
  have hq : q = p := by
    have e : ((run h log 0).drop i)[0]? = some q := by rw [hl]; rfl
    rw [List.getElem?_drop, Nat.add_zero, hp] at e
    exact (Option.some.inj e).symm
  subst hq
  obtain ⟨a1, a2, a3⟩ := atB_yes ha
  have hall : ∀ j, j < (pages q b).length → ofLog h g (i + j) = some ((pages q b).getD j noP) := fun j hj2 => by
    have hjn : j < n := by rw [pages_length, hpl] at hj2; exact hj2
    have e : (run h (log - i) i)[j]? = some (nth q b n j) := by
      rw [← hd]
      have e2 : ((run h log 0).drop i)[j]? = (pages q b)[j]? := by rw [← hpg, List.getElem?_take, if_pos hjn]
      rw [e2, List.getElem?_eq_getElem hj2, pages_get, hpl]
    have e3 := (run_get e).1
    have e4 : (pages q b).getD j noP = nth q b n j := by rw [List.getD, List.getElem?_eq_getElem hj2, Option.getD_some, pages_get, hpl]
    rw [e4]
    unfold ofLog
    rw [e3]
    exact pick_of ⟨a1, a2, by show q.index + (j : Nat) = ((i + j : Nat) : Int); omega⟩
  have hk : (pages q b).length ≤ log - i := by rw [pages_length, hpl]; rw [hd] at h2; omega
  refine ⟨?_, h1, by omega⟩
  have hr := run_laid (f := ofLog h g) (k := log - i) (i := i) (ps := pages q b) hk hall
  rw [hr, join_pages _ hf, hpl]
theorem rec_end (hi : i = (run h log 0).length) : joined (run (ofLog h g) (log - i) i) = none := by
  have hle := run_len (f := h) log 0
  by_cases hlt : i < log
  · have h1 := run_stop (h := h) (k := log) (i := 0) (by omega)
    rw [Nat.zero_add, ← hi] at h1
    obtain ⟨k, hk⟩ : ∃ k, log - i = k + 1 := ⟨log - i - 1, by omega⟩
    rw [hk, run_none (by unfold ofLog; rw [h1]; rfl)]
    exact joined_nil rfl
  · rw [show log - i = 0 by omega]
    exact joined_nil rfl
theorem rec_other {p : P} (hi : i < (run h log 0).length) (hp : (run h log 0)[i]? = some p) (ha : atB p g i = false) : joined (run (ofLog h g) (log - i) i) = none := by
  have hle := run_len (f := h) log 0
  have h1 := (run_get hp).1
  rw [Nat.zero_add] at h1
  obtain ⟨k, hk⟩ : ∃ k, log - i = k + 1 := ⟨log - i - 1, by omega⟩
  rw [hk, run_none (by unfold ofLog; rw [h1]; exact pick_no ha)]
  exact joined_nil rfl
end
/-- all records, and the place behind them -/
def recsOf (f : Nat → Option P) (log : Nat) : List (List Nat) × Nat := tail f log log 0
theorem tail_le {f : Nat → Option P} {log k i : Nat} (hi : i ≤ log) : i ≤ (tail f log k i).2 ∧ (tail f log k i).2 ≤ log := by
  induction k generalizing i with
  | zero => exact ⟨Nat.le_refl _, hi⟩
  | succ k ih =>
    cases hj : joined (run f (log - i) i) with
    | none => rw [tail_none hj]; exact ⟨Nat.le_refl _, hi⟩
    | some x =>
      obtain ⟨b, n⟩ := x
      rw [tail_some hj]
      obtain ⟨_, _, _, _, h1, h2, _⟩ := joined_some hj
      have h5 := run_len (f := f) (log - i) i
      have := ih (i := i + n) (by omega)
      exact ⟨by omega, this.2⟩
theorem tail_len {f : Nat → Option P} {log k i : Nat} (hi : i ≤ log) : (tail f log k i).1.length ≤ log - i := by
  induction k generalizing i with
  | zero => simp [tail]
  | succ k ih =>
    cases hj : joined (run f (log - i) i) with
    | none => rw [tail_none hj]; simp
    | some x =>
      obtain ⟨b, n⟩ := x
      rw [tail_some hj]
      obtain ⟨_, _, _, _, h1, h2, _⟩ := joined_some hj
      have h5 := run_len (f := f) (log - i) i
      have := ih (i := i + n) (by omega)
      simp only [List.length_cons]
      omega
end Go.Proofs.Ytddhkajcakndlaa.Wl
