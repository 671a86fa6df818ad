/- A disk that has a log, as it is opened, written to and turned (layer 8): what Open, Commit and Turn tell of it. Pure. -/
import Derived.Test.YtddhkajcakndlaaWalActs
import Derived.Test.YtddhkajcakndlaaWalOpen
namespace Go.Proofs.Ytddhkajcakndlaa.Wl
open Go.RowKit Go.Proofs.Ytddhkajcakndlaa.Mem Go.Proofs.Ytddhkajcakndlaa.Pg Go.Proofs.Ytddhkajcakndlaa.Rcd Go.Proofs.Ytddhkajcakndlaa.Slt
open Go.Proofs.Ytddhkajcakndlaa.Dsk (St noughts)
open Go.Proofs.Ytddhkajcakndlaa.Plt (sl sl_le sl_pos)
set_option linter.unusedVariables false
set_option linter.unusedSimpArgs false
section
variable {s : St} {k e : Nat} {g mk : Int} {base : List Nat} {recs : List (List Nat)}
theorem openP_ready (h : Ready s (sl s.n) (lg s.n) g mk e base recs) (hn : 6 ≤ s.n) (hm : openMark s ≤ 2147483648) : openP s = ⟨s, some ⟨g, openMark s, e, false⟩, base, recs, 0⟩ := by
  have hb : theBase s.get s.n = some (g, base) := better_inv h.inv
  have ht : recsS s g = (recs, e) := h.inv.log.tail_eq (k := lg s.n) (Nat.le_refl _)
  unfold openP
  rw [if_neg (by omega), if_neg (by rw [h.live]; simp), if_neg (by omega), hb]
  simp only [ht]
theorem ready_gen {sl' log : Nat} (h : Ready s sl' log g mk e base recs) : 1 ≤ g ∧ g ≤ 2147483648 := by
  refine ⟨h.inv.g1, ?_⟩
  obtain ⟨q, r, b, n, hl, hj, hk, hi, hy⟩ := loadR_joined h.inv.cur
  have h1 := (run_get (f := slotF s.get (slotAt sl' g)) (k := sl') (i := 0) (j := 0) (p := q) (by rw [hl]; rfl)).1
  unfold slotF at h1
  have h2 := win_yes ((may_iff q).1 (got_may h1).1).g
  have h3 : g = q.gen := congrArg Prod.fst hy
  omega
theorem ready_left {sl' log : Nat} (h : Ready s sl' log g mk e base recs) (l : Int) : Ready { s with left := l } sl' log g mk e base recs := ⟨h.live, h.calm, h.size, h.far, h.inv, h.mks⟩
end
theorem write_calm {s : St} {i : Nat} {x : List Nat} (hd : s.dead = false) (hl : s.left < 0) (hi : i < s.n) (hx : x.length = 512) :
    (s.write (i : Int) x).2 = 0 ∧ (s.write (i : Int) x).1.dead = false ∧ (s.write (i : Int) x).1.left = s.left ∧ (s.write (i : Int) x).1.n = s.n := by
  unfold St.write
  rw [if_neg (by rw [hd]; simp), if_pos ⟨by omega, by omega, hx⟩]
  have h0 : ¬ s.left = 0 := by omega
  have h1 : ¬ 0 < s.left := by omega
  unfold St.act
  rw [if_neg h0, if_pos rfl]
  exact ⟨rfl, hd, by simp only; rw [if_neg h1], rfl⟩
theorem writes_calm {l : List (List Nat)} {s : St} {i : Nat} (hd : s.dead = false) (hl : s.left < 0) (hi : i + l.length ≤ s.n) (hx : ∀ x ∈ l, x.length = 512) : (writes s i l).2 = 0 ∧ (writes s i l).1.left = s.left := by
  induction l generalizing s i with
  | nil =>
    rw [writes_nil]
    unfold St.flush
    rw [if_neg (by rw [hd]; simp)]
    have h0 : ¬ s.left = 0 := by omega
    have h1 : ¬ 0 < s.left := by omega
    unfold St.act
    rw [if_neg h0, if_pos rfl]
    exact ⟨rfl, by simp only; rw [if_neg h1]⟩
  | cons x r ih =>
    rw [List.length_cons] at hi
    obtain ⟨h1, h2, h3, h4⟩ := write_calm (x := x) hd hl (by omega : i < s.n) (hx x (by simp))
    rw [writes_ok h1]
    obtain ⟨h5, h6⟩ := ih (s := (s.write (i : Int) x).1) (i := i + 1) h2 (by rw [h3]; exact hl) (by rw [h4]; omega) (fun y hy => hx y (by simp [hy]))
    exact ⟨h5, by rw [h6, h3]⟩
theorem writes_n {l : List (List Nat)} {s : St} {i : Nat} : (writes s i l).1.n = s.n := by
  have hf : ∀ t : St, t.flush.1.n = t.n := fun t => by
    unfold St.flush St.act
    split
    · rfl
    · split <;> (split <;> rfl)
  have hw : ∀ (t : St) (j : Int) (x : List Nat), (t.write j x).1.n = t.n := fun t j x => by
    unfold St.write St.act
    split
    · rfl
    · split
      · split <;> (split <;> rfl)
      · rfl
  induction l generalizing s i with
  | nil => exact hf s
  | cons x r ih =>
    rw [writes]
    split
    · rw [ih, hw]
    · exact hw s _ x
theorem new_got (n i : Nat) : got ((Dsk.St.new n).get i) = none := got_blank
theorem new_none (n k : Nat) : theBase (Dsk.St.new n).get k = none := by
  have hl : ∀ q, loaded (slots (Dsk.St.new n).get (sl k) q) = none := fun q => by
    have h := loaded_run (Dsk.St.new n).get (q * sl k) (sl k)
    have e : run (slotF (Dsk.St.new n).get (q * sl k)) (sl k) 0 = [] := by
      cases sl k with
      | zero => rfl
      | succ m => exact run_none (new_got n _)
    rw [e] at h
    exact h
  unfold theBase better
  rw [hl, hl]
theorem new_new (n k : Nat) : newD (Dsk.St.new n).get k = true := by
  unfold newD newTo
  rw [List.all_eq_true]
  intro i _
  rw [decide_eq_true (show (Dsk.St.new n).get i = Pg.noughts from rfl), Bool.or_true]
theorem new_mark (n : Nat) : openMark (Dsk.St.new n) = 1 := by
  have h1 := mark_bounds ((List.range (Dsk.St.new n).n).map (Dsk.St.new n).get)
  have h2 : markOf ((List.range (Dsk.St.new n).n).map (Dsk.St.new n).get) ≤ 0 := mark_le (Int.le_refl _) fun y hy p hp => by
    simp only [List.mem_map] at hy
    obtain ⟨i, _, rfl⟩ := hy
    rw [new_got] at hp
    cases hp
  unfold openMark
  omega
/-- a new disk is opened -/
theorem open_fresh (n : Nat) (h6 : 6 ≤ n) : ∃ s1, openP (Dsk.St.new n) = ⟨s1, some ⟨1, 1, 0, false⟩, [], [], 0⟩ ∧ s1.n = n ∧ s1.left = -1 ∧ Ready s1 (sl n) (lg n) 1 1 0 [] [] := by
  have hs := sl_le n
  have hp := sl_pos (k := n) (by omega)
  have hsa : slotAt (sl n) 1 = sl n := by unfold slotAt; simp
  have hfit : fits (bP 1 1) [] = true := by decide
  have hpl : parts ([] : List Nat).length = 1 := by decide
  obtain ⟨h1, h2⟩ := writes_calm (l := secL (bP 1 1) []) (s := Dsk.St.new n) (i := slotAt (sl n) 1) rfl (by show (-1 : Int) < 0; omega) (by rw [secL_len, hpl, hsa]; show sl n + 1 ≤ n; omega) (secL_512 hfit)
  refine ⟨(firstP (Dsk.St.new n) n 1).1, ?_, writes_n, h2, ?_⟩
  · unfold openP
    rw [if_neg (show ¬ (Dsk.St.new n).n < 6 by show ¬ n < 6; omega), if_neg (by simp [Dsk.St.new]), new_mark, if_neg (by omega), new_none]
    simp only
    rw [if_pos (new_new n _)]
    have e : (Dsk.St.new n).n = n := rfl
    rw [e, if_pos (show (firstP (Dsk.St.new n) n 1).2 = 0 from h1)]
  · exact keep_new rfl (fun _ => rfl) (by show n = 2 * sl n + lg n; unfold lg; omega) (new_got n) hp h1
section
variable {s : St} {k e : Nat} {g mk : Int} {base b : List Nat} {recs : List (List Nat)}
theorem commit_ready (h : Ready s (sl k) (lg k) g mk e base recs) (hb : b.length ≤ 7808) (h0 : 0 ≤ mk) (h1 : mk ≤ 2147483648) (hk : lg k ≤ 1000) :
    (lg k < e + parts b.length ∧ commitP k s ⟨g, mk, e, false⟩ b = (s, ⟨g, mk, e, false⟩, 4)) ∨
    (∃ s1, commitP k s ⟨g, mk, e, false⟩ b = (s1, ⟨g, mk, e + parts b.length, false⟩, 0) ∧ Ready s1 (sl k) (lg k) g mk (e + parts b.length) base (recs ++ [b]) ∧ s1.n = s.n ∧ (s.left < 0 → s1.left = s.left)) ∨
    (∃ s1, commitP k s ⟨g, mk, e, false⟩ b = (s1, ⟨g, mk, e, true⟩, 7) ∧ s1.dead = true ∧ s1.n = s.n ∧ 0 ≤ s.left ∧ ∀ s', Crashed s1 s' →
      (Ready s' (sl k) (lg k) g (openMark s') e base recs ∨ Ready s' (sl k) (lg k) g (openMark s') (e + parts b.length) base (recs ++ [b])) ∧ openMark s' ≤ mk + 1) := by
  have hg := ready_gen h
  have hel := h.inv.log.le
  have hfit : fits (lP g mk e) b = true := fits_ok (by unfold lP; simp) (by unfold lP; simp only; omega) (by unfold lP; simp only; omega) (by unfold lP; simp only; omega) hb
  unfold commitP
  simp only [Bool.false_eq_true, if_false]
  by_cases hl : lg k < e + parts b.length
  · left
    rw [if_pos hl]
    exact ⟨hl, rfl⟩
  · right
    rw [if_neg hl]
    have hsz := h.size
    have hcalm := fun hneg => writes_calm (l := secL (lP g mk e) b) (s := s) (i := 2 * sl k + e) h.live hneg (by rw [secL_len]; omega) (secL_512 hfit)
    rcases keep_commit h hfit (by omega) h0 with ⟨r1, r2⟩ | ⟨r1, r2, r3, r4⟩
    · left
      rw [r1, if_pos rfl]
      exact ⟨_, rfl, r2, writes_n, fun hneg => (hcalm hneg).2⟩
    · right
      rw [r1, if_neg (by omega)]
      exact ⟨_, rfl, r2, r3, Int.not_lt.1 fun hneg => by have := (hcalm hneg).1; omega, r4⟩
theorem turn_ready (h : Ready s (sl k) (lg k) g mk e base recs) (hb : b.length ≤ 7808) (h0 : 0 ≤ mk) (h1 : mk ≤ 2147483648) :
    (∃ er, (er = 5 ∨ er = 4) ∧ turnP k s ⟨g, mk, e, false⟩ b = (s, ⟨g, mk, e, false⟩, er)) ∨
    (∃ s1, turnP k s ⟨g, mk, e, false⟩ b = (s1, ⟨g + 1, mk, 0, false⟩, 0) ∧ Ready s1 (sl k) (lg k) (g + 1) mk 0 b [] ∧ s1.n = s.n ∧ (s.left < 0 → s1.left = s.left)) ∨
    (∃ s1, turnP k s ⟨g, mk, e, false⟩ b = (s1, ⟨g, mk, e, true⟩, 7) ∧ s1.dead = true ∧ s1.n = s.n ∧ 0 ≤ s.left ∧ ∀ s', Crashed s1 s' →
      (Ready s' (sl k) (lg k) g (openMark s') e base recs ∨ Ready s' (sl k) (lg k) (g + 1) (openMark s') 0 b []) ∧ openMark s' ≤ mk + 1) := by
  have hg := ready_gen h
  unfold turnP
  simp only [Bool.false_eq_true, if_false]
  by_cases hl : sl k < parts b.length
  · left
    rw [if_pos hl]
    exact ⟨5, .inl rfl, rfl⟩
  · rw [if_neg hl]
    by_cases hm : g = 2147483648
    · left
      rw [if_pos hm]
      exact ⟨4, .inr rfl, rfl⟩
    · right
      rw [if_neg hm]
      have hfit : fits (bP (g + 1) mk) b = true := fits_ok (by unfold bP; simp) (by unfold bP; simp only; omega) (by unfold bP; simp only; omega) (by unfold bP; simp) hb
      have hsz := h.size
      have hp := parts_pos hb
      have hsa := slotAt_lt (sl := sl k) (g := g + 1) (j := parts b.length - 1) (by omega)
      have hcalm := fun hneg => writes_calm (l := secL (bP (g + 1) mk) b) (s := s) (i := slotAt (sl k) (g + 1)) h.live hneg (by rw [secL_len]; omega) (secL_512 hfit)
      rcases keep_turn h hfit (by omega) h0 with ⟨r1, r2⟩ | ⟨r1, r2, r3, r4⟩
      · left
        rw [r1, if_pos rfl]
        exact ⟨_, rfl, r2, writes_n, fun hneg => (hcalm hneg).2⟩
      · right
        rw [r1, if_neg (by omega)]
        exact ⟨_, rfl, r2, r3, Int.not_lt.1 fun hneg => by have := (hcalm hneg).1; omega, r4⟩
end
end Go.Proofs.Ytddhkajcakndlaa.Wl
