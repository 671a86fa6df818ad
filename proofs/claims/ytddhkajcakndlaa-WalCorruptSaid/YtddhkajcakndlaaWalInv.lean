/- What a disk with a log holds (layer 8), as a function of its sectors; and what it holds behind a write, whole or torn. Pure. -/
import Derived.Test.YtddhkajcakndlaaWalPure
namespace Go.Proofs.Ytddhkajcakndlaa.Wl
open Go.RowKit Go.Proofs.Ytddhkajcakndlaa.Mem Go.Proofs.Ytddhkajcakndlaa.Oct Go.Proofs.Ytddhkajcakndlaa.Pg Go.Proofs.Ytddhkajcakndlaa.Rcd Go.Proofs.Ytddhkajcakndlaa.Slt
set_option linter.unusedVariables false
set_option linter.unusedSimpArgs false
def pick (g : Int) (i : Nat) : Option P → Option P
  | none => none
  | some x => if x.kind = 2 ∧ x.gen = g ∧ x.index = (i : Int) then some x else none
/-- the log's page of a place, of a generation -/
def logF (D : Nat → List Nat) (fr : Nat) (g : Int) (i : Nat) : Option P := pick g i (got (D (fr + i)))
def slotF (D : Nat → List Nat) (s j : Nat) : Option P := got (D (s + j))
theorem pick_some {g : Int} {i : Nat} {o : Option P} {x : P} (h : pick g i o = some x) : o = some x ∧ x.kind = 2 ∧ x.gen = g ∧ x.index = (i : Int) := by
  cases o with
  | none => cases h
  | some y =>
    have e : pick g i (some y) = if y.kind = 2 ∧ y.gen = g ∧ y.index = (i : Int) then some y else none := rfl
    rw [e] at h
    split at h
    · rename_i hh
      injection h with h
      subst h
      exact ⟨rfl, hh⟩
    · cases h
theorem pick_of {g : Int} {i : Nat} {x : P} (h : x.kind = 2 ∧ x.gen = g ∧ x.index = (i : Int)) : pick g i (some x) = some x := by
  have e : pick g i (some x) = if x.kind = 2 ∧ x.gen = g ∧ x.index = (i : Int) then some x else none := rfl
  rw [e, if_pos h]
def loadR : List P → Option Bs
  | [] => none
  | q :: r => (joined (q :: r)).bind fun x => base0 q x.1
theorem loadR_cons (q : P) (r : List P) : loadR (q :: r) = (joined (q :: r)).bind fun x => base0 q x.1 := rfl
theorem loadR_joined {l : List P} {y : Bs} (h : loadR l = some y) : ∃ q r b n, l = q :: r ∧ joined l = some (b, n) ∧ q.kind = 1 ∧ q.index = 0 ∧ y = (q.gen, b) := by
  cases l with
  | nil => cases h
  | cons q r =>
    rw [loadR_cons] at h
    cases hj : joined (q :: r) with
    | none => rw [hj] at h; cases h
    | some x =>
      rw [hj] at h
      simp only [base0, Option.bind_some] at h
      split at h
      · rename_i hh
        injection h with h
        exact ⟨q, r, x.1, x.2, rfl, rfl, hh.1, hh.2, h.symm⟩
      · cases h
theorem loadR_of {l : List P} {q : P} {r : List P} {b : List Nat} {n : Nat} (hl : l = q :: r) (hj : joined l = some (b, n)) (hk : q.kind = 1) (hi : q.index = 0) : loadR l = some (q.gen, b) := by
  subst hl
  rw [loadR_cons, hj]
  simp only [base0, Option.bind_some]
  rw [if_pos ⟨hk, hi⟩]
/-- it hangs on the record's own pages alone -/
theorem loadR_prefix {l l' : List P} {b : List Nat} {n : Nat} {y : Bs} (h : loadR l = some y) (hj : joined l = some (b, n)) (ht : l'.take n = l.take n) : loadR l' = some y := by
  obtain ⟨q, r, b2, n2, hl, hj2, hk, hi, hy⟩ := loadR_joined h
  rw [hj] at hj2
  injection hj2 with hj2
  injection hj2 with e1 e2
  subst e1 e2
  have hj' := joined_prefix hj ht
  obtain ⟨_, _, _, _, h1, h2, _⟩ := joined_some hj'
  cases l' with
  | nil => simp at h2; omega
  | cons q' r' =>
    have hq : q' = q := by
      subst hl
      have := congrArg (fun l => l[0]?) ht
      simp only [List.getElem?_take] at this
      rw [if_pos (by omega), if_pos (by omega)] at this
      simpa using this
    subst hq
    rw [loadR_of rfl hj' hk hi, hy]
theorem pagesOf_run (D : Nat → List Nat) (s k : Nat) : pagesOf ((List.range k).map fun j => D (s + j)) = run (slotF D s) k 0 := by
  have : ∀ (k i : Nat), pagesOf ((List.range k).map fun j => D (s + (i + j))) = run (slotF D s) k i := by
    intro k
    induction k with
    | zero => intro i; rfl
    | succ k ih =>
      intro i
      have e : (List.range (k + 1)).map (fun j => D (s + (i + j))) = D (s + i) :: (List.range k).map (fun j => D (s + (i + 1 + j))) := by
        rw [List.range_succ_eq_map, List.map_cons, List.map_map]
        congr 1
        apply List.map_congr_left
        intro j _
        show D (s + (i + (j + 1))) = _
        congr 1
        omega
      rw [e]
      cases hg : got (D (s + i)) with
      | none => rw [pagesOf_none hg, run_none (by unfold slotF; exact hg)]
      | some p => rw [pagesOf_some hg, run_some (by unfold slotF; exact hg), ih]
  have h0 := this k 0
  simpa using h0
theorem loaded_run (D : Nat → List Nat) (s k : Nat) : loaded ((List.range k).map fun j => D (s + j)) = loadR (run (slotF D s) k 0) := by
  unfold loaded
  rw [pagesOf_run]
  cases run (slotF D s) k 0 with
  | nil => rfl
  | cons q r =>
    rw [loadR_cons]
    simp only
    cases joined (q :: r) <;> rfl
/-- where the slot of a generation begins -/
def slotAt (sl : Nat) (g : Int) : Nat := g.toNat % 2 * sl
theorem slotAt_lt {sl : Nat} {g : Int} {j : Nat} (hj : j < sl) : slotAt sl g + j < 2 * sl := by
  unfold slotAt
  have h : g.toNat % 2 < 2 := Nat.mod_lt _ (by omega)
  rcases (by omega : g.toNat % 2 = 0 ∨ g.toNat % 2 = 1) with h | h <;> rw [h] <;> omega
theorem slotAt_two {sl : Nat} {g : Int} (hg : 0 ≤ g) : slotAt sl (g + 1 + 1) = slotAt sl g := by
  unfold slotAt
  congr 1
  omega
theorem slotAt_ne {sl : Nat} {g : Int} {i j : Nat} (hg : 0 ≤ g) (hi : i < sl) (hj : j < sl) : slotAt sl g + i ≠ slotAt sl (g + 1) + j := by
  unfold slotAt
  rcases (by omega : g.toNat % 2 = 0 ∧ (g + 1).toNat % 2 = 1 ∨ g.toNat % 2 = 1 ∧ (g + 1).toNat % 2 = 0) with ⟨h1, h2⟩ | ⟨h1, h2⟩ <;> rw [h1, h2] <;> omega
/-- a disk with a log: slots of sl sectors, a log of so many -/
structure WInv (D : Nat → List Nat) (sl log : Nat) (g mk : Int) (e : Nat) (base : List Nat) (recs : List (List Nat)) : Prop where
  g1 : 1 ≤ g
  cur : loadR (run (slotF D (slotAt sl g)) sl 0) = some (g, base)
  oth : ∀ y, loadR (run (slotF D (slotAt sl (g + 1))) sl 0) = some y → y.1 < g
  curg : ∀ j x, j < sl → slotF D (slotAt sl g) j = some x → x.gen ≤ g
  othg : ∀ j x, j < sl → slotF D (slotAt sl (g + 1)) j = some x → x.gen ≤ g + 1 ∧ (x.gen = g + 1 → x.mark < mk)
  log : LogInv (logF D (2 * sl) g) log recs e mk
  logg : ∀ i x, got (D (2 * sl + i)) = some x → x.kind = 2 → x.gen ≤ g
theorem run_same {f f' : Nat → Option P} {k : Nat} (h : ∀ j, j < k → f' j = f j) : run f' k 0 = run f k 0 := by
  have h1 := run_agree (f := f) (f' := f') (k := k) (i := 0) (n := k) (fun j _ hj => h j (by omega))
  rw [List.take_of_length_le (run_len k 0), List.take_of_length_le (run_len k 0)] at h1
  exact h1
/-- the mark may be a greater one -/
theorem WInv.more {D : Nat → List Nat} {sl log e : Nat} {g mk mk' : Int} {base : List Nat} {recs : List (List Nat)} (h : WInv D sl log g mk e base recs) (hm : mk ≤ mk') : WInv D sl log g mk' e base recs :=
  ⟨h.g1, h.cur, h.oth, h.curg, fun j x hj hx => ⟨(h.othg j x hj hx).1, fun e => by have := (h.othg j x hj hx).2 e; omega⟩, ⟨h.log.laid, h.log.stop, h.log.le, fun j x hj hx => by have := h.log.fresh j x hj hx; omega, h.log.part⟩, h.logg⟩
/-- the slots alone, and the log alone -/
theorem inv_log {D D' : Nat → List Nat} {sl log e e' : Nat} {g mk mk' : Int} {base : List Nat} {recs recs' : List (List Nat)} (h : WInv D sl log g mk e base recs) (hs : ∀ j, j < 2 * sl → D' j = D j) (hm : mk ≤ mk')
    (hl : LogInv (logF D' (2 * sl) g) log recs' e' mk') (hg : ∀ i x, got (D' (2 * sl + i)) = some x → x.kind = 2 → x.gen ≤ g) : WInv D' sl log g mk' e' base recs' := by
  have hf : ∀ k j, j < sl → slotF D' (slotAt sl k) j = slotF D (slotAt sl k) j := fun k j hj => by
    unfold slotF
    rw [hs _ (slotAt_lt hj)]
  refine ⟨h.g1, ?_, ?_, fun j x hj hx => h.curg j x hj (by rw [← hf g j hj]; exact hx), fun j x hj hx => ?_, hl, hg⟩
  · rw [run_same (hf g)]
    exact h.cur
  · rw [run_same (hf (g + 1))]
    exact h.oth
  · have := h.othg j x hj (by rw [← hf (g + 1) j hj]; exact hx)
    exact ⟨this.1, fun e => by have := this.2 e; omega⟩
/-- the page that a record of the log begins with -/
def lP (g mk : Int) (e : Nat) : P := ⟨2, g, mk, e, 0, 0, []⟩
theorem log_page {g mk : Int} {e n j : Nat} {b : List Nat} (hm : (nth (lP g mk e) b n j).May) : pick g (e + j) (got (nth (lP g mk e) b n j).sector) = some (nth (lP g mk e) b n j) := by
  rw [got_sector hm]
  exact pick_of ⟨rfl, rfl, by show ((e : Nat) : Int) + (j : Nat) = ((e + j : Nat) : Int); omega⟩
theorem fits_may {q : P} {b : List Nat} {i : Nat} (h : fits q b = true) (hi : i < parts b.length) : (nth q b (parts b.length) i).May := by
  simp only [fits, Bool.and_eq_true] at h
  exact (may_iff _).1 (List.all_eq_true.1 h.2 _ (by simp only [pages, List.mem_map, List.mem_range]; exact ⟨i, hi, rfl⟩))
/-- COMMIT, TORN: each sector of the record is no page, or as it was, or as it was written -/
theorem commit_torn {D D' : Nat → List Nat} {sl log e n : Nat} {g mk mk' : Int} {base b : List Nat} {recs : List (List Nat)} (h : WInv D sl log g mk e base recs) (hf : fits (lP g mk e) b = true) (hn : n = parts b.length) (hnl : e + n ≤ log)
    (hin : ∀ j, j < n → got (D' (2 * sl + (e + j))) = none ∨ D' (2 * sl + (e + j)) = D (2 * sl + (e + j)) ∨ D' (2 * sl + (e + j)) = (nth (lP g mk e) b n j).sector)
    (hout : ∀ i, i < 2 * sl + e ∨ 2 * sl + (e + n) ≤ i → D' i = D i) (hmk : mk < mk') :
    WInv D' sl log g mk' e base recs ∨ WInv D' sl log g mk' (e + n) base (recs ++ [b]) := by
  have hmy : ∀ j, j < n → (nth (lP g mk e) b n j).May := fun j hj => by rw [hn] at hj ⊢; exact fits_may hf hj
  have hw := log_write (f' := logF D' (2 * sl) g) h.log rfl hf hn hnl (fun j hj => by
    unfold logF
    rcases hin j hj with e1 | e1 | e1
    · exact .inl (by rw [e1]; rfl)
    · exact .inr (.inl (by rw [e1]))
    · exact .inr (.inr (by rw [e1]; exact log_page (hmy j hj)))) (fun j hj => by
    unfold logF
    rw [hout]
    omega) mk' hmk
  have hg : ∀ i x, got (D' (2 * sl + i)) = some x → x.kind = 2 → x.gen ≤ g := fun i x hx hk => by
    by_cases hi : e ≤ i ∧ i < e + n
    · rcases hin (i - e) (by omega) with e1 | e1 | e1
      · rw [show e + (i - e) = i by omega, hx] at e1; cases e1
      · rw [show e + (i - e) = i by omega] at e1
        rw [e1] at hx
        exact h.logg i x hx hk
      · rw [show e + (i - e) = i by omega] at e1
        rw [e1, got_sector (hmy _ (by omega))] at hx
        have := Option.some.inj hx
        rw [← this]
        exact Int.le_refl _
    · rw [hout _ (by omega)] at hx
      exact h.logg i x hx hk
  rcases hw with hl | ⟨_, hl⟩
  · exact .inl (inv_log h (fun j hj => hout j (by omega)) (by omega) hl hg)
  · exact .inr (inv_log h (fun j hj => hout j (by omega)) (by omega) hl hg)
/-- COMMIT, WHOLE: by the same mark it goes on -/
theorem commit_whole {D D' : Nat → List Nat} {sl log e n : Nat} {g mk : Int} {base b : List Nat} {recs : List (List Nat)} (h : WInv D sl log g mk e base recs) (hf : fits (lP g mk e) b = true) (hn : n = parts b.length) (hnl : e + n ≤ log)
    (hin : ∀ j, j < n → D' (2 * sl + (e + j)) = (nth (lP g mk e) b n j).sector) (hout : ∀ i, i < 2 * sl + e ∨ 2 * sl + (e + n) ≤ i → D' i = D i) : WInv D' sl log g mk (e + n) base (recs ++ [b]) := by
  have hmy : ∀ j, j < n → (nth (lP g mk e) b n j).May := fun j hj => by rw [hn] at hj ⊢; exact fits_may hf hj
  have hn1 : 1 ≤ n := by
    rw [hn]
    simp only [fits, Bool.and_eq_true, decide_eq_true_eq] at hf
    exact hf.1
  have hall : ∀ j, j < n → logF D' (2 * sl) g (e + j) = some (nth (lP g mk e) b n j) := fun j hj => by
    unfold logF
    rw [hin j hj]
    exact log_page (hmy j hj)
  have hw := log_write (f' := logF D' (2 * sl) g) h.log rfl hf hn hnl (fun j hj => .inr (.inr (hall j hj))) (fun j hj => by
    unfold logF
    rw [hout]
    omega) (mk + 1) (by omega)
  have hfr : ∀ j x, e + n ≤ j → logF D' (2 * sl) g j = some x → x.mark < mk := fun j x hj hx => by
    unfold logF at hx
    rw [hout _ (.inr (by omega))] at hx
    exact h.log.fresh j x (by omega) hx
  have hg : ∀ i x, got (D' (2 * sl + i)) = some x → x.kind = 2 → x.gen ≤ g := fun i x hx hk => by
    by_cases hi : e ≤ i ∧ i < e + n
    · have e1 := hin (i - e) (by omega)
      rw [show e + (i - e) = i by omega] at e1
      rw [e1, got_sector (hmy _ (by omega))] at hx
      have := Option.some.inj hx
      rw [← this]
      exact Int.le_refl _
    · rw [hout _ (by omega)] at hx
      exact h.logg i x hx hk
  have hj := all_new (f' := logF D' (2 * sl) g) (k := log - e) (i := e) hf hn (by omega) hall
  rcases hw with hl | ⟨_, hl⟩
  · have := hl.stop
    rw [hj] at this
    cases this
  · exact inv_log h (fun j hj => hout j (by omega)) (Int.le_refl _) ⟨hl.laid, hl.stop, hl.le, hfr, hl.part⟩ hg
theorem slotAt_or (sl : Nat) {g : Int} (hg : 0 ≤ g) (i : Nat) (hi : i < 2 * sl) : (∃ j, j < sl ∧ i = slotAt sl g + j) ∨ ∃ j, j < sl ∧ i = slotAt sl (g + 1) + j := by
  unfold slotAt
  rcases (by omega : g.toNat % 2 = 0 ∧ (g + 1).toNat % 2 = 1 ∨ g.toNat % 2 = 1 ∧ (g + 1).toNat % 2 = 0) with ⟨h1, h2⟩ | ⟨h1, h2⟩ <;> rw [h1, h2]
  · by_cases h : i < sl
    · exact .inl ⟨i, h, by omega⟩
    · exact .inr ⟨i - sl, by omega, by omega⟩
  · by_cases h : i < sl
    · exact .inr ⟨i, h, by omega⟩
    · exact .inl ⟨i - sl, by omega, by omega⟩
/-- a turned disk: the base of the next generation is whole, the log is empty -/
theorem turned_inv {D' : Nat → List Nat} {sl log : Nat} {g mk : Int} {b : List Nat} (hg0 : 0 ≤ g) (hcur : loadR (run (slotF D' (slotAt sl (g + 1))) sl 0) = some (g + 1, b)) (hcg : ∀ j x, j < sl → slotF D' (slotAt sl (g + 1)) j = some x → x.gen ≤ g + 1)
    (hog : ∀ j x, j < sl → slotF D' (slotAt sl g) j = some x → x.gen ≤ g) (hoth : ∀ y, loadR (run (slotF D' (slotAt sl g)) sl 0) = some y → y.1 ≤ g) (hlg : ∀ i x, got (D' (2 * sl + i)) = some x → x.kind = 2 → x.gen ≤ g) : WInv D' sl log (g + 1) mk 0 b [] := by
  have hnone : ∀ i, logF D' (2 * sl) (g + 1) i = none := fun i => by
    cases hx : logF D' (2 * sl) (g + 1) i with
    | none => rfl
    | some x =>
      exfalso
      obtain ⟨h1, h2, h3, _⟩ := pick_some (by unfold logF at hx; exact hx)
      have := hlg i x h1 h2
      omega
  have hrun : ∀ k i, run (logF D' (2 * sl) (g + 1)) k i = [] := fun k i => by
    cases k with
    | zero => rfl
    | succ k => exact run_none (hnone i)
  refine ⟨by omega, hcur, fun y hy => ?_, hcg, fun j x hj hx => ?_, ⟨rfl, by rw [hrun]; exact joined_nil rfl, Nat.zero_le _, fun j x _ hx => ?_, fun j x _ hx => ?_⟩, fun i x hx hk => by have := hlg i x hx hk; omega⟩
  · rw [slotAt_two hg0] at hy
    have := hoth y hy
    omega
  · rw [slotAt_two hg0] at hx
    have := hog j x hj hx
    exact ⟨by omega, fun e => by omega⟩
  · rw [hnone] at hx; cases hx
  · rw [hnone] at hx; cases hx
/-- TURN, TORN -/
theorem turn_torn {D D' : Nat → List Nat} {sl log e n : Nat} {g mk mk' : Int} {base b : List Nat} {recs : List (List Nat)} (h : WInv D sl log g mk e base recs) (hf : fits (bP (g + 1) mk) b = true) (hn : n = parts b.length) (hnl : n ≤ sl)
    (hin : ∀ j, j < n → got (D' (slotAt sl (g + 1) + j)) = none ∨ D' (slotAt sl (g + 1) + j) = D (slotAt sl (g + 1) + j) ∨ D' (slotAt sl (g + 1) + j) = (nth (bP (g + 1) mk) b n j).sector)
    (hout : ∀ i, i < slotAt sl (g + 1) ∨ slotAt sl (g + 1) + n ≤ i → D' i = D i) (hmk : mk < mk') :
    WInv D' sl log g mk' e base recs ∨ WInv D' sl log (g + 1) mk' 0 b [] := by
  have hg1 := h.g1
  have hmy : ∀ j, j < n → (nth (bP (g + 1) mk) b n j).May := fun j hj => by rw [hn] at hj ⊢; exact fits_may hf hj
  have hother : ∀ j, j < sl → slotF D' (slotAt sl g) j = slotF D (slotAt sl g) j := fun j hj => by
    unfold slotF
    rw [hout]
    have h1 : ∀ k, k < n → slotAt sl g + j ≠ slotAt sl (g + 1) + k := fun k hk => slotAt_ne (by omega) hj (by omega)
    have := h1 (slotAt sl g + j - slotAt sl (g + 1))
    omega
  have hlog : ∀ i, D' (2 * sl + i) = D (2 * sl + i) := fun i => hout _ (.inr (by
    have : slotAt sl (g + 1) ≤ sl := by
      unfold slotAt
      rcases (by omega : (g + 1).toNat % 2 = 0 ∨ (g + 1).toNat % 2 = 1) with h | h <;> rw [h] <;> omega
    omega))
  have hin' : ∀ j, j < n → slotF D' (slotAt sl (g + 1)) (0 + j) = none ∨ slotF D' (slotAt sl (g + 1)) (0 + j) = slotF D (slotAt sl (g + 1)) (0 + j) ∨ slotF D' (slotAt sl (g + 1)) (0 + j) = some (nth (bP (g + 1) mk) b n j) := fun j hj => by
    unfold slotF
    rw [Nat.zero_add]
    rcases hin j hj with e1 | e1 | e1
    · exact .inl e1
    · exact .inr (.inl (by rw [e1]))
    · exact .inr (.inr (by rw [e1, got_sector (hmy j hj)]))
  have hgen : ∀ j x, j < sl → slotF D' (slotAt sl (g + 1)) j = some x → x.gen ≤ g + 1 ∧ (x.gen = g + 1 → x.mark < mk') := fun j x hj hx => by
    by_cases hjn : j < n
    · have h1 := hin' j hjn
      rw [Nat.zero_add, hx] at h1
      rcases h1 with e1 | e1 | e1
      · cases e1
      · have := h.othg j x hj e1.symm
        exact ⟨this.1, fun e => by have := this.2 e; omega⟩
      · have := Option.some.inj e1
        rw [this]
        exact ⟨Int.le_refl _, fun _ => by show mk < mk'; omega⟩
    · unfold slotF at hx
      rw [hout _ (.inr (by omega))] at hx
      have := h.othg j x hj hx
      exact ⟨this.1, fun e => by have := this.2 e; omega⟩
  have hlogF : logF D' (2 * sl) g = logF D (2 * sl) g := by
    funext i
    unfold logF
    rw [hlog]
  -- what the other slot loads
  have hmix : ∀ y, loadR (run (slotF D' (slotAt sl (g + 1))) sl 0) = some y → (y = (g + 1, b)) ∨ loadR (run (slotF D (slotAt sl (g + 1))) sl 0) = some y := fun y hy => by
    obtain ⟨q, r, b', n', hl, hj, hk, hi, hyq⟩ := loadR_joined hy
    -- places behind the slot do not count: take the functions as they are within it
    have hcut : ∀ f : Nat → Option P, run (fun j => if j < sl then f j else none) sl 0 = run f sl 0 := fun f => run_same fun j hj => by simp [hj]
    have hj2 := hj
    rw [← hcut] at hj2
    rcases mix (f := fun j => if j < sl then slotF D (slotAt sl (g + 1)) j else none) (f' := fun j => if j < sl then slotF D' (slotAt sl (g + 1)) j else none) (i := 0) hf hn hnl (fun j hj => by
      have h1 := hin' j hj
      simp only [Nat.zero_add, show j < sl by omega, if_true] at h1 ⊢
      exact h1) (fun j hj => by
      by_cases hjs : j < sl
      · simp only [hjs, if_true]
        unfold slotF
        rw [hout _ (.inr (by omega))]
      · simp only [hjs, if_false]) (fun j x _ hx => by
      by_cases hjs : j < sl
      · simp only [hjs, if_true] at hx
        rintro ⟨e1, e2⟩
        have := (h.othg j x hjs hx).2 e1
        have e3 : x.mark = mk := e2
        omega
      · simp only [hjs, if_false] at hx
        cases hx) hj2 with ⟨h1, h2, h3⟩ | h1
    · left
      have h0 := h1 0 (by obtain ⟨_, _, _, _, h9, _⟩ := joined_some hj; omega)
      have hq := (run_get (f := slotF D' (slotAt sl (g + 1))) (k := sl) (i := 0) (j := 0) (p := q) (by rw [hl]; rfl)).1
      have hsl : 0 < sl := by obtain ⟨_, _, _, _, h9, _⟩ := joined_some hj; omega
      simp only [Nat.add_zero, hsl, if_true] at h0 hq
      rw [hq] at h0
      have h4 := Option.some.inj h0
      rw [hyq, h4, h2]
      rfl
    · right
      rw [hcut, hcut] at h1
      exact loadR_prefix hy hj h1
  have hlog2 : LogInv (logF D' (2 * sl) g) log recs e mk' := by
    rw [hlogF]
    exact (h.more (Int.le_of_lt hmk)).log
  have hlg : ∀ i x, got (D' (2 * sl + i)) = some x → x.kind = 2 → x.gen ≤ g := fun i x hx hk => h.logg i x (by rw [← hlog]; exact hx) hk
  have hcur : loadR (run (slotF D' (slotAt sl g)) sl 0) = some (g, base) := by
    rw [run_same hother]
    exact h.cur
  have hcg : ∀ j x, j < sl → slotF D' (slotAt sl g) j = some x → x.gen ≤ g := fun j x hj hx => h.curg j x hj (by rw [← hother j hj]; exact hx)
  by_cases hy : loadR (run (slotF D' (slotAt sl (g + 1))) sl 0) = some (g + 1, b)
  · right
    exact turned_inv (by omega) hy (fun j x hj hx => (hgen j x hj hx).1) hcg (fun y hy => by
      rw [hcur] at hy
      injection hy with hy
      rw [← hy]
      exact Int.le_refl _) hlg
  · left
    refine ⟨hg1, hcur, fun y hy2 => ?_, hcg, hgen, hlog2, hlg⟩
    rcases hmix y hy2 with e1 | e1
    · rw [e1] at hy2
      exact absurd hy2 hy
    · exact h.oth y e1
/-- TURN, WHOLE: also of a new disk (g = 0) -/
theorem turn_whole {D' : Nat → List Nat} {sl log n : Nat} {g mk : Int} {b : List Nat} (hg0 : 0 ≤ g) (hf : fits (bP (g + 1) mk) b = true) (hn : n = parts b.length) (hnl : n ≤ sl)
    (hin : ∀ j, j < n → D' (slotAt sl (g + 1) + j) = (nth (bP (g + 1) mk) b n j).sector) (hcg : ∀ j x, n ≤ j → j < sl → slotF D' (slotAt sl (g + 1)) j = some x → x.gen ≤ g + 1)
    (hog : ∀ j x, j < sl → slotF D' (slotAt sl g) j = some x → x.gen ≤ g) (hoth : ∀ y, loadR (run (slotF D' (slotAt sl g)) sl 0) = some y → y.1 ≤ g) (hlg : ∀ i x, got (D' (2 * sl + i)) = some x → x.kind = 2 → x.gen ≤ g) : WInv D' sl log (g + 1) mk 0 b [] := by
  have hmy : ∀ j, j < n → (nth (bP (g + 1) mk) b n j).May := fun j hj => by rw [hn] at hj ⊢; exact fits_may hf hj
  have hall : ∀ j, j < n → slotF D' (slotAt sl (g + 1)) (0 + j) = some (nth (bP (g + 1) mk) b n j) := fun j hj => by
    unfold slotF
    rw [Nat.zero_add, hin j hj, got_sector (hmy j hj)]
  have hj := all_new (f' := slotF D' (slotAt sl (g + 1))) (k := sl) (i := 0) hf hn hnl hall
  obtain ⟨q, r, hl, _, h1, _⟩ := joined_some hj
  have hq : q = nth (bP (g + 1) mk) b n 0 := by
    have h2 := (run_get (f := slotF D' (slotAt sl (g + 1))) (k := sl) (i := 0) (j := 0) (p := q) (by rw [hl]; rfl)).1
    have h3 := hall 0 (by omega)
    rw [Nat.add_zero] at h2 h3
    rw [h2] at h3
    exact Option.some.inj h3
  have hcur : loadR (run (slotF D' (slotAt sl (g + 1))) sl 0) = some (g + 1, b) := by
    have := loadR_of hl hj (by rw [hq]; rfl) (by rw [hq]; rfl)
    rw [this, hq]
    rfl
  refine turned_inv hg0 hcur (fun j x hj hx => ?_) hog hoth hlg
  by_cases hjn : j < n
  · have h2 := hall j hjn
    rw [Nat.zero_add, hx] at h2
    rw [Option.some.inj h2]
    exact Int.le_refl _
  · exact hcg j x (by omega) hj hx
/-- a turn of a disk that has a log -/
theorem turn_next {D D' : Nat → List Nat} {sl log e n : Nat} {g mk : Int} {base b : List Nat} {recs : List (List Nat)} (h : WInv D sl log g mk e base recs) (hf : fits (bP (g + 1) mk) b = true) (hn : n = parts b.length) (hnl : n ≤ sl)
    (hin : ∀ j, j < n → D' (slotAt sl (g + 1) + j) = (nth (bP (g + 1) mk) b n j).sector) (hout : ∀ i, i < slotAt sl (g + 1) ∨ slotAt sl (g + 1) + n ≤ i → D' i = D i) : WInv D' sl log (g + 1) mk 0 b [] := by
  have hg1 := h.g1
  have hother : ∀ j, j < sl → slotF D' (slotAt sl g) j = slotF D (slotAt sl g) j := fun j hj => by
    unfold slotF
    rw [hout]
    have h1 : ∀ k, k < n → slotAt sl g + j ≠ slotAt sl (g + 1) + k := fun k hk => slotAt_ne (by omega) hj (by omega)
    have := h1 (slotAt sl g + j - slotAt sl (g + 1))
    omega
  have hlog : ∀ i, D' (2 * sl + i) = D (2 * sl + i) := fun i => hout _ (.inr (by
    have : slotAt sl (g + 1) ≤ sl := by
      unfold slotAt
      rcases (by omega : (g + 1).toNat % 2 = 0 ∨ (g + 1).toNat % 2 = 1) with h | h <;> rw [h] <;> omega
    omega))
  refine turn_whole (by omega) hf hn hnl hin (fun j x h1 h2 hx => ?_) (fun j x hj hx => h.curg j x hj (by rw [← hother j hj]; exact hx)) (fun y hy => ?_) (fun i x hx hk => h.logg i x (by rw [← hlog]; exact hx) hk)
  · unfold slotF at hx
    rw [hout _ (.inr (by omega))] at hx
    exact (h.othg j x h2 hx).1
  · rw [run_same hother, h.cur] at hy
    injection hy with hy
    rw [← hy]
    exact Int.le_refl _
/-- what is opened: the better slot, and the log -/
def slots (D : Nat → List Nat) (sl k : Nat) : List (List Nat) := (List.range sl).map fun j => D (k * sl + j)
theorem better_inv {D : Nat → List Nat} {sl log e : Nat} {g mk : Int} {base : List Nat} {recs : List (List Nat)} (h : WInv D sl log g mk e base recs) : better (slots D sl 0) (slots D sl 1) = some (g, base) := by
  have hg := h.g1
  have e0 : ∀ k, loaded (slots D sl k) = loadR (run (slotF D (k * sl)) sl 0) := fun k => loaded_run D (k * sl) sl
  unfold better
  rw [e0, e0]
  have hc := h.cur
  have ho := h.oth
  unfold slotAt at hc ho
  rcases (by omega : g.toNat % 2 = 0 ∧ (g + 1).toNat % 2 = 1 ∨ g.toNat % 2 = 1 ∧ (g + 1).toNat % 2 = 0) with ⟨h1, h2⟩ | ⟨h1, h2⟩ <;> rw [h1] at hc <;> rw [h2] at ho
  · rw [hc]
    simp only
    cases hy : loadR (run (slotF D (1 * sl)) sl 0) with
    | none => rfl
    | some y =>
      have := ho y hy
      simp only
      rw [if_neg (by omega)]
  · rw [hc]
    cases hy : loadR (run (slotF D (0 * sl)) sl 0) with
    | none => rfl
    | some y =>
      have := ho y hy
      simp only
      rw [if_pos (by omega)]
/-- the greatest mark -/
theorem mark_ge {ss : List (List Nat)} {s : List Nat} {p : P} (hs : s ∈ ss) (hg : got s = some p) : p.mark ≤ markOf ss := by
  have hmono : ∀ (l : List (List Nat)) (m : Int), m ≤ l.foldl markStep m := by
    intro l
    induction l with
    | nil => intro m; exact Int.le_refl _
    | cons x r ih =>
      intro m
      rw [List.foldl_cons]
      have h1 := ih (markStep m x)
      have h2 : m ≤ markStep m x := by
        unfold markStep
        cases got x with
        | none => exact Int.le_refl _
        | some q => show m ≤ max m q.mark; omega
      omega
  have : ∀ (l : List (List Nat)) (m : Int), s ∈ l → p.mark ≤ l.foldl markStep m := by
    intro l
    induction l with
    | nil => intro m h; simp at h
    | cons x r ih =>
      intro m h
      rw [List.foldl_cons]
      rcases List.mem_cons.1 h with rfl | h
      · have h1 := hmono r (markStep m s)
        have h2 : p.mark ≤ markStep m s := by
          unfold markStep
          rw [hg]
          show p.mark ≤ max m p.mark
          omega
        omega
      · exact ih _ h
  exact this ss 0 hs
theorem mark_le {ss : List (List Nat)} {m : Int} (h0 : 0 ≤ m) (h : ∀ s ∈ ss, ∀ p, got s = some p → p.mark ≤ m) : markOf ss ≤ m := by
  have : ∀ (l : List (List Nat)) (k : Int), k ≤ m → (∀ s ∈ l, ∀ p, got s = some p → p.mark ≤ m) → l.foldl markStep k ≤ m := by
    intro l
    induction l with
    | nil => intro k hk _; exact hk
    | cons x r ih =>
      intro k hk hl
      rw [List.foldl_cons]
      refine ih _ ?_ fun s hs => hl s (by simp [hs])
      unfold markStep
      cases hg : got x with
      | none => exact hk
      | some q =>
        have := hl x (by simp) q hg
        show max k q.mark ≤ m
        omega
  exact this ss 0 h0 h
/-- opened again by a mark that is greater than all: the same -/
theorem reopen_inv {D : Nat → List Nat} {sl log e n : Nat} {g mk : Int} {base : List Nat} {recs : List (List Nat)} (h : WInv D sl log g mk e base recs) (hn : n = 2 * sl + log) (hend : ∀ i x, log ≤ i → got (D (2 * sl + i)) ≠ some x) :
    WInv D sl log g (markOf ((List.range n).map D) + 1) e base recs := by
  have hm : ∀ i x, i < n → got (D i) = some x → x.mark ≤ markOf ((List.range n).map D) := fun i x hi hx => mark_ge (by simp only [List.mem_map, List.mem_range]; exact ⟨i, hi, rfl⟩) hx
  refine ⟨h.g1, h.cur, h.oth, h.curg, fun j x hj hx => ⟨(h.othg j x hj hx).1, fun _ => ?_⟩, ⟨h.log.laid, h.log.stop, h.log.le, fun j x hj hx => ?_, h.log.part⟩, h.logg⟩
  · have := hm (slotAt sl (g + 1) + j) x (by have := slotAt_lt (g := g + 1) hj; omega) hx
    omega
  · obtain ⟨h1, _⟩ := pick_some (by unfold logF at hx; exact hx)
    have hj : j < log := Nat.lt_of_not_le fun hh => hend j x hh h1
    have := hm (2 * sl + j) x (by omega) h1
    omega
end Go.Proofs.Ytddhkajcakndlaa.Wl
