/- What a slot has, as plain functions (layer 7): the pages that sectors begin with, the base, the greatest mark, a base's sectors. Pure. -/
import Derived.Test.YtkidjlmjjfgknaaRecord
namespace Go.Proofs.Ytkidjlmjjfgknaa.Slt
open Go.RowKit Go.Proofs.Ytkidjlmjjfgknaa.Mem Go.Proofs.Ytkidjlmjjfgknaa.Oct Go.Proofs.Ytkidjlmjjfgknaa.Pg Go.Proofs.Ytkidjlmjjfgknaa.Rcd
set_option linter.unusedVariables false
set_option linter.unusedSimpArgs false
def pagesBy (f : List Nat → Option P) : List (List Nat) → List P
  | [] => []
  | s :: r => match f s with
    | none => []
    | some p => p :: pagesBy f r
def pagesOf (ss : List (List Nat)) : List P := pagesBy got ss
/-- a base: its generation, and its bytes -/
abbrev Bs := Int × List Nat
def base0 (q : P) (b : List Nat) : Option Bs := if q.kind = 1 ∧ q.index = 0 then some (q.gen, b) else none
def loaded (ss : List (List Nat)) : Option Bs := match pagesOf ss with
  | [] => none
  | q :: r => match joined (q :: r) with
    | none => none
    | some x => base0 q x.1
def theB (ss : List (List Nat)) : Bs := (loaded ss).getD (0, [])
def better (a b : List (List Nat)) : Option Bs := match loaded a with
  | none => loaded b
  | some x => match loaded b with
    | none => some x
    | some y => if x.1 < y.1 then some y else some x
def stepO (m : Int) : Option P → Int
  | none => m
  | some p => max m p.mark
def markStep (m : Int) (s : List Nat) : Int := stepO m (got s)
def markOf (ss : List (List Nat)) : Int := ss.foldl markStep 0
def bP (g m : Int) : P := ⟨1, g, m, 0, 0, 0, []⟩
def sectorsOf (g m : Int) (b : List Nat) : List (List Nat) := (pages (bP g m) b).map P.sector
def errOf (g m most : Int) (b : List Nat) : Int := if parts b.length = 0 ∨ most < parts b.length then 5 else if fits (bP g m) b = true then 0 else 1
def secs (g m most : Int) (b : List Nat) : List (List Nat) := if errOf g m most b = 0 then sectorsOf g m b else []
section
variable {f : List Nat → Option P}
theorem by_some {s : List Nat} {r : List (List Nat)} {p : P} (h : f s = some p) : pagesBy f (s :: r) = p :: pagesBy f r := by
  rw [pagesBy, h]
theorem by_none {s : List Nat} {r : List (List Nat)} (h : f s = none) : pagesBy f (s :: r) = [] := by
  rw [pagesBy, h]
theorem by_len (ss : List (List Nat)) : (pagesBy f ss).length ≤ ss.length := by
  induction ss with
  | nil => simp [pagesBy]
  | cons s r ih =>
    cases hg : f s with
    | none => rw [by_none hg]; simp
    | some q => rw [by_some hg]; simpa using ih
theorem by_take {ss : List (List Nat)} {k : Nat} (h : (pagesBy f (ss.take k)).length = k) (hk : k < ss.length) :
    pagesBy f (ss.take (k + 1)) = match f (ss.getD k []) with | none => pagesBy f (ss.take k) | some p => pagesBy f (ss.take k) ++ [p] := by
  induction ss generalizing k with
  | nil => simp at hk
  | cons s r ih =>
    cases k with
    | zero =>
      rw [List.take_succ_cons, List.take_zero, List.take_zero, List.getD_cons_zero]
      cases hg : f s with
      | none => rw [by_none hg]; rfl
      | some p => rw [by_some hg]; rfl
    | succ k =>
      rw [List.take_succ_cons] at h
      cases hg : f s with
      | none => rw [by_none hg] at h; simp at h
      | some p =>
        rw [by_some hg, List.length_cons] at h
        rw [List.take_succ_cons, List.take_succ_cons, by_some hg, by_some hg, ih (by omega) (by simpa using hk), List.getD_cons_succ]
        cases f (r.getD k []) <;> rfl
theorem by_stop {ss : List (List Nat)} {k : Nat} (h : (pagesBy f (ss.take k)).length = k) (hk : k < ss.length) (hg : f (ss.getD k []) = none) : pagesBy f ss = pagesBy f (ss.take k) := by
  induction ss generalizing k with
  | nil => simp at hk
  | cons s r ih =>
    cases k with
    | zero => rw [List.getD_cons_zero] at hg; rw [by_none hg]; rfl
    | succ k =>
      rw [List.take_succ_cons] at h ⊢
      rw [List.getD_cons_succ] at hg
      cases hs : f s with
      | none => rw [by_none hs] at h; simp at h
      | some p =>
        rw [by_some hs, List.length_cons] at h
        rw [by_some hs, by_some hs, ih (by omega) (by simpa using hk) hg]
theorem by_cut (ss : List (List Nat)) (k : Nat) : pagesBy f (ss.take k) = (pagesBy f ss).take k := by
  induction ss generalizing k with
  | nil => simp [pagesBy]
  | cons s r ih =>
    cases k with
    | zero => simp [pagesBy]
    | succ k =>
      rw [List.take_succ_cons]
      cases hs : f s with
      | none => rw [by_none hs, by_none hs]; simp
      | some p => rw [by_some hs, by_some hs, List.take_succ_cons, ih]
theorem by_all {Q : P → Prop} (hf : ∀ s p, f s = some p → Q p) (ss : List (List Nat)) : ∀ p ∈ pagesBy f ss, Q p := by
  induction ss with
  | nil => intro p hp; simp [pagesBy] at hp
  | cons s r ih =>
    intro p hp
    cases hg : f s with
    | none => rw [by_none hg] at hp; simp at hp
    | some q =>
      rw [by_some hg] at hp
      rcases List.mem_cons.1 hp with rfl | hp
      · exact hf s p hg
      · exact ih p hp
theorem by_map {g : P → List Nat} {ps : List P} (more : List (List Nat)) (h : ∀ p ∈ ps, f (g p) = some p) : pagesBy f (ps.map g ++ more) = ps ++ pagesBy f more := by
  induction ps with
  | nil => rfl
  | cons p r ih =>
    rw [List.map_cons, List.cons_append, by_some (h p (by simp)), ih (fun q hq => h q (by simp [hq]))]
    rfl
end
theorem pagesOf_some {s : List Nat} {r : List (List Nat)} {p : P} (h : got s = some p) : pagesOf (s :: r) = p :: pagesOf r := by_some h
theorem pagesOf_none {s : List Nat} {r : List (List Nat)} (h : got s = none) : pagesOf (s :: r) = [] := by_none h
theorem pagesOf_sectors {ps : List P} (more : List (List Nat)) (h : ∀ p ∈ ps, p.may = true) : pagesOf (ps.map P.sector ++ more) = ps ++ pagesOf more := by_map more fun p hp => got_sector ((may_iff p).1 (h p hp))
theorem got_may {s : List Nat} {p : P} (h : got s = some p) : p.may = true ∧ p.sector = s := by
  unfold got at h
  split at h
  · rename_i hh
    injection h with h
    rw [← h]
    exact hh
  · cases h
theorem pagesOf_may (ss : List (List Nat)) : ∀ p ∈ pagesOf ss, p.may = true := by_all (fun s p h => (got_may h).1) ss
theorem pagesOf_len (ss : List (List Nat)) : (pagesOf ss).length ≤ ss.length := by_len ss
/-- the pages so far, when those of the first k sectors are all pages -/
theorem pagesOf_take {ss : List (List Nat)} {k : Nat} (h : (pagesOf (ss.take k)).length = k) (hk : k < ss.length) :
    pagesOf (ss.take (k + 1)) = match got (ss.getD k []) with | none => pagesOf (ss.take k) | some p => pagesOf (ss.take k) ++ [p] := by_take h hk
/-- a sector that is none's ends them -/
theorem pagesOf_stop {ss : List (List Nat)} {k : Nat} (h : (pagesOf (ss.take k)).length = k) (hk : k < ss.length) (hg : got (ss.getD k []) = none) : pagesOf ss = pagesOf (ss.take k) := by_stop h hk hg
theorem pagesOf_cut (ss : List (List Nat)) (k : Nat) : pagesOf (ss.take k) = (pagesOf ss).take k := by_cut ss k
theorem told_cut (l : List P) : told (l.take 16) = told l := by
  cases l with
  | nil => rfl
  | cons q r =>
    have e : ∀ t : List P, told (q :: t) = if 1 ≤ q.parts ∧ q.parts ≤ (q :: t).length ∧ q.parts ≤ 16 then (q :: t).take q.parts.toNat else [] := fun t => rfl
    rw [show (q :: r).take 16 = q :: r.take 15 from rfl, e, e]
    by_cases h : 1 ≤ q.parts ∧ q.parts ≤ (q :: r).length ∧ q.parts ≤ 16
    · rw [if_pos h, if_pos ⟨h.1, by simp only [List.length_cons, List.length_take] at h ⊢; omega, h.2.2⟩]
      rw [show q :: r.take 15 = (q :: r).take 16 from rfl, List.take_take]
      congr 1
      omega
    · rw [if_neg h, if_neg]
      rintro ⟨h1, h2, h3⟩
      exact h ⟨h1, by simp only [List.length_cons, List.length_take] at h2 ⊢; omega, h3⟩
theorem joined_cut (l : List P) : joined (l.take 16) = joined l := by
  unfold joined
  rw [told_cut]
theorem loaded_eq (ss : List (List Nat)) {q : P} {r : List P} (h : pagesOf ss = q :: r) : loaded ss = match joined (q :: r) with | none => none | some x => base0 q x.1 := by
  unfold loaded
  rw [h]
theorem loaded_nil {ss : List (List Nat)} (h : pagesOf ss = []) : loaded ss = none := by
  unfold loaded
  rw [h]
theorem loaded_not {ss : List (List Nat)} (h : joined (pagesOf ss) = none) : loaded ss = none := by
  cases hp : pagesOf ss with
  | nil => exact loaded_nil hp
  | cons q r =>
    rw [loaded_eq ss hp]
    rw [hp] at h
    rw [h]
/-- what Sectors tells is loaded as the base -/
theorem loaded_sectors {g m : Int} {b : List Nat} (more : List (List Nat)) (h : fits (bP g m) b = true) : loaded (sectorsOf g m b ++ more) = some (g, b) := by
  have hm : ∀ p ∈ pages (bP g m) b, p.may = true := by
    simp only [fits, Bool.and_eq_true] at h
    exact List.all_eq_true.1 h.2
  obtain ⟨r, hr⟩ := pages_cons (p := bP g m) (fits_len h)
  have hj := join_pages (pagesOf more) h
  have hp : pagesOf (sectorsOf g m b ++ more) = pages (bP g m) b ++ pagesOf more := pagesOf_sectors more hm
  rw [hr, List.cons_append] at hp hj
  rw [loaded_eq _ hp, hj]
  simp [base0, nth, bP]
theorem sectors_len {g m : Int} {b : List Nat} (h : fits (bP g m) b = true) : (sectorsOf g m b).length = parts b.length := by
  unfold sectorsOf
  rw [List.length_map, pages_length]
theorem sectorsOf_len (g m : Int) (b : List Nat) : (sectorsOf g m b).length = parts b.length := by
  unfold sectorsOf
  rw [List.length_map, pages_length]
theorem sectorsOf_get (g m : Int) (b : List Nat) (i : Nat) (hi : i < parts b.length) : (sectorsOf g m b).getD i [] = (nth (bP g m) b (parts b.length) i).sector := by
  unfold sectorsOf pages
  simp [List.getD, hi]
/-- pages that are joined are of one generation and mark -/
theorem joined_like {l : List P} {q : P} {r : List P} {x : List Nat × Nat} (hl : l = q :: r) (h : joined l = some x) : 1 ≤ q.parts ∧ q.parts ≤ l.length ∧ ∀ i : Nat, (i : Int) < q.parts → ∀ y, l[i]? = some y → y.gen = q.gen ∧ y.mark = q.mark := by
  cases ht : told l with
  | nil => rw [joined_nil ht] at h; cases h
  | cons q' r' =>
    have hq := told_head hl ht
    subst hq
    have hc : 1 ≤ q'.parts ∧ q'.parts ≤ l.length ∧ q'.parts ≤ 16 := by
      subst hl
      have e : told (q' :: r) = if 1 ≤ q'.parts ∧ q'.parts ≤ (q' :: r).length ∧ q'.parts ≤ 16 then (q' :: r).take q'.parts.toNat else [] := rfl
      rw [e] at ht
      by_cases hh : 1 ≤ q'.parts ∧ q'.parts ≤ (q' :: r).length ∧ q'.parts ≤ 16
      · exact hh
      · rw [if_neg hh] at ht
        cases ht
    have htk : l.take q'.parts.toNat = q' :: r' := by
      subst hl
      have e : told (q' :: r) = if 1 ≤ q'.parts ∧ q'.parts ≤ (q' :: r).length ∧ q'.parts ≤ 16 then (q' :: r).take q'.parts.toNat else [] := rfl
      rw [e, if_pos hc] at ht
      exact ht
    rw [joined_of ht] at h
    split at h
    · rename_i hh
      refine ⟨hc.1, hc.2.1, fun i hi y hy => ?_⟩
      have h1 : (q' :: r')[i]? = some y := by
        rw [← htk, List.getElem?_take, if_pos (by omega)]
        exact hy
      rw [← hh.2] at h1
      have h2 : i < (pages q' (cat (q' :: r'))).length := by
        apply Nat.lt_of_not_le
        intro h3
        rw [List.getElem?_eq_none h3] at h1
        cases h1
      rw [List.getElem?_eq_getElem h2, pages_get] at h1
      have h3 := Option.some.inj h1
      rw [← h3]
      exact ⟨rfl, rfl⟩
    · cases h
/-- the theorem of tears -/
theorem loaded_torn {g m : Int} {b s : List Nat} {k : Nat} (h : fits (bP g m) b = true) (hk : k < parts b.length) (hs : ∀ p, got s = some p → ¬ (p.gen = g ∧ p.mark = m)) :
    loaded ((sectorsOf g m b).set k s) = none ∨ (k = 0 ∧ ∃ p, got s = some p ∧ p.parts = 1) := by
  have hm : ∀ p ∈ pages (bP g m) b, p.may = true := by
    simp only [fits, Bool.and_eq_true] at h
    exact List.all_eq_true.1 h.2
  obtain ⟨n, hn⟩ : ∃ n, n = parts b.length := ⟨_, rfl⟩
  rw [← hn] at hk
  have hpl := pages_length (bP g m) b
  rw [← hn] at hpl
  obtain ⟨ps, hps⟩ : ∃ ps, ps = pages (bP g m) b := ⟨_, rfl⟩
  have hget : ∀ i, i < n → ps[i]? = some (nth (bP g m) b n i) := fun i hi => by
    rw [hps, hn, List.getElem?_eq_getElem (by omega), pages_get]
  rw [← hps] at hm hpl
  have hset : (sectorsOf g m b).set k s = (ps.take k).map P.sector ++ s :: (ps.drop (k + 1)).map P.sector := by
    have e : (sectorsOf g m b).set k s = (sectorsOf g m b).take k ++ s :: (sectorsOf g m b).drop (k + 1) := by
      rw [List.set_eq_take_append_cons_drop, if_pos (by rw [sectorsOf_len]; omega)]
    rw [e]
    unfold sectorsOf
    rw [← hps, List.map_take, List.map_drop]
  have hp1 : pagesOf ((sectorsOf g m b).set k s) = ps.take k ++ pagesOf (s :: (ps.drop (k + 1)).map P.sector) := by
    rw [hset, pagesOf_sectors _ (fun p hp => hm p (List.mem_of_mem_take hp))]
  have hp2 : pagesOf ((ps.drop (k + 1)).map P.sector) = ps.drop (k + 1) := by
    have := pagesOf_sectors (ps := ps.drop (k + 1)) [] (fun p hp => hm p (List.mem_of_mem_drop hp))
    rw [List.append_nil] at this
    exact this.trans (List.append_nil _)
  have h0 : ps[0]? = some (nth (bP g m) b n 0) := hget 0 (by omega)
  obtain ⟨r0, hr0⟩ : ∃ r0, ps = nth (bP g m) b n 0 :: r0 := by
    cases ps with
    | nil => simp at h0
    | cons x y => simp at h0; exact ⟨y, by rw [h0]⟩
  cases hg : got s with
  | none =>
    left
    apply loaded_not
    rw [hp1, pagesOf_none hg, List.append_nil]
    cases hj : joined (ps.take k) with
    | none => rfl
    | some x =>
      exfalso
      cases k with
      | zero => rw [List.take_zero, joined_nil rfl] at hj; cases hj
      | succ k =>
        obtain ⟨_, h2, _⟩ := joined_like (q := nth (bP g m) b n 0) (r := r0.take k) (by rw [hr0]; rfl) hj
        have : ((nth (bP g m) b n 0).parts) = (n : Int) := rfl
        rw [List.length_take] at h2
        omega
  | some q =>
    rw [pagesOf_some hg, hp2] at hp1
    cases hj : joined (pagesOf ((sectorsOf g m b).set k s)) with
    | none => exact .inl (loaded_not hj)
    | some x =>
      rw [hp1] at hj
      cases k with
      | zero =>
        rw [List.take_zero, List.nil_append] at hj
        obtain ⟨h1, h2, h3⟩ := joined_like rfl hj
        by_cases hq1 : q.parts = 1
        · exact .inr ⟨rfl, q, rfl, hq1⟩
        · exfalso
          have hl : (q :: ps.drop (0 + 1)).length = n := by rw [List.length_cons, List.length_drop]; omega
          rw [hl] at h2
          have h4 := h3 1 (by omega) (nth (bP g m) b n 1) (by rw [List.getElem?_cons_succ, List.getElem?_drop]; exact hget 1 (by omega))
          exact hs q hg ⟨h4.1.symm, h4.2.symm⟩
      | succ k =>
        exfalso
        obtain ⟨h1, h2, h3⟩ := joined_like (q := nth (bP g m) b n 0) (r := r0.take k ++ q :: ps.drop (k + 1 + 1)) (by rw [hr0]; rfl) hj
        have h4 := h3 (k + 1) (by show ((k + 1 : Nat) : Int) < (n : Int); omega) q (by rw [List.getElem?_append_right (by rw [List.length_take]; omega), List.length_take, show k + 1 - min (k + 1) ps.length = 0 by omega]; rfl)
        exact hs q hg h4
theorem mark_take {ss : List (List Nat)} {k : Nat} (hk : k < ss.length) : markOf (ss.take (k + 1)) = markStep (markOf (ss.take k)) (ss.getD k []) := by
  have e : ss.take (k + 1) = ss.take k ++ [ss.getD k []] := by
    rw [List.take_add_one, List.getElem?_eq_getElem hk]
    simp [List.getD, List.getElem?_eq_getElem hk]
  unfold markOf
  rw [e, List.foldl_append]
  rfl
theorem mark_win (ss : List (List Nat)) : 0 ≤ markOf ss ∧ markOf ss ≤ 2147483648 := by
  have : ∀ (l : List (List Nat)) (m : Int), 0 ≤ m ∧ m ≤ 2147483648 → 0 ≤ l.foldl markStep m ∧ l.foldl markStep m ≤ 2147483648 := by
    intro l
    induction l with
    | nil => intro m h; exact h
    | cons s r ih =>
      intro m h
      rw [List.foldl_cons]
      apply ih
      unfold markStep
      cases hg : got s with
      | none => exact h
      | some p =>
        have h1 := win_yes ((may_iff p).1 (got_may hg).1).m
        show 0 ≤ max m p.mark ∧ max m p.mark ≤ 2147483648
        omega
  exact this ss 0 ⟨by omega, by omega⟩
/-- the law's own example -/
theorem fits7 : fits (bP 3 2) [7] = true := by decide
theorem loaded7 : loaded (sectorsOf 3 2 [7]) = some (3, [7]) := by
  have := loaded_sectors (g := 3) (m := 2) (b := [7]) [] fits7
  rwa [List.append_nil] at this
theorem sectors7 : sectorsOf 3 2 [7] = [P.sector ⟨1, 3, 2, 0, 0, 1, [7]⟩] := rfl
theorem mark7 : markOf (sectorsOf 3 2 [7]) = 2 := by
  rw [sectors7]
  unfold markOf
  rw [List.foldl_cons, List.foldl_nil]
  unfold markStep
  rw [got_sector ((may_iff _).1 (by decide))]
  decide
end Go.Proofs.Ytkidjlmjjfgknaa.Slt
