/- A disk that has a log, as a state (layer 8): what a commit and a turn leave, and what is there behind a crash. Pure. -/
import Derived.Test.YtddhkajcakndlaaWalWrites
namespace Go.Proofs.Ytddhkajcakndlaa.Wl
open Go.RowKit Go.Proofs.Ytddhkajcakndlaa.Mem Go.Proofs.Ytddhkajcakndlaa.Pg Go.Proofs.Ytddhkajcakndlaa.Rcd Go.Proofs.Ytddhkajcakndlaa.Slt
set_option linter.unusedVariables false
set_option linter.unusedSimpArgs false
theorem got_blank : got Dsk.noughts = none := by
  cases h : got Dsk.noughts with
  | none => rfl
  | some p =>
    exfalso
    obtain ⟨h1, h2⟩ := got_may h
    obtain ⟨r, hr⟩ := sector_parts p
    rw [hr] at h2
    have e1 := congrArg (fun l : List Nat => l.head?) h2
    have e2 : Dsk.noughts.head? = some 0 := by unfold Dsk.noughts; rw [List.head?_replicate, if_neg (by omega)]
    rw [e2] at e1
    cases e1
structure Ready (s : Dsk.St) (sl log : Nat) (g mk : Int) (e : Nat) (base : List Nat) (recs : List (List Nat)) : Prop where
  live : s.dead = false
  calm : ∀ j, s.fw j = none
  size : s.n = 2 * sl + log
  far : ∀ i, s.n ≤ i → got (s.get i) = none
  inv : WInv s.get sl log g mk e base recs
  mks : ∀ i x, got (s.get i) = some x → x.mark ≤ mk
/-- the mark by which it is opened -/
def openMark (s : Dsk.St) : Int := markOf ((List.range s.n).map s.get) + 1
/-- a crash, the tears of which the check tells -/
structure Crashed (s s' : Dsk.St) : Prop where
  n : s'.n = s.n
  live : s'.dead = false
  calm : ∀ j, s'.fw j = none
  same : ∀ i, s.fw i = none → s'.get i = (s.fs i).getD Dsk.noughts
  told : ∀ i y, s.fw i = some y → got (s'.get i) = none ∨ s'.get i = (s.fs i).getD Dsk.noughts ∨ s'.get i = y
theorem openMark_le {s : Dsk.St} {m : Int} (h0 : 0 ≤ m) (h : ∀ i x, got (s.get i) = some x → x.mark ≤ m) : openMark s ≤ m + 1 := by
  unfold openMark
  have : markOf ((List.range s.n).map s.get) ≤ m := mark_le h0 fun y hy p hp => by
    simp only [List.mem_map] at hy
    obtain ⟨i, _, rfl⟩ := hy
    exact h i p hp
  omega
theorem openMark_gt {s : Dsk.St} (hfar : ∀ i, s.n ≤ i → got (s.get i) = none) {i : Nat} {x : P} (h : got (s.get i) = some x) : x.mark < openMark s := by
  unfold openMark
  have hi : i < s.n := Nat.lt_of_not_le fun hh => by rw [hfar i hh] at h; cases h
  have := mark_ge (ss := (List.range s.n).map s.get) (by simp only [List.mem_map, List.mem_range]; exact ⟨i, hi, rfl⟩) h
  omega
/-- opened, whatever the mark was -/
theorem ready_open {s : Dsk.St} {sl log e : Nat} {g mk : Int} {base : List Nat} {recs : List (List Nat)} (hl : s.dead = false) (hc : ∀ j, s.fw j = none) (hn : s.n = 2 * sl + log) (hfar : ∀ i, s.n ≤ i → got (s.get i) = none) (h : WInv s.get sl log g mk e base recs) :
    Ready s sl log g (openMark s) e base recs := by
  refine ⟨hl, hc, hn, hfar, ?_, fun i x hx => Int.le_of_lt (openMark_gt hfar hx)⟩
  have := reopen_inv h hn (fun i x hi hx => by rw [hfar _ (by omega)] at hx; cases hx)
  exact this
/-- a crash while nothing waits -/
theorem crash_calm {s s' : Dsk.St} {sl log e : Nat} {g mk : Int} {base : List Nat} {recs : List (List Nat)} (h : Ready s sl log g mk e base recs) (hc : Crashed s s') (h0 : 0 ≤ mk) : Ready s' sl log g (openMark s') e base recs ∧ openMark s' ≤ mk + 1 := by
  have hg : s'.get = s.get := by
    funext i
    rw [hc.same i (h.calm i), get_safe h.calm]
  refine ⟨ready_open hc.live hc.calm (by rw [hc.n]; exact h.size) (fun i hi => by rw [hg]; exact h.far i (by rw [← hc.n]; exact hi)) (mk := mk) (by rw [hg]; exact h.inv), openMark_le h0 fun i x hx => h.mks i x (by rw [← hg]; exact hx)⟩
def secL (q : P) (b : List Nat) : List (List Nat) := (pages q b).map P.sector
theorem secL_len (q : P) (b : List Nat) : (secL q b).length = parts b.length := by unfold secL; rw [List.length_map, pages_length]
theorem secL_get (q : P) (b : List Nat) (j : Nat) (hj : j < parts b.length) : (secL q b).getD j [] = (nth q b (parts b.length) j).sector := by
  unfold secL pages
  simp [List.getD, hj]
theorem secL_512 {q : P} {b : List Nat} (h : fits q b = true) : ∀ x ∈ secL q b, x.length = 512 := by
  intro x hx
  unfold secL at hx
  obtain ⟨p, hp, rfl⟩ := List.mem_map.1 hx
  simp only [fits, Bool.and_eq_true] at h
  exact sector_length ((may_iff p).1 (List.all_eq_true.1 h.2 p hp)).l
/-- behind a write that is whole -/
theorem get_whole {s : Dsk.St} {q : P} {b : List Nat} {i : Nat} (hc : ∀ j, s.fw j = none) (h1 : ∀ j, (writes s i (secL q b)).1.fw j = none) (h2 : ∀ j, j < (secL q b).length → (writes s i (secL q b)).1.fs (i + j) = some ((secL q b).getD j []))
    (h3 : ∀ j, j < i ∨ i + (secL q b).length ≤ j → (writes s i (secL q b)).1.fs j = (s.fw j).or (s.fs j)) :
    (∀ j, j < parts b.length → (writes s i (secL q b)).1.get (i + j) = (nth q b (parts b.length) j).sector) ∧ ∀ j, j < i ∨ i + parts b.length ≤ j → (writes s i (secL q b)).1.get j = s.get j := by
  rw [secL_len] at h2 h3
  refine ⟨fun j hj => ?_, fun j hj => ?_⟩
  · rw [get_safe h1, h2 j hj, secL_get q b j hj]
    rfl
  · rw [get_safe h1, h3 j hj, get_safe hc, hc j]
    rfl
/-- behind a crash in the midst of a write -/
theorem get_torn {s s' : Dsk.St} {q : P} {b : List Nat} {i : Nat} (hc : ∀ j, s.fw j = none) (h1 : (writes s i (secL q b)).1.fs = s.fs) (h2 : ∀ j, j < (secL q b).length → (writes s i (secL q b)).1.fw (i + j) = s.fw (i + j) ∨ (writes s i (secL q b)).1.fw (i + j) = some ((secL q b).getD j []))
    (h3 : ∀ j, j < i ∨ i + (secL q b).length ≤ j → (writes s i (secL q b)).1.fw j = s.fw j) (hk : Crashed (writes s i (secL q b)).1 s') :
    (∀ j, j < parts b.length → got (s'.get (i + j)) = none ∨ s'.get (i + j) = s.get (i + j) ∨ s'.get (i + j) = (nth q b (parts b.length) j).sector) ∧ ∀ j, j < i ∨ i + parts b.length ≤ j → s'.get j = s.get j := by
  rw [secL_len] at h2 h3
  refine ⟨fun j hj => ?_, fun j hj => ?_⟩
  · rcases h2 j hj with e | e
    · right; left
      rw [hk.same _ (by rw [e]; exact hc _), h1, get_safe hc]
    · rcases hk.told _ _ e with g | g | g
      · exact .inl g
      · right; left
        rw [g, h1, get_safe hc]
      · right; right
        rw [g, secL_get q b j hj]
  · rw [hk.same j (by rw [h3 j hj]; exact hc j), h1, get_safe hc]
/-- COMMIT -/
theorem keep_commit {s : Dsk.St} {sl log e : Nat} {g mk : Int} {base b : List Nat} {recs : List (List Nat)} (h : Ready s sl log g mk e base recs) (hf : fits (lP g mk e) b = true) (hl : e + parts b.length ≤ log) (h0 : 0 ≤ mk) :
    ((writes s (2 * sl + e) (secL (lP g mk e) b)).2 = 0 ∧ Ready (writes s (2 * sl + e) (secL (lP g mk e) b)).1 sl log g mk (e + parts b.length) base (recs ++ [b])) ∨
    ((writes s (2 * sl + e) (secL (lP g mk e) b)).2 = 7 ∧ (writes s (2 * sl + e) (secL (lP g mk e) b)).1.dead = true ∧ (writes s (2 * sl + e) (secL (lP g mk e) b)).1.n = s.n ∧ ∀ s', Crashed (writes s (2 * sl + e) (secL (lP g mk e) b)).1 s' →
      (Ready s' sl log g (openMark s') e base recs ∨ Ready s' sl log g (openMark s') (e + parts b.length) base (recs ++ [b])) ∧ openMark s' ≤ mk + 1) := by
  have hsz := h.size
  have hmy : ∀ j, j < parts b.length → (nth (lP g mk e) b (parts b.length) j).May := fun j hj => fits_may hf hj
  rcases writes_two (l := secL (lP g mk e) b) (i := 2 * sl + e) h.live (by rw [secL_len]; omega) (secL_512 hf) with ⟨w1, w2, w3, w4, w5, w6⟩ | ⟨w1, w2, w3, w4, w5, w6⟩
  · left
    obtain ⟨hin, hout⟩ := get_whole h.calm w4 w5 w6
    refine ⟨w1, w2, w4, by rw [w3]; exact hsz, fun i hi => ?_, commit_whole h.inv hf rfl hl (fun j hj => ?_) (fun i hi => hout i (by omega)), fun i x hx => ?_⟩
    · rw [hout i (by rw [w3] at hi; omega)]
      exact h.far i (by rw [← w3]; exact hi)
    · have := hin j hj
      rw [show 2 * sl + e + j = 2 * sl + (e + j) by omega] at this
      exact this
    · by_cases hi : 2 * sl + e ≤ i ∧ i < 2 * sl + e + parts b.length
      · have := hin (i - (2 * sl + e)) (by omega)
        rw [show 2 * sl + e + (i - (2 * sl + e)) = i by omega] at this
        rw [this, got_sector (hmy _ (by omega))] at hx
        rw [← Option.some.inj hx]
        exact Int.le_refl _
      · rw [hout i (by omega)] at hx
        exact h.mks i x hx
  · right
    refine ⟨w1, w2, w3, fun s' hk => ?_⟩
    obtain ⟨hin, hout⟩ := get_torn h.calm w4 w5 w6 hk
    have hmks : ∀ i x, got (s'.get i) = some x → x.mark ≤ mk := fun i x hx => by
      by_cases hi : 2 * sl + e ≤ i ∧ i < 2 * sl + e + parts b.length
      · rcases hin (i - (2 * sl + e)) (by omega) with t | t | t
        · rw [show 2 * sl + e + (i - (2 * sl + e)) = i by omega, hx] at t; cases t
        · rw [show 2 * sl + e + (i - (2 * sl + e)) = i by omega] at t
          rw [t] at hx
          exact h.mks i x hx
        · rw [show 2 * sl + e + (i - (2 * sl + e)) = i by omega] at t
          rw [t, got_sector (hmy _ (by omega))] at hx
          rw [← Option.some.inj hx]
          exact Int.le_refl _
      · rw [hout i (by omega)] at hx
        exact h.mks i x hx
    have hfar : ∀ i, s'.n ≤ i → got (s'.get i) = none := fun i hi => by
      rw [hk.n, w3] at hi
      rw [hout i (by omega)]
      exact h.far i hi
    have hn' : s'.n = 2 * sl + log := by rw [hk.n, w3]; exact hsz
    refine ⟨?_, openMark_le h0 hmks⟩
    rcases commit_torn (D' := s'.get) (mk' := mk + 1) h.inv hf rfl hl (fun j hj => by
      have := hin j hj
      rw [show 2 * sl + e + j = 2 * sl + (e + j) by omega] at this
      exact this) (fun i hi => hout i (by omega)) (by omega) with t | t
    · exact .inl (ready_open hk.live hk.calm hn' hfar t)
    · exact .inr (ready_open hk.live hk.calm hn' hfar t)
/-- TURN -/
theorem keep_turn {s : Dsk.St} {sl log e : Nat} {g mk : Int} {base b : List Nat} {recs : List (List Nat)} (h : Ready s sl log g mk e base recs) (hf : fits (bP (g + 1) mk) b = true) (hl : parts b.length ≤ sl) (h0 : 0 ≤ mk) :
    ((writes s (slotAt sl (g + 1)) (secL (bP (g + 1) mk) b)).2 = 0 ∧ Ready (writes s (slotAt sl (g + 1)) (secL (bP (g + 1) mk) b)).1 sl log (g + 1) mk 0 b []) ∨
    ((writes s (slotAt sl (g + 1)) (secL (bP (g + 1) mk) b)).2 = 7 ∧ (writes s (slotAt sl (g + 1)) (secL (bP (g + 1) mk) b)).1.dead = true ∧ (writes s (slotAt sl (g + 1)) (secL (bP (g + 1) mk) b)).1.n = s.n ∧ ∀ s', Crashed (writes s (slotAt sl (g + 1)) (secL (bP (g + 1) mk) b)).1 s' →
      (Ready s' sl log g (openMark s') e base recs ∨ Ready s' sl log (g + 1) (openMark s') 0 b []) ∧ openMark s' ≤ mk + 1) := by
  have hsz := h.size
  have hsa : slotAt sl (g + 1) ≤ sl := by
    unfold slotAt
    rcases (by omega : (g + 1).toNat % 2 = 0 ∨ (g + 1).toNat % 2 = 1) with h | h <;> rw [h] <;> omega
  have hmy : ∀ j, j < parts b.length → (nth (bP (g + 1) mk) b (parts b.length) j).May := fun j hj => fits_may hf hj
  rcases writes_two (l := secL (bP (g + 1) mk) b) (i := slotAt sl (g + 1)) h.live (by rw [secL_len]; omega) (secL_512 hf) with ⟨w1, w2, w3, w4, w5, w6⟩ | ⟨w1, w2, w3, w4, w5, w6⟩
  · left
    obtain ⟨hin, hout⟩ := get_whole h.calm w4 w5 w6
    refine ⟨w1, w2, w4, by rw [w3]; exact hsz, fun i hi => ?_, turn_next h.inv hf rfl hl hin hout, fun i x hx => ?_⟩
    · rw [hout i (by rw [w3] at hi; omega)]
      exact h.far i (by rw [← w3]; exact hi)
    · by_cases hi : slotAt sl (g + 1) ≤ i ∧ i < slotAt sl (g + 1) + parts b.length
      · have := hin (i - slotAt sl (g + 1)) (by omega)
        rw [show slotAt sl (g + 1) + (i - slotAt sl (g + 1)) = i by omega] at this
        rw [this, got_sector (hmy _ (by omega))] at hx
        rw [← Option.some.inj hx]
        exact Int.le_refl _
      · rw [hout i (by omega)] at hx
        exact h.mks i x hx
  · right
    refine ⟨w1, w2, w3, fun s' hk => ?_⟩
    obtain ⟨hin, hout⟩ := get_torn h.calm w4 w5 w6 hk
    have hmks : ∀ i x, got (s'.get i) = some x → x.mark ≤ mk := fun i x hx => by
      by_cases hi : slotAt sl (g + 1) ≤ i ∧ i < slotAt sl (g + 1) + parts b.length
      · rcases hin (i - slotAt sl (g + 1)) (by omega) with t | t | t
        · rw [show slotAt sl (g + 1) + (i - slotAt sl (g + 1)) = i by omega, hx] at t; cases t
        · rw [show slotAt sl (g + 1) + (i - slotAt sl (g + 1)) = i by omega] at t
          rw [t] at hx
          exact h.mks i x hx
        · rw [show slotAt sl (g + 1) + (i - slotAt sl (g + 1)) = i by omega] at t
          rw [t, got_sector (hmy _ (by omega))] at hx
          rw [← Option.some.inj hx]
          exact Int.le_refl _
      · rw [hout i (by omega)] at hx
        exact h.mks i x hx
    have hfar : ∀ i, s'.n ≤ i → got (s'.get i) = none := fun i hi => by
      rw [hk.n, w3] at hi
      rw [hout i (by omega)]
      exact h.far i hi
    have hn' : s'.n = 2 * sl + log := by rw [hk.n, w3]; exact hsz
    refine ⟨?_, openMark_le h0 hmks⟩
    rcases turn_torn (D' := s'.get) (mk' := mk + 1) h.inv hf rfl hl hin hout (by omega) with t | t
    · exact .inl (ready_open hk.live hk.calm hn' hfar t)
    · exact .inr (ready_open hk.live hk.calm hn' hfar t)
/-- the first turn, of a new disk: all sectors are noughts -/
theorem keep_new {s : Dsk.St} {sl log : Nat} (hl : s.dead = false) (hc : ∀ j, s.fw j = none) (hn : s.n = 2 * sl + log) (hz : ∀ i, got (s.get i) = none) (hsl : 1 ≤ sl) (h0 : (writes s (slotAt sl 1) (secL (bP 1 1) [])).2 = 0) :
    Ready (writes s (slotAt sl 1) (secL (bP 1 1) [])).1 sl log 1 1 0 [] [] := by
  have hf : fits (bP 1 1) [] = true := by decide
  have hp : parts ([] : List Nat).length = 1 := by decide
  have hsa : slotAt sl 1 = sl := by unfold slotAt; simp
  have hmy : ∀ j, j < parts ([] : List Nat).length → (nth (bP 1 1) [] (parts ([] : List Nat).length) j).May := fun j hj => fits_may hf hj
  rcases writes_two (l := secL (bP 1 1) []) (i := slotAt sl 1) hl (by rw [secL_len, hp]; omega) (secL_512 hf) with ⟨w1, w2, w3, w4, w5, w6⟩ | ⟨w1, _⟩
  · obtain ⟨hin, hout⟩ := get_whole hc w4 w5 w6
    have hnone : ∀ i, i < slotAt sl 1 ∨ slotAt sl 1 + 1 ≤ i → got ((writes s (slotAt sl 1) (secL (bP 1 1) [])).1.get i) = none := fun i hi => by
      rw [hout i (by rw [hp]; exact hi)]
      exact hz i
    refine ⟨w2, w4, by rw [w3]; exact hn, fun i hi => hnone i (by rw [w3] at hi; omega), ?_, fun i x hx => ?_⟩
    · have := turn_whole (D' := (writes s (slotAt sl 1) (secL (bP 1 1) [])).1.get) (sl := sl) (log := log) (g := 0) (mk := 1) (b := []) (Int.le_refl _) hf rfl (by rw [hp]; exact hsl) hin (fun j x h1 h2 hx => ?_) (fun j x hj hx => ?_) (fun y hy => ?_) (fun i x hx hk => ?_)
      · exact this
      · unfold slotF at hx
        rw [hnone _ (.inr (by rw [hp] at h1; show slotAt sl 1 + 1 ≤ slotAt sl 1 + j; omega))] at hx
        cases hx
      · unfold slotF at hx
        rw [hnone _ (.inl (by unfold slotAt; simp; omega))] at hx
        cases hx
      · have he : run (slotF (writes s (slotAt sl 1) (secL (bP 1 1) [])).1.get (slotAt sl 0)) sl 0 = [] := by
          cases sl with
          | zero => rfl
          | succ k => exact run_none (hnone _ (.inl (by unfold slotAt; simp)))
        rw [he] at hy
        cases hy
      · rw [hnone _ (.inr (by omega))] at hx
        cases hx
    · by_cases hi : i = slotAt sl 1
      · have := hin 0 (by rw [hp]; omega)
        rw [Nat.add_zero] at this
        rw [hi, this, got_sector (hmy 0 (by rw [hp]; omega))] at hx
        rw [← Option.some.inj hx]
        exact Int.le_refl _
      · rw [hnone i (by omega)] at hx
        cases hx
  · omega
end Go.Proofs.Ytddhkajcakndlaa.Wl
