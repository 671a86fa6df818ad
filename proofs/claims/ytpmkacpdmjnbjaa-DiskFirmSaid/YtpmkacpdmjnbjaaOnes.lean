/- What a crash leaves in each sector (layer 3), by the place of it among those that wait. Pure. -/
import Derived.Test.YtpmkacpdmjnbjaaRefC
namespace Go.Proofs.Ytpmkacpdmjnbjaa.Dsk
open Go.RowKit Go.Maps Go.Shelf Go.Proofs.Ytpmkacpdmjnbjaa.Mem
set_option linter.unusedVariables false
theorem nodup_inj {l : List Nat} (h : l.Nodup) {i j x : Nat} (hi : l[i]? = some x) (hj : l[j]? = some x) : i = j := by
  obtain ⟨a1, b1⟩ := List.getElem?_eq_some_iff.1 hi
  obtain ⟨a2, b2⟩ := List.getElem?_eq_some_iff.1 hj
  rcases Nat.lt_trichotomy i j with e | e | e
  · exact absurd (b1.trans b2.symm) (List.pairwise_iff_getElem.1 h i j a1 a2 e)
  · exact e
  · exact absurd (b2.trans b1.symm) (List.pairwise_iff_getElem.1 h j i a2 a1 e)
theorem wt_pre (s : St) (k d : Nat) : ∃ r, wt s (k + d) = wt s k ++ r := by
  induction d with
  | zero => exact ⟨[], by simp⟩
  | succ d ih =>
    obtain ⟨r, hr⟩ := ih
    rcases h : s.fw (k + d) with _ | x
    · exact ⟨r, by rw [← Nat.add_assoc, wt_no h, hr]⟩
    · exact ⟨r ++ [k + d], by rw [← Nat.add_assoc, wt_yes (by rw [h]; rfl), hr, List.append_assoc]⟩
theorem wt_at {s : St} {k : Nat} (h : (s.fw k).isSome = true) (hk : k < s.n) : s.waiting[(wt s k).length]? = some k := by
  obtain ⟨r, hr⟩ := wt_pre s (k + 1) (s.n - (k + 1))
  have e : k + 1 + (s.n - (k + 1)) = s.n := by omega
  rw [e, wt_yes h, List.append_assoc] at hr
  have hw : s.waiting = wt s s.n := rfl
  rw [hw, hr, List.getElem?_append_right (by omega)]
  simp
theorem crash_no {s : St} {i : Nat} (h : s.fw i = none) (l : List (Int × List Nat)) : (s.crash l).fs i = s.fs i := by
  refine tears_fs (s.waiting.zip l) i s fun p hp e => ?_
  have hm : p.1 ∈ s.waiting := (List.of_mem_zip (a := p.1) (b := p.2) hp).1
  have := (List.mem_filter.1 hm).2
  rw [e, h] at this
  cases this
theorem crash_end {s : St} {i : Nat} (h : (s.fw i).isSome = true) (hi : i < s.n) (l : List (Int × List Nat)) (hl : l.length ≤ (wt s i).length) : (s.crash l).fs i = s.fs i := by
  refine tears_fs (s.waiting.zip l) i s fun p hp e => ?_
  obtain ⟨j, hj⟩ := List.getElem?_of_mem hp
  rw [List.getElem?_zip_eq_some] at hj
  have hjl : j < l.length := (List.getElem?_eq_some_iff.1 hj.2).1
  have h1 := wt_at h hi
  have h2 := hj.1
  rw [e] at h2
  obtain ⟨a1, b1⟩ := List.getElem?_eq_some_iff.1 h1
  obtain ⟨a2, b2⟩ := List.getElem?_eq_some_iff.1 h2
  have := nodup_inj (waiting_nodup s) h1 h2
  omega
theorem crash_at {s : St} {i : Nat} (h : (s.fw i).isSome = true) (hi : i < s.n) (l : List (Int × List Nat)) (t : Int × List Nat) (ht : l[(wt s i).length]? = some t) : (s.crash l).fs i = (s.tear i t.1 t.2).fs i := by
  have h1 := wt_at h hi
  obtain ⟨k, hk⟩ : ∃ k, k = (wt s i).length := ⟨_, rfl⟩
  rw [← hk] at h1 ht
  obtain ⟨a1, b1⟩ := List.getElem?_eq_some_iff.1 h1
  have hz : (s.waiting.zip l)[k]? = some (i, t) := by rw [List.getElem?_zip_eq_some]; exact ⟨h1, ht⟩
  have hsp : s.waiting.zip l = (s.waiting.zip l).take (k + 1) ++ (s.waiting.zip l).drop (k + 1) := (List.take_append_drop _ _).symm
  have e1 : (s.tears (s.waiting.zip l)).fs i = (s.tears ((s.waiting.zip l).take (k + 1))).fs i := by
    rw [show s.tears (s.waiting.zip l) = (s.tears ((s.waiting.zip l).take (k + 1))).tears ((s.waiting.zip l).drop (k + 1)) by
      conv => lhs; rw [hsp]
      exact List.foldl_append]
    refine tears_fs _ i _ fun p hp e => ?_
    obtain ⟨j, hj⟩ := List.getElem?_of_mem hp
    rw [List.getElem?_drop, List.getElem?_zip_eq_some] at hj
    have h2 := hj.1
    rw [e] at h2
    obtain ⟨a2, b2⟩ := List.getElem?_eq_some_iff.1 h2
    have := nodup_inj (waiting_nodup s) h1 h2
    omega
  have e2 := tears_step s (s.waiting.zip l) k (i, t) hz
  have e3 := tears_at s l k a1
  have e4 : s.waiting.getD k 0 = i := by simp [List.getD, h1]
  rw [e4] at e3
  have e5 := (tears_same ((s.waiting.zip l).take k) s).2
  show (s.tears (s.waiting.zip l)).fs i = _
  rw [e1, e2]
  unfold St.tear
  split
  · simp [upd1, e5]
  · split
    · simp [upd1, e3]
    · exact e3
theorem tear_one (s : St) (i : Nat) (b : List Nat) : (s.tear i 1 b).fs i = some ((s.fw i).getD noughts) := by simp [St.tear, upd1]
theorem tear_two (s : St) (i : Nat) (b : List Nat) : (s.tear i 2 b).fs i = some (torn b ((s.fs i).getD noughts)) := by simp [St.tear, upd1]
theorem tear_else (s : St) (i : Nat) (k : Int) (b : List Nat) (h1 : k ≠ 1) (h2 : k ≠ 2) : (s.tear i k b).fs i = s.fs i := by simp [St.tear, h1, h2]
end Go.Proofs.Ytpmkacpdmjnbjaa.Dsk
