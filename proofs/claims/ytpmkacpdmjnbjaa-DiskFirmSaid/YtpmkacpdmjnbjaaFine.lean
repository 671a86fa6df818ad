/- The plain steps of a disk's state keep it fine (layer 3). -/
import Derived.Test.YtpmkacpdmjnbjaaFill
namespace Go.Proofs.Ytpmkacpdmjnbjaa.Dsk
open Go.RowKit Go.Maps Go.Shelf Go.Proofs.Ytpmkacpdmjnbjaa.Mem
set_option linter.unusedVariables false
/-- a state that a disk may have -/
def Fine (s : St) : Prop := Good s ∧ ∀ i, s.n ≤ i → s.fw i = none
theorem DiskAt.fine {w : World} {g bs bw : Nat} {s : St} (h : DiskAt w g bs bw s) : Fine s := ⟨h.good, h.2.2.2.2.2.2.2.2⟩
theorem fine_act {s : St} (h : Fine s) : Fine s.act.1 := by
  obtain ⟨⟨h1, h2, h3, h4, h5, h6⟩, h7⟩ := h
  unfold St.act
  split
  · exact ⟨⟨h1, h2, h3, h4, h5, h6⟩, h7⟩
  · exact ⟨⟨h1, h2, h3, h4, by simp only; split <;> omega, by simp only; split <;> omega⟩, h7⟩
theorem act_same (s : St) : s.act.1.n = s.n ∧ s.act.1.fw = s.fw ∧ s.act.1.fs = s.fs := by
  unfold St.act
  split <;> exact ⟨rfl, rfl, rfl⟩
theorem upd_sec {f : Nat → Option (List Nat)} {i : Nat} {xs : List Nat} (h : ∀ j ys, f j = some ys → IsSec ys) (hx : IsSec xs) : ∀ j ys, upd1 f i xs j = some ys → IsSec ys := by
  intro j ys e
  unfold upd1 at e
  split at e
  · injection e with e
    exact e ▸ hx
  · exact h j ys e
theorem fine_write {s : St} (h : Fine s) (n : Int) (xs : List Nat) (hx : ∀ x ∈ xs, x < 256) : Fine (s.write n xs).1 := by
  unfold St.write
  split
  · exact h
  · split
    · rename_i hc
      split
      · obtain ⟨⟨h1, h2, h3, h4, h5, h6⟩, h7⟩ := fine_act h
        refine ⟨⟨h1, h2, h3, upd_sec h4 ⟨hc.2.2, hx⟩, h5, h6⟩, fun i hi => ?_⟩
        have hn := (act_same s).1
        simp only at hi ⊢
        unfold upd1
        rw [if_neg (by omega)]
        exact h7 i hi
      · exact fine_act h
    · exact h
theorem fine_flush {s : St} (h : Fine s) : Fine s.flush.1 := by
  unfold St.flush
  split
  · exact h
  · split
    · obtain ⟨⟨h1, h2, h3, h4, h5, h6⟩, h7⟩ := fine_act h
      refine ⟨⟨h1, h2, fun i xs e => ?_, fun i xs e => by simp at e, h5, h6⟩, fun i hi => rfl⟩
      simp only at e
      cases hw : s.fw i with
      | some ys => rw [hw] at e; exact h.1.2.2.2.1 i xs (by rw [hw]; simpa using e)
      | none => rw [hw] at e; exact h.1.2.2.1 i xs (by simpa using e)
    · exact fine_act h
theorem secD {f : Nat → Option (List Nat)} (h : ∀ j ys, f j = some ys → IsSec ys) (i : Nat) : IsSec ((f i).getD noughts) := by
  cases e : f i with
  | some ys => exact h i ys e
  | none => exact isSec_noughts
theorem fine_tear {s : St} (h : Fine s) (i : Nat) (k : Int) (b : List Nat) (hb : ∀ x ∈ b, x < 256) : Fine (s.tear i k b) := by
  obtain ⟨⟨h1, h2, h3, h4, h5, h6⟩, h7⟩ := h
  unfold St.tear
  split
  · exact ⟨⟨h1, h2, upd_sec h3 (secD h4 i), h4, h5, h6⟩, h7⟩
  · split
    · exact ⟨⟨h1, h2, upd_sec h3 (torn_sec hb (secD h3 i)), h4, h5, h6⟩, h7⟩
    · exact ⟨⟨h1, h2, h3, h4, h5, h6⟩, h7⟩
theorem fine_tears (l : List (Nat × Int × List Nat)) : ∀ (s : St), Fine s → (∀ p ∈ l, ∀ x ∈ p.2.2, x < 256) → Fine (s.tears l) := by
  induction l with
  | nil => exact fun s h _ => h
  | cons p r ih => exact fun s h hb => ih (s.tear p.1 p.2.1 p.2.2) (fine_tear h _ _ _ (hb p (List.mem_cons_self ..))) (fun q hq => hb q (List.mem_cons_of_mem _ hq))
theorem fine_crash {s : St} (h : Fine s) (l : List (Int × List Nat)) (hb : ∀ p ∈ l, ∀ x ∈ p.2, x < 256) : Fine (s.crash l) := by
  have ht := fine_tears (s.waiting.zip l) s h (fun p hp => hb p.2 (List.of_mem_zip (a := p.1) (b := p.2) hp).2)
  obtain ⟨⟨h1, h2, h3, h4, h5, h6⟩, h7⟩ := ht
  exact ⟨⟨h1, h2, h3, fun i xs e => by simp [St.crash] at e, by simp [St.crash], by simp [St.crash]⟩, fun i hi => rfl⟩
theorem tears_lt {w : World} {B : Nat} {v : Value} {l : List (Int × List Nat)} (h : TearsAt w B v l) : ∀ p ∈ l, ∀ x ∈ p.2, x < 256 := by
  obtain ⟨A, n, c, _, hl, _, hc⟩ := h
  intro p hp
  obtain ⟨i, hi, rfl⟩ := List.getElem_of_mem hp
  obtain ⟨b, off, _, _, hh⟩ := hc (by omega)
  obtain ⟨k, u, xs, h1, _, _, h4, _⟩ := hh i (by omega)
  rw [List.getElem?_eq_getElem hi] at h1
  injection h1 with h1
  rw [h1]
  exact h4.lt
end Go.Proofs.Ytpmkacpdmjnbjaa.Dsk
