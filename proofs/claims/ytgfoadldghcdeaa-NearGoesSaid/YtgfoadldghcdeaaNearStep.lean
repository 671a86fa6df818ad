/- What a step of the law NearGoes keeps (layer 17), as plain values; the steps that came in. -/
import Derived.Test.YtgfoadldghcdeaaNearPure
import Derived.Test.YtgfoadldghcdeaaRecs
namespace Go.Proofs.Ytgfoadldghcdeaa.Nea
open Go.RowKit Go.Proofs.Ytgfoadldghcdeaa.Mem
set_option linter.unusedVariables false
set_option linter.unusedSimpArgs false
/-- what holds of a neighbour that was not heard for m ticks -/
structure GoodN (o : Int) (m : Nat) (n : Nr) : Prop where
  may : mayN n = true
  of_ : n.of_ = o
  age : n.heard = true → (m : Int) ≤ n.age
theorem GoodN.less {o : Int} {m m' : Nat} {n : Nr} (h : GoodN o m n) (hm : m' ≤ m) : GoodN o m' n := ⟨h.may, h.of_, fun e => by have := h.age e; omega⟩
theorem GoodN.silent {o : Int} {m : Nat} {n : Nr} (h : GoodN o m n) (hf : n.full = true) : m ≤ 4 := by
  have h1 := (mayN_iff n).1 h.may
  cases hh : n.heard
  · have := (h1.2.2 hh).2.1
    rw [hf] at this
    cases this
  · have := h.age hh
    omega
/-- down and up as they may be -/
def Shape (d u f g : Bool) : Prop := (d = false ∧ u = false ∧ f = false ∧ g = false) ∨ (d = false ∧ u = false ∧ f = true ∧ g = true) ∨ (d = true ∧ u = false ∧ f = true ∧ g = false) ∨ (d = false ∧ u = true ∧ f = false ∧ g = true) ∨ (d = true ∧ u = true ∧ f = true ∧ g = true)
theorem shape_keep (f : Bool) : Shape false false f f := by cases f <;> simp [Shape]
theorem shape_down (f : Bool) : Shape f false f false := by cases f <;> simp [Shape]
theorem shape_new (f g : Bool) : Shape f g f g := by cases f <;> cases g <;> simp [Shape]
/-- a step that was done, or not -/
def StepOk (o : Int) (m : Nat) (n : Nr) (r : Nr × Bool × Bool × Int) : Prop := (r.2.2.2 = 1 ∧ GoodN o m n) ∨ (r.2.2.2 = 0 ∧ GoodN o m r.1 ∧ n.boot ≤ r.1.boot ∧ Shape r.2.1 r.2.2.1 n.full r.1.full)
theorem step_hello {o : Int} {m : Nat} {n : Nr} (b : Int) (hears : Bool) (h : GoodN o m n) : StepOk o 0 n (helloC n b hears) := by
  unfold helloC
  by_cases hy : (mayN n && decide (1 ≤ b) && decide (b ≤ 1073741824)) = true
  · rw [if_pos hy]
    simp only [Bool.and_eq_true, decide_eq_true_eq] at hy
    have h1 := may_hello hears h.may hy.1.2 hy.2
    have hg := (mayN_iff _).1 h1.1
    refine .inr ⟨rfl, ⟨h1.1, ?_, fun _ => by simp only; omega⟩, h1.2, ?_⟩
    · unfold helloN
      repeat' split
      all_goals exact h.of_
    · unfold helloN
      by_cases hc : n.cost = 0 ∨ b < n.boot
      · rw [if_pos hc]
        exact shape_keep _
      · rw [if_neg hc]
        by_cases he : n.full = true ∧ hears = true ∧ b = n.boot
        · rw [if_pos he]
          simp only [he.1, he.2.1]
          exact shape_keep _
        · rw [if_neg he]
          exact shape_new _ _
  · rw [if_neg hy]
    exact .inl ⟨rfl, h.less (Nat.zero_le _)⟩
theorem step_tick {o : Int} {m : Nat} {n : Nr} (h : GoodN o m n) : StepOk o (m + 1) n ((tickC n).1, (tickC n).2.1, false, (tickC n).2.2) := by
  unfold tickC
  rw [if_pos h.may]
  refine .inr ⟨rfl, ⟨may_tick h.may, ?_, ?_⟩, ?_, ?_⟩
  · unfold tickN
    repeat' split
    all_goals exact h.of_
  · unfold tickN
    cases hh : n.heard
    · simp [hh]
    · have := h.age hh
      by_cases h4 : 4 ≤ n.age
      · simp [h4]
      · simp [h4]
        omega
  · unfold tickN
    repeat' split
    all_goals exact Int.le_refl _
  · unfold tickN
    repeat' split
    · exact shape_down _
    · exact shape_keep _
    · exact shape_keep _
theorem step_cost {o : Int} {m : Nat} {n : Nr} (c : Int) (h : GoodN o m n) : StepOk o m n ((costC n c).1, (costC n c).2.1, false, (costC n c).2.2) := by
  unfold costC
  by_cases hy : (mayN n && decide (0 ≤ c) && decide (c ≤ 1073741824)) = true
  · rw [if_pos hy]
    simp only [Bool.and_eq_true, decide_eq_true_eq] at hy
    refine .inr ⟨rfl, ⟨may_cost h.may hy.1.2 hy.2, ?_, ?_⟩, ?_, ?_⟩
    · unfold costN
      repeat' split
      all_goals exact h.of_
    · unfold costN
      split
      · simp
      · exact h.age
    · unfold costN
      repeat' split
      all_goals exact Int.le_refl _
    · unfold costN
      split
      · exact shape_down _
      · exact shape_keep _
  · rw [if_neg hy]
    exact .inl ⟨rfl, h⟩
def StepR (w : World) (j : Nat) (v : Value) : Prop := match j with | 0 => NumOf .i64 v | 1 => NumOf .i64 v | 2 => (∃ b, v = .bool b) | _ => True
theorem step_at {w : World} {a0 : Option Addr} {n0 c0 k : Nat} (h : IsRecs w a0 n0 c0 3 (StepR w)) (hk : k < n0) : ∃ b off d x hears, a0 = some ⟨b, off, none⟩ ∧ b < w.heap.size ∧ w.cell? ⟨b, off + k * 3, none⟩ = some (.int .i64 d) ∧ w.cell? ⟨b, off + k * 3 + 1, none⟩ = some (.int .i64 x) ∧ w.cell? ⟨b, off + k * 3 + 2, none⟩ = some (.bool hears) := by
  obtain ⟨b, off, rfl, hb, hc⟩ := rec_at h (by omega) (by omega)
  obtain ⟨_, c0, ⟨d, rfl, _⟩⟩ := hc k hk 0 (by omega)
  obtain ⟨_, c1, ⟨x, rfl, _⟩⟩ := hc k hk 1 (by omega)
  obtain ⟨_, c2, ⟨z, rfl⟩⟩ := hc k hk 2 (by omega)
  exact ⟨b, off, d, x, z, rfl, hb, by simpa using c0, by simpa [Nat.add_assoc] using c1, by simpa [Nat.add_assoc] using c2⟩
end Go.Proofs.Ytgfoadldghcdeaa.Nea
