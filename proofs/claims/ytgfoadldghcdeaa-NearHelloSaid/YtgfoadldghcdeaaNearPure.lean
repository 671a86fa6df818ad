/- Neighbours as plain values (layer 17): what becomes of one may be; what the code answers. -/
import Derived.Test.YtgfoadldghcdeaaNearRef
namespace Go.Proofs.Ytgfoadldghcdeaa.Nea
open Go.RowKit Go.Proofs.Ytgfoadldghcdeaa.Mem
set_option linter.unusedVariables false
set_option linter.unusedSimpArgs false
def errN (b : Bool) : Int := if b = true then 0 else 1
def zN : Nr := ⟨0, 0, 0, 0, false, false, 0, false⟩
def helloC (n : Nr) (b : Int) (hears : Bool) : Nr × Bool × Bool × Int := if (mayN n && decide (1 ≤ b) && decide (b ≤ 1073741824)) = true then ((helloN n b hears).1, (helloN n b hears).2.1, (helloN n b hears).2.2, 0) else (zN, false, false, 1)
def tickC (n : Nr) : Nr × Bool × Int := if mayN n = true then ((tickN n).1, (tickN n).2, 0) else (zN, false, 1)
def costC (n : Nr) (c : Int) : Nr × Bool × Int := if (mayN n && decide (0 ≤ c) && decide (c ≤ 1073741824)) = true then ((costN n c).1, (costN n c).2, 0) else (zN, false, 1)
theorem mayN_iff (n : Nr) : mayN n = true ↔ (1 ≤ n.of_ ∧ n.of_ ≤ 64 ∧ 0 ≤ n.cost ∧ n.cost ≤ 1073741824 ∧ 0 ≤ n.boot ∧ n.boot ≤ 1073741824 ∧ 0 ≤ n.ep ∧ n.ep ≤ 1073741824 ∧ 0 ≤ n.age ∧ n.age ≤ 4) ∧ (n.heard = true → 0 < n.boot ∧ 0 < n.cost ∧ (n.full = true ∨ n.got = false)) ∧ (n.heard = false → n.age = 0 ∧ n.full = false ∧ n.got = false) := by
  obtain ⟨of_, cost, boot, ep, heard, full, age, got⟩ := n
  unfold mayN
  cases heard <;> simp [and_assoc]
theorem may_hello {n : Nr} {b : Int} (hears : Bool) (h : mayN n = true) (h1 : 1 ≤ b) (h2 : b ≤ 1073741824) : mayN (helloN n b hears).1 = true ∧ n.boot ≤ (helloN n b hears).1.boot := by
  rw [mayN_iff] at h ⊢
  obtain ⟨of_, cost, boot, ep, heard, full, age, got⟩ := n
  simp only at h
  unfold helloN
  by_cases hc : cost = 0 ∨ b < boot
  · rw [if_pos hc]
    exact ⟨h, Int.le_refl _⟩
  · rw [if_neg hc]
    by_cases he : full = true ∧ hears = true ∧ b = boot
    · rw [if_pos he]
      simp only [he.2.1]
      refine ⟨⟨by omega, fun _ => ⟨by omega, by omega, by simp⟩, fun e => by simp at e⟩, by omega⟩
    · rw [if_neg he]
      simp only
      refine ⟨⟨by omega, fun _ => ⟨by omega, by omega, by simp⟩, fun e => by simp at e⟩, by omega⟩
theorem may_tick {n : Nr} (h : mayN n = true) : mayN (tickN n).1 = true := by
  have h0 := h
  rw [mayN_iff] at h ⊢
  obtain ⟨of_, cost, boot, ep, heard, full, age, got⟩ := n
  simp only at h
  unfold tickN
  cases heard
  · rw [if_neg (by simp)]
    exact h
  · rw [if_pos rfl]
    by_cases h4 : (4 : Int) ≤ age
    · rw [if_pos h4]
      simp only
      exact ⟨by omega, fun e => by simp at e, fun _ => by simp⟩
    · rw [if_neg h4]
      simp only
      exact ⟨by omega, fun _ => h.2.1 rfl, fun e => by simp at e⟩
theorem may_cost {n : Nr} {c : Int} (h : mayN n = true) (h1 : 0 ≤ c) (h2 : c ≤ 1073741824) : mayN (costN n c).1 = true := by
  rw [mayN_iff] at h ⊢
  obtain ⟨of_, cost, boot, ep, heard, full, age, got⟩ := n
  simp only at h
  unfold costN
  by_cases hc : c = 0
  · rw [if_pos hc]
    simp only
    exact ⟨by omega, fun e => by simp at e, fun _ => by simp⟩
  · rw [if_neg hc]
    simp only
    exact ⟨by omega, fun e => ⟨(h.2.1 e).1, by omega, (h.2.1 e).2.2⟩, h.2.2⟩
end Go.Proofs.Ytgfoadldghcdeaa.Nea
