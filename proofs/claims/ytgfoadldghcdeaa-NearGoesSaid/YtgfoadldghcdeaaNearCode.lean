/- The code's functions of layer 17 (near): Hello, Tick, Cost, each whole. -/
import Derived.Test.YtgfoadldghcdeaaNearCodeH
namespace Go.Proofs.Ytgfoadldghcdeaa.Nea
open Go.RowKit Go.Proofs.Ytgfoadldghcdeaa.Mem
set_option linter.unusedVariables false
set_option linter.unusedSimpArgs false
theorem ntick_any (n : Nr) (w : World) : Calls Try.prog 11 #[.agg (nrC n)] w fun e w' => e = .returned (.tuple #[.agg (nrC (tickC n).1), .bool (tickC n).2.1, .int .i64 (tickC n).2.2]) ∧ Below w.heap.size w w' := by
  unfold tickC
  cases hm : mayN n
  · obtain ⟨of_, cost, boot, ep, heard, full, age, got⟩ := n
    exact ntick_bad of_ cost boot ep heard full age got w hm
  · have h := (mayN_iff n).1 hm
    obtain ⟨of_, cost, boot, ep, heard, full, age, got⟩ := n
    simp only at h
    rw [if_pos rfl]
    unfold tickN
    cases hh : heard
    · subst hh
      exact ntick_not of_ cost boot ep false full age got w hm rfl
    · subst hh
      rw [if_pos rfl]
      by_cases h4 : (4 : Int) ≤ age
      · rw [if_pos h4]
        exact ntick_gone of_ cost boot ep true full age got w hm rfl (by simp; omega)
      · rw [if_neg h4]
        exact ntick_more of_ cost boot ep true full age got w hm rfl (by simp; omega) (by rw [IntKind.wrap_i64]; omega)
theorem ncost_any (n : Nr) (c : Int) (w : World) : Calls Try.prog 12 #[.agg (nrC n), .int .i64 c] w fun e w' => e = .returned (.tuple #[.agg (nrC (costC n c).1), .bool (costC n c).2.1, .int .i64 (costC n c).2.2]) ∧ Below w.heap.size w w' := by
  unfold costC
  rw [Bool.and_assoc, show (decide (0 ≤ c) && decide (c ≤ 1073741824)) = win3 c 0 1073741824 from rfl]
  cases hm : mayN n
  · obtain ⟨of_, cost, boot, ep, heard, full, age, got⟩ := n
    exact ncost_bad1 of_ cost boot ep heard full age got c w hm
  · cases hw : win3 c 0 1073741824
    · obtain ⟨of_, cost, boot, ep, heard, full, age, got⟩ := n
      exact ncost_bad2 of_ cost boot ep heard full age got c w hm hw
    · rw [show (true && true) = true from rfl, if_pos rfl]
      unfold costN
      obtain ⟨of_, cost, boot, ep, heard, full, age, got⟩ := n
      by_cases hc : c = 0
      · rw [if_pos hc]
        subst hc
        cases full
        · exact ncost_nil_false of_ cost boot ep heard age got 0 w hm hw rfl
        · exact ncost_nil_true of_ cost boot ep heard age got 0 w hm hw rfl
      · rw [if_neg hc]
        cases full
        · exact ncost_some_false of_ cost boot ep heard age got c w hm hw (beq_false_of_ne hc)
        · exact ncost_some_true of_ cost boot ep heard age got c w hm hw (beq_false_of_ne hc)
theorem nhello_any (n : Nr) (b : Int) (hears : Bool) (w : World) : Calls Try.prog 6 #[.agg (nrC n), .int .i64 b, .bool hears] w fun e w' => e = .returned (.tuple #[.agg (nrC (helloC n b hears).1), .bool (helloC n b hears).2.1, .bool (helloC n b hears).2.2.1, .int .i64 (helloC n b hears).2.2.2]) ∧ Below w.heap.size w w' := by
  unfold helloC
  rw [Bool.and_assoc, show (decide (1 ≤ b) && decide (b ≤ 1073741824)) = win3 b 1 1073741824 from rfl]
  cases hm : mayN n
  · obtain ⟨of_, cost, boot, ep, heard, full, age, got⟩ := n
    exact nhello_bad1 of_ cost boot ep heard full age got b hears w hm
  · cases hw : win3 b 1 1073741824
    · obtain ⟨of_, cost, boot, ep, heard, full, age, got⟩ := n
      exact nhello_bad2 of_ cost boot ep heard full age got b hears w hm hw
    · rw [show (true && true) = true from rfl, if_pos rfl]
      unfold helloN
      obtain ⟨of_, cost, boot, ep, heard, full, age, got⟩ := n
      by_cases hb : b < boot
      · rw [if_pos (Or.inr hb)]
        exact nhello_not1 of_ cost boot ep heard full age got b hears w hm hw (by simpa using hb)
      by_cases hc : cost = 0
      · rw [if_pos (Or.inl hc)]
        exact nhello_not2 of_ cost boot ep heard full age got b hears w hm hw (by simpa using hb) (by simpa using hc)
      rw [if_neg (by simp only; omega)]
      have db : decide (b < boot) = false := by simpa using hb
      have dc : (cost == 0) = false := beq_false_of_ne hc
      by_cases hg : boot < b
      · have dg : decide (boot < b) = true := by simpa using hg
        rw [if_neg (by rintro ⟨_, _, h⟩; simp only at h; omega)]
        cases full <;> cases hears
        · exact nhello_new_false_false of_ cost boot ep heard age got b w hm hw db dc
        · exact nhello_new_false_true of_ cost boot ep heard age got b w hm hw db dc dg
        · exact nhello_new_true_false of_ cost boot ep heard age got b w hm hw db dc
        · exact nhello_new_true_true of_ cost boot ep heard age got b w hm hw db dc dg
      · have dg : decide (boot < b) = false := by simpa using hg
        have e : b = boot := by omega
        have hgot : full = false → got = false := by
          intro hf
          have h := (mayN_iff _).1 hm
          simp only at h
          cases heard
          · exact (h.2.2 rfl).2.2
          · rcases (h.2.1 rfl).2.2 with h1 | h1
            · rw [hf] at h1; cases h1
            · exact h1
        cases full <;> cases hears
        · rw [if_neg (by simp)]
          exact nhello_new_false_false of_ cost boot ep heard age got b w hm hw db dc
        · rw [if_neg (by simp)]
          have h := nhello_keep_false of_ cost boot ep heard age got b w hm hw db dc dg
          rw [hgot rfl] at h ⊢
          exact h
        · rw [if_neg (by simp)]
          exact nhello_new_true_false of_ cost boot ep heard age got b w hm hw db dc
        · rw [if_pos ⟨rfl, rfl, e⟩]
          exact nhello_keep_true of_ cost boot ep heard age got b w hm hw db dc dg
end Go.Proofs.Ytgfoadldghcdeaa.Nea
