/- The reference of layer 17: May. -/
import Derived.Test.YtgfoadldghcdeaaNearRef
import Derived.Deep.RegionHeld3
import Derived.Deep.RegionLaw
import Derived.Lib.Hide
import Derived.LoopTactic
namespace Go.Proofs.Ytgfoadldghcdeaa.Nea
open Go.RowKit Go.Proofs.Ytgfoadldghcdeaa.Mem
set_option linter.unusedVariables false
set_option linter.unusedSimpArgs false
set_option maxRecDepth 20000 in
set_option maxHeartbeats 4000000 in
theorem rmay_any (n : Nr) (w : World) : Calls Try.prog 8 #[.agg (nrC n)] w fun e w' => e = .returned (.bool (mayN n)) ∧ Below w.heap.size w w' := by
  generalize hz : mayN n = z
  obtain ⟨of_, cost, boot, ep, heard, full, age, got⟩ := n
  unfold nrC
  simp only
  have Z := Lib.hid hz; clear hz
  go_enter Try.func8, Try.ntmps8
  go_wp2
  all_goals
    (go_ret
     refine ⟨ret_bool ?_, below1 _ _⟩
     have hz := Z.out
     clear Z
     rw [← hz]
     unfold mayN
     first
       | (simp [*]; done)
       | (simp [*]; omega)
       | (trace_state; fail))
end Go.Proofs.Ytgfoadldghcdeaa.Nea
