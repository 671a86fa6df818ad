/- awake of the laws of layer 17. -/
import Derived.Test.YtgfoadldghcdeaaNearCode
namespace Go.Proofs.Ytgfoadldghcdeaa.Nea
open Go.RowKit Go.Proofs.Ytgfoadldghcdeaa.Mem
set_option linter.unusedVariables false
set_option linter.unusedSimpArgs false
theorem awake17_any (w : World) : Calls Try.prog 9 #[] w fun e w' => e = .returned (.bool true) ∧ Below w.heap.size w w' := by
  have N := nhello_any ⟨2, 1, 0, 0, false, false, 0, false⟩ 1 true w
  rw [show helloC ⟨2, 1, 0, 0, false, false, 0, false⟩ 1 true = (⟨2, 1, 1, 0, true, true, 0, false⟩, false, true, 0) by decide] at N
  simp only at N
  have N := Lib.hid N
  go_enter Try.func9, Try.ntmps9
  go_wp2_with (go_at_call 6; refine (N.out).mono ?_; rintro e w1 ⟨rfl, hb⟩; have HB := Lib.hid hb; clear hb)
  go_ret
  exact ⟨rfl, low_low HB.out (below1 _ _)⟩
end Go.Proofs.Ytgfoadldghcdeaa.Nea
