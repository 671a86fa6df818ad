/- The law's awake (layer 15). -/
import Derived.Test.YtkflbhaomoaonaaQuRef
namespace Go.Proofs.Ytkflbhaomoaonaa.Que
open Go.RowKit Go.Proofs.Ytkflbhaomoaonaa.Mem
set_option linter.unusedVariables false
set_option linter.unusedSimpArgs false
theorem sl_lit7 (w : World) (g : Nat) (hg : g = w.heap.size) : Sl (w.alloc (.cells #[.int .u8 7] 5)) (w.alloc (.cells #[.int .u8 7] 5)).heap.size (.slice (some ⟨g, 0, none⟩) 1 1) [7] := by
  subst hg
  refine ⟨_, 1, 1, rfl, ⟨rfl, by simp, by omega, fun _ => ⟨w.heap.size, 0, rfl, by simp, fun i hi => ?_⟩⟩, Nat.le_refl _, by unfold maxLen; omega, fun h => by cases h⟩
  obtain rfl : i = 0 := by omega
  exact (Blk.new w 5 #[.int .u8 7]).cell 0
theorem qout_low {w w' : World} {base g : Nat} {v : Value} {ts ts' : List (List Nat)} (h : QAt w base g v ts) (o : QOut w base g v w' ts') (hb : base ≤ w.heap.size) : ∃ v', QAt w' base g v' ts' ∧ Below base w w' ∧ base ≤ w'.heap.size := by
  obtain ⟨v', h1, h2, _⟩ := o
  exact ⟨v', h1, h2.low (Below.refl _ _) hb h.low h.from_, Nat.le_trans hb h2.size⟩
end Go.Proofs.Ytkflbhaomoaonaa.Que
