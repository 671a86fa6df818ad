/- The changes whose bytes they are (layer 10): the contract of change.Get. Condition: at most 200000 bytes. -/
import Derived.Test.YtcojimbnenibnaaChgRead
import Derived.Test.YtcojimbnenibnaaReaderEnd
import Derived.Test.YtcojimbnenibnaaPut
namespace Go.Proofs.Ytcojimbnenibnaa.Chg
open Go.RowKit Go.Proofs.Ytcojimbnenibnaa.Mem Go.Proofs.Ytcojimbnenibnaa.Oct Go.Proofs.Ytcojimbnenibnaa.Lsa
set_option linter.unusedVariables false
set_option linter.unusedSimpArgs false
def errT (r : Option (List Ch)) : Int := match r with | some _ => 0 | none => 2
def CGetOut (w : World) (r : Option (List Ch)) (e : Ending) (w' : World) : Prop :=
  ∃ v, e = .returned (.tuple #[v, .int .i64 (errT r)]) ∧ Chs w' w'.heap.size v (r.getD []) ∧ Below w.heap.size w w'
theorem getC_few {xs : List Nat} (h : ¬ (1 ≤ (rnum (xs, true) 1).2 ∧ (rnum (xs, true) 1).2 ≤ 40)) : getC xs = none := by rw [getC, if_neg h]
theorem getC_none {xs : List Nat} (k : Nat) (hk : k ≤ (rnum (xs, true) 1).2) (h : reads (rnum (xs, true) 1).1 k = none) : getC xs = none := by
  unfold getC
  split
  · rw [reads_none h hk]
  · rfl
theorem getC_end {xs : List Nat} (t : St) (l : List Ch) (h1 : 1 ≤ (rnum (xs, true) 1).2) (h2 : (rnum (xs, true) 1).2 ≤ 40) (h : reads (rnum (xs, true) 1).1 (rnum (xs, true) 1).2 = some (t, l)) : getC xs = if (t.2 && decide (t.1.length = 0)) = true then some l else none := by
  unfold getC
  rw [if_pos ⟨h1, h2⟩, h]
end Go.Proofs.Ytcojimbnenibnaa.Chg
