/- A change that is read next (layer 10): the contract of change.read. -/
import Derived.Test.YtcojimbnenibnaaChgCheck
import Derived.Test.YtcojimbnenibnaaLsaRead
import Derived.Deep.Cut
namespace Go.Proofs.Ytcojimbnenibnaa.Chg
open Go.RowKit Go.Proofs.Ytcojimbnenibnaa.Mem Go.Proofs.Ytcojimbnenibnaa.Oct Go.Proofs.Ytcojimbnenibnaa.Lsa
set_option linter.unusedVariables false
set_option linter.unusedSimpArgs false
/-- six cells stored -/
abbrev upd6 (w : World) (g : Nat) (u0 u1 u2 u3 u4 u5 : Value) : World := (((((w.setCell ⟨g, 0, none⟩ u0).setCell ⟨g, 1, none⟩ u1).setCell ⟨g, 2, none⟩ u2).setCell ⟨g, 3, none⟩ u3).setCell ⟨g, 4, none⟩ u4).setCell ⟨g, 5, none⟩ u5
section
variable {w w1 : World} {g g' base n B : Nat} {e : TypeId} {size : Nat} {v u0 u1 u2 u3 u4 u5 : Value} {xs : List Value} {t : TypeId} {cs : Array Value} {st : St}
theorem upd6_own (h : w1.ownsRow base e size v n xs) (hg : g < base) : (upd6 w1 g u0 u1 u2 u3 u4 u5).ownsRow base e size v n xs :=
  ownsRow_setCell_below (ownsRow_setCell_below (ownsRow_setCell_below (ownsRow_setCell_below (ownsRow_setCell_below (ownsRow_setCell_below h hg _) hg _) hg _) hg _) hg _) hg _
theorem upd6_rdr (h : Rdr w1 g' st) (hg : g' < g) : Rdr (upd6 w1 g u0 u1 u2 u3 u4 u5) g' st :=
  (((((h.setFar ⟨g, 0, none⟩ hg _).setFar ⟨g, 1, none⟩ hg _).setFar ⟨g, 2, none⟩ hg _).setFar ⟨g, 3, none⟩ hg _).setFar ⟨g, 4, none⟩ hg _).setFar ⟨g, 5, none⟩ hg _
theorem upd6_grown (w : World) (g : Nat) (u0 u1 u2 u3 u4 u5 : Value) : w.grownBy (upd6 w g u0 u1 u2 u3 u4 u5) (some g) :=
  grown_trans (grown_trans (grown_trans (grown_trans (grown_trans (grown_set w ⟨g, 0, none⟩ u0) (grown_set _ ⟨g, 1, none⟩ u1)) (grown_set _ ⟨g, 2, none⟩ u2)) (grown_set _ ⟨g, 3, none⟩ u3)) (grown_set _ ⟨g, 4, none⟩ u4)) (grown_set _ ⟨g, 5, none⟩ u5)
end
def CReadOut (w : World) (g : Nat) (r : St × Ch) (e : Ending) (w' : World) : Prop :=
  ∃ u, e = .returned (chV r.2 u) ∧ (∃ n, w'.ownsRow w.heap.size 99 2 u n (lkCells r.2.ls)) ∧ Rdr w' g r.1 ∧ w.grownBy w' (some g)
theorem body_1 (st : St) : readBody 1 st = ((rAll st).1, ⟨1, (lsaO st).1, (lsaO st).2.1, (lsaO st).2.2, 0, 0⟩) := by simp [readBody]
theorem body_2 (st : St) : readBody 2 st = ((rnum st 8).1, ⟨2, 0, 0, [], sgn (rnum st 8).2, 0⟩) := by simp [readBody]
theorem body_3 (st : St) : readBody 3 st = ((rnum st 4).1, ⟨3, 0, 0, [], ((rnum st 4).2 : Nat), 0⟩) := by simp [readBody]
theorem body_4 (st : St) : readBody 4 st = ((rnum (rnum st 1).1 4).1, ⟨4, 0, 0, [], ((rnum (rnum st 1).1 4).2 : Nat), ((rnum st 1).2 : Nat)⟩) := by simp [readBody]
theorem body_no {k : Int} (st : St) (h1 : k ≠ 1) (h2 : k ≠ 2) (h3 : k ≠ 3) (h4 : k ≠ 4) : readBody k st = (st, ⟨k, 0, 0, [], 0, 0⟩) := by simp [readBody, h1, h2, h3, h4]
end Go.Proofs.Ytcojimbnenibnaa.Chg
