/- Rows of the call's own that grow by append, in blocks that hold no byte, not in their spare cells either: what bytes lie elsewhere stay as they are. No program is named here. -/
import Derived.Test.YtpolpppnajfhdaaPgBytes
import Derived.Maps.AppendAt
namespace Go.Proofs.Ytpolpppnajfhdaa.Mem
open Go.RowKit
set_option linter.unusedVariables false
set_option linter.unusedSimpArgs false
def isBy : Value → Bool
  | .int .u8 _ => true
  | _ => false
/-- no cell of such a block is a byte -/
def NoBy (w : World) (row : Option Nat) : Prop := ∀ g, row = some g → ∀ i u, w.cell? ⟨g, i, none⟩ = some u → isBy u = false
theorem NoBy.below {w w' : World} {B : Nat} {row : Option Nat} (h : NoBy w row) (hb : Below B w w') (hr : ∀ g, row = some g → g < B) : NoBy w' row := fun g e i u hu => h g e i u (by rw [← hb.cell (p := ⟨g, i, none⟩) (hr g e)]; exact hu)
def OwnN (w : World) (base : Nat) (e : TypeId) (size : Nat) (v : Value) (n : Nat) (xs : List Value) : Prop := w.ownsRow base e size v n xs ∧ NoBy w v.ownBlock
section
variable {w w' : World} {base n size : Nat} {e : TypeId} {v : Value} {xs : List Value}
theorem OwnN.below (h : OwnN w base e size v n xs) (hb : Below w.heap.size w w') : OwnN w' base e size v n xs := ⟨own_below h.1 hb, h.2.below hb fun g hg => (h.1.lt g hg).2⟩
end
section
variable {P : Program} (w : World)
end
end Go.Proofs.Ytpolpppnajfhdaa.Mem
