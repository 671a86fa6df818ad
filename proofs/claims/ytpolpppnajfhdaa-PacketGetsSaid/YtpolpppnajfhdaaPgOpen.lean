/- What a law is told of its arguments: numbers, bools and strings inside a struct, and arrays of two and three numbers, by value. No program is named here. -/
import Derived.Test.YtpolpppnajfhdaaRows
import Derived.Below
import Derived.Laws.IdiomArrays
import Derived.Lib.SmallJoins
import Derived.OpenShut
import Derived.RowKit
import Derived.WalkKit
namespace Go.Proofs.Ytpolpppnajfhdaa.Mem
open Go.RowKit
set_option linter.unusedVariables false
section
open Go.ChangeShapes Go.WideShapes Go.ChangeAt Go.Joins
variable {H : Type} {enc : TypeId × Value → H} {P : Program} {w : World} {base : Nat} {spare : Nat → Bool} {held : Bool} {fuel : Nat} {v : Value} {y : DataW H × List MemPlace}
end
end Go.Proofs.Ytpolpppnajfhdaa.Mem
