/- A slice of structs that came in: each element's fields (after the pattern of the guide extra-structs). No program is named here. -/
import Derived.Test.YtpolpppnajfhdaaPgBytes
import Derived.ChangeSame
import Derived.Deep.Fields
import Derived.Deep.Slices
namespace Go.Proofs.Ytpolpppnajfhdaa.Mem
open Go.RowKit
section
open Go.ChangeShapes Go.WideShapes Go.Deep
variable {H : Type} {enc : TypeId × Value → H} {P : Program} {w : World} {base : Nat} {spare : Nat → Bool} {held : Bool}
end

end Go.Proofs.Ytpolpppnajfhdaa.Mem
