/- Rows of the call's own, of elements of several cells: many cells stored at once, made longer within the capacity, copied. No program is named here. -/
import Derived.Test.YtpolpppnajfhdaaPgMem
import Derived.Deep.MidRow
import Derived.Laws.CopyOwn
import Derived.Laws.IdiomCopy
import Derived.Laws.OwnMore
import Derived.Lib.AppendZerosOnto
namespace Go.Proofs.Ytpolpppnajfhdaa.Mem
open Go.RowKit
set_option linter.unusedVariables false
set_option linter.unusedSimpArgs false
section
variable {P : Program}
end
end Go.Proofs.Ytpolpppnajfhdaa.Mem
