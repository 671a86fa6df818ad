/- Which changes there may be, and which are alike, in the reference's words (layer 10): the contracts of waymarkref10.Same, May. -/
import Derived.Test.YtpolpppnajfhdaaChgCheck
namespace Go.Proofs.Ytpolpppnajfhdaa.Chg
open Go.RowKit Go.Proofs.Ytpolpppnajfhdaa.Mem Go.Proofs.Ytpolpppnajfhdaa.Oct Go.Proofs.Ytpolpppnajfhdaa.Lsa
set_option linter.unusedVariables false
set_option linter.unusedSimpArgs false
theorem win_split (n hi : Int) : win n hi = (decide (1 ≤ n) && decide (n ≤ hi)) := rfl
end Go.Proofs.Ytpolpppnajfhdaa.Chg
