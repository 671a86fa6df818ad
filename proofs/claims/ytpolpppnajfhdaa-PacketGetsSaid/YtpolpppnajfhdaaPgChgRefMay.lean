/- Which changes there may be, and which are alike, in the reference's words (layer 10): the contracts of waymarkref10.Same, May. -/
import Derived.Test.YtpolpppnajfhdaaPgChgCheck
namespace Go.Proofs.Ytpolpppnajfhdaa.Chg
open Go.RowKit Go.Proofs.Ytpolpppnajfhdaa.Mem Go.Proofs.Ytpolpppnajfhdaa.Oct Go.Proofs.Ytpolpppnajfhdaa.Lsa
set_option linter.unusedVariables false
set_option linter.unusedSimpArgs false
end Go.Proofs.Ytpolpppnajfhdaa.Chg
