/- Which states are alike, by the document's own answer (layer 11): waymarkref11.Same. -/
import Derived.Test.YtpolpppnajfhdaaBasRef
namespace Go.Proofs.Ytpolpppnajfhdaa.Bas
open Go.RowKit Go.Proofs.Ytpolpppnajfhdaa.Mem Go.Proofs.Ytpolpppnajfhdaa.Oct Go.Proofs.Ytpolpppnajfhdaa.Lsa Go.Proofs.Ytpolpppnajfhdaa.Chg
set_option linter.unusedVariables false
set_option linter.unusedSimpArgs false
end Go.Proofs.Ytpolpppnajfhdaa.Bas
