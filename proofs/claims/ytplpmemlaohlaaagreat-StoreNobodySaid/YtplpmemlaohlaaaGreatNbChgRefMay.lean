/- Which changes there may be, and which are alike, in the reference's words (layer 10): the contracts of waymarkref10.Same, May. -/
import Derived.Test.YtplpmemlaohlaaaGreatNbChgCheck
namespace Go.Proofs.YtplpmemlaohlaaaGreat.Chg
open Go.RowKit Go.Proofs.YtplpmemlaohlaaaGreat.Mem Go.Proofs.YtplpmemlaohlaaaGreat.Oct Go.Proofs.YtplpmemlaohlaaaGreat.Lsa
set_option linter.unusedVariables false
set_option linter.unusedSimpArgs false
end Go.Proofs.YtplpmemlaohlaaaGreat.Chg
