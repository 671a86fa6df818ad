/- The laws' own little example of layer 9: it is awake; and how many links an Lsa has. -/
import Derived.Test.YtplpmemlaohlaaaGreatNbLsaPut
namespace Go.Proofs.YtplpmemlaohlaaaGreat.Lsa
open Go.RowKit Go.Proofs.YtplpmemlaohlaaaGreat.Mem Go.Proofs.YtplpmemlaohlaaaGreat.Oct
set_option linter.unusedVariables false
set_option linter.unusedSimpArgs false
end Go.Proofs.YtplpmemlaohlaaaGreat.Lsa
