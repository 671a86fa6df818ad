/- The contract of a disk's Clone (layer 3). -/
import Derived.Test.YtddhkajcakndlaaCrash
import Derived.Deep.RegionHeld3
namespace Go.Proofs.Ytddhkajcakndlaa.Dsk
open Go.RowKit Go.Maps Go.Proofs.Ytddhkajcakndlaa.Mem
set_option linter.unusedVariables false
set_option linter.unusedSimpArgs false
end Go.Proofs.Ytddhkajcakndlaa.Dsk
