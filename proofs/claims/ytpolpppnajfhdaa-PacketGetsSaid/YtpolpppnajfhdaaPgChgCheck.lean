/- Which changes there may be, and which are alike (layer 10): the contracts of change.isWithin, Same and Check, and of the reference's Same and May. -/
import Derived.Test.YtpolpppnajfhdaaPgChgMem
import Derived.Test.YtpolpppnajfhdaaPgLsaSame
namespace Go.Proofs.Ytpolpppnajfhdaa.Chg
open Go.RowKit Go.Proofs.Ytpolpppnajfhdaa.Mem Go.Proofs.Ytpolpppnajfhdaa.Oct Go.Proofs.Ytpolpppnajfhdaa.Lsa
set_option linter.unusedVariables false
set_option linter.unusedSimpArgs false
theorem low1 {w wr : World} (h : Below w.heap.size w wr) (o : Obj) : Below w.heap.size w (wr.alloc o) := h.alloc h.size o
theorem low_low {wz w w' : World} (h : Below wz.heap.size wz w) (k : Below w.heap.size w w') : Below wz.heap.size wz w' := h.trans (k.mono h.size)
theorem blk_second (w : World) (o : Obj) (t : TypeId) (cs : Array Value) : Blk ((w.alloc o).alloc (.cells cs t)) (w.heap.size + 1) t cs := by
  have := Blk.new (w.alloc o) t cs
  simpa using this
theorem low2 (w : World) (o o' : Obj) : Below w.heap.size w ((w.alloc o).alloc o') := low1 (low1 (Below.refl _ _) _) _
end Go.Proofs.Ytpolpppnajfhdaa.Chg
