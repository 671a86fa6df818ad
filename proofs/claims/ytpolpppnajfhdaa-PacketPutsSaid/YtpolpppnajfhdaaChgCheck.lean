/- Which changes there may be, and which are alike (layer 10): the contracts of change.isWithin, Same and Check, and of the reference's Same and May. -/
import Derived.Test.YtpolpppnajfhdaaChgMem
import Derived.Test.YtpolpppnajfhdaaLsaSame
namespace Go.Proofs.Ytpolpppnajfhdaa.Chg
open Go.RowKit Go.Proofs.Ytpolpppnajfhdaa.Mem Go.Proofs.Ytpolpppnajfhdaa.Oct Go.Proofs.Ytpolpppnajfhdaa.Lsa
set_option linter.unusedVariables false
set_option linter.unusedSimpArgs false
theorem blk_cells6 {w : World} {g : Nat} {t : TypeId} {a b c d e f : Value} (h : Blk w g t #[a, b, c, d, e, f]) : w.cell? ⟨g, 0, none⟩ = some a ∧ w.cell? ⟨g, 1, none⟩ = some b ∧ w.cell? ⟨g, 2, none⟩ = some c ∧ w.cell? ⟨g, 3, none⟩ = some d ∧ w.cell? ⟨g, 4, none⟩ = some e ∧ w.cell? ⟨g, 5, none⟩ = some f ∧ g < w.heap.size :=
  ⟨by rw [h.cell]; rfl, by rw [h.cell]; rfl, by rw [h.cell]; rfl, by rw [h.cell]; rfl, by rw [h.cell]; rfl, by rw [h.cell]; rfl, h.lt⟩
theorem blk_fz6 {w : World} {g : Nat} {t : TypeId} {cs : Array Value} (h : Blk w g t cs) : w.frozen? ⟨g, 0, none⟩ = false ∧ w.frozen? ⟨g, 1, none⟩ = false ∧ w.frozen? ⟨g, 2, none⟩ = false ∧ w.frozen? ⟨g, 3, none⟩ = false ∧ w.frozen? ⟨g, 4, none⟩ = false ∧ w.frozen? ⟨g, 5, none⟩ = false := ⟨h.frozen 0, h.frozen 1, h.frozen 2, h.frozen 3, h.frozen 4, h.frozen 5⟩
theorem low1 {w wr : World} (h : Below w.heap.size w wr) (o : Obj) : Below w.heap.size w (wr.alloc o) := h.alloc h.size o
theorem low_low {wz w w' : World} (h : Below wz.heap.size wz w) (k : Below w.heap.size w w') : Below wz.heap.size wz w' := h.trans (k.mono h.size)
theorem low_set {w wr : World} {g i : Nat} {u : Value} (h : Below w.heap.size w wr) (hg : w.heap.size ≤ g) : Below w.heap.size w (wr.setCell ⟨g, i, none⟩ u) := h.setCell (by exact hg) _
theorem blk_eq {w : World} {g : Nat} {t : TypeId} {cs cs' : Array Value} (h : Blk w g t cs) (e : cs = cs') : Blk w g t cs' := e ▸ h
theorem set_far {w : World} {g q i : Nat} {t : TypeId} {cs : Array Value} {u : Value} (h : Blk w g t cs) (hp : g ≠ q) : Blk (w.setCell ⟨q, i, none⟩ u) g t cs := h.far (p := ⟨q, i, none⟩) hp u
abbrev boxC (c : Ch) (v : Value) : Array Value := #[.int .i64 c.k, .int .i64 c.o, .int .i64 c.s, v, .int .i64 c.n, .int .i64 c.f]
theorem same_r1 (n f : Int) : same ⟨0, 0, 0, [], n, f⟩ zeroC = ((n == 0) && (f == 0)) := by simp [same, smL, zeroC]
theorem same_r2 (o s f : Int) (ls : List Lk) : same ⟨0, o, s, ls, 0, f⟩ zeroC = ((f == 0) && noL o s ls) := by simp [same, noL, zeroC]
theorem same_r4 (o s : Int) (ls : List Lk) : same ⟨0, o, s, ls, 0, 0⟩ zeroC = noL o s ls := by simp [same, noL, zeroC]
theorem blk_second (w : World) (o : Obj) (t : TypeId) (cs : Array Value) : Blk ((w.alloc o).alloc (.cells cs t)) (w.heap.size + 1) t cs := by
  have := Blk.new (w.alloc o) t cs
  simpa using this
theorem low2 (w : World) (o o' : Obj) : Below w.heap.size w ((w.alloc o).alloc o') := low1 (low1 (Below.refl _ _) _) _
theorem errI_eq {a b : Bool} (h : a = b) : Ending.returned (.int .i64 (errI a)) = Ending.returned (.int .i64 (errI b)) := by rw [h]
end Go.Proofs.Ytpolpppnajfhdaa.Chg
