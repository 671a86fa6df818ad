/- The reference of layer 17 (near): May, Hello, Tick, Cost; and neighbours as plain values.  -/
import Derived.Test.YtgfoadldghcdeaaRowArm
import Derived.Test.YtgfoadldghcdeaaOpen
import Derived.Deep.RegionHeld3
import Derived.Deep.RegionLaw
import Derived.BigRegion
import Derived.Lib.Hide
import Derived.LoopTactic
namespace Go.Proofs.Ytgfoadldghcdeaa.Nea
open Go.RowKit Go.Proofs.Ytgfoadldghcdeaa.Mem
set_option linter.unusedVariables false
set_option linter.unusedSimpArgs false
structure Nr where
  of_ : Int
  cost : Int
  boot : Int
  ep : Int
  heard : Bool
  full : Bool
  age : Int
  got : Bool
deriving DecidableEq
def mayN (n : Nr) : Bool :=
  decide (1 ≤ n.of_) && decide (n.of_ ≤ 64) && decide (0 ≤ n.cost) && decide (n.cost ≤ 1073741824) && decide (0 ≤ n.boot) && decide (n.boot ≤ 1073741824) && decide (0 ≤ n.ep) && decide (n.ep ≤ 1073741824) && decide (0 ≤ n.age) && decide (n.age ≤ 4) &&
    (if n.heard = true then decide (0 < n.boot) && decide (0 < n.cost) && (n.full || !n.got) else decide (n.age = 0) && !n.full && !n.got)
def helloN (n : Nr) (boot : Int) (hears : Bool) : Nr × Bool × Bool :=
  if n.cost = 0 ∨ boot < n.boot then (n, false, false)
  else if n.full = true ∧ hears = true ∧ boot = n.boot then (⟨n.of_, n.cost, boot, n.ep, true, hears, 0, n.got⟩, false, false)
  else (⟨n.of_, n.cost, boot, n.ep, true, hears, 0, false⟩, n.full, hears)
def tickN (n : Nr) : Nr × Bool := if n.heard = true then (if 4 ≤ n.age then (⟨n.of_, n.cost, n.boot, n.ep, false, false, 0, false⟩, n.full) else ({ n with age := n.age + 1 }, false)) else (n, false)
def costN (n : Nr) (cost : Int) : Nr × Bool := if cost = 0 then (⟨n.of_, 0, n.boot, n.ep, false, false, 0, false⟩, n.full) else ({ n with cost := cost }, false)
abbrev nrC (n : Nr) : Array Value := #[.int .i64 n.of_, .int .i64 n.cost, .int .i64 n.boot, .int .i64 n.ep, .bool n.heard, .bool n.full, .int .i64 n.age, .bool n.got]
theorem size_nr : (Try.prog.info? 23).map (·.size) = some 8 := by kernel_rfl
theorem ret_bool {a b : Bool} (h : a = b) : Ending.returned (.bool a) = .returned (.bool b) := by rw [h]
/-- a struct in a cell and two more are answered -/
theorem results_blk_two {P : Program} {fn : Func} {p q r : Tmp} {ty : TypeId} (h : fn.results = #[.cell p ty, .tmp q, .tmp r]) (tmps : Array Value) {w : World} {g : Nat} {cs : Array Value} {d : TypeDesc} (hp : tmps.getD p undef = .pointer (some ⟨g, 0, none⟩)) (u v : Value) (hq : tmps.getD q undef = u) (hr : tmps.getD r undef = v)
    (hb : Blk w g ty cs) (hu : P.underlying ty = some d) (hd : (match d with | .struct _ | .array _ _ => true | _ => false) = true) (hi : (P.info? ty).map (·.size) = some cs.size) :
    (results fn tmps).run P w = .ok (.tuple #[.agg cs, u, v]) w := by
  subst hq hr
  have hp' : tmps[p]?.getD undef = .pointer (some ⟨g, 0, none⟩) := by simpa using hp
  simp [results, h, hp', asAddr, run_loadVar_blk hb hu hd hi]
theorem blk_new2 (w : World) (o1 : Obj) (t : TypeId) (cs : Array Value) : Blk ((w.alloc o1).alloc (.cells cs t)) (w.heap.size + 1) t cs := by
  have := Blk.new (w.alloc o1) t cs
  rw [show (w.alloc o1).heap.size = w.heap.size + 1 by simp] at this
  exact this
theorem below1 (w : World) (o1 : Obj) : Below w.heap.size w (w.alloc o1) := (Below.refl _ w).alloc (Nat.le_refl _) o1
theorem below2 (w : World) (o1 o2 : Obj) : Below w.heap.size w ((w.alloc o1).alloc o2) := (below1 w o1).alloc (by simp) o2
theorem blk_cells8 {w : World} {g : Nat} {t : TypeId} {m a b c d e f h : Value} (k : Blk w g t #[m, a, b, c, d, e, f, h]) : w.cell? ⟨g, 0, none⟩ = some m ∧ w.cell? ⟨g, 1, none⟩ = some a ∧ w.cell? ⟨g, 2, none⟩ = some b ∧ w.cell? ⟨g, 3, none⟩ = some c ∧ w.cell? ⟨g, 4, none⟩ = some d ∧ w.cell? ⟨g, 5, none⟩ = some e ∧ w.cell? ⟨g, 6, none⟩ = some f ∧ w.cell? ⟨g, 7, none⟩ = some h ∧ g < w.heap.size :=
  ⟨k.cell 0, k.cell 1, k.cell 2, k.cell 3, k.cell 4, k.cell 5, k.cell 6, k.cell 7, k.lt⟩
theorem blk_frozen8 {w : World} {g : Nat} {t : TypeId} {m a b c d e f h : Value} (k : Blk w g t #[m, a, b, c, d, e, f, h]) : w.frozen? ⟨g, 0, none⟩ = false ∧ w.frozen? ⟨g, 1, none⟩ = false ∧ w.frozen? ⟨g, 2, none⟩ = false ∧ w.frozen? ⟨g, 3, none⟩ = false ∧ w.frozen? ⟨g, 4, none⟩ = false ∧ w.frozen? ⟨g, 5, none⟩ = false ∧ w.frozen? ⟨g, 6, none⟩ = false ∧ w.frozen? ⟨g, 7, none⟩ = false :=
  ⟨k.frozen 0, k.frozen 1, k.frozen 2, k.frozen 3, k.frozen 4, k.frozen 5, k.frozen 6, k.frozen 7⟩
abbrev st8 (w : World) (g : Nat) (a0 a1 a2 a3 a4 a5 a6 a7 : Value) : World :=
  (((((((w.setCell ⟨g, 0, none⟩ a0).setCell ⟨g, 1, none⟩ a1).setCell ⟨g, 2, none⟩ a2).setCell ⟨g, 3, none⟩ a3).setCell ⟨g, 4, none⟩ a4).setCell ⟨g, 5, none⟩ a5).setCell ⟨g, 6, none⟩ a6).setCell ⟨g, 7, none⟩ a7
theorem st8_blk {w : World} {g : Nat} {t : TypeId} {a0 a1 a2 a3 a4 a5 a6 a7 z0 z1 z2 z3 z4 z5 z6 z7 : Value} (h : Blk w g t #[z0, z1, z2, z3, z4, z5, z6, z7]) : Blk (st8 w g a0 a1 a2 a3 a4 a5 a6 a7) g t #[a0, a1, a2, a3, a4, a5, a6, a7] := by
  have k := (((((((h.set_ 0 a0).set_ 1 a1).set_ 2 a2).set_ 3 a3).set_ 4 a4).set_ 5 a5).set_ 6 a6).set_ 7 a7
  simp only [List.setIfInBounds_toArray, List.set_cons_zero, List.set_cons_succ] at k
  exact k
theorem st8_below {w w0 : World} {g B : Nat} {a0 a1 a2 a3 a4 a5 a6 a7 : Value} (h : Below B w0 w) (hg : B ≤ g) : Below B w0 (st8 w g a0 a1 a2 a3 a4 a5 a6 a7) :=
  (((((((h.setCell (p := ⟨g, 0, none⟩) hg a0).setCell (p := ⟨g, 1, none⟩) hg a1).setCell (p := ⟨g, 2, none⟩) hg a2).setCell (p := ⟨g, 3, none⟩) hg a3).setCell (p := ⟨g, 4, none⟩) hg a4).setCell (p := ⟨g, 5, none⟩) hg a5).setCell (p := ⟨g, 6, none⟩) hg a6).setCell (p := ⟨g, 7, none⟩) hg a7
theorem gr_below {w W w9 : World} {B g : Nat} (h : Below B w W) (hg : W.grownBy w9 (some g)) (hB : B ≤ W.heap.size) (h2 : B ≤ g) : Below B w w9 := h.grown hg hB (fun q hq => by cases hq; exact h2)
abbrev zrC : Array Value := #[.int .i64 0, .int .i64 0, .int .i64 0, .int .i64 0, .bool false, .bool false, .int .i64 0, .bool false]
end Go.Proofs.Ytgfoadldghcdeaa.Nea
