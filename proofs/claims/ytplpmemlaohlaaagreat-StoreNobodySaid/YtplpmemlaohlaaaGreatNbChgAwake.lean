/- The laws' own little example of layer 10: it is awake; and whether changes are light. -/
import Derived.Test.YtplpmemlaohlaaaGreatNbChgGet
import Derived.Test.YtplpmemlaohlaaaGreatNbChgPut
import Derived.Test.YtplpmemlaohlaaaGreatNbLsaAwake
namespace Go.Proofs.YtplpmemlaohlaaaGreat.Chg
open Go.RowKit Go.Proofs.YtplpmemlaohlaaaGreat.Mem Go.Proofs.YtplpmemlaohlaaaGreat.Oct Go.Proofs.YtplpmemlaohlaaaGreat.Lsa
set_option linter.unusedVariables false
set_option linter.unusedSimpArgs false
theorem chs_lit1 (w : World) (c : Ch) (u : Value) (g : Nat) (hg : g = w.heap.size) (hu : Lks w w.heap.size u c.ls) :
    Chs (w.alloc (.cells #[.int .i64 c.k, .int .i64 c.o, .int .i64 c.s, u, .int .i64 c.n, .int .i64 c.f] 82)) (w.heap.size + 1) (.slice (some ⟨g, 0, none⟩) 1 1) [c] := by
  subst hg
  refine ⟨_, 1, 1, rfl, rfl, Nat.le_refl _, by unfold maxLen; omega, fun _ => ⟨_, 0, rfl, Nat.lt_succ_self _, fun i hi => ?_⟩⟩
  obtain rfl : i = 0 := by omega
  refine ⟨u, fun j v hv => ?_, (hu.alloc (Nat.le_refl _) _).more (Nat.le_succ _)⟩
  have hk := Blk.new w 82 #[.int .i64 c.k, .int .i64 c.o, .int .i64 c.s, u, .int .i64 c.n, .int .i64 c.f]
  rw [Nat.zero_mul, Nat.zero_add, hk.cell]
  simpa [rowC] using hv
def small (c : Ch) : Bool := decide (c.ls.length ≤ 40)
def lightB (l : List Ch) : Bool := (l.take 51).all small && decide (l.length ≤ 50)
theorem small_no (l : List Ch) (k : Nat) (hk : k < l.length) (h50 : k ≤ 50) (h : small (l.getD k zeroC) = false) : lightB l = false := by
  have : (l.take 51).all small = false := by
    rw [List.all_eq_false]
    refine ⟨l.getD k zeroC, ?_, by rw [h]; exact Bool.false_ne_true⟩
    rw [List.mem_take_iff_getElem]
    exact ⟨k, by omega, by simp [List.getD, List.getElem?_eq_getElem hk]⟩
  simp [lightB, this]
end Go.Proofs.YtplpmemlaohlaaaGreat.Chg
