/- Changes' bytes (layer 10): the contracts of change.put and change.Put. -/
import Derived.Test.YtcojimbnenibnaaChgCheck
import Derived.Test.YtcojimbnenibnaaLsaPut
namespace Go.Proofs.Ytcojimbnenibnaa.Chg
open Go.RowKit Go.Proofs.Ytcojimbnenibnaa.Mem Go.Proofs.Ytcojimbnenibnaa.Oct Go.Proofs.Ytcojimbnenibnaa.Lsa
set_option linter.unusedVariables false
set_option linter.unusedSimpArgs false
theorem bytesC_1 (o s n f : Int) (ls : List Lk) : bytesC ⟨1, o, s, ls, n, f⟩ = be 1 1 ++ bytesOf o s ls := by simp [bytesC, bodyC]
theorem bytesC_2 (o s n f : Int) (ls : List Lk) : bytesC ⟨2, o, s, ls, n, f⟩ = be 1 2 ++ be 8 n.toNat := by simp [bytesC, bodyC]
theorem bytesC_3 (o s n f : Int) (ls : List Lk) : bytesC ⟨3, o, s, ls, n, f⟩ = be 1 3 ++ be 4 n.toNat := by simp [bytesC, bodyC]
theorem bytesC_4 (o s n f : Int) (ls : List Lk) : bytesC ⟨4, o, s, ls, n, f⟩ = be 1 4 ++ (be 1 f.toNat ++ be 4 n.toNat) := by simp [bytesC, bodyC]
theorem sl_cast {w : World} {B : Nat} {v : Value} {xs ys : List Nat} (h : Sl w B v xs) (e : xs = ys) : Sl w B v ys := e ▸ h
theorem okAll_short {l : List Ch} (h : ¬ (1 ≤ l.length ∧ l.length ≤ 40)) : okAll l = false := by
  cases hq : okAll l
  · rfl
  · exact absurd (okAll_iff.1 hq).2 h
theorem all_take (l : List Ch) (k : Nat) (h : (l.take k).all mayC = true) : (cat (l.take k)).length ≤ 91 * k := by
  have h1 := cat_len h
  have h2 : (l.take k).length ≤ k := by rw [List.length_take]; omega
  exact Nat.le_trans h1 (Nat.mul_le_mul_left _ h2)
theorem all_take_succ (l : List Ch) (k : Nat) (hk : k < l.length) : (l.take (k + 1)).all mayC = ((l.take k).all mayC && mayC (l.getD k zeroC)) := by
  rw [List.take_succ_eq_append_getElem hk, List.all_append]
  simp [List.getD, List.getElem?_eq_getElem hk]
theorem all_false (l : List Ch) (k : Nat) (hk : k < l.length) (h : mayC (l.getD k zeroC) = false) : l.all mayC = false := by
  rw [List.all_eq_false]
  refine ⟨l.getD k zeroC, ?_, by rw [h]; exact Bool.false_ne_true⟩
  simp only [List.getD, List.getElem?_eq_getElem hk, Option.getD_some]
  exact List.getElem_mem _
theorem okAll_false {l : List Ch} (h : l.all mayC = false) : okAll l = false := by simp [okAll, h]
/-- what Put answers -/
def PutOut (w : World) (l : List Ch) (e : Ending) (w' : World) : Prop :=
  ∃ v, e = .returned (.tuple #[v, .int .i64 (errI (okAll l))]) ∧ (okAll l = true → Sl w' w'.heap.size v (putC l)) ∧ (okAll l = false → v = .slice none 0 0) ∧ Below w.heap.size w w'
end Go.Proofs.Ytcojimbnenibnaa.Chg
