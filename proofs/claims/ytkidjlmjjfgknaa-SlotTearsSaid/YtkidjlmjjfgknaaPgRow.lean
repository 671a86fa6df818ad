/- Rows of pages of the call's own that grow by append, whose bytes may lie anywhere (layer 7). -/
import Derived.Test.YtkidjlmjjfgknaaOwnApp
import Derived.Test.YtkidjlmjjfgknaaOwnN
namespace Go.Proofs.Ytkidjlmjjfgknaa.Slt
open Go.RowKit Go.Proofs.Ytkidjlmjjfgknaa.Mem Go.Proofs.Ytkidjlmjjfgknaa.Oct Go.Proofs.Ytkidjlmjjfgknaa.Pg Go.Proofs.Ytkidjlmjjfgknaa.Rcd
set_option linter.unusedVariables false
set_option linter.unusedSimpArgs false
def PgRow (w : World) (base : Nat) (v : Value) (ps : List P) : Prop :=
  ∃ vs : List Value, vs.length = ps.length ∧ OwnN w base 43 7 v ps.length (flat ps vs) ∧ ∀ i, i < ps.length → Sb w w.heap.size (vs.getD i undef) (ps.getD i noP).b
theorem PgRow.below {w w' : World} {base : Nat} {v : Value} {ps : List P} (h : PgRow w base v ps) (hb : Below w.heap.size w w') : PgRow w' base v ps := by
  obtain ⟨vs, h1, h2, h3⟩ := h
  exact ⟨vs, h1, h2.below hb, fun i hi => ((h3 i hi).below hb (Nat.le_refl _)).more hb.size⟩
theorem pgRow_nil (w : World) (base : Nat) : PgRow w base (.slice none 0 0) [] := ⟨[], rfl, ownN_nil _ _ _ _, fun i hi => absurd hi (by simp)⟩
theorem pgRow_lit (w : World) (base g : Nat) (hg : g = w.heap.size) (hb : base ≤ w.heap.size) : PgRow (w.alloc (.cells #[] 43)) base (.slice (some ⟨g, 0, none⟩) 0 0) [] := by
  subst hg
  exact ⟨[], rfl, ownN_lit w base _ 7 hb, fun i hi => absurd hi (by simp)⟩
theorem sb_by {w w' : World} {B : Nat} {v : Value} {xs : List Nat} {row : Option Nat} (h : Sb w B v xs) (hg : w.grownBy w' row) (hB : B ≤ w.heap.size) (hn : NoBy w row) : Sb w' B v xs := by
  obtain ⟨A, n, c, e, h1⟩ := h
  exact ⟨A, n, c, e, bts_by h1 hg hB hn⟩
theorem pgRow_pgs {w : World} {base : Nat} {v : Value} {ps : List P} (h : PgRow w base v ps) : Pgs w w.heap.size v ps := by
  obtain ⟨vs, hl, ⟨hown, _⟩, hs⟩ := h
  by_cases h0 : ps.length = 0
  · have : ps = [] := List.eq_nil_of_length_eq_zero h0
    subst this
    rcases hown.2 with ⟨rfl, _⟩ | ⟨g, cap, cur, rfl, _, _, h3, h4, _⟩
    · exact pgs_nil _ _
    · exact ⟨_, _, _, rfl, rfl, h3, h4, fun h => absurd h (by simp)⟩
  · rcases hown.2 with ⟨_, h⟩ | ⟨g, cap, cur, rfl, _, hg, h3, h4, h5, h6⟩
    · exact absurd h h0
    · refine ⟨_, _, _, rfl, rfl, h3, h4, fun _ => ⟨g, 0, rfl, (hown.lt g rfl).2, fun i hi => ⟨vs.getD i undef, fun j u hu => ?_, hs i hi⟩⟩⟩
      have hj : j < 7 := (List.getElem?_eq_some_iff.1 hu).1
      rw [Nat.zero_add, hown.cellAt (i * 7 + j) (by have := Nat.mul_le_mul_right 7 (Nat.succ_le_of_lt hi); rw [Nat.succ_mul] at this; omega), flat_get ps vs i j hl hi hj]
      exact hu
theorem row_nob (p : P) (A : Option Addr) (n c : Nat) : ∀ u ∈ row p (.slice A n c), isBy u = false := by
  intro u hu
  simp only [row, List.mem_cons, List.not_mem_nil, or_false] at hu
  rcases hu with rfl | rfl | rfl | rfl | rfl | rfl | rfl <;> rfl
theorem zPg_nob : ∀ u ∈ zPg.cells.toList, isBy u = false := by
  intro u hu
  have : zPg.cells.toList = row noP (.slice none 0 0) := by simp [zPg, Value.cells, row, noP]
  rw [this] at hu
  exact row_nob _ _ _ _ u hu
/-- behind an append of one page -/
theorem pgRow_push {w5 W w7 : World} {base : Nat} {u v7 vq : Value} {ps : List P} {vs : List Value} {q : P} (hvl : vs.length = ps.length) (hown : OwnN w5 base 43 7 u ps.length (flat ps vs)) (hvs : ∀ i, i < ps.length → Sb w5 w5.heap.size (vs.getD i undef) (ps.getD i noP).b)
    (hq : Sb w5 w5.heap.size vq q.b) (hW : Below w5.heap.size w5 W) (hown7 : OwnN w7 base 43 7 v7 (ps.length + 1) (flat ps vs ++ row q vq)) (hg7 : W.grownBy w7 u.ownBlock) : PgRow w7 base v7 (ps ++ [q]) := by
  have hn := (hown.below hW).2
  refine ⟨vs ++ [vq], by simp [hvl], ?_, fun i hi => ?_⟩
  · rw [List.length_append, flat_app ps [q] vs [vq] hvl, flat_one]
    exact hown7
  · by_cases hc : i < ps.length
    · rw [getD_app_left _ _ _ _ hc, getD_app_left _ _ _ _ (by omega)]
      exact (sb_by (((hvs i hc).below hW (Nat.le_refl _)).more hW.size) hg7 (Nat.le_refl _) hn).more hg7.size
    · have hi' : i = ps.length := by rw [List.length_append, List.length_singleton] at hi; omega
      subst hi'
      rw [getD_app_right _ _ _ _ (by omega), getD_app_right _ _ _ _ (by omega), hvl, Nat.sub_self]
      exact (sb_by ((hq.below hW (Nat.le_refl _)).more hW.size) hg7 (Nat.le_refl _) hn).more hg7.size
end Go.Proofs.Ytkidjlmjjfgknaa.Slt
