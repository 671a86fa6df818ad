/- Changes in memory (layer 10): a change by value, a slice of changes wherever it lies, a row of changes of the call's own that grows by append, changes that came in. -/
import Derived.Test.YtpolpppnajfhdaaPgLsaMem
import Derived.Test.YtpolpppnajfhdaaPgPureAll
import Derived.Deep.MidRow
import Derived.Lib.SmallJoins
namespace Go.Proofs.Ytpolpppnajfhdaa.Chg
open Go.RowKit Go.Proofs.Ytpolpppnajfhdaa.Mem Go.Proofs.Ytpolpppnajfhdaa.Oct Go.Proofs.Ytpolpppnajfhdaa.Lsa
set_option linter.unusedVariables false
set_option linter.unusedSimpArgs false
def rowC (c : Ch) (v : Value) : List Value := [.int .i64 c.k, .int .i64 c.o, .int .i64 c.s, v, .int .i64 c.n, .int .i64 c.f]
theorem rangeC_below {w w' : World} {B b o : Nat} {cs : List Value} (h : w.rangeAt b o cs) (hb : Below B w w') (hlt : b < B) : w'.rangeAt b o cs := fun j v hv => (hb.cell (p := ⟨b, o + j, none⟩) hlt).trans (h j v hv)
/-- a slice of changes -/
def Chs (w : World) (B : Nat) (v : Value) (cs : List Ch) : Prop :=
  ∃ (A : Option Addr) (n c : Nat), v = .slice A n c ∧ cs.length = n ∧ n ≤ c ∧ c ≤ maxLen ∧
    (0 < n → ∃ b off, A = some ⟨b, off, none⟩ ∧ b < B ∧ ∀ i, i < n → ∃ u, w.rangeAt b (off + i * 6) (rowC (cs.getD i zeroC) u) ∧ Lks w B u (cs.getD i zeroC).ls)
section
variable {w w' : World} {B B' : Nat} {v : Value} {cs : List Ch}
theorem Chs.keep (h : Chs w B v cs) (hb : Below B w w') : Chs w' B v cs := by
  obtain ⟨A, n, c, e, h1, h2, h3, h4⟩ := h
  refine ⟨A, n, c, e, h1, h2, h3, fun hn => ?_⟩
  obtain ⟨b, off, e1, hlt, h5⟩ := h4 hn
  refine ⟨b, off, e1, hlt, fun i hi => ?_⟩
  obtain ⟨u, h6, h7⟩ := h5 i hi
  exact ⟨u, rangeC_below h6 hb hlt, h7.below hb (Nat.le_refl _)⟩
theorem Chs.more (h : Chs w B v cs) (hB : B ≤ B') : Chs w B' v cs := by
  obtain ⟨A, n, c, e, h1, h2, h3, h4⟩ := h
  refine ⟨A, n, c, e, h1, h2, h3, fun hn => ?_⟩
  obtain ⟨b, off, e1, hlt, h5⟩ := h4 hn
  refine ⟨b, off, e1, by omega, fun i hi => ?_⟩
  obtain ⟨u, h6, h7⟩ := h5 i hi
  exact ⟨u, h6, h7.more hB⟩
theorem Chs.up (h : Chs w w.heap.size v cs) (hb : Below w.heap.size w w') : Chs w' w'.heap.size v cs := (h.keep hb).more hb.size
end
/-! ### a row of one's own -/
/-- links that lie behind a certain place, in a row of links, and not in a certain block -/
def LkA (w : World) (lo : Nat) (g : Option Nat) (u : Value) (ls : List Lk) : Prop := Lks w w.heap.size u ls ∧ ∀ A n c, u = .slice A n c → 0 < n → ∀ ad, A = some ad → lo ≤ ad.block ∧ some ad.block ≠ g ∧ ∃ cs, Blk w ad.block 85 cs
theorem LkA.below {w w' : World} {lo : Nat} {g : Option Nat} {u : Value} {ls : List Lk} (h : LkA w lo g u ls) (hb : Below w.heap.size w w') : LkA w' lo g u ls := ⟨h.1.up hb, fun A n c e h0 ad had => by obtain ⟨q1, q2, cs, q3⟩ := h.2 A n c e h0 ad had; exact ⟨q1, q2, cs, q3.below hb q3.lt⟩⟩
theorem LkA.kept {w w' : World} {lo q : Nat} {g : Option Nat} {u : Value} {ls : List Lk} (h : LkA w lo g u ls) (hg : w.grownBy w' (some q)) (hq : q < lo) : LkA w' lo g u ls := by
  obtain ⟨⟨A, n, c, rfl, h1, h2, h3, h4, h5⟩, h6⟩ := h
  refine ⟨⟨A, n, c, rfl, h1, h2, h3, h4, fun h0 => ?_⟩, fun A' n' c' e h0 ad had => by obtain ⟨q1, q2, cs, q3⟩ := h6 A' n' c' e h0 ad had; exact ⟨q1, q2, cs, q3.grown hg (by simp only [ne_eq, Option.some.injEq]; omega)⟩⟩
  obtain ⟨b, off, rfl, hb, hc⟩ := h5 h0
  have hl := (h6 _ _ _ rfl h0 _ rfl).1
  have hne : some b ≠ some q := fun e => by cases e; simp only at hl; omega
  refine ⟨b, off, rfl, Nat.lt_of_lt_of_le hb hg.size, fun i hi => ⟨?_, ?_⟩⟩
  · rw [← (hc i hi).1]; exact World.cell?_of_block (hg.block b hb hne)
  · rw [← (hc i hi).2]; exact World.cell?_of_block (hg.block b hb hne)
theorem LkA.grown {w w' : World} {lo : Nat} {g g' : Option Nat} {u : Value} {ls : List Lk} (h : LkA w lo g u ls) (hg : w.grownBy w' g) (hn : g' = g ∨ g' = some w.heap.size) : LkA w' lo g' u ls := by
  obtain ⟨⟨A, n, c, rfl, h1, h2, h3, h4, h5⟩, h6⟩ := h
  refine ⟨⟨A, n, c, rfl, h1, h2, h3, h4, fun h0 => ?_⟩, fun A' n' c' e h0 ad had => ?_⟩
  · obtain ⟨b, off, rfl, hb, hc⟩ := h5 h0
    have hne := (h6 _ _ _ rfl h0 _ rfl).2.1
    refine ⟨b, off, rfl, Nat.lt_of_lt_of_le hb hg.size, fun i hi => ⟨?_, ?_⟩⟩
    · rw [← (hc i hi).1]; exact World.cell?_of_block (hg.block b hb hne)
    · rw [← (hc i hi).2]; exact World.cell?_of_block (hg.block b hb hne)
  · injection e with e1 e2 e3
    subst e1 e2 e3
    obtain ⟨b, off, e2, hb, hc⟩ := h5 h0
    obtain ⟨q1, q2, cs, q3⟩ := h6 _ _ _ rfl h0 ad had
    refine ⟨q1, ?_, cs, q3.grown hg q2⟩
    rcases hn with rfl | rfl
    · exact q2
    · rw [e2] at had
      cases had
      intro e
      have := Option.some.inj e
      simp only at this
      omega
theorem getD_app_l {α : Type} (a b : List α) (i : Nat) (d : α) (h : i < a.length) : (a ++ b).getD i d = a.getD i d := by simp [List.getD, List.getElem?_append_left h]
theorem getD_app_r {α : Type} (a b : List α) (i : Nat) (d : α) (h : a.length ≤ i) : (a ++ b).getD i d = b.getD (i - a.length) d := by simp [List.getD, List.getElem?_append_right h]
section
open Go.ChangeShapes Go.WideShapes Go.Deep Go.Joins
variable {H : Type} {enc : TypeId × Value → H} {P : Program} {w : World} {base : Nat} {spare : Nat → Bool} {held : Bool}
end
section
open Go.ChangeShapes Go.WideShapes Go.Deep Go.Joins
variable {H : Type} {enc : TypeId × Value → H} {W : World} {base : Nat} {held : Bool}
end
end Go.Proofs.Ytpolpppnajfhdaa.Chg
