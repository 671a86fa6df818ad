/- Slices of pages: seven cells each, their bytes elsewhere (layer 5). -/
import Derived.Test.YtkidjlmjjfgknaaRecord
import Derived.Test.YtkidjlmjjfgknaaPage
import Derived.Test.YtkidjlmjjfgknaaRecs
import Derived.Deep.MidRow
namespace Go.Proofs.Ytkidjlmjjfgknaa.Rcd
open Go.RowKit Go.Proofs.Ytkidjlmjjfgknaa.Mem Go.Proofs.Ytkidjlmjjfgknaa.Oct Go.Proofs.Ytkidjlmjjfgknaa.Pg
set_option linter.unusedVariables false
set_option linter.unusedSimpArgs false
def row (p : P) (v : Value) : List Value := [.int .i64 p.kind, .int .i64 p.gen, .int .i64 p.mark, .int .i64 p.index, .int .i64 p.part, .int .i64 p.parts, v]
def noP : P := ⟨0, 0, 0, 0, 0, 0, []⟩
theorem row_length (p : P) (v : Value) : (row p v).length = 7 := rfl
theorem size24 : (Try.prog.info? 43).map (·.size) = some 7 := by kernel_rfl
theorem rangeAt_keep {w w' : World} {b o : Nat} {cs : List Value} (h : w.rangeAt b o cs) (hk : ∀ p : Addr, p.block = b → w'.cell? p = w.cell? p) : w'.rangeAt b o cs := fun j v hv => (hk _ rfl).trans (h j v hv)
theorem rangeAt_below {w w' : World} {B b o : Nat} {cs : List Value} (h : w.rangeAt b o cs) (hb : Below B w w') (hlt : b < B) : w'.rangeAt b o cs := rangeAt_keep h fun p hp => hb.cell (by omega)
theorem there_below {w w' : World} {B b o n : Nat} (h : w.there b o n) (hb : Below B w w') (hlt : b < B) : w'.there b o n := fun j hj => by
  obtain ⟨h1, h2⟩ := h j hj
  exact ⟨by rw [hb.cell (p := ⟨b, o + j, none⟩) hlt]; exact h1, by rw [hb.frozen (p := ⟨b, o + j, none⟩) hlt]; exact h2⟩
/-- a slice of pages that may be read -/
def Pgs (w : World) (B : Nat) (v : Value) (ps : List P) : Prop := ∃ (A : Option Addr) (n c : Nat), v = .slice A n c ∧ ps.length = n ∧ n ≤ c ∧ c ≤ maxLen ∧
  (0 < n → ∃ b off, A = some ⟨b, off, none⟩ ∧ b < B ∧ ∀ i, i < n → ∃ vb, w.rangeAt b (off + i * 7) (row (ps.getD i noP) vb) ∧ Sb w B vb (ps.getD i noP).b)
theorem Pgs.keep {w w' : World} {B : Nat} {v : Value} {ps : List P} (h : Pgs w B v ps) (hb : Below B w w') : Pgs w' B v ps := by
  obtain ⟨A, n, c, e, h1, h2, h3, h4⟩ := h
  refine ⟨A, n, c, e, h1, h2, h3, fun hn => ?_⟩
  obtain ⟨b, off, e1, hlt, h5⟩ := h4 hn
  refine ⟨b, off, e1, hlt, fun i hi => ?_⟩
  obtain ⟨vb, h6, h7⟩ := h5 i hi
  exact ⟨vb, rangeAt_below h6 hb hlt, h7.below hb (Nat.le_refl _)⟩
theorem Pgs.more {w : World} {B B' : Nat} {v : Value} {ps : List P} (h : Pgs w B v ps) (hB : B ≤ B') : Pgs w B' v ps := by
  obtain ⟨A, n, c, e, h1, h2, h3, h4⟩ := h
  refine ⟨A, n, c, e, h1, h2, h3, fun hn => ?_⟩
  obtain ⟨b, off, e1, hlt, h5⟩ := h4 hn
  refine ⟨b, off, e1, by omega, fun i hi => ?_⟩
  obtain ⟨vb, h6, h7⟩ := h5 i hi
  exact ⟨vb, h6, h7.more hB⟩
theorem Pgs.below {w w' : World} {B B' : Nat} {v : Value} {ps : List P} (h : Pgs w B v ps) (hb : Below B' w w') (hB : B ≤ B') : Pgs w' B v ps := h.keep (hb.mono hB)
theorem pgs_nil (w : World) (B : Nat) : Pgs w B (.slice none 0 0) [] := ⟨none, 0, 0, rfl, rfl, Nat.le_refl _, by unfold maxLen; omega, fun h => absurd h (by omega)⟩
theorem pgs_len {w : World} {B n c : Nat} {A : Option Addr} {ps : List P} (h : Pgs w B (.slice A n c) ps) : ps.length = n ∧ n ≤ c ∧ c ≤ maxLen := by
  obtain ⟨A', n', c', e, h1, h2, h3, h4⟩ := h
  injection e with e1 e2 e3
  subst e1 e2 e3
  exact ⟨h1, h2, h3⟩
theorem pgs_at {w : World} {B n c : Nat} {A : Option Addr} {ps : List P} (h : Pgs w B (.slice A n c) ps) (hn : 0 < n) :
    ∃ b off, A = some ⟨b, off, none⟩ ∧ b < B ∧ ∀ i, i < n → ∃ vb, w.rangeAt b (off + i * 7) (row (ps.getD i noP) vb) ∧ Sb w B vb (ps.getD i noP).b := by
  obtain ⟨A', n', c', e, h1, h2, h3, h4⟩ := h
  injection e with e1 e2 e3
  subst e1 e2 e3
  exact h4 hn
/-- the first k of them -/
theorem Pgs.take {w : World} {B n c k : Nat} {A : Option Addr} {ps : List P} (h : Pgs w B (.slice A n c) ps) (hk : k ≤ n) : Pgs w B (.slice A k c) (ps.take k) := by
  obtain ⟨h1, h2, h3⟩ := pgs_len h
  refine ⟨A, k, c, rfl, by rw [List.length_take]; omega, by omega, h3, fun h0 => ?_⟩
  obtain ⟨b, off, e, hlt, h5⟩ := pgs_at h (by omega)
  refine ⟨b, off, e, hlt, fun i hi => ?_⟩
  obtain ⟨vb, h6, h7⟩ := h5 i (by omega)
  have : (ps.take k).getD i noP = ps.getD i noP := by simp [List.getD, List.getElem?_take, hi]
  rw [this]
  exact ⟨vb, h6, h7⟩
/-- a row's cells -/
theorem row_cell {w : World} {b o : Nat} {p : P} {v : Value} (h : w.rangeAt b o (row p v)) :
    w.cell? ⟨b, o, none⟩ = some (.int .i64 p.kind) ∧ w.cell? ⟨b, o + 5, none⟩ = some (.int .i64 p.parts) ∧ w.cell? ⟨b, o + 6, none⟩ = some v := ⟨h 0 _ rfl, h 5 _ rfl, h 6 _ rfl⟩
/-- as the walk meets a page's load -/
theorem load_row (w : World) (b o : Nat) (p : P) (v : Value) (h : w.rangeAt b o (row p v)) :
    (Instr.loadAt 43 (.pointer (some ⟨b, o, none⟩))).run Try.prog w = .ok (pgV p v) w :=
  run_loadAt_mid w b o 43 (row p v) _ h Try.underlying43 rfl (by rw [size24]; rfl)
end Go.Proofs.Ytkidjlmjjfgknaa.Rcd
