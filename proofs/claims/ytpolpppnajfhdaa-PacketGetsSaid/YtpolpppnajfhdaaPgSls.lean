/- Slices of slices of bytes: those that may be read, and rows of the call's own that grow by append (layer 7). -/
import Derived.Test.YtpolpppnajfhdaaPgOwnN
import Derived.Test.YtpolpppnajfhdaaPgRecs
namespace Go.Proofs.Ytpolpppnajfhdaa.Mem
open Go.RowKit
set_option linter.unusedVariables false
set_option linter.unusedSimpArgs false
def Sls (w : World) (B : Nat) (v : Value) (ss : List (List Nat)) : Prop := ∃ (A : Option Addr) (n c : Nat), v = .slice A n c ∧ ss.length = n ∧ n ≤ c ∧ c ≤ maxLen ∧
  (0 < n → ∃ b off, A = some ⟨b, off, none⟩ ∧ b < B ∧ ∀ i, i < n → ∃ u, w.cell? ⟨b, off + i, none⟩ = some u ∧ Sl w B u (ss.getD i []))
theorem Sls.keep {w w' : World} {B : Nat} {v : Value} {ss : List (List Nat)} (h : Sls w B v ss) (hb : Below B w w') : Sls w' B v ss := by
  obtain ⟨A, n, c, e, h1, h2, h3, h4⟩ := h
  refine ⟨A, n, c, e, h1, h2, h3, fun hn => ?_⟩
  obtain ⟨b, off, e1, hlt, h5⟩ := h4 hn
  refine ⟨b, off, e1, hlt, fun i hi => ?_⟩
  obtain ⟨u, h6, h7⟩ := h5 i hi
  exact ⟨u, by rw [hb.cell (p := ⟨b, off + i, none⟩) hlt]; exact h6, h7.below hb (Nat.le_refl _)⟩
theorem Sls.more {w : World} {B B' : Nat} {v : Value} {ss : List (List Nat)} (h : Sls w B v ss) (hB : B ≤ B') : Sls w B' v ss := by
  obtain ⟨A, n, c, e, h1, h2, h3, h4⟩ := h
  refine ⟨A, n, c, e, h1, h2, h3, fun hn => ?_⟩
  obtain ⟨b, off, e1, hlt, h5⟩ := h4 hn
  refine ⟨b, off, e1, by omega, fun i hi => ?_⟩
  obtain ⟨u, h6, h7⟩ := h5 i hi
  exact ⟨u, h6, h7.more hB⟩
theorem Sls.below {w w' : World} {B B' : Nat} {v : Value} {ss : List (List Nat)} (h : Sls w B v ss) (hb : Below B' w w') (hB : B ≤ B') : Sls w' B v ss := h.keep (hb.mono hB)
theorem Sls.up {w w' : World} {v : Value} {ss : List (List Nat)} (h : Sls w w.heap.size v ss) (hb : Below w.heap.size w w') : Sls w' w'.heap.size v ss := (h.keep hb).more hb.size
theorem sls_len {w : World} {B n c : Nat} {A : Option Addr} {ss : List (List Nat)} (h : Sls w B (.slice A n c) ss) : ss.length = n ∧ n ≤ c ∧ c ≤ maxLen := by
  obtain ⟨A', n', c', e, h1, h2, h3, h4⟩ := h
  injection e with e1 e2 e3
  subst e1 e2 e3
  exact ⟨h1, h2, h3⟩
theorem sls_at {w : World} {B n c : Nat} {A : Option Addr} {ss : List (List Nat)} (h : Sls w B (.slice A n c) ss) (hn : 0 < n) :
    ∃ b off, A = some ⟨b, off, none⟩ ∧ b < B ∧ ∀ i, i < n → ∃ u, w.cell? ⟨b, off + i, none⟩ = some u ∧ Sl w B u (ss.getD i []) := by
  obtain ⟨A', n', c', e, h1, h2, h3, h4⟩ := h
  injection e with e1 e2 e3
  subst e1 e2 e3
  exact h4 hn
/-- the first k of them -/
theorem Sls.take {w : World} {B n c k : Nat} {A : Option Addr} {ss : List (List Nat)} (h : Sls w B (.slice A n c) ss) (hk : k ≤ n) : Sls w B (.slice A k c) (ss.take k) := by
  obtain ⟨h1, h2, h3⟩ := sls_len h
  refine ⟨A, k, c, rfl, by rw [List.length_take]; omega, by omega, h3, fun h0 => ?_⟩
  obtain ⟨b, off, e, hlt, h5⟩ := sls_at h (by omega)
  refine ⟨b, off, e, hlt, fun i hi => ?_⟩
  obtain ⟨u, h6, h7⟩ := h5 i (by omega)
  have : (ss.take k).getD i [] = ss.getD i [] := by simp [List.getD, List.getElem?_take, hi]
  rw [this]
  exact ⟨u, h6, h7⟩
/-- what such a slice gives to an append -/
structure SlSrc (w : World) (B : Nat) (A : Option Addr) (n : Nat) (ss : List (List Nat)) (us : List Value) : Prop where
  len : us.length = ss.length
  num : ss.length = n
  reads : Reads w B 1 A n us
  sl : ∀ i, i < ss.length → Sl w B (us.getD i undef) (ss.getD i [])
  ones : ∀ u ∈ us, u.oneCell' = true
  nob : ∀ u ∈ us, isBy u = false
theorem SlSrc.below {w w' : World} {B n : Nat} {A : Option Addr} {ss : List (List Nat)} {us : List Value} (h : SlSrc w B A n ss us) (hb : Below B w w') : SlSrc w' B A n ss us :=
  ⟨h.len, h.num, h.reads.below hb, fun i hi => (h.sl i hi).below hb (Nat.le_refl _), h.ones, h.nob⟩
def SlRow (w : World) (base : Nat) (v : Value) (ss : List (List Nat)) : Prop :=
  ∃ vs : List Value, vs.length = ss.length ∧ OwnN w base 29 1 v ss.length vs ∧ ∀ i, i < ss.length → Sl w w.heap.size (vs.getD i undef) (ss.getD i [])
theorem SlRow.below {w w' : World} {base : Nat} {v : Value} {ss : List (List Nat)} (h : SlRow w base v ss) (hb : Below w.heap.size w w') : SlRow w' base v ss := by
  obtain ⟨vs, h1, h2, h3⟩ := h
  exact ⟨vs, h1, h2.below hb, fun i hi => ((h3 i hi).below hb (Nat.le_refl _)).more hb.size⟩
end Go.Proofs.Ytpolpppnajfhdaa.Mem
