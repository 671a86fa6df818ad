/- What the program's and the reference's Get tell of a sector (layer 7's use of layer 4): two cases each. -/
import Derived.Test.YtkidjlmjjfgknaaPageGot
import Derived.Test.YtkidjlmjjfgknaaPageRGo
namespace Go.Proofs.Ytkidjlmjjfgknaa.Slt
open Go.RowKit Go.Proofs.Ytkidjlmjjfgknaa.Mem Go.Proofs.Ytkidjlmjjfgknaa.Oct Go.Proofs.Ytkidjlmjjfgknaa.Pg
set_option linter.unusedVariables false
set_option linter.unusedSimpArgs false
theorem sl_facts {w : World} {B n c : Nat} {A : Option Addr} {xs : List Nat} (h : Sl w B (.slice A n c) xs) : Bts w B A n xs ∧ n ≤ c ∧ c ≤ maxLen := by
  obtain ⟨A', n', c', e, h1, h2, h3, _⟩ := h
  injection e with e1 e2 e3
  subst e1 e2 e3
  exact ⟨h1, h2, h3⟩
theorem rget_all (v : Value) (xs : List Nat) (w : World) (h : Sl w w.heap.size v xs) (hl : xs.length ≤ 1000) :
    Calls Try.prog 18 #[v] w fun e w' => ∃ v', e = .returned (.tuple #[v', .bool (got xs).isSome]) ∧ PgAt w' w'.heap.size v' ((got xs).getD zeroP) ∧ Below w.heap.size w w' := by
  obtain ⟨A, n, c, rfl, _⟩ := id h
  obtain ⟨hb, hnc, hcm⟩ := sl_facts h
  by_cases e : n = 512
  · by_cases hc : count xs ≤ 488
    · exact rget_in A n c xs w hb hnc hcm (by omega) (by omega) hc
    · exact rget_count A n c xs w hb (by omega) (by omega) (by omega)
  · exact rget_len A n c xs w hb e
theorem get_none (v : Value) (xs : List Nat) (w : World) (h : Sl w w.heap.size v xs) (hl : xs.length ≤ 1000) (hg : got xs = none) :
    Calls Try.prog 23 #[v] w fun e w' => ∃ A1 n1 c1, e = .returned (.tuple #[.agg #[.int .i64 0, .int .i64 0, .int .i64 0, .int .i64 0, .int .i64 0, .int .i64 0, .slice A1 n1 c1], .int .i64 2]) ∧ Below w.heap.size w w' := by
  refine (get_any v xs w h hl).mono ?_
  rw [hg]
  rintro e w' ⟨v', rfl, ⟨vb, rfl, A1, n1, c1, rfl, _⟩, hb⟩
  exact ⟨A1, n1, c1, rfl, hb⟩
theorem get_some (v : Value) (xs : List Nat) (p : P) (w : World) (h : Sl w w.heap.size v xs) (hl : xs.length ≤ 1000) (hg : got xs = some p) :
    Calls Try.prog 23 #[v] w fun e w' => ∃ A1 n1 c1, e = .returned (.tuple #[.agg #[.int .i64 p.kind, .int .i64 p.gen, .int .i64 p.mark, .int .i64 p.index, .int .i64 p.part, .int .i64 p.parts, .slice A1 n1 c1], .int .i64 0]) ∧ Bts w' w'.heap.size A1 n1 p.b ∧ Below w.heap.size w w' := by
  refine (get_any v xs w h hl).mono ?_
  rw [hg]
  rintro e w' ⟨v', rfl, ⟨vb, rfl, A1, n1, c1, rfl, hs⟩, hb⟩
  exact ⟨A1, n1, c1, rfl, hs, hb⟩
theorem rget_none (v : Value) (xs : List Nat) (w : World) (h : Sl w w.heap.size v xs) (hl : xs.length ≤ 1000) (hg : got xs = none) :
    Calls Try.prog 18 #[v] w fun e w' => ∃ A1 n1 c1, e = .returned (.tuple #[.agg #[.int .i64 0, .int .i64 0, .int .i64 0, .int .i64 0, .int .i64 0, .int .i64 0, .slice A1 n1 c1], .bool false]) ∧ Below w.heap.size w w' := by
  refine (rget_all v xs w h hl).mono ?_
  rw [hg]
  rintro e w' ⟨v', rfl, ⟨vb, rfl, A1, n1, c1, rfl, _⟩, hb⟩
  exact ⟨A1, n1, c1, rfl, hb⟩
theorem rget_some (v : Value) (xs : List Nat) (p : P) (w : World) (h : Sl w w.heap.size v xs) (hl : xs.length ≤ 1000) (hg : got xs = some p) :
    Calls Try.prog 18 #[v] w fun e w' => ∃ A1 n1 c1, e = .returned (.tuple #[.agg #[.int .i64 p.kind, .int .i64 p.gen, .int .i64 p.mark, .int .i64 p.index, .int .i64 p.part, .int .i64 p.parts, .slice A1 n1 c1], .bool true]) ∧ Bts w' w'.heap.size A1 n1 p.b ∧ Below w.heap.size w w' := by
  refine (rget_all v xs w h hl).mono ?_
  rw [hg]
  rintro e w' ⟨v', rfl, ⟨vb, rfl, A1, n1, c1, rfl, hs⟩, hb⟩
  exact ⟨A1, n1, c1, rfl, hs, hb⟩
end Go.Proofs.Ytkidjlmjjfgknaa.Slt
