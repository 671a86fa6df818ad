/- Packets that came in (layer 14): what a law is told of a packet by value; a struct of ten one-cell fields, opened. No program's function is named here. -/
import Derived.Test.YtpolpppnajfhdaaPkRefMay
import Derived.Test.YtpolpppnajfhdaaBasIn
import Derived.Lib.SmallJoins
namespace Go.Proofs.Ytpolpppnajfhdaa.Pkt
open Go.RowKit Go.Proofs.Ytpolpppnajfhdaa.Mem Go.Proofs.Ytpolpppnajfhdaa.Lsa Go.Proofs.Ytpolpppnajfhdaa.Bas Go.Proofs.Ytpolpppnajfhdaa.Chg
set_option linter.unusedVariables false
set_option linter.unusedSimpArgs false
section
open Go.ChangeShapes Go.WideShapes Go.Deep Go.Joins
variable {H : Type} {enc : TypeId × Value → H} {P : Program} {w : World} {base : Nat} {spare : Nat → Bool} {held : Bool}
theorem array10 {α : Type} {cs : Array α} (h : cs.size = 10) : ∃ c0 c1 c2 c3 c4 c5 c6 c7 c8 c9, cs = #[c0, c1, c2, c3, c4, c5, c6, c7, c8, c9] := by
  obtain ⟨l⟩ := cs
  match l, h with
  | [c0, c1, c2, c3, c4, c5, c6, c7, c8, c9], _ => exact ⟨c0, c1, c2, c3, c4, c5, c6, c7, c8, c9, rfl⟩
theorem open_agg10 {r : Reach} {b0 : Nat} {t : TypeId} {f0 f1 f2 f3 f4 f5 f6 f7 f8 f9 : Field} {v : Value} {d : DataW H} {p : List MemPlace} (hs : P.underlying t = some (.struct #[f0, f1, f2, f3, f4, f5, f6, f7, f8, f9])) (hone : oneCellFields P #[f0, f1, f2, f3, f4, f5, f6, f7, f8, f9] = true) (hC : P.cellsOf t = 10)
    (hv : Value.okWide P w r b0 t v) (h : DataW.Trod enc P w base spare held t v d p) :
    ∃ (v0 v1 v2 v3 v4 v5 v6 v7 v8 v9 : Value) (y0 y1 y2 y3 y4 y5 y6 y7 y8 y9 : DataW H × List MemPlace) (n : Nat), v = .agg #[v0, v1, v2, v3, v4, v5, v6, v7, v8, v9] ∧ DataW.trod enc P w base spare held n f0.type [v0] = some y0 ∧ DataW.trod enc P w base spare held n f1.type [v1] = some y1 ∧ DataW.trod enc P w base spare held n f2.type [v2] = some y2 ∧ DataW.trod enc P w base spare held n f3.type [v3] = some y3 ∧ DataW.trod enc P w base spare held n f4.type [v4] = some y4 ∧ DataW.trod enc P w base spare held n f5.type [v5] = some y5 ∧ DataW.trod enc P w base spare held n f6.type [v6] = some y6 ∧ DataW.trod enc P w base spare held n f7.type [v7] = some y7 ∧ DataW.trod enc P w base spare held n f8.type [v8] = some y8 ∧ DataW.trod enc P w base spare held n f9.type [v9] = some y9 := by
  obtain ⟨cs, rfl, hsz⟩ := okWide_struct hs hv
  obtain ⟨c0, c1, c2, c3, c4, c5, c6, c7, c8, c9, rfl⟩ := array10 (hsz.trans hC)
  obtain ⟨fuel, hf⟩ := h
  obtain ⟨xs, n, _, hx, hl, hlen, hg⟩ := DataW.trod_struct hs hf
  match xs, hlen with
  | [y0, y1, y2, y3, y4, y5, y6, y7, y8, y9], _ =>
    obtain ⟨o0, k0⟩ := hone_of hone 0 f0 rfl
    have g0 := hg 0 f0 rfl
    obtain ⟨o1, k1⟩ := hone_of hone 1 f1 rfl
    have g1 := hg 1 f1 rfl
    obtain ⟨o2, k2⟩ := hone_of hone 2 f2 rfl
    have g2 := hg 2 f2 rfl
    obtain ⟨o3, k3⟩ := hone_of hone 3 f3 rfl
    have g3 := hg 3 f3 rfl
    obtain ⟨o4, k4⟩ := hone_of hone 4 f4 rfl
    have g4 := hg 4 f4 rfl
    obtain ⟨o5, k5⟩ := hone_of hone 5 f5 rfl
    have g5 := hg 5 f5 rfl
    obtain ⟨o6, k6⟩ := hone_of hone 6 f6 rfl
    have g6 := hg 6 f6 rfl
    obtain ⟨o7, k7⟩ := hone_of hone 7 f7 rfl
    have g7 := hg 7 f7 rfl
    obtain ⟨o8, k8⟩ := hone_of hone 8 f8 rfl
    have g8 := hg 8 f8 rfl
    obtain ⟨o9, k9⟩ := hone_of hone 9 f9 rfl
    have g9 := hg 9 f9 rfl
    exact ⟨c0, c1, c2, c3, c4, c5, c6, c7, c8, c9, y0, y1, y2, y3, y4, y5, y6, y7, y8, y9, n, rfl, by simpa [Value.cells, o0, k0] using g0, by simpa [Value.cells, o1, k1] using g1, by simpa [Value.cells, o2, k2] using g2, by simpa [Value.cells, o3, k3] using g3, by simpa [Value.cells, o4, k4] using g4, by simpa [Value.cells, o5, k5] using g5, by simpa [Value.cells, o6, k6] using g6, by simpa [Value.cells, o7, k7] using g7, by simpa [Value.cells, o8, k8] using g8, by simpa [Value.cells, o9, k9] using g9⟩
end
section
open Go.ChangeShapes Go.WideShapes Go.ChangeAt Go.Joins
variable {H : Type} {enc : TypeId × Value → H} {W : World} {base : Nat} {held : Bool}
set_option maxRecDepth 20000 in
theorem open_heard_at {fuel : Nat} {v : Value} {y : DataW H × List MemPlace} (h : DataW.trod enc Try.prog W base (fun _ => true) held fuel 22 [v] = some y) : LkR W v := by
  rcases open_slice_fields Try.underlying22 Try.underlying59 (by kernel_rfl) (by kernel_rfl) h with ⟨hcs, _⟩ | ⟨x, l, c, m, D, Pl, hcs, _, hl, hm, hmm, _, hh⟩
  · injection hcs with hcs _
    exact ⟨none, 0, 0, hcs, .inl ⟨rfl, rfl, rfl⟩⟩
  · injection hcs with hcs _
    refine ⟨some x, l, c, hcs, .inr ⟨_, rfl, hl, hm, fun i hi j hj => ?_⟩⟩
    obtain ⟨ys, n, _, _, _, hg⟩ := hh i (by rw [hmm, if_pos rfl]; exact hi)
    match j, hj with
    | 0, _ =>
      obtain ⟨v, y, hc, _, ht⟩ := hg 0 _ rfl
      exact ⟨v, hc, open_num_at Try.underlying3 ht⟩
    | 1, _ =>
      obtain ⟨v, y, hc, _, ht⟩ := hg 1 _ rfl
      exact ⟨v, hc, open_num_at Try.underlying3 ht⟩
set_option maxRecDepth 20000 in
theorem open_items_at {fuel : Nat} {v : Value} {y : DataW H × List MemPlace} (h : DataW.trod enc Try.prog W base (fun _ => true) held fuel 23 [v] = some y) : LkR W v := by
  rcases open_slice_fields Try.underlying23 Try.underlying64 (by kernel_rfl) (by kernel_rfl) h with ⟨hcs, _⟩ | ⟨x, l, c, m, D, Pl, hcs, _, hl, hm, hmm, _, hh⟩
  · injection hcs with hcs _
    exact ⟨none, 0, 0, hcs, .inl ⟨rfl, rfl, rfl⟩⟩
  · injection hcs with hcs _
    refine ⟨some x, l, c, hcs, .inr ⟨_, rfl, hl, hm, fun i hi j hj => ?_⟩⟩
    obtain ⟨ys, n, _, _, _, hg⟩ := hh i (by rw [hmm, if_pos rfl]; exact hi)
    match j, hj with
    | 0, _ =>
      obtain ⟨v, y, hc, _, ht⟩ := hg 0 _ rfl
      exact ⟨v, hc, open_num_at Try.underlying3 ht⟩
    | 1, _ =>
      obtain ⟨v, y, hc, _, ht⟩ := hg 1 _ rfl
      exact ⟨v, hc, open_num_at Try.underlying3 ht⟩
set_option maxRecDepth 20000 in
theorem open_packet_at {v : Value} {d : DataW H} {p : List MemPlace} {r : Reach} {b0 : Nat} (hv : Value.okWide Try.prog W r b0 26 v) (h : DataW.Trod enc Try.prog W base (fun _ => true) held 26 v d p) :
    ∃ c0 c1 c2 c3 c4 c5 c6 c7 c8 c9, v = .agg #[c0, c1, c2, c3, c4, c5, c6, c7, c8, c9] ∧ NumOf .i64 c0 ∧ NumOf .i64 c1 ∧ NumOf .i64 c2 ∧ NumOf .i64 c3 ∧ NumOf .i64 c4 ∧ NumOf .i64 c5 ∧ NumOf .i64 c6 ∧ LkR W c7 ∧ LkR W c8 ∧ LasR W c9 := by
  obtain ⟨u0, u1, u2, u3, u4, u5, u6, u7, u8, u9, _, _, _, _, _, _, _, _, _, _, _, rfl, g0, g1, g2, g3, g4, g5, g6, g7, g8, g9⟩ := open_agg10 Try.underlying26 (by kernel_rfl) (by kernel_rfl) hv h
  exact ⟨u0, u1, u2, u3, u4, u5, u6, u7, u8, u9, rfl, open_num_at Try.underlying3 g0, open_num_at Try.underlying3 g1, open_num_at Try.underlying3 g2, open_num_at Try.underlying3 g3, open_num_at Try.underlying3 g4, open_num_at Try.underlying3 g5, open_num_at Try.underlying3 g6, open_heard_at g7, open_items_at g8, open_lsas_at g9⟩
end
/-- a packet that came in -/
theorem pk_in {w : World} {c0 c1 c2 c3 c4 c5 c6 c7 c8 c9 : Value} (h0 : NumOf .i64 c0) (h1 : NumOf .i64 c1) (h2 : NumOf .i64 c2) (h3 : NumOf .i64 c3) (h4 : NumOf .i64 c4) (h5 : NumOf .i64 c5) (h6 : NumOf .i64 c6) (h7 : LkR w c7) (h8 : LkR w c8) (h9 : LasR w c9) :
    ∃ (p : Pk) (A1 A2 A3 : Option Addr) (n1 z1 n2 z2 n3 z3 : Nat), (Value.agg #[c0, c1, c2, c3, c4, c5, c6, c7, c8, c9]) = pkV p (.slice A1 n1 z1) (.slice A2 n2 z2) (.slice A3 n3 z3) ∧ PkM w w.heap.size (.slice A1 n1 z1) (.slice A2 n2 z2) (.slice A3 n3 z3) p := by
  obtain ⟨x0, rfl, _⟩ := h0
  obtain ⟨x1, rfl, _⟩ := h1
  obtain ⟨x2, rfl, _⟩ := h2
  obtain ⟨x3, rfl, _⟩ := h3
  obtain ⟨x4, rfl, _⟩ := h4
  obtain ⟨x5, rfl, _⟩ := h5
  obtain ⟨x6, rfl, _⟩ := h6
  obtain ⟨A1, n1, z1, rfl, r1⟩ := h7
  obtain ⟨hd, k1⟩ := lks_in r1
  obtain ⟨A2, n2, z2, rfl, r2⟩ := h8
  obtain ⟨it, k2⟩ := lks_in r2
  obtain ⟨ls, k3⟩ := las_in h9
  obtain ⟨A3, n3, z3, rfl, _⟩ := id k3
  exact ⟨⟨x0, x1, x2, x3, x4, x5, x6, hd, it, ls⟩, A1, A2, A3, n1, z1, n2, z2, n3, z3, rfl, k1, k2, k3⟩
end Go.Proofs.Ytpolpppnajfhdaa.Pkt
