/- The acts of layer 16 that came in: a slice of structs of six fields, one of them an array of two numbers. -/
import Derived.Test.YtkflbhaomoaonaaOpen
import Derived.Test.YtkflbhaomoaonaaRecs
namespace Go.Proofs.Ytkflbhaomoaonaa.Cab
open Go.RowKit Go.Proofs.Ytkflbhaomoaonaa.Mem
open Go.ChangeShapes Go.WideShapes Go.Deep
set_option linter.unusedVariables false
set_option linter.unusedSimpArgs false
def BoolOf (v : Value) : Prop := ∃ b, v = .bool b
def Act16R (w : World) (j : Nat) (v : Value) : Prop := match j with | 0 => NumOf .i64 v | 1 => NumOf .i64 v | 2 => NumOf .i64 v | 3 => RowOf .u8 w v | 4 => BoolOf v | 5 => NumOf .i64 v | 6 => NumOf .i64 v | _ => True
theorem list7 {α : Type} {l : List α} (h : l.length = 7) : ∃ a b c d e f g, l = [a, b, c, d, e, f, g] := by
  match l, h with
  | [a, b, c, d, e, f, g], _ => exact ⟨a, b, c, d, e, f, g, rfl⟩
theorem list6 {α : Type} {l : List α} (h : l.length = 6) : ∃ a b c d e f, l = [a, b, c, d, e, f] := by
  match l, h with
  | [a, b, c, d, e, f], _ => exact ⟨a, b, c, d, e, f, rfl⟩
section
variable {H : Type} {enc : TypeId × Value → H} {W : World} {base : Nat} {held : Bool}
theorem open_acts16_at {fuel : Nat} {v : Value} {y : DataW H × List MemPlace} (h : DataW.trod enc Try.prog W base (fun _ => true) held fuel 22 [v] = some y) : ∃ A l c, v = .slice A l c ∧ IsRecs W A l c 7 (Act16R W) := by
  rcases open_slice Try.underlying22 h with ⟨hcs, _⟩ | ⟨a, l, c, m, n, D, Pl, hcs, _, hl, hm, hmm, _, hi⟩
  · injection hcs with hcs _
    exact ⟨none, 0, 0, hcs, .inl ⟨rfl, rfl, rfl⟩⟩
  · injection hcs with hcs _
    refine ⟨some a, l, c, hcs, .inr ⟨a, rfl, hl, hm, fun i hil j hj => ?_⟩⟩
    obtain ⟨cs', hc, ht⟩ := hi i (by rw [hmm, if_pos rfl]; exact hil)
    have hC : Try.prog.cellsOf 35 = 7 := by kernel_rfl
    rw [hC] at hc
    obtain ⟨_, hlen, hat⟩ := World.cells?_some hc
    obtain ⟨ys, n', _, _, _, hyl, hf⟩ := DataW.trod_struct Try.underlying35 ht
    obtain ⟨a0, a1, a2, a3, a4, a5, a6, rfl⟩ := list7 hlen
    obtain ⟨y0, y1, y2, y3, y4, y5, rfl⟩ := list6 (hyl.trans (by rfl))
    have ki : Try.prog.cellsOf 3 = 1 := by kernel_rfl
    have kb : Try.prog.cellsOf 4 = 1 := by kernel_rfl
    have ks : Try.prog.cellsOf 33 = 1 := by kernel_rfl
    have ka : Try.prog.cellsOf 28 = 2 := by kernel_rfl
    have f0 : DataW.trod enc Try.prog W base (fun _ => true) held n' 3 (([a0, a1, a2, a3, a4, a5, a6].drop 0).take (Try.prog.cellsOf 3)) = [y0, y1, y2, y3, y4, y5][0]? := hf 0 _ rfl
    have f1 : DataW.trod enc Try.prog W base (fun _ => true) held n' 3 (([a0, a1, a2, a3, a4, a5, a6].drop 1).take (Try.prog.cellsOf 3)) = [y0, y1, y2, y3, y4, y5][1]? := hf 1 _ rfl
    have f2 : DataW.trod enc Try.prog W base (fun _ => true) held n' 3 (([a0, a1, a2, a3, a4, a5, a6].drop 2).take (Try.prog.cellsOf 3)) = [y0, y1, y2, y3, y4, y5][2]? := hf 2 _ rfl
    have f3 : DataW.trod enc Try.prog W base (fun _ => true) held n' 33 (([a0, a1, a2, a3, a4, a5, a6].drop 3).take (Try.prog.cellsOf 33)) = [y0, y1, y2, y3, y4, y5][3]? := hf 3 _ rfl
    have f4 : DataW.trod enc Try.prog W base (fun _ => true) held n' 4 (([a0, a1, a2, a3, a4, a5, a6].drop 4).take (Try.prog.cellsOf 4)) = [y0, y1, y2, y3, y4, y5][4]? := hf 4 _ rfl
    have f5 : DataW.trod enc Try.prog W base (fun _ => true) held n' 28 (([a0, a1, a2, a3, a4, a5, a6].drop 5).take (Try.prog.cellsOf 28)) = [y0, y1, y2, y3, y4, y5][5]? := hf 5 _ rfl
    rw [ki] at f0 f1 f2
    rw [ks] at f3
    rw [kb] at f4
    rw [ka] at f5
    simp at f0 f1 f2 f3 f4 f5
    have hcell : W.cell? (a.add (i * 7 + j)) = [a0, a1, a2, a3, a4, a5, a6][j]? := by
      rw [← Go.Deep.add_add]
      exact hat j hj
    obtain ⟨xs, m', _, _, _, hxl, hxi⟩ := DataW.trod_array Try.underlying28 f5
    have g0 := hxi 0 (by omega)
    have g1 := hxi 1 (by omega)
    rw [ki] at g0 g1
    simp at g0 g1
    match xs, hxl with
    | [z0, z1], _ =>
      simp at g0 g1
      match j, hj with
      | 0, _ => exact ⟨a0, hcell, open_num_at Try.underlying3 f0⟩
      | 1, _ => exact ⟨a1, hcell, open_num_at Try.underlying3 f1⟩
      | 2, _ => exact ⟨a2, hcell, open_num_at Try.underlying3 f2⟩
      | 3, _ => exact ⟨a3, hcell, open_row_at Try.underlying33 Try.underlying5 (by kernel_rfl) f3⟩
      | 4, _ => exact ⟨a4, hcell, open_bool_at Try.underlying4 f4⟩
      | 5, _ => exact ⟨a5, hcell, open_num_at Try.underlying3 g0⟩
      | 6, _ => exact ⟨a6, hcell, open_num_at Try.underlying3 g1⟩
end
end Go.Proofs.Ytkflbhaomoaonaa.Cab
