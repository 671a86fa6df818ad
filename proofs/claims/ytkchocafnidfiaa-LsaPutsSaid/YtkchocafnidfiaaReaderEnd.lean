/- The contracts of a reader of bytes: Left and Done (layer 2). -/
import Derived.Test.YtkchocafnidfiaaReader
namespace Go.Proofs.Ytkchocafnidfiaa.Oct
open Go.RowKit Go.Proofs.Ytkchocafnidfiaa.Mem
set_option linter.unusedVariables false
set_option maxHeartbeats 400000 in
theorem left_any (g : Nat) (st : St) (w : World) (h : Rdr w g st) :
    Calls Try.prog 29 #[ptr g] w fun e w' => e = .returned (.int .i64 (st.1.length : Nat)) ∧ w = w' := by
  obtain ⟨A, n, c, hb, hx, hnc, hm⟩ := h
  have hc0 : w.cell? ⟨g, 0, none⟩ = some (.slice A n c) := by rw [hb.cell]; rfl
  have hl := hx.1
  have HL := Lib.hid hl; clear hl
  go_enter Try.func29, Try.ntmps29
  go_wp2
  go_ret
  exact ⟨ret_int (by rw [HL.out]), rfl⟩
end Go.Proofs.Ytkchocafnidfiaa.Oct
