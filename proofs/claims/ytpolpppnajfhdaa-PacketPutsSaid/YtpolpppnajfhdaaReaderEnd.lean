/- The contracts of a reader of bytes: Left and Done (layer 2). -/
import Derived.Test.YtpolpppnajfhdaaReader
namespace Go.Proofs.Ytpolpppnajfhdaa.Oct
open Go.RowKit Go.Proofs.Ytpolpppnajfhdaa.Mem
set_option linter.unusedVariables false
set_option maxHeartbeats 400000 in
theorem left_any (g : Nat) (st : St) (w : World) (h : Rdr w g st) :
    Calls Try.prog 60 #[ptr g] w fun e w' => e = .returned (.int .i64 (st.1.length : Nat)) ∧ w = w' := by
  obtain ⟨A, n, c, hb, hx, hnc, hm⟩ := h
  have hc0 : w.cell? ⟨g, 0, none⟩ = some (.slice A n c) := by rw [hb.cell]; rfl
  have hl := hx.1
  have HL := Lib.hid hl; clear hl
  go_enter Try.func60, Try.ntmps60
  go_wp2
  go_ret
  exact ⟨ret_int (by rw [HL.out]), rfl⟩
set_option maxHeartbeats 400000 in
theorem done_any (g : Nat) (st : St) (w : World) (h : Rdr w g st) :
    Calls Try.prog 36 #[ptr g] w fun e w' => e = .returned (.bool (st.2 && decide (st.1.length = 0))) ∧ w = w' := by
  obtain ⟨xs, s⟩ := st
  have h1 := wrong_any g _ w h
  have h2 := left_any g _ w h
  have H1 := Lib.hid h1; clear h1
  have H2 := Lib.hid h2; clear h2
  cases s
  · go_enter Try.func36, Try.ntmps36
    go_wp2_with (first
      | (go_at_call 59; refine (H1.out).mono ?_; rintro e w' ⟨rfl, rfl⟩)
      | (go_at_call 60; refine (H2.out).mono ?_; rintro e w' ⟨rfl, rfl⟩))
    go_ret
    exact ⟨rfl, rfl⟩
  · go_enter Try.func36, Try.ntmps36
    go_wp2_with (first
      | (go_at_call 59; refine (H1.out).mono ?_; rintro e w' ⟨rfl, rfl⟩)
      | (go_at_call 60; refine (H2.out).mono ?_; rintro e w' ⟨rfl, rfl⟩))
    go_ret
    exact ⟨ret_bool (by rw [beq0, Bool.true_and]), rfl⟩
end Go.Proofs.Ytpolpppnajfhdaa.Oct
