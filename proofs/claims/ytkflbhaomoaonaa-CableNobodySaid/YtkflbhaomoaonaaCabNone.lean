/- The methods at no cable (layer 16): a nil one, and one that New did not give. -/
import Derived.Test.YtkflbhaomoaonaaCabMem
namespace Go.Proofs.Ytkflbhaomoaonaa.Cab
open Go.RowKit Go.Proofs.Ytkflbhaomoaonaa.Mem Go.Proofs.Ytkflbhaomoaonaa.Que
set_option linter.unusedVariables false
set_option linter.unusedSimpArgs false
def NoneAt (w : World) (z : Value) : Prop := z = .pointer none ∨ ∃ x, z = ptr x ∧ Blk w x 56 #[.bool false, .int .i64 0, .int .i64 0, .bool false, .int .i64 0, .int .i64 0, .pointer none, .pointer none]
theorem none_isNone (z : Value) (w : World) (h : NoneAt w z) : Calls Try.prog 25 #[z] w fun e w' => e = .returned (.bool true) ∧ w = w' := by
  rcases h with rfl | ⟨x, rfl, h⟩
  · go_enter Try.func25, Try.ntmps25
    go_wp2
    go_ret
    exact ⟨rfl, rfl⟩
  · obtain ⟨k0, k1, k2, k3, k4, k5, k6, k7, kl, _⟩ := blk_cells8 h
    clear h
    go_enter Try.func25, Try.ntmps25
    go_wp2
    go_ret
    exact ⟨rfl, rfl⟩
theorem none_form {z : Value} {w : World} (h : NoneAt w z) : ∃ p, z = .pointer p := by
  rcases h with rfl | ⟨x, rfl, _⟩
  · exact ⟨_, rfl⟩
  · exact ⟨_, rfl⟩
theorem none_place (z : Value) (i : Int) (w : World) (h : NoneAt w z) : Calls Try.prog 26 #[z, .int .i64 i] w fun e w' => e = .returned (.int .i64 (-1)) ∧ w = w' := by
  have C := Lib.hid (none_isNone z w h)
  obtain ⟨p, rfl⟩ := none_form h
  clear h
  go_enter Try.func26, Try.ntmps26
  go_wp2_with (go_at_call 25; refine (C.out).mono ?_; rintro e w' ⟨rfl, rfl⟩)
  go_ret
  exact ⟨rfl, rfl⟩
theorem none_ends (z : Value) (w : World) (h : NoneAt w z) : Calls Try.prog 16 #[z] w fun e w' => e = .returned (.tuple #[.int .i64 0, .int .i64 0]) ∧ w = w' := by
  have C := Lib.hid (none_isNone z w h)
  obtain ⟨p, rfl⟩ := none_form h
  clear h
  go_enter Try.func16, Try.ntmps16
  go_wp2_with (go_at_call 25; refine (C.out).mono ?_; rintro e w' ⟨rfl, rfl⟩)
  go_ret2
  exact ⟨rfl, rfl⟩
theorem none_up (z : Value) (w : World) (h : NoneAt w z) : Calls Try.prog 17 #[z] w fun e w' => e = .returned (.bool false) ∧ w = w' := by
  have C := Lib.hid (none_isNone z w h)
  obtain ⟨p, rfl⟩ := none_form h
  clear h
  go_enter Try.func17, Try.ntmps17
  go_wp2_with (go_at_call 25; refine (C.out).mono ?_; rintro e w' ⟨rfl, rfl⟩)
  go_ret
  exact ⟨rfl, rfl⟩
theorem none_cost (z : Value) (i : Int) (w : World) (h : NoneAt w z) : Calls Try.prog 18 #[z, .int .i64 i] w fun e w' => e = .returned (.int .i64 0) ∧ w = w' := by
  have C := Lib.hid (none_place z i w h)
  obtain ⟨p, rfl⟩ := none_form h
  clear h
  go_enter Try.func18, Try.ntmps18
  go_wp2_with (go_at_call 26; refine (C.out).mono ?_; rintro e w' ⟨rfl, rfl⟩)
  go_ret
  exact ⟨rfl, rfl⟩
theorem none_set (z : Value) (up : Bool) (p q : Int) (w : World) (h : NoneAt w z) : Calls Try.prog 11 #[z, .bool up, .agg #[.int .i64 p, .int .i64 q]] w fun e w' => e = .returned (.int .i64 6) ∧ Below w.heap.size w w' := by
  have C := Lib.hid (fun W (hb : Below w.heap.size w W) => none_isNone z W (by
    rcases h with h | ⟨x, h1, h2⟩
    · exact .inl h
    · exact .inr ⟨x, h1, h2.below hb h2.lt⟩))
  have B := Lib.hid ((Below.refl w.heap.size w).alloc (Nat.le_refl _) (.cells #[.int .i64 p, .int .i64 q] 28))
  obtain ⟨p, rfl⟩ := none_form h
  clear h
  go_enter Try.func11, Try.ntmps11
  go_wp2_with (go_at_call 25; refine (C.out _ B.out).mono ?_; rintro e w' ⟨rfl, rfl⟩)
  go_ret
  exact ⟨rfl, B.out⟩
theorem none_send (z u : Value) (i : Int) (w : World) (h : NoneAt w z) : Calls Try.prog 9 #[z, .int .i64 i, u] w fun e w' => e = .returned (.int .i64 6) ∧ w = w' := by
  have C := Lib.hid (none_isNone z w h)
  obtain ⟨p, rfl⟩ := none_form h
  clear h
  go_enter Try.func9, Try.ntmps9
  go_wp2_with (go_at_call 25; refine (C.out).mono ?_; rintro e w' ⟨rfl, rfl⟩)
  go_ret
  exact ⟨rfl, rfl⟩
theorem none_to (z : Value) (i : Int) (w : World) (h : NoneAt w z) : Calls Try.prog 12 #[z, .int .i64 i] w fun e w' => e = .returned (.pointer none) ∧ w = w' := by
  have C := Lib.hid (none_place z i w h)
  obtain ⟨p, rfl⟩ := none_form h
  clear h
  go_enter Try.func12, Try.ntmps12
  go_wp2_with (go_at_call 26; refine (C.out).mono ?_; rintro e w' ⟨rfl, rfl⟩)
  go_ret
  exact ⟨rfl, rfl⟩
end Go.Proofs.Ytkflbhaomoaonaa.Cab
