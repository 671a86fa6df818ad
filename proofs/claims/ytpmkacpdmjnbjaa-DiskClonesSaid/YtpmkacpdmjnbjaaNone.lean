/- The calls at no disk (layer 3): nil, or one that New did not make. -/
import Derived.Test.YtpmkacpdmjnbjaaMeth
namespace Go.Proofs.Ytpmkacpdmjnbjaa.Dsk
open Go.RowKit Go.Maps Go.Proofs.Ytpmkacpdmjnbjaa.Mem
set_option linter.unusedVariables false
set_option linter.unusedSimpArgs false
def NoneAt (w : World) (z : Value) : Prop := z = .pointer none ∨ ∃ g, z = ptr g ∧ Blk w g 60 #[.int .i64 0, .map none, .map none, .int .i64 0, .bool false]
set_option maxHeartbeats 400000 in
theorem none_isNone (z : Value) (w : World) (h : NoneAt w z) :
    Calls Try.prog 43 #[z] w fun e w' => e = .returned (.bool true) ∧ w = w' := by
  rcases h with rfl | ⟨g, rfl, hb⟩
  · go_enter Try.func43, Try.ntmps43
    go_wp2
    go_ret
    exact ⟨rfl, rfl⟩
  · have c0 : w.cell? ⟨g, 0, none⟩ = some (.int .i64 0) := by rw [hb.cell]; rfl
    clear hb
    go_enter Try.func43, Try.ntmps43
    go_wp2
    go_ret
    exact ⟨rfl, rfl⟩
set_option maxRecDepth 20000 in
set_option maxHeartbeats 400000 in
theorem none_dead (z : Value) (w : World) (h : NoneAt w z) :
    Calls Try.prog 24 #[z] w fun e w' => e = .returned (.bool true) ∧ w = w' := by
  have C1 := Lib.hid (none_isNone z w h)
  clear h
  go_enter Try.func24, Try.ntmps24
  go_wp2_with (go_at_call 43; refine (C1.out).mono ?_; rintro e w' ⟨rfl, rfl⟩)
  go_ret
  exact ⟨rfl, rfl⟩
set_option maxRecDepth 20000 in
set_option maxHeartbeats 400000 in
theorem none_size (z : Value) (w : World) (h : NoneAt w z) :
    Calls Try.prog 27 #[z] w fun e w' => e = .returned (.int .i64 0) ∧ w = w' := by
  have C1 := Lib.hid (none_isNone z w h)
  clear h
  go_enter Try.func27, Try.ntmps27
  go_wp2_with (go_at_call 43; refine (C1.out).mono ?_; rintro e w' ⟨rfl, rfl⟩)
  go_ret
  exact ⟨rfl, rfl⟩
set_option maxRecDepth 20000 in
set_option maxHeartbeats 400000 in
theorem none_waits (z : Value) (w : World) (h : NoneAt w z) :
    Calls Try.prog 23 #[z] w fun e w' => e = .returned (.slice none 0 0) ∧ w = w' := by
  have C1 := Lib.hid (none_isNone z w h)
  clear h
  go_enter Try.func23, Try.ntmps23
  go_wp2_with (go_at_call 43; refine (C1.out).mono ?_; rintro e w' ⟨rfl, rfl⟩)
  go_ret
  exact ⟨rfl, rfl⟩
set_option maxRecDepth 20000 in
set_option maxHeartbeats 400000 in
theorem none_clone (z : Value) (w : World) (h : NoneAt w z) :
    Calls Try.prog 25 #[z] w fun e w' => e = .returned (.pointer none) ∧ w = w' := by
  have C1 := Lib.hid (none_isNone z w h)
  clear h
  go_enter Try.func25, Try.ntmps25
  go_wp2_with (go_at_call 43; refine (C1.out).mono ?_; rintro e w' ⟨rfl, rfl⟩)
  go_ret
  exact ⟨rfl, rfl⟩
set_option maxRecDepth 20000 in
set_option maxHeartbeats 400000 in
theorem none_arm (z : Value) (k : Int) (w : World) (h : NoneAt w z) :
    Calls Try.prog 26 #[z, .int .i64 k] w fun e w' => e = .returned (.tuple #[]) ∧ w = w' := by
  have C1 := Lib.hid (none_isNone z w h)
  clear h
  go_enter Try.func26, Try.ntmps26
  go_wp2_with (go_at_call 43; refine (C1.out).mono ?_; rintro e w' ⟨rfl, rfl⟩)
  exact bodyPost_ret (v := .tuple #[]) (by simp [results, Try.results26, go_sem]) rfl ⟨rfl, rfl⟩
set_option maxRecDepth 20000 in
set_option maxHeartbeats 400000 in
theorem none_crash (z : Value) (v : Value) (w : World) (h : NoneAt w z) :
    Calls Try.prog 17 #[z, v] w fun e w' => e = .returned (.tuple #[]) ∧ w = w' := by
  have C1 := Lib.hid (none_isNone z w h)
  clear h
  go_enter Try.func17, Try.ntmps17
  go_wp2_with (go_at_call 43; refine (C1.out).mono ?_; rintro e w' ⟨rfl, rfl⟩)
  exact bodyPost_ret (v := .tuple #[]) (by simp [results, Try.results17, go_sem]) rfl ⟨rfl, rfl⟩
set_option maxRecDepth 20000 in
set_option maxHeartbeats 400000 in
theorem none_read (z : Value) (k : Int) (w : World) (h : NoneAt w z) :
    Calls Try.prog 16 #[z, .int .i64 k] w fun e w' => e = .returned (.tuple #[.slice none 0 0, .int .i64 7]) ∧ w = w' := by
  have C1 := Lib.hid (none_dead z w h)
  clear h
  go_enter Try.func16, Try.ntmps16
  go_wp2_with (go_at_call 24; refine (C1.out).mono ?_; rintro e w' ⟨rfl, rfl⟩)
  go_ret2
  exact ⟨rfl, rfl⟩
set_option maxRecDepth 20000 in
set_option maxHeartbeats 400000 in
theorem none_write (z : Value) (k : Int) (v : Value) (w : World) (h : NoneAt w z) :
    Calls Try.prog 18 #[z, .int .i64 k, v] w fun e w' => e = .returned (.int .i64 7) ∧ w = w' := by
  have C1 := Lib.hid (none_dead z w h)
  clear h
  go_enter Try.func18, Try.ntmps18
  go_wp2_with (go_at_call 24; refine (C1.out).mono ?_; rintro e w' ⟨rfl, rfl⟩)
  go_ret
  exact ⟨rfl, rfl⟩
set_option maxRecDepth 20000 in
set_option maxHeartbeats 400000 in
theorem none_flush (z : Value) (w : World) (h : NoneAt w z) :
    Calls Try.prog 20 #[z] w fun e w' => e = .returned (.int .i64 7) ∧ w = w' := by
  have C1 := Lib.hid (none_dead z w h)
  clear h
  go_enter Try.func20, Try.ntmps20
  go_wp2_with (go_at_call 24; refine (C1.out).mono ?_; rintro e w' ⟨rfl, rfl⟩)
  go_ret
  exact ⟨rfl, rfl⟩
end Go.Proofs.Ytpmkacpdmjnbjaa.Dsk
