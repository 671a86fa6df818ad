/- The calls at no disk (layer 3): nil, or one that New did not make. -/
import Derived.Test.YtddhkajcakndlaaMeth
namespace Go.Proofs.Ytddhkajcakndlaa.Dsk
open Go.RowKit Go.Maps Go.Proofs.Ytddhkajcakndlaa.Mem
set_option linter.unusedVariables false
set_option linter.unusedSimpArgs false
def NoneAt (w : World) (z : Value) : Prop := z = .pointer none ∨ ∃ g, z = ptr g ∧ Blk w g 38 #[.int .i64 0, .map none, .map none, .int .i64 0, .bool false]
set_option maxHeartbeats 400000 in
theorem none_isNone (z : Value) (w : World) (h : NoneAt w z) :
    Calls Try.prog 35 #[z] w fun e w' => e = .returned (.bool true) ∧ w = w' := by
  rcases h with rfl | ⟨g, rfl, hb⟩
  · go_enter Try.func35, Try.ntmps35
    go_wp2
    go_ret
    exact ⟨rfl, rfl⟩
  · have c0 : w.cell? ⟨g, 0, none⟩ = some (.int .i64 0) := by rw [hb.cell]; rfl
    clear hb
    go_enter Try.func35, Try.ntmps35
    go_wp2
    go_ret
    exact ⟨rfl, rfl⟩
set_option maxRecDepth 20000 in
set_option maxHeartbeats 400000 in
theorem none_dead (z : Value) (w : World) (h : NoneAt w z) :
    Calls Try.prog 30 #[z] w fun e w' => e = .returned (.bool true) ∧ w = w' := by
  have C1 := Lib.hid (none_isNone z w h)
  clear h
  go_enter Try.func30, Try.ntmps30
  go_wp2_with (go_at_call 35; refine (C1.out).mono ?_; rintro e w' ⟨rfl, rfl⟩)
  go_ret
  exact ⟨rfl, rfl⟩
set_option maxRecDepth 20000 in
set_option maxHeartbeats 400000 in
theorem none_size (z : Value) (w : World) (h : NoneAt w z) :
    Calls Try.prog 18 #[z] w fun e w' => e = .returned (.int .i64 0) ∧ w = w' := by
  have C1 := Lib.hid (none_isNone z w h)
  clear h
  go_enter Try.func18, Try.ntmps18
  go_wp2_with (go_at_call 35; refine (C1.out).mono ?_; rintro e w' ⟨rfl, rfl⟩)
  go_ret
  exact ⟨rfl, rfl⟩
set_option maxRecDepth 20000 in
set_option maxHeartbeats 400000 in
theorem none_waits (z : Value) (w : World) (h : NoneAt w z) :
    Calls Try.prog 36 #[z] w fun e w' => e = .returned (.slice none 0 0) ∧ w = w' := by
  have C1 := Lib.hid (none_isNone z w h)
  clear h
  go_enter Try.func36, Try.ntmps36
  go_wp2_with (go_at_call 35; refine (C1.out).mono ?_; rintro e w' ⟨rfl, rfl⟩)
  go_ret
  exact ⟨rfl, rfl⟩
set_option maxRecDepth 20000 in
set_option maxHeartbeats 400000 in
theorem none_crash (z : Value) (v : Value) (w : World) (h : NoneAt w z) :
    Calls Try.prog 16 #[z, v] w fun e w' => e = .returned (.tuple #[]) ∧ w = w' := by
  have C1 := Lib.hid (none_isNone z w h)
  clear h
  go_enter Try.func16, Try.ntmps16
  go_wp2_with (go_at_call 35; refine (C1.out).mono ?_; rintro e w' ⟨rfl, rfl⟩)
  exact bodyPost_ret (v := .tuple #[]) (by simp [results, Try.results16, go_sem]) rfl ⟨rfl, rfl⟩
set_option maxRecDepth 20000 in
set_option maxHeartbeats 400000 in
theorem none_read (z : Value) (k : Int) (w : World) (h : NoneAt w z) :
    Calls Try.prog 38 #[z, .int .i64 k] w fun e w' => e = .returned (.tuple #[.slice none 0 0, .int .i64 7]) ∧ w = w' := by
  have C1 := Lib.hid (none_dead z w h)
  clear h
  go_enter Try.func38, Try.ntmps38
  go_wp2_with (go_at_call 30; refine (C1.out).mono ?_; rintro e w' ⟨rfl, rfl⟩)
  go_ret2
  exact ⟨rfl, rfl⟩
set_option maxRecDepth 20000 in
set_option maxHeartbeats 400000 in
theorem none_write (z : Value) (k : Int) (v : Value) (w : World) (h : NoneAt w z) :
    Calls Try.prog 10 #[z, .int .i64 k, v] w fun e w' => e = .returned (.int .i64 7) ∧ w = w' := by
  have C1 := Lib.hid (none_dead z w h)
  clear h
  go_enter Try.func10, Try.ntmps10
  go_wp2_with (go_at_call 30; refine (C1.out).mono ?_; rintro e w' ⟨rfl, rfl⟩)
  go_ret
  exact ⟨rfl, rfl⟩
set_option maxRecDepth 20000 in
set_option maxHeartbeats 400000 in
theorem none_flush (z : Value) (w : World) (h : NoneAt w z) :
    Calls Try.prog 11 #[z] w fun e w' => e = .returned (.int .i64 7) ∧ w = w' := by
  have C1 := Lib.hid (none_dead z w h)
  clear h
  go_enter Try.func11, Try.ntmps11
  go_wp2_with (go_at_call 30; refine (C1.out).mono ?_; rintro e w' ⟨rfl, rfl⟩)
  go_ret
  exact ⟨rfl, rfl⟩
end Go.Proofs.Ytddhkajcakndlaa.Dsk
