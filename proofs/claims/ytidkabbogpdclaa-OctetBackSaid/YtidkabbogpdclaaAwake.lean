/- awake of layer 2: a number is put and read. And the calls at no reader. No condition. -/
import Derived.Test.YtidkabbogpdclaaPut
import Derived.Test.YtidkabbogpdclaaSame
import Derived.Deep.RegionWith
namespace Go.Proofs.Ytidkabbogpdclaa.Oct
open Go.RowKit Go.Proofs.Ytidkabbogpdclaa.Mem
set_option linter.unusedVariables false
theorem Sl.cell {w : World} {B : Nat} {A : Option Addr} {n c : Nat} {xs : List Nat} (h : Sl w B (.slice A n c) xs) : n = xs.length ∧ Bts w B A n xs := by
  obtain ⟨A', n', c', e, hb, _⟩ := h
  injection e with e1 e2 e3
  subst e1 e2 e3
  exact ⟨hb.1.symm, hb⟩
set_option maxHeartbeats 1000000 in
theorem awake_any (w : World) :
    Calls Try.prog 8 #[] w fun e w' => e = .returned (.bool true) ∧ Below w.heap.size w w' := by
  have h1 := put_num (.slice none 0 0) 2 258 [] w (sl_nil _ _) (by simp) (by omega)
  rw [show putNum [] 2 258 = [1, 2] by decide] at h1
  have h2 := fun (v : Value) (W : World) (hv : Sl W W.heap.size v [1, 2]) => read_any v [1, 2] W hv (by simp)
  have h3 := fun (g : Nat) (W : World) (hr : Rdr W g ([1, 2], true)) => rnum_any g _ 2 W hr
  rw [show rnum ([1, 2], true) 2 = (([], true), 258) by decide] at h3
  have h4 := fun (g : Nat) (W : World) (hr : Rdr W g ([], true)) => done_any g _ W hr
  rw [show (true && decide (([] : List Nat).length = 0)) = true by decide] at h4
  have H1 := Lib.hid h1; clear h1
  have H2 := Lib.hid h2; clear h2
  have H3 := Lib.hid h3; clear h3
  have H4 := Lib.hid h4; clear h4
  go_enter Try.func8, Try.ntmps8
  go_wp2_with (first
    | (go_at_call 18; refine (H1.out).mono ?_; rintro e w1 ⟨v1, rfl, hs1, hb1⟩; obtain ⟨A1, n1, c1, rfl, hbt1, hr1⟩ := hs1; obtain rfl : 2 = n1 := hbt1.1; have HS1 := Lib.hid (show Sl w1 w1.heap.size (.slice A1 2 c1) [1, 2] from ⟨A1, 2, c1, rfl, hbt1, hr1⟩); obtain ⟨b, off, rfl, hlt, hcell⟩ := hbt1.2.2.2 (by omega); have hc0 := hcell 0 (by omega); have hc1 := hcell 1 (by omega); have HB1 := Lib.hid hb1; clear hb1)
    | (go_at_call 9; refine (H2.out _ w1 HS1.out).mono ?_; rintro e w2 ⟨g, rfl, hg, hr2, hb2⟩; have HR2 := Lib.hid hr2; clear hr2; have hk0 := (hb2.cell (p := ⟨b, off + 0, none⟩) hlt).trans hc0; have hk1 := (hb2.cell (p := ⟨b, off + 1, none⟩) hlt).trans hc1; clear hcell hc0 hc1; rw [Nat.add_zero] at hk0; have HB2 := Lib.hid hb2; clear hb2)
    | (go_at_call 14; refine (H3.out g w2 HR2.out).mono ?_; rintro e w3 ⟨rfl, hr3, hg3⟩; have HR3 := Lib.hid hr3; clear hr3; have HG3 := Lib.hid hg3; clear hg3)
    | (go_at_call 17; refine (H4.out g w3 HR3.out).mono ?_; rintro e w4 ⟨rfl, rfl⟩))
  go_ret
  have hb2 := HB1.out.trans (HB2.out.mono HB1.out.size)
  have hs := HB1.out.size
  exact ⟨rfl, hb2.grown HG3.out hb2.size (fun q hq => by cases hq; omega)⟩
/-! no reader -/
abbrev noPtr : Value := .pointer none
set_option maxHeartbeats 400000 in
theorem spoil_none (w : World) : Calls Try.prog 25 #[noPtr] w fun e w' => e = .returned (.tuple #[]) ∧ w = w' := by
  go_enter Try.func25, Try.ntmps25
  go_wp2
  go_end0
  exact ⟨rfl, rfl⟩
set_option maxHeartbeats 400000 in
theorem wrong_none (w : World) : Calls Try.prog 16 #[noPtr] w fun e w' => e = .returned (.bool true) ∧ w = w' := by
  go_enter Try.func16, Try.ntmps16
  go_wp2
  go_ret
  exact ⟨rfl, rfl⟩
set_option maxHeartbeats 400000 in
theorem left_none (w : World) : Calls Try.prog 15 #[noPtr] w fun e w' => e = .returned (.int .i64 0) ∧ w = w' := by
  go_enter Try.func15, Try.ntmps15
  go_wp2
  go_ret
  exact ⟨rfl, rfl⟩
set_option maxHeartbeats 400000 in
theorem done_none (w : World) : Calls Try.prog 17 #[noPtr] w fun e w' => e = .returned (.bool false) ∧ w = w' := by
  go_enter Try.func17, Try.ntmps17
  go_wp2_with (go_at_call 16; refine (wrong_none _).mono ?_; rintro e w' ⟨rfl, rfl⟩)
  go_ret
  exact ⟨rfl, rfl⟩
set_option maxHeartbeats 400000 in
theorem take_none (k : Int) (w : World) : Calls Try.prog 23 #[noPtr, .int .i64 k] w fun e w' => e = .returned (.slice none 0 0) ∧ w = w' := by
  go_enter Try.func23, Try.ntmps23
  go_wp2_with (first
    | (go_at_call 16; refine (wrong_none _).mono ?_; rintro e w' ⟨rfl, rfl⟩)
    | (go_at_call 25; refine (spoil_none _).mono ?_; rintro e w' ⟨rfl, rfl⟩))
  go_ret
  exact ⟨rfl, rfl⟩
set_option maxHeartbeats 400000 in
theorem text_none (w : World) : Calls Try.prog 12 #[noPtr] w fun e w' => e = .returned (.slice none 0 0) ∧ w = w' := by
  go_enter Try.func12, Try.ntmps12
  go_wp2_with (go_at_call 16; refine (wrong_none _).mono ?_; rintro e w' ⟨rfl, rfl⟩)
  go_ret
  exact ⟨rfl, rfl⟩
set_option maxHeartbeats 400000 in
theorem num_none (k : Int) (w : World) : Calls Try.prog 14 #[noPtr, .int .i64 k] w fun e w' => e = .returned (.int .u64 0) ∧ w = w' := by
  have h1 := isWidth_any k w
  generalize isW k = b at h1
  have H1 := Lib.hid h1; clear h1
  cases b
  · go_enter Try.func14, Try.ntmps14
    go_wp2_with (first
      | (go_at_call 24; refine (H1.out).mono ?_; rintro e w' ⟨rfl, rfl⟩)
      | (go_at_call 25; refine (spoil_none _).mono ?_; rintro e w' ⟨rfl, rfl⟩))
    go_ret
    exact ⟨rfl, rfl⟩
  · go_enter Try.func14, Try.ntmps14
    go_wp2_with (first
      | (go_at_call 24; refine (H1.out).mono ?_; rintro e w' ⟨rfl, rfl⟩)
      | (go_at_call 23; refine (take_none _ _).mono ?_; rintro e w' ⟨rfl, rfl⟩))
    go_loop [5, 17] (fun x i => i = .int .i64 0 ∧ x = .int .u64 0) (fun _ i => 8 - (intOf i).toNat)
    case atStart => exact ⟨rfl, rfl⟩
    case round =>
      obtain ⟨rfl, rfl⟩ := hrel
      go_wp2
      go_ret
      exact ⟨rfl, rfl⟩
end Go.Proofs.Ytidkabbogpdclaa.Oct
