/- A queue's small functions (layer 15): New, isNone, has; slices.Clone of bytes; the methods at no queue. -/
import Derived.Test.YtkflbhaomoaonaaQuMem
import Derived.LoopTactic
import Derived.Lib.SliceRun
import Derived.Lib.Hide
namespace Go.Proofs.Ytkflbhaomoaonaa.Que
open Go.RowKit Go.Proofs.Ytkflbhaomoaonaa.Mem
set_option linter.unusedVariables false
set_option linter.unusedSimpArgs false
set_option maxHeartbeats 1000000 in
theorem clone_any (v : Value) (xs : List Nat) (w : World) (h : Sl w w.heap.size v xs) (hn : xs.length ≤ 200000) :
    Calls Try.prog 32 #[v] w fun e w' => ∃ v', e = .returned v' ∧ Sl w' w'.heap.size v' xs ∧ Below w.heap.size w w' := by
  obtain ⟨i0, hi, hz0, hz1, hz2⟩ := info_parts Try.info5
  have hx := h.lt
  obtain ⟨A, n, c, rfl, hb, h1, h2, h3⟩ := h
  have hr := hb.reads
  have hl := hb.1
  rcases A with _ | ad
  · have h0 : n = 0 := by
      rcases Nat.eq_zero_or_pos n with h0 | h0
      · exact h0
      · obtain ⟨_, _, e, _⟩ := hb.2.2.2 h0
        cases e
    subst h0
    have hx : xs = [] := List.eq_nil_of_length_eq_zero hl
    subst hx
    rw [h3 rfl]
    have kn := fun (W : World) (a : Option Addr) (n c n' c' : Nat) => Lib.run_eql_slice_nil (P := Try.prog) W 33 _ a n c n' c' Try.underlying33
    go_enter Try.func32, Try.ntmps32
    go_wp2
    go_ret
    exact ⟨_, rfl, sl_nil _ _, Below.refl _ _⟩
  · have HR := Lib.hid hr; clear hr
    have HI := Lib.hid hi; clear hi
    have HZ0 := Lib.hid hz0; clear hz0
    have HZ1 := Lib.hid hz1; clear hz1
    have HZ2 := Lib.hid hz2; clear hz2
    have HL := Lib.hid hl; clear hl
    have hown1 : (w.alloc (.cells #[] 5)).ownsRow w.heap.size 5 1 (.slice (some ⟨w.heap.size, 0, none⟩) 0 0) 0 [] := World.ownsRow_lit w #[] 0 (Nat.le_refl _) (by unfold maxLen; omega) rfl
    have HO := Lib.hid hown1; clear hown1
    have hb1 : Below w.heap.size w (w.alloc (.cells #[] 5)) := (Below.refl _ _).alloc (Nat.le_refl _) _
    have HB1 := Lib.hid hb1; clear hb1
    have hn2 : n ≤ 200000 := by rw [← HL.out]; exact hn
    have HN := Lib.hid hn; clear hn
    have kn := fun (W : World) (a : Option Addr) (n c n' c' : Nat) => Lib.run_eql_slice_nil (P := Try.prog) W 33 _ a n c n' c' Try.underlying33
    go_enter Try.func32, Try.ntmps32
    go_wp2_with (at_builtin; (refine wpList_append_any _ rfl (.tmp 5) (.tmp 6) 33 rfl w.heap.size 5 i0 (.int .u8 0) 1 1 Try.underlying33 HI.out HZ0.out HZ1.out HZ2.out rfl (by decide) (.slice (some ⟨w.heap.size, 0, none⟩) 0 0) 0 [] rfl HO.out w.heap.size (some ad) n c (vals xs) rfl (HR.out.below HB1.out) (vals_one xs) (by unfold maxLen; omega) (by omega) HB1.out.size ?_; intro v2 w2 hown2 hg2 _))
    go_ret
    rw [Nat.zero_add, List.nil_append] at hown2
    exact ⟨v2, rfl, sl_own hown2 hx (by omega), HB1.out.grown hg2 HB1.out.size (fun k hk => (HO.out.lt k hk).1)⟩
theorem new_any (base : Nat) (w : World) (hb : base ≤ w.heap.size) :
    Calls Try.prog 23 #[] w fun e w' => e = .returned (ptr w.heap.size) ∧ QAt w' base w.heap.size (.slice none 0 0) [] ∧ Below w.heap.size w w' := by
  go_enter Try.func23, Try.ntmps23
  go_wp2
  go_ret
  exact ⟨rfl, ⟨Blk.new _ _ _, hb, slRow_nil _ _⟩, (Below.refl _ _).alloc (Nat.le_refl _) _⟩
theorem isNone_nil (w : World) : Calls Try.prog 29 #[.pointer none] w fun e w' => e = .returned (.bool true) ∧ w = w' := by
  go_enter Try.func29, Try.ntmps29
  go_wp2
  go_ret
  exact ⟨rfl, rfl⟩
theorem isNone_no (base g : Nat) (v : Value) (ts : List (List Nat)) (w : World) (h : QAt w base g v ts) : Calls Try.prog 29 #[ptr g] w fun e w' => e = .returned (.bool false) ∧ w = w' := by
  obtain ⟨c0, c1, f1, hlt⟩ := h.cells
  obtain ⟨A, c, rfl, _⟩ := slRow_form h.row
  clear h
  go_enter Try.func29, Try.ntmps29
  go_wp2
  go_ret
  exact ⟨rfl, rfl⟩
theorem has_any (base g : Nat) (v : Value) (ts : List (List Nat)) (i : Int) (w : World) (h : QAt w base g v ts) : Calls Try.prog 30 #[ptr g, .int .i64 i] w fun e w' => e = .returned (.bool (decide (0 ≤ i) && decide (i < (ts.length : Int)))) ∧ w = w' := by
  obtain ⟨c0, c1, f1, hlt⟩ := h.cells
  obtain ⟨A, c, rfl, h1, h2⟩ := slRow_form h.row
  clear h
  unfold maxLen at h2
  generalize ts.length = n at *
  cases h0 : decide (0 ≤ i)
  · go_enter Try.func30, Try.ntmps30
    go_wp2
    go_ret
    exact ⟨rfl, rfl⟩
  · go_enter Try.func30, Try.ntmps30
    go_wp2
    go_ret
    exact ⟨ret_bool (by simp [*]), rfl⟩
/-- the methods at no queue -/
theorem put_nil (v : Value) (w : World) : Calls Try.prog 27 #[.pointer none, v] w fun e w' => e = .returned (.int .i64 6) ∧ w = w' := by
  have C := Lib.hid (isNone_nil w)
  go_enter Try.func27, Try.ntmps27
  go_wp2_with (go_at_call 29; refine (C.out).mono ?_; rintro e w' ⟨rfl, rfl⟩)
  go_ret
  exact ⟨rfl, rfl⟩
theorem take_nil (i : Int) (w : World) : Calls Try.prog 13 #[.pointer none, .int .i64 i] w fun e w' => e = .returned (.tuple #[.slice none 0 0, .int .i64 6]) ∧ w = w' := by
  have C := Lib.hid (isNone_nil w)
  go_enter Try.func13, Try.ntmps13
  go_wp2_with (go_at_call 29; refine (C.out).mono ?_; rintro e w' ⟨rfl, rfl⟩)
  go_ret2
  exact ⟨rfl, rfl⟩
theorem all_nil (w : World) : Calls Try.prog 21 #[.pointer none] w fun e w' => e = .returned (.slice none 0 0) ∧ w = w' := by
  have C := Lib.hid (isNone_nil w)
  go_enter Try.func21, Try.ntmps21
  go_wp2_with (go_at_call 29; refine (C.out).mono ?_; rintro e w' ⟨rfl, rfl⟩)
  go_ret
  exact ⟨rfl, rfl⟩
theorem clear_nil (w : World) : Calls Try.prog 34 #[.pointer none] w fun e w' => e = .returned (.tuple #[]) ∧ w = w' := by
  have C := Lib.hid (isNone_nil w)
  go_enter Try.func34, Try.ntmps34
  go_wp2_with (go_at_call 29; refine (C.out).mono ?_; rintro e w' ⟨rfl, rfl⟩)
  exact bodyPost_ret (v := .tuple #[]) (by simp [results, Try.results34, go_sem]) rfl ⟨rfl, rfl⟩
end Go.Proofs.Ytkflbhaomoaonaa.Que
