/- A queue's methods (layer 15): Put, Take, Again, Drop, Clear. -/
import Derived.Test.YtkflbhaomoaonaaQuPut
import Derived.Test.YtkflbhaomoaonaaQuDel
namespace Go.Proofs.Ytkflbhaomoaonaa.Que
open Go.RowKit Go.Proofs.Ytkflbhaomoaonaa.Mem
set_option linter.unusedVariables false
set_option linter.unusedSimpArgs false
theorem put_any (base g : Nat) (v u : Value) (ts : List (List Nat)) (xs : List Nat) (w : World) (h : QAt w base g v ts) (hs : Sl w w.heap.size u xs) (hx : xs.length ≤ 200000) (hl : ts.length ≤ 32) (hb : base ≤ w.heap.size) :
    Calls Try.prog 27 #[ptr g, u] w fun e w' => e = .returned (.int .i64 (putE ts)) ∧ QOut w base g v w' (putQ ts xs) := by
  have C := Lib.hid (isNone_no base g v ts w h)
  have P := Lib.hid (put_in base g v u ts xs w h hs hx hl hb)
  obtain ⟨Au, nu, cu, rfl, _⟩ := id hs
  clear h hs hx hl hb
  go_enter Try.func27, Try.ntmps27
  go_wp2_with (first
    | (go_at_call 29; refine (C.out).mono ?_; rintro e w' ⟨rfl, rfl⟩)
    | (go_at_call 33; refine (P.out).mono ?_; rintro e w' ⟨rfl, ho⟩))
  go_ret
  exact ⟨rfl, ho⟩
def there (i : Int) (ts : List (List Nat)) : Bool := decide (0 ≤ i) && decide (i < (ts.length : Int))
theorem there_iff {i : Int} {ts : List (List Nat)} : there i ts = true ↔ ∃ k : Nat, i = k ∧ k < ts.length := by
  unfold there
  rw [Bool.and_eq_true, decide_eq_true_eq, decide_eq_true_eq]
  constructor
  · rintro ⟨h1, h2⟩
    exact ⟨i.toNat, by omega, by omega⟩
  · rintro ⟨k, rfl, h⟩
    omega
def TakeOut (w : World) (base g : Nat) (v : Value) (ts : List (List Nat)) (i : Int) (e : Ending) (w' : World) : Prop :=
  ∃ A n c, e = .returned (.tuple #[.slice A n c, .int .i64 (if there i ts = true then 0 else 3)]) ∧ Sl w' w'.heap.size (.slice A n c) (if there i ts = true then ts.getD i.toNat [] else []) ∧ QOut w base g v w' (if there i ts = true then ts.eraseIdx i.toNat else ts)
set_option maxRecDepth 20000 in
set_option maxHeartbeats 4000000 in
theorem take_any (base g : Nat) (v : Value) (ts : List (List Nat)) (i : Int) (w : World) (h : QAt w base g v ts) (hl : ts.length ≤ 32) :
    Calls Try.prog 13 #[ptr g, .int .i64 i] w (TakeOut w base g v ts i) := by
  have C := Lib.hid (isNone_no base g v ts w h)
  have H := has_any base g v ts i w h
  rw [show (decide (0 ≤ i) && decide (i < (ts.length : Int))) = there i ts from rfl] at H
  unfold TakeOut
  cases ht : there i ts
  · rw [ht] at H
    simp only [Bool.false_eq_true, if_false]
    have H := Lib.hid H
    have HQ := Lib.hid h; clear h hl ht
    go_enter Try.func13, Try.ntmps13
    go_wp2_with (first
      | (go_at_call 29; refine (C.out).mono ?_; rintro e w' ⟨rfl, rfl⟩)
      | (go_at_call 30; refine (H.out).mono ?_; rintro e w' ⟨rfl, rfl⟩))
    go_ret2
    exact ⟨_, _, _, rfl, sl_nil _ _, HQ.out.same (Below.refl _ _)⟩
  · rw [ht] at H
    simp only [if_true]
    obtain ⟨k, rfl, hk⟩ := there_iff.1 ht
    have H := Lib.hid H; clear ht
    obtain ⟨c0, c1, f1, hlt⟩ := h.cells
    obtain ⟨A, n, c, rfl, hn, h1, h2⟩ := slRow_form2 h.row
    have D := Lib.hid (delete_any base (.slice A n c) ts k w h.row hk)
    obtain ⟨b, off, rfl, hbl, hcs⟩ := sls_at (slRow_sls h.row) (by omega)
    obtain ⟨u, hu, hs⟩ := hcs k (by omega)
    clear hcs
    obtain ⟨Au, nu, cu, rfl, _⟩ := id hs
    have HK := Lib.hid hk
    rw [hn] at hk
    have hk3 : k < 32 := by omega
    have HS := Lib.hid hs; clear hs
    have HQ := Lib.hid h; clear h hl hn
    go_enter Try.func13, Try.ntmps13
    go_wp2_with (first
      | (go_at_call 29; refine (C.out).mono ?_; rintro e w' ⟨rfl, rfl⟩)
      | (go_at_call 30; refine (H.out).mono ?_; rintro e w' ⟨rfl, rfl⟩)
      | (go_at_call 31; refine (D.out).mono ?_; rintro e w1 ⟨v1, rfl, hr1, hg1, ho1⟩; obtain ⟨A1, n1, k1, rfl, _⟩ := slRow_form2 hr1; have kb1 := HQ.out.blk.grown hg1 HQ.out.ne; have e1 := kb1.cell 1; have e2 := kb1.frozen 1; simp at e1; have HR1 := Lib.hid hr1; have HG1 := Lib.hid hg1; have HO1 := Lib.hid ho1; have KB1 := Lib.hid kb1; clear hr1 hg1 ho1 kb1))
    go_ret2
    have q1 := HQ.out.put (KQ.of_grown HG1.out) KB1.out HR1.out
    have kq := (KQ.of_grown (g := g) HG1.out).set 1 (.slice A1 n1 k1)
    exact ⟨_, _, _, rfl, (sl_kq HS.out kq (Nat.le_refl _) HQ.out.nob (slRow_nob HQ.out.row)).more kq.size, _, q1, kq, fun q e => .inl (by rw [← HO1.out]; exact e)⟩
theorem clear_any (base g : Nat) (v : Value) (ts : List (List Nat)) (w : World) (h : QAt w base g v ts) :
    Calls Try.prog 34 #[ptr g] w fun e w' => e = .returned (.tuple #[]) ∧ QOut w base g v w' [] := by
  have C := Lib.hid (isNone_no base g v ts w h)
  obtain ⟨c0, c1, f1, hlt⟩ := h.cells
  obtain ⟨A, n, c, rfl, hn, h1, h2⟩ := slRow_form2 h.row
  have HQ := Lib.hid h; clear h hn
  go_enter Try.func34, Try.ntmps34
  go_wp2_with (go_at_call 29; refine (C.out).mono ?_; rintro e w' ⟨rfl, rfl⟩)
  go_end0
  exact ⟨rfl, _, HQ.out.put (KQ.of_below (Below.refl _ _)) HQ.out.blk (slRow_nil _ _), (KQ.of_below (Below.refl _ _)).set 1 _, fun q e => by simp [Value.ownBlock] at e⟩
end Go.Proofs.Ytkflbhaomoaonaa.Que
