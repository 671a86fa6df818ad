/- A cable's methods (layer 16): Ends, Up, Cost, To, Send, Set, New. -/
import Derived.Test.YtkflbhaomoaonaaCabMem
import Derived.LoopN
namespace Go.Proofs.Ytkflbhaomoaonaa.Cab
open Go.RowKit Go.Proofs.Ytkflbhaomoaonaa.Mem Go.Proofs.Ytkflbhaomoaonaa.Que
set_option linter.unusedVariables false
set_option linter.unusedSimpArgs false
theorem isNone_no {base x g1 g2 : Nat} {v1 v2 : Value} {c : Cb} {w : World} (h : CAt w base x g1 g2 v1 v2 c) : Calls Try.prog 25 #[ptr x] w fun e w' => e = .returned (.bool false) ∧ w = w' := by
  obtain ⟨k0, k1, k2, k3, k4, k5, k6, k7, kl, _⟩ := blk_cells8 h.blk
  clear h
  go_enter Try.func25, Try.ntmps25
  go_wp2
  go_ret
  exact ⟨rfl, rfl⟩
theorem ends_any {base x g1 g2 : Nat} {v1 v2 : Value} {c : Cb} {w : World} (h : CAt w base x g1 g2 v1 v2 c) : Calls Try.prog 16 #[ptr x] w fun e w' => e = .returned (.tuple #[.int .i64 c.a, .int .i64 c.b]) ∧ Below w.heap.size w w' := by
  have C := Lib.hid (isNone_no h)
  obtain ⟨k0, k1, k2, k3, k4, k5, k6, k7, kl, _⟩ := blk_cells8 h.blk
  clear h
  go_enter Try.func16, Try.ntmps16
  go_wp2_with (go_at_call 25; refine (C.out).mono ?_; rintro e w' ⟨rfl, rfl⟩)
  go_region_law (fail)
  all_goals
    (go_wp2
     go_ret2
     exact ⟨rfl, (Below.refl _ _).drew⟩)
theorem up_any {base x g1 g2 : Nat} {v1 v2 : Value} {c : Cb} {w : World} (h : CAt w base x g1 g2 v1 v2 c) : Calls Try.prog 17 #[ptr x] w fun e w' => e = .returned (.bool c.up) ∧ w = w' := by
  have C := Lib.hid (isNone_no h)
  obtain ⟨k0, k1, k2, k3, k4, k5, k6, k7, kl, _⟩ := blk_cells8 h.blk
  clear h
  go_enter Try.func17, Try.ntmps17
  go_wp2_with (go_at_call 25; refine (C.out).mono ?_; rintro e w' ⟨rfl, rfl⟩)
  go_ret
  exact ⟨rfl, rfl⟩
theorem of_cases (c : Cb) (i : Int) : (i = c.a) ∨ ((i == c.a) = false ∧ i = c.b) ∨ ((i == c.a) = false ∧ (i == c.b) = false) := by
  by_cases h1 : i = c.a
  · exact .inl h1
  · by_cases h2 : i = c.b
    · exact .inr (.inl ⟨beq_false_of_ne h1, h2⟩)
    · exact .inr (.inr ⟨beq_false_of_ne h1, beq_false_of_ne h2⟩)
def placeP (c : Cb) (i : Int) : Int := if i = c.a then 0 else if i = c.b then 1 else -1
theorem place_any {base x g1 g2 : Nat} {v1 v2 : Value} {c : Cb} {w : World} (i : Int) (h : CAt w base x g1 g2 v1 v2 c) : Calls Try.prog 26 #[ptr x, .int .i64 i] w fun e w' => e = .returned (.int .i64 (placeP c i)) ∧ w = w' := by
  have C := Lib.hid (isNone_no h)
  have hc := of_cases c i
  obtain ⟨k0, k1, k2, k3, k4, k5, k6, k7, kl, _⟩ := blk_cells8 h.blk
  clear h
  obtain ⟨a, b, up, p, q, ta, tb⟩ := c
  unfold placeP
  simp only at hc k0 k1 k2 k3 k4 k5 k6 k7 ⊢
  rcases hc with rfl | ⟨e1, rfl⟩ | ⟨e1, e2⟩
  · rw [if_pos rfl]
    go_enter Try.func26, Try.ntmps26
    go_wp2_with (go_at_call 25; refine (C.out).mono ?_; rintro e w' ⟨rfl, rfl⟩)
    go_ret
    exact ⟨rfl, rfl⟩
  · rw [if_neg (by simpa using e1), if_pos rfl]
    go_enter Try.func26, Try.ntmps26
    go_wp2_with (go_at_call 25; refine (C.out).mono ?_; rintro e w' ⟨rfl, rfl⟩)
    go_ret
    exact ⟨rfl, rfl⟩
  · rw [if_neg (by simpa using e1), if_neg (by simpa using e2)]
    go_enter Try.func26, Try.ntmps26
    go_wp2_with (go_at_call 25; refine (C.out).mono ?_; rintro e w' ⟨rfl, rfl⟩)
    go_ret
    exact ⟨rfl, rfl⟩
theorem cost_any {base x g1 g2 : Nat} {v1 v2 : Value} {c : Cb} {w : World} (i : Int) (h : CAt w base x g1 g2 v1 v2 c) : Calls Try.prog 18 #[ptr x, .int .i64 i] w fun e w' => e = .returned (.int .i64 (costP c i)) ∧ w = w' := by
  have C := place_any i h
  have hc := of_cases c i
  obtain ⟨k0, k1, k2, k3, k4, k5, k6, k7, kl, _⟩ := blk_cells8 h.blk
  clear h
  obtain ⟨a, b, up, p, q, ta, tb⟩ := c
  unfold costP
  unfold placeP at C
  simp only at C hc k0 k1 k2 k3 k4 k5 k6 k7 ⊢
  rcases hc with rfl | ⟨e1, rfl⟩ | ⟨e1, e2⟩
  · rw [if_pos rfl] at C ⊢
    have C := Lib.hid C
    cases up
    · rw [if_neg (by decide)]
      go_enter Try.func18, Try.ntmps18
      go_wp2_with (go_at_call 26; refine (C.out).mono ?_; rintro e w' ⟨rfl, rfl⟩)
      go_ret
      exact ⟨rfl, rfl⟩
    · rw [if_pos rfl]
      go_enter Try.func18, Try.ntmps18
      go_wp2_with (go_at_call 26; refine (C.out).mono ?_; rintro e w' ⟨rfl, rfl⟩)
      go_ret
      exact ⟨rfl, rfl⟩
  · rw [if_neg (by simpa using e1), if_pos rfl] at C
    have C := Lib.hid C
    cases up
    · rw [if_neg (by decide)]
      clear e1
      go_enter Try.func18, Try.ntmps18
      go_wp2_with (go_at_call 26; refine (C.out).mono ?_; rintro e w' ⟨rfl, rfl⟩)
      go_ret
      exact ⟨rfl, rfl⟩
    · rw [if_pos rfl]
      rw [if_neg (by simpa using e1), if_pos rfl]
      clear e1
      go_enter Try.func18, Try.ntmps18
      go_wp2_with (go_at_call 26; refine (C.out).mono ?_; rintro e w' ⟨rfl, rfl⟩)
      go_ret
      exact ⟨rfl, rfl⟩
  · rw [if_neg (by simpa using e1), if_neg (by simpa using e2)] at C
    have C := Lib.hid C
    rw [if_neg (show ¬ i = a by simpa using e1), if_neg (show ¬ i = b by simpa using e2), ite_self]
    clear e1 e2
    go_enter Try.func18, Try.ntmps18
    go_wp2_with (go_at_call 26; refine (C.out).mono ?_; rintro e w' ⟨rfl, rfl⟩)
    go_ret
    exact ⟨rfl, rfl⟩
/-- the queue of what is to come to a node -/
def toP (c : Cb) (g1 g2 : Nat) (i : Int) : Value := if i = c.a then ptr g1 else if i = c.b then ptr g2 else .pointer none
theorem to_any {base x g1 g2 : Nat} {v1 v2 : Value} {c : Cb} {w : World} (i : Int) (h : CAt w base x g1 g2 v1 v2 c) : Calls Try.prog 12 #[ptr x, .int .i64 i] w fun e w' => e = .returned (toP c g1 g2 i) ∧ w = w' := by
  have C := place_any i h
  have hc := of_cases c i
  obtain ⟨k0, k1, k2, k3, k4, k5, k6, k7, kl, _⟩ := blk_cells8 h.blk
  clear h
  obtain ⟨a, b, up, p, q, ta, tb⟩ := c
  unfold toP
  unfold placeP at C
  simp only at C hc k0 k1 k2 k3 k4 k5 k6 k7 ⊢
  rcases hc with rfl | ⟨e1, rfl⟩ | ⟨e1, e2⟩
  · rw [if_pos rfl] at C ⊢
    have C := Lib.hid C
    go_enter Try.func12, Try.ntmps12
    go_wp2_with (go_at_call 26; refine (C.out).mono ?_; rintro e w' ⟨rfl, rfl⟩)
    go_ret
    exact ⟨rfl, rfl⟩
  · rw [if_neg (by simpa using e1), if_pos rfl] at C ⊢
    have C := Lib.hid C
    clear e1
    go_enter Try.func12, Try.ntmps12
    go_wp2_with (go_at_call 26; refine (C.out).mono ?_; rintro e w' ⟨rfl, rfl⟩)
    go_ret
    exact ⟨rfl, rfl⟩
  · rw [if_neg (by simpa using e1), if_neg (by simpa using e2)] at C ⊢
    have C := Lib.hid C
    clear e1 e2
    go_enter Try.func12, Try.ntmps12
    go_wp2_with (go_at_call 26; refine (C.out).mono ?_; rintro e w' ⟨rfl, rfl⟩)
    go_ret
    exact ⟨rfl, rfl⟩
/-- what is sent -/
def sendTo (c : Cb) (i : Int) (xs : List Nat) : Cb × Int := if i = c.a then (if c.up = true then ({ c with tb := putQ c.tb xs }, putE c.tb) else (c, 3)) else if i = c.b then (if c.up = true then ({ c with ta := putQ c.ta xs }, putE c.ta) else (c, 3)) else (c, 1)
theorem sendTo_eq (c : Cb) (i : Int) (xs : List Nat) : sendTo c i xs = sendP c i xs := by
  unfold sendTo sendP putQ putE
  repeat' split
  all_goals first | rfl | omega
theorem send_any {base x g1 g2 : Nat} {v1 v2 u : Value} {c : Cb} {w : World} {xs : List Nat} (i : Int) (h : CAt w base x g1 g2 v1 v2 c) (hs : Sl w w.heap.size u xs) (hx : xs.length ≤ 200000) (h1 : c.ta.length ≤ 32) (h2 : c.tb.length ≤ 32) (hb : base ≤ w.heap.size) :
    Calls Try.prog 9 #[ptr x, .int .i64 i, u] w fun e w' => e = .returned (.int .i64 (sendTo c i xs).2) ∧ COut w base x g1 g2 v1 v2 w' (sendTo c i xs).1 := by
  have C := Lib.hid (isNone_no h)
  have PA := Lib.hid (put_any base g1 v1 u c.ta xs w h.qa hs hx h1 hb)
  have PB := Lib.hid (put_any base g2 v2 u c.tb xs w h.qb hs hx h2 hb)
  have hc := of_cases c i
  obtain ⟨k0, k1, k2, k3, k4, k5, k6, k7, kl, _⟩ := blk_cells8 h.blk
  have CP := place_any i h
  have HC := Lib.hid h; clear h
  obtain ⟨Au, nu, cu, rfl, _⟩ := id hs
  clear hs hx h1 h2
  obtain ⟨a, b, up, p, q, ta, tb⟩ := c
  unfold sendTo
  unfold placeP at CP
  simp only at CP hc k0 k1 k2 k3 k4 k5 k6 PA PB ⊢
  have HS := Lib.hid (HC.out.same (Below.refl _ _))
  rcases hc with rfl | ⟨e1, rfl⟩ | ⟨e1, e2⟩
  · rw [if_pos rfl] at CP ⊢
    have CP := Lib.hid CP
    cases up
    · rw [if_neg (by decide)]
      go_enter Try.func9, Try.ntmps9
      go_wp2_with (first | (go_at_call 25; refine (C.out).mono ?_; rintro e w' ⟨rfl, rfl⟩) | (go_at_call 26; refine (CP.out).mono ?_; rintro e w' ⟨rfl, rfl⟩))
      go_ret
      exact ⟨rfl, HS.out⟩
    · rw [if_pos rfl]
      go_enter Try.func9, Try.ntmps9
      go_wp2_with (first
        | (go_at_call 25; refine (C.out).mono ?_; rintro e w' ⟨rfl, rfl⟩)
        | (go_at_call 26; refine (CP.out).mono ?_; rintro e w' ⟨rfl, rfl⟩)
        | (go_at_call 27; refine (PB.out).mono ?_; rintro e w2 ⟨rfl, ho⟩; have HO := Lib.hid ho; clear ho))
      go_ret
      exact ⟨rfl, HC.out.didB HO.out⟩
  · rw [if_neg (by simpa using e1), if_pos rfl] at CP ⊢
    have CP := Lib.hid CP
    clear e1
    cases up
    · rw [if_neg (by decide)]
      go_enter Try.func9, Try.ntmps9
      go_wp2_with (first | (go_at_call 25; refine (C.out).mono ?_; rintro e w' ⟨rfl, rfl⟩) | (go_at_call 26; refine (CP.out).mono ?_; rintro e w' ⟨rfl, rfl⟩))
      go_ret
      exact ⟨rfl, HS.out⟩
    · rw [if_pos rfl]
      go_enter Try.func9, Try.ntmps9
      go_wp2_with (first
        | (go_at_call 25; refine (C.out).mono ?_; rintro e w' ⟨rfl, rfl⟩)
        | (go_at_call 26; refine (CP.out).mono ?_; rintro e w' ⟨rfl, rfl⟩)
        | (go_at_call 27; refine (PA.out).mono ?_; rintro e w2 ⟨rfl, ho⟩; have HO := Lib.hid ho; clear ho))
      go_ret
      exact ⟨rfl, HC.out.didA HO.out⟩
  · rw [if_neg (by simpa using e1), if_neg (by simpa using e2)] at CP ⊢
    have CP := Lib.hid CP
    clear e1 e2
    go_enter Try.func9, Try.ntmps9
    go_wp2_with (first | (go_at_call 25; refine (C.out).mono ?_; rintro e w' ⟨rfl, rfl⟩) | (go_at_call 26; refine (CP.out).mono ?_; rintro e w' ⟨rfl, rfl⟩))
    go_ret
    exact ⟨rfl, HS.out⟩
theorem within_any (p m : Int) (w : World) : Calls Try.prog 22 #[.int .i64 p, .int .i64 m] w fun e w' => e = .returned (.bool (decide (1 ≤ p) && decide (p ≤ m))) ∧ w = w' := by
  cases h0 : decide (1 ≤ p)
  · go_enter Try.func22, Try.ntmps22
    go_wp2
    go_ret
    exact ⟨rfl, rfl⟩
  · go_enter Try.func22, Try.ntmps22
    go_wp2
    go_ret
    exact ⟨ret_bool (by simp [*]), rfl⟩
theorem cleared_any {base x g1 g2 : Nat} {v1 v2 : Value} {c : Cb} {w : World} (h : CAt w base x g1 g2 v1 v2 c) : Calls Try.prog 28 #[ptr x] w fun e w' => e = .returned (.tuple #[]) ∧ COut w base x g1 g2 v1 v2 w' { c with ta := [], tb := [] } := by
  obtain ⟨k0, k1, k2, k3, k4, k5, k6, k7, kl, _⟩ := blk_cells8 h.blk
  have H := Lib.hid h; clear h
  have hx2 : (1 : Nat) = 1 := rfl
  have HX2 := Lib.hid hx2; clear hx2
  have i0 : ∀ w, (Instr.index 54 (.agg #[ptr g1, ptr g2]) (.int .i64 0)).run Try.prog w = .ok (ptr g1) w := fun _ => by kernel_rfl
  have i1 : ∀ w, (Instr.index 54 (.agg #[ptr g1, ptr g2]) (.int .i64 1)).run Try.prog w = .ok (ptr g2) w := fun _ => by kernel_rfl
  go_enter Try.func28, Try.ntmps28
  go_wp2
  refine wp_loop_rounds 3 ?_
  rw [rounds_succ]
  go_wp2_with (go_at_call 34; refine (clear_any _ _ _ _ _ H.out.qa).mono ?_; rintro e w3 ⟨rfl, ho⟩; obtain ⟨u1, u2, h3, ks3, l3⟩ := H.out.didA ho; have H3 := Lib.hid h3; have K3 := Lib.hid ks3; have L3 := Lib.hid l3; clear ho h3 ks3 l3)
  rw [rounds_succ]
  go_wp2_with (go_at_call 34; refine (clear_any _ _ _ _ _ H3.out.qb).mono ?_; rintro e w4 ⟨rfl, ho⟩; have HO := Lib.hid (H3.out.didB ho); clear ho)
  rw [rounds_succ]
  go_wp2
  go_end0
  exact ⟨rfl, COut.trans K3.out L3.out HO.out⟩
/-- stores into the cable's own block -/
theorem CAt.stored {base x g1 g2 : Nat} {v1 v2 : Value} {c c' : Cb} {w w' : World} (h : CAt w base x g1 g2 v1 v2 c) (hk : KS w w' (fun k => k = x)) (hb : CBlk w' x g1 g2 c') (ea : c'.ta = c.ta) (eb : c'.tb = c.tb) : CAt w' base x g1 g2 v1 v2 c' := by
  obtain ⟨e1, e2, e3, e4⟩ := h.xrow
  have hn : ∀ q, (fun k => k = x) q → NoBy w (some q) := fun q e => h.nob q (.inl e)
  refine ⟨hb, h.low, ⟨hk.blk h.qa.blk (Ne.symm e3), h.qa.low, ?_⟩, ⟨hk.blk h.qb.blk (Ne.symm e4), h.qb.low, ?_⟩, h.ne, h.row⟩
  · rw [ea]
    exact row_ks h.qa.row hk hn (fun q e e' => e1 (by rw [e]; exact congrArg some e'.symm))
  · rw [eb]
    exact row_ks h.qb.row hk hn (fun q e e' => e2 (by rw [e]; exact congrArg some e'.symm))
theorem set_ks (w : World) (x : Nat) (a b c : Value) : KS w (((w.setCell ⟨x, 3, none⟩ a).setCell ⟨x, 4, none⟩ b).setCell ⟨x, 5, none⟩ c) (fun k => k = x) := (((KS.of_below (S := fun k => k = x) (Below.refl _ w)).set (p := ⟨x, 3, none⟩) rfl a).set (p := ⟨x, 4, none⟩) rfl b).set (p := ⟨x, 5, none⟩) rfl c
theorem KS.more {w w' : World} {S T : Nat → Prop} (h : KS w w' S) (hT : ∀ q, S q → T q) : KS w w' T := ⟨h.os, h.tape, h.output, h.size, fun k hk hn => h.block k hk (fun e => hn (hT k e))⟩
theorem set_blk3 {w : World} {x g1 g2 : Nat} {c : Cb} {up : Bool} {p q : Int} (h : CBlk w x g1 g2 c) : CBlk (((w.setCell ⟨x, 3, none⟩ (.bool up)).setCell ⟨x, 4, none⟩ (.int .i64 p)).setCell ⟨x, 5, none⟩ (.int .i64 q)) x g1 g2 { c with up := up, p := p, q := q } := by
  have k := ((h.set_ 3 (.bool up)).set_ 4 (.int .i64 p)).set_ 5 (.int .i64 q)
  simp only [List.setIfInBounds_toArray, List.set_cons_zero, List.set_cons_succ] at k
  exact k
set_option maxRecDepth 20000 in
set_option maxHeartbeats 4000000 in
theorem set_any {base x g1 g2 : Nat} {v1 v2 : Value} {c : Cb} {w : World} (up : Bool) (p q : Int) (h : CAt w base x g1 g2 v1 v2 c) (hb : base ≤ w.heap.size) :
    Calls Try.prog 11 #[ptr x, .bool up, .agg #[.int .i64 p, .int .i64 q]] w fun e w' => e = .returned (.int .i64 (setP c up p q).2) ∧ COut w base x g1 g2 v1 v2 w' (setP c up p q).1 := by
  have hbx : Below w.heap.size w (w.alloc (.cells #[.int .i64 p, .int .i64 q] 28)) := (Below.refl _ w).alloc (Nat.le_refl _) _
  have h1 := h.below hbx
  have C := Lib.hid (isNone_no h1)
  have M1 := within_any p 1073741824 (w.alloc (.cells #[.int .i64 p, .int .i64 q] 28))
  have M2 := within_any q 1073741824 (w.alloc (.cells #[.int .i64 p, .int .i64 q] 28))
  unfold setP costOk
  cases hp : decide (1 ≤ p) && decide (p ≤ 1073741824)
  · rw [hp] at M1
    have M1 := Lib.hid M1
    have HS := Lib.hid (h.same hbx)
    clear M2 h h1
    rw [show (false && decide (1 ≤ q) && decide (q ≤ 1073741824)) = false by simp, if_neg (by decide)]
    go_enter Try.func11, Try.ntmps11
    go_wp2_with (first
      | (go_at_call 25; refine (C.out).mono ?_; rintro e w' ⟨rfl, rfl⟩)
      | (go_at_call 22; refine (M1.out).mono ?_; rintro e w' ⟨rfl, rfl⟩))
    go_ret
    exact ⟨rfl, HS.out⟩
  · cases hq : decide (1 ≤ q) && decide (q ≤ 1073741824)
    · rw [hp] at M1
      rw [hq] at M2
      have M1 := Lib.hid M1
      have M2 := Lib.hid M2
      have HS := Lib.hid (h.same hbx)
      have hx : (1 : Nat) = 1 := rfl
      have HX := Lib.hid hx; clear hx
      clear h h1
      rw [show (true && decide (1 ≤ q) && decide (q ≤ 1073741824)) = false by rw [Bool.true_and, hq], if_neg (by decide)]
      go_enter Try.func11, Try.ntmps11
      go_wp2_with (first
        | (go_at_call 25; refine (C.out).mono ?_; rintro e w' ⟨rfl, rfl⟩)
        | (have HY := HX; go_at_call 22; refine (M1.out).mono ?_; rintro e w' ⟨rfl, rfl⟩; clear HY HX)
        | (go_at_call 22; refine (M2.out).mono ?_; rintro e w' ⟨rfl, rfl⟩))
      go_ret
      exact ⟨rfl, HS.out⟩
    · rw [hp] at M1
      rw [hq] at M2
      rw [show (true && decide (1 ≤ q) && decide (q ≤ 1073741824)) = true by rw [Bool.true_and, hq], if_pos rfl]
      have M1 := Lib.hid M1
      have M2 := Lib.hid M2
      have hx : (1 : Nat) = 1 := rfl
      have HX := Lib.hid hx; clear hx
      have hbd : Below w.heap.size w (w.alloc (.cells #[.int .i64 p, .int .i64 q] 28)).drew := hbx.drew
      have h2 := h.below hbd
      have hst := h2.stored (set_ks _ x (.bool up) (.int .i64 p) (.int .i64 q)) (set_blk3 h2.blk) rfl rfl
      have hks : KS w _ (CS x g1 g2 v1 v2) := (KS.of_below hbd).trans (T := fun k => k = x) (set_ks _ x (.bool up) (.int .i64 p) (.int .i64 q)) (fun q e => .inl (.inl e))
      have HST := Lib.hid hst; clear hst
      have HKS := Lib.hid hks; clear hks
      obtain ⟨k0, k1, k2, k3, k4, k5, k6, k7, kl, f3, f4, f5⟩ := blk_cells8 h1.blk
      clear h h1 h2 hp hq
      cases up
      · simp only [Bool.false_eq_true, if_false]
        go_enter Try.func11, Try.ntmps11
        go_wp2_with (first
          | (go_at_call 25; refine (C.out).mono ?_; rintro e w' ⟨rfl, rfl⟩)
          | (have HY := HX; go_at_call 22; refine (M1.out).mono ?_; rintro e w' ⟨rfl, rfl⟩; clear HY HX)
          | (go_at_call 22; refine (M2.out).mono ?_; rintro e w' ⟨rfl, rfl⟩))
        go_region_law (fail)
        all_goals
          (go_wp2_with (go_at_call 28; refine (cleared_any HST.out).mono ?_; rintro e w3 ⟨rfl, ho⟩; have HO := Lib.hid ho; clear ho)
           go_ret
           exact ⟨rfl, COut.trans HKS.out (fun q e => .inl e) HO.out⟩)
      · simp only [if_true]
        go_enter Try.func11, Try.ntmps11
        go_wp2_with (first
          | (go_at_call 25; refine (C.out).mono ?_; rintro e w' ⟨rfl, rfl⟩)
          | (have HY := HX; go_at_call 22; refine (M1.out).mono ?_; rintro e w' ⟨rfl, rfl⟩; clear HY HX)
          | (go_at_call 22; refine (M2.out).mono ?_; rintro e w' ⟨rfl, rfl⟩))
        go_region_law (fail)
        all_goals
          (go_wp2
           go_ret
           exact ⟨rfl, COut.trans HKS.out (fun q e => .inl e) (HST.out.same (Below.refl _ _))⟩)
def newOk (a b : Int) : Bool := decide (1 ≤ a) && decide (a < b) && decide (b ≤ 64)
theorem new_no (a b : Int) (w : World) (h : newOk a b = false) : Calls Try.prog 6 #[.int .i64 a, .int .i64 b] w fun e w' => e = .returned (.tuple #[.pointer none, .int .i64 1]) ∧ Below w.heap.size w w' := by
  have hc : b ≤ a ∨ (a < b ∧ (decide (1 ≤ a) && decide (a ≤ 64)) = false) ∨ (a < b ∧ (decide (1 ≤ a) && decide (a ≤ 64)) = true ∧ (decide (1 ≤ b) && decide (b ≤ 64)) = false) := by
    unfold newOk at h
    simp only [Bool.and_eq_false_iff, decide_eq_false_iff_not, Bool.and_eq_true, decide_eq_true_eq] at h ⊢
    omega
  clear h
  have A := within_any a 64 w
  have B := within_any b 64 w
  have hx : (1 : Nat) = 1 := rfl
  have HX := Lib.hid hx; clear hx
  have HB := Lib.hid (Below.refl w.heap.size w)
  rcases hc with hc | ⟨hc, hd⟩ | ⟨hc, hd, he⟩
  · have d1 : decide (b ≤ a) = true := by simp; omega
    have A := Lib.hid A
    have B := Lib.hid B
    clear hc
    go_enter Try.func6, Try.ntmps6
    go_wp2
    go_ret2
    exact ⟨rfl, HB.out⟩
  · have d1 : decide (b ≤ a) = false := by simp; omega
    rw [hd] at A
    have A := Lib.hid A
    have B := Lib.hid B
    clear hc hd
    go_enter Try.func6, Try.ntmps6
    go_wp2_with (go_at_call 22; refine (A.out).mono ?_; rintro e w' ⟨rfl, rfl⟩)
    go_ret2
    exact ⟨rfl, HB.out⟩
  · have d1 : decide (b ≤ a) = false := by simp; omega
    rw [hd] at A
    rw [he] at B
    have A := Lib.hid A
    have B := Lib.hid B
    clear hc hd he
    go_enter Try.func6, Try.ntmps6
    go_wp2_with (first
      | (have HY := HX; go_at_call 22; refine (A.out).mono ?_; rintro e w' ⟨rfl, rfl⟩; clear HY HX)
      | (go_at_call 22; refine (B.out).mono ?_; rintro e w' ⟨rfl, rfl⟩))
    go_ret2
    exact ⟨rfl, HB.out⟩
theorem new_yes (a b : Int) (w : World) (h : newOk a b = true) : Calls Try.prog 6 #[.int .i64 a, .int .i64 b] w fun e w' => ∃ x g1 g2 v1 v2, e = .returned (.tuple #[ptr x, .int .i64 0]) ∧ CAt w' w.heap.size x g1 g2 v1 v2 ⟨a, b, false, 1, 1, [], []⟩ ∧ Below w.heap.size w w' := by
  unfold newOk at h
  simp only [Bool.and_eq_true, decide_eq_true_eq] at h
  obtain ⟨⟨hc, hd⟩, he⟩ := h
  have d1 : decide (b ≤ a) = false := by simp; omega
  have A := within_any a 64 w
  have B := within_any b 64 w
  rw [show (decide (1 ≤ a) && decide (a ≤ 64)) = true by simp; omega] at A
  rw [show (decide (1 ≤ b) && decide (b ≤ 64)) = true by simp; omega] at B
  have A := Lib.hid A
  have B := Lib.hid B
  clear hc hd he
  have hx : (1 : Nat) = 1 := rfl
  have HX := Lib.hid hx
  have HZ := Lib.hid hx; clear hx
  have N := Lib.hid (fun W (hb : w.heap.size ≤ W.heap.size) => new_any w.heap.size W hb)
  go_enter Try.func6, Try.ntmps6
  go_wp2_with (first
    | (have HY := HZ; go_at_call 22; refine (A.out).mono ?_; rintro e w' ⟨rfl, rfl⟩; clear HY HZ)
    | (go_at_call 22; refine (B.out).mono ?_; rintro e w' ⟨rfl, rfl⟩)
    | (have HY := HX; go_at_call 23; refine (N.out _ (Nat.le_refl _)).mono ?_; rintro e w1 ⟨rfl, h1, hb1⟩; have H1 := Lib.hid h1; have HB1 := Lib.hid hb1; clear h1 hb1 HX HY)
    | (go_at_call 23; refine (N.out _ HB1.out.size).mono ?_; rintro e w2 ⟨rfl, h2, hb2⟩; have H2 := Lib.hid h2; have HB2 := Lib.hid hb2; clear h2 hb2))
  go_ret2
  have hb := (Below.refl w2.heap.size w2).alloc (Nat.le_refl _) (.cells #[.bool true, .int .i64 a, .int .i64 b, .bool false, .int .i64 1, .int .i64 1, ptr w.heap.size, ptr w1.heap.size] 56)
  have s1 := HB1.out.size
  have s2 := HB2.out.size
  exact ⟨_, _, _, _, _, rfl, ⟨Blk.new w2 _ _, by omega, (H1.out.below HB2.out).below hb, H2.out.below hb, by have := H1.out.blk.lt; omega, fun q e => by simp [Value.ownBlock] at e⟩, ((HB1.out.trans (HB2.out.mono s1)).trans (hb.mono (by omega)))⟩
end Go.Proofs.Ytkflbhaomoaonaa.Cab
