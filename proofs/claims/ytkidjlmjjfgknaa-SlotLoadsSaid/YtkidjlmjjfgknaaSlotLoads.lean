/- SlotLoads (layer 7): what any slots have, which one is better, and their greatest mark. (The walk was printed by tools/slot/loads.py, the lift by lift.py.) -/
import Derived.Test.YtkidjlmjjfgknaaSlotAwake
import Derived.IntWalk
import Derived.WalkKit
import Derived.ProofKit
import Derived.OpenShut
import Derived.ShutString
import Derived.ChangeOld
import Derived.Below
namespace Go.Proofs.Ytkidjlmjjfgknaa.slotLoads
open Go.RowKit Go.Proofs.Ytkidjlmjjfgknaa.Mem Go.Proofs.Ytkidjlmjjfgknaa.Oct Go.Proofs.Ytkidjlmjjfgknaa.Pg Go.Proofs.Ytkidjlmjjfgknaa.Rcd Go.Proofs.Ytkidjlmjjfgknaa.Slt
set_option linter.unusedVariables false
set_option linter.unusedSimpArgs false
theorem better_at (A A' : Option Addr) (n n' c c' : Nat) (ss ts : List (List Nat)) (w W : World) (hW : Below w.heap.size w W) (h : Sls w w.heap.size (.slice A n c) ss) (h' : Sls w w.heap.size (.slice A' n' c') ts) (hn : n ≤ 1000) (hn' : n' ≤ 1000) (hA : A = none → c = 0) (hA' : A' = none → c' = 0) (hlen : ∀ s ∈ ss, s.length ≤ 600) (hlen' : ∀ s ∈ ts, s.length ≤ 600) :
    Calls Try.prog 9 #[.slice A n c, .slice A' n' c'] W fun e w' => ∃ A1 n1 c1, e = .returned (.tuple #[.agg #[.int .i64 ((better ss ts).getD (0, [])).1, .slice A1 n1 c1], .bool (better ss ts).isSome]) ∧ Bts w' w'.heap.size A1 n1 ((better ss ts).getD (0, [])).2 ∧ Below W.heap.size W w' := by
  refine (better_any A A' n n' c c' ss ts W (h.up hW) (h'.up hW) hn hn' hA hA' hlen hlen').mono ?_
  rintro e w' ⟨v', rfl, ⟨vb, rfl, A1, n1, c1, rfl, hb⟩, hb2⟩
  exact ⟨A1, n1, c1, rfl, hb, hb2⟩
theorem rbetter_at (A A' : Option Addr) (n n' c c' : Nat) (ss ts : List (List Nat)) (w W : World) (hW : Below w.heap.size w W) (h : Sls w w.heap.size (.slice A n c) ss) (h' : Sls w w.heap.size (.slice A' n' c') ts) (hn : n ≤ 1000) (hn' : n' ≤ 1000) (hlen : ∀ s ∈ ss, s.length ≤ 600) (hlen' : ∀ s ∈ ts, s.length ≤ 600) :
    Calls Try.prog 11 #[.slice A n c, .slice A' n' c'] W fun e w' => ∃ A1 n1 c1, e = .returned (.tuple #[.agg #[.int .i64 ((better ss ts).getD (0, [])).1, .slice A1 n1 c1], .bool (better ss ts).isSome]) ∧ Bts w' w'.heap.size A1 n1 ((better ss ts).getD (0, [])).2 ∧ Below W.heap.size W w' := by
  refine (rbetter_any A A' n n' c c' ss ts W (h.up hW) (h'.up hW) hn hn' hlen hlen').mono ?_
  rintro e w' ⟨v', rfl, ⟨vb, rfl, A1, n1, c1, rfl, hb⟩, hb2⟩
  exact ⟨A1, n1, c1, rfl, hb, hb2⟩
set_option maxRecDepth 20000 in
set_option maxHeartbeats 8000000 in
theorem loads_true (A A' : Option Addr) (n n' c c' : Nat) (w : World) (h : IsRecs w A n c 1 (fun _ v => RowOf .u8 w v)) (h' : IsRecs w A' n' c' 1 (fun _ v => RowOf .u8 w v)) :
    Calls Try.prog 3 #[.slice A n c, .slice A' n' c'] w fun e w' => e = .returned (.bool true) ∧ Below w.heap.size w w' := by
  have li := slight_any A n c w w (Below.refl _ _) h
  have li2 := fun (W : World) (hW : Below w.heap.size w W) => slight_any A' n' c' W w hW h'
  have HR := Lib.hid h; clear h
  have HR' := Lib.hid h'; clear h'
  have LI := Lib.hid li; clear li
  have LI2 := Lib.hid li2; clear li2
  go_enter Try.func3, Try.ntmps3
  go_wp2_with fail
  refine (LI.out).mono ?_
  rintro e w1 ⟨ok, rfl, hok, m, rfl⟩
  have HB := Lib.hid (below_drewN (Below.refl w.heap.size w) m)
  cases ok
  · go_wp2_with (go_at_call 7; refine (awake7_any _).mono ?_; rintro e w2 ⟨rfl, hb2⟩; have HB2 := Lib.hid (below_up (w := w) hb2 (by with_reducible repeat (first | exact Below.refl _ _ | refine below_drewN ?_ _ | refine pdrew ?_))); clear hb2)
    go_ret
    exact ⟨rfl, HB2.out⟩
  · obtain ⟨hn, hs⟩ := hok rfl
    clear hok
    go_wp2_with fail
    refine (LI2.out _ ?hb0).mono ?_
    case hb0 => with_reducible repeat (first | exact Below.refl _ _ | refine below_drewN ?_ _ | refine pdrew ?_)
    rintro e w1 ⟨ok, rfl, hok, m2, rfl⟩
    have HBm := Lib.hid (below_drewN HB.out m2)
    clear HB
    have HB := HBm
    clear HBm
    cases ok
    · go_wp2_with (go_at_call 7; refine (awake7_any _).mono ?_; rintro e w2 ⟨rfl, hb2⟩; have HB2 := Lib.hid (below_up (w := w) hb2 (by with_reducible repeat (first | exact Below.refl _ _ | refine below_drewN ?_ _ | refine pdrew ?_))); clear hb2)
      go_ret
      exact ⟨rfl, HB2.out⟩
    · obtain ⟨hn', hs'⟩ := hok rfl
      clear hok
      obtain ⟨ss, hsl, hlen⟩ := sls_in HR.out hs
      obtain ⟨ts, hsl', hlen'⟩ := sls_in HR'.out hs'
      have hA := recs_none HR.out
      have hA' := recs_none HR'.out
      have l1 := fun (W : World) (hW : Below w.heap.size w W) => load_at A n c ss w W hW hsl (by omega) hA hlen
      have l2 := fun (W : World) (hW : Below w.heap.size w W) => better_at A A' n n' c c' ss ts w W hW hsl hsl' (by omega) (by omega) hA hA' hlen hlen'
      have l3 := fun (W : World) (hW : Below w.heap.size w W) => rload_at A n c ss w W hW hsl (by omega) hlen
      have l4 := fun (W : World) (hW : Below w.heap.size w W) => rbetter_at A A' n n' c c' ss ts w W hW hsl hsl' (by omega) (by omega) hlen hlen'
      have l5 := fun (W : World) (hW : Below w.heap.size w W) => mark_any A n c ss W (hsl.up hW) (by omega) hlen
      have l6 := fun (W : World) (hW : Below w.heap.size w W) => rmark_any A n c ss W (hsl.up hW) (by omega) hlen
      obtain ⟨oa, hoa⟩ : ∃ oa, oa = (loaded ss).isSome := ⟨_, rfl⟩
      obtain ⟨xa, hxa⟩ : ∃ xa, xa = theB ss := ⟨_, rfl⟩
      obtain ⟨ob, hob⟩ : ∃ ob, ob = (better ss ts).isSome := ⟨_, rfl⟩
      obtain ⟨xb, hxb⟩ : ∃ xb, xb = (better ss ts).getD (0, []) := ⟨_, rfl⟩
      obtain ⟨mm, hmm⟩ : ∃ mm, mm = markOf ss := ⟨_, rfl⟩
      rw [← hoa, ← hxa] at l1 l3
      rw [← hob, ← hxb] at l2 l4
      rw [← hmm] at l5 l6
      obtain ⟨ga, ba⟩ := xa
      obtain ⟨gb, bb⟩ := xb
      simp only at l1 l2 l3 l4
      clear hoa hxa hob hxb hmm hlen hlen' hsl hsl' hs hs' HR HR' hA hA' hn hn'
      have L1 := Lib.hid l1; clear l1
      have L2 := Lib.hid l2; clear l2
      have L3 := Lib.hid l3; clear l3
      have L4 := Lib.hid l4; clear l4
      have L5 := Lib.hid l5; clear l5
      have L6 := Lib.hid l6; clear l6
      have hqa : (oa == oa) = true := by simp
      have hqb : (ob == ob) = true := by simp
      have hqm : (mm == mm) = true := by simp
      have HM0 := Lib.hid (rfl : (0 : Nat) = 0)
      go_wp2_with (first
        | (go_at_call 8; refine (L1.out _ ?hb1).mono ?_; (case hb1 => with_reducible repeat (first | exact Below.refl _ _ | refine below_drewN ?_ _ | refine pdrew ?_)); rintro e w1 ⟨A1, n1, c1, rfl, hbt, hb⟩; have K1_1 := Lib.hid (Blk.new w1 27 #[.int .i64 ga, .slice A1 n1 c1]); have T1_1 := Lib.hid (bts_up hbt (palloc (Below.refl _ _) (Obj.cells #[.int .i64 ga, .slice A1 n1 c1] 27))); have HB1 := Lib.hid (palloc (below_up (w := w) hb (by with_reducible repeat (first | exact Below.refl _ _ | refine below_drewN ?_ _ | refine pdrew ?_))) (Obj.cells #[.int .i64 ga, .slice A1 n1 c1] 27)); clear hb hbt)
        | (go_at_call 9; refine (L2.out _ HB1.out).mono ?_; rintro e w2 ⟨A2, n2, c2, rfl, hbt, hb⟩; have K1_2 := Lib.hid ((K1_1.out.below hb K1_1.out.lt).alloc (Obj.cells #[.int .i64 gb, .slice A2 n2 c2] 27)); have T1_2 := Lib.hid (bts_up (bts_up T1_1.out hb) (palloc (Below.refl _ _) (Obj.cells #[.int .i64 gb, .slice A2 n2 c2] 27))); have K2_2 := Lib.hid (Blk.new w2 27 #[.int .i64 gb, .slice A2 n2 c2]); have T2_2 := Lib.hid (bts_up hbt (palloc (Below.refl _ _) (Obj.cells #[.int .i64 gb, .slice A2 n2 c2] 27))); have HB2 := Lib.hid (palloc (HB1.out.trans (hb.mono HB1.out.size)) (Obj.cells #[.int .i64 gb, .slice A2 n2 c2] 27)); clear hb hbt)
        | (go_at_call 10; refine (L3.out _ HB2.out).mono ?_; rintro e w3 ⟨A3, n3, c3, rfl, hbt, hb⟩; have K1_3 := Lib.hid ((K1_2.out.below hb K1_2.out.lt).alloc (Obj.cells #[.int .i64 ga, .slice A3 n3 c3] 27)); have T1_3 := Lib.hid (bts_up (bts_up T1_2.out hb) (palloc (Below.refl _ _) (Obj.cells #[.int .i64 ga, .slice A3 n3 c3] 27))); have K2_3 := Lib.hid ((K2_2.out.below hb K2_2.out.lt).alloc (Obj.cells #[.int .i64 ga, .slice A3 n3 c3] 27)); have T2_3 := Lib.hid (bts_up (bts_up T2_2.out hb) (palloc (Below.refl _ _) (Obj.cells #[.int .i64 ga, .slice A3 n3 c3] 27))); have K3_3 := Lib.hid (Blk.new w3 27 #[.int .i64 ga, .slice A3 n3 c3]); have T3_3 := Lib.hid (bts_up hbt (palloc (Below.refl _ _) (Obj.cells #[.int .i64 ga, .slice A3 n3 c3] 27))); have HB3 := Lib.hid (palloc (HB2.out.trans (hb.mono HB2.out.size)) (Obj.cells #[.int .i64 ga, .slice A3 n3 c3] 27)); clear hb hbt)
        | (go_at_call 11; refine (L4.out _ HB3.out).mono ?_; rintro e w4 ⟨A4, n4, c4, rfl, hbt, hb⟩; have K1_4 := Lib.hid ((K1_3.out.below hb K1_3.out.lt).alloc (Obj.cells #[.int .i64 gb, .slice A4 n4 c4] 27)); have T1_4 := Lib.hid (bts_up (bts_up T1_3.out hb) (palloc (Below.refl _ _) (Obj.cells #[.int .i64 gb, .slice A4 n4 c4] 27))); have K2_4 := Lib.hid ((K2_3.out.below hb K2_3.out.lt).alloc (Obj.cells #[.int .i64 gb, .slice A4 n4 c4] 27)); have T2_4 := Lib.hid (bts_up (bts_up T2_3.out hb) (palloc (Below.refl _ _) (Obj.cells #[.int .i64 gb, .slice A4 n4 c4] 27))); have K3_4 := Lib.hid ((K3_3.out.below hb K3_3.out.lt).alloc (Obj.cells #[.int .i64 gb, .slice A4 n4 c4] 27)); have T3_4 := Lib.hid (bts_up (bts_up T3_3.out hb) (palloc (Below.refl _ _) (Obj.cells #[.int .i64 gb, .slice A4 n4 c4] 27))); have K4_4 := Lib.hid (Blk.new w4 27 #[.int .i64 gb, .slice A4 n4 c4]); have T4_4 := Lib.hid (bts_up hbt (palloc (Below.refl _ _) (Obj.cells #[.int .i64 gb, .slice A4 n4 c4] 27))); have HB4 := Lib.hid (palloc (HB3.out.trans (hb.mono HB3.out.size)) (Obj.cells #[.int .i64 gb, .slice A4 n4 c4] 27)); have x1_0 := K1_4.out.cell 0; have x1_1 := K1_4.out.cell 1; have x2_0 := K2_4.out.cell 0; have x2_1 := K2_4.out.cell 1; have x3_0 := K3_4.out.cell 0; have x3_1 := K3_4.out.cell 1; have x4_0 := K4_4.out.cell 0; have x4_1 := K4_4.out.cell 1; simp at x1_0 x1_1 x2_0 x2_1 x3_0 x3_1 x4_0 x4_1; clear hb hbt)
        | (have HM1 := HM0; go_at_call 12; refine (bsame_any ga ga A1 A3 n1 n3 c1 c3 ba ba _ T1_4.out T3_4.out).mono ?_; rintro e w5 ⟨rfl, hb⟩; rw [decide_eq_true rfl]; clear HM0; have HM2 := HM1; clear HM1; have y2_0 := (K2_4.out.below hb K2_4.out.lt).cell 0; have y2_1 := (K2_4.out.below hb K2_4.out.lt).cell 1; have y4_0 := (K4_4.out.below hb K4_4.out.lt).cell 0; have y4_1 := (K4_4.out.below hb K4_4.out.lt).cell 1; simp at y2_0 y2_1 y4_0 y4_1; have T2_5 := Lib.hid (bts_up T2_4.out hb); have T4_5 := Lib.hid (bts_up T4_4.out hb); have HB5 := Lib.hid (HB4.out.trans (hb.mono HB4.out.size)); clear hb)
        | (have HM3 := HM2; go_at_call 12; refine (bsame_any gb gb A2 A4 n2 n4 c2 c4 bb bb _ T2_5.out T4_5.out).mono ?_; rintro e w6 ⟨rfl, hb⟩; rw [decide_eq_true rfl]; clear HM2 HM3; have HB6 := Lib.hid (HB5.out.trans (hb.mono HB5.out.size)); clear hb)
        | (go_at_call 13; refine (L5.out _ HB6.out).mono ?_; rintro e w7 ⟨rfl, hb⟩; have HB7 := Lib.hid (HB6.out.trans (hb.mono HB6.out.size)); clear hb)
        | (go_at_call 14; refine (L6.out _ HB7.out).mono ?_; rintro e w8 ⟨rfl, hb⟩; have HB8 := Lib.hid (HB7.out.trans (hb.mono HB7.out.size)); clear hb)
        | (go_at_call 7; refine (awake7_any _).mono ?_; rintro e w9 ⟨rfl, hb⟩; have HB9 := Lib.hid (HB8.out.trans (hb.mono HB8.out.size)); clear hb))
      go_ret
      exact ⟨rfl, HB9.out⟩
open Go.ChangeShapes Go.WideShapes Go.ChangeAt Go.RowKit
theorem own : ownKnob Try.prog.godebug = none := by kernel_rfl
theorem laidOut : laidOutB Try.prog = true := by kernel_rfl
theorem walk (a0 : Option Addr) (len0 cap0 : Nat) (a1 : Option Addr) (len1 cap1 : Nat) (w : World) (w0 : IsRecs w a0 len0 cap0 1 (fun _ v => RowOf .u8 w v)) (w1 : IsRecs w a1 len1 cap1 1 (fun _ v => RowOf .u8 w v)) :
    Calls Try.prog 3 #[.slice a0 len0 cap0, .slice a1 len1 cap1] w fun e w' => e = .returned (.bool true) ∧ Below w.heap.size w w' := loads_true a0 a1 len0 len1 cap0 cap1 w w0 w1
/-! the step from the walk to the row -/
set_option maxRecDepth 100000 in
theorem lifted (os : Os) (started : os.Started) (H : Type) (enc : TypeId × Value → H) :
    ReturnsInHanded {} Try.checked os 3 .any (Rows.slotLoadsSpec.pre6 enc Try.prog Try.f3 Rows.slotLoadsRow.domain false) (Rows.slotLoadsSpec.post enc Try.prog Try.f3 false true false false) := by
  refine returnsInHanded_of_change (C := Try.checked) own started (by kernel_rfl) Try.func3
    (ChangeSpec.witness6 (enc := enc) (C := Try.checked) false ⟨#[], #[.slice none 0 0, .slice none 0 0], []⟩ 8 (by kernel_rfl) (by kernel_rfl) (by kernel_rfl) (by kernel_rfl)) ?_
  intro W base args ds gs before hval0 hW hcnd _
  have hval : ∀ (j : Nat) t v, Try.f3.params[j]? = some t → args[j]? = some v → Value.okWide Try.prog W .any base t v := hval0
  have hW' := hW
  obtain ⟨p, q, hA0, hV, rfl, hfz, hnd⟩ := hW
  have hA : DataW.TrodAll enc Try.prog W 0 (fun _ => true) true Try.f3.params.toList args.toList ds p := hA0
  rw [Try.params3] at hA hval
  obtain ⟨v0, vs0, d0, ds0, p0, q0, hargs, rfl, rfl, h0, r0⟩ := trodAll_cons hA
  obtain ⟨v1, vs1, d1, ds1, p1, q1, rfl, rfl, rfl, h1, r1⟩ := trodAll_cons r0
  obtain ⟨rfl, rfl, rfl⟩ := trodAll_nil r1
  obtain rfl : args = #[v0, v1] := by cases args; simp_all
  obtain ⟨rfl, rfl⟩ := trodVars_none hV
  obtain ⟨a0, len0, cap0, rfl⟩ := okWide_slice Try.underlying22 (hval 0 22 v0 rfl rfl)
  have k0 := h0
  have lt0 : ∀ x ∈ p0, x.block < W.heap.size := by obtain ⟨m, hm⟩ := k0; exact DataW.trod_lt m _ _ _ hm
  have w0 : IsRecs W a0 len0 cap0 1 (fun _ v => RowOf .u8 W v) := by
    obtain ⟨fuel, hf⟩ := h0
    rcases Go.Deep.open_slice1 Try.underlying22 (by kernel_rfl) hf with ⟨hcs, _⟩ | ⟨x, l, c, m, n, V, D, Pl, hcs, _, hl, hm, hmm, _, hx⟩
    · simp [Value.cells] at hcs
      obtain ⟨rfl, rfl, rfl⟩ := hcs
      exact .inl ⟨rfl, rfl, rfl⟩
    · simp [Value.cells] at hcs
      obtain ⟨rfl, rfl, rfl⟩ := hcs
      refine .inr ⟨_, rfl, hl, hm, fun i hi j hj => ?_⟩
      obtain rfl : j = 0 := by omega
      obtain ⟨h1, h2⟩ := hx i (by rw [hmm, if_pos rfl]; exact hi)
      exact ⟨V i, by rw [Nat.mul_one, Nat.add_zero]; exact h1, open_row_at Try.underlying25 Try.underlying5 (by kernel_rfl) h2⟩
  obtain ⟨a1, len1, cap1, rfl⟩ := okWide_slice Try.underlying22 (hval 1 22 v1 rfl rfl)
  have k1 := h1
  have lt1 : ∀ x ∈ p1, x.block < W.heap.size := by obtain ⟨m, hm⟩ := k1; exact DataW.trod_lt m _ _ _ hm
  have w1 : IsRecs W a1 len1 cap1 1 (fun _ v => RowOf .u8 W v) := by
    obtain ⟨fuel, hf⟩ := h1
    rcases Go.Deep.open_slice1 Try.underlying22 (by kernel_rfl) hf with ⟨hcs, _⟩ | ⟨x, l, c, m, n, V, D, Pl, hcs, _, hl, hm, hmm, _, hx⟩
    · simp [Value.cells] at hcs
      obtain ⟨rfl, rfl, rfl⟩ := hcs
      exact .inl ⟨rfl, rfl, rfl⟩
    · simp [Value.cells] at hcs
      obtain ⟨rfl, rfl, rfl⟩ := hcs
      refine .inr ⟨_, rfl, hl, hm, fun i hi j hj => ?_⟩
      obtain rfl : j = 0 := by omega
      obtain ⟨h1, h2⟩ := hx i (by rw [hmm, if_pos rfl]; exact hi)
      exact ⟨V i, by rw [Nat.mul_one, Nat.add_zero]; exact h1, open_row_at Try.underlying25 Try.underlying5 (by kernel_rfl) h2⟩
  clear hA0 hval0
  refine (walk a0 len0 cap0 a1 len1 cap1 W w0 w1).mono fun e W' ⟨he, bel⟩ => ?_
  subst he
  exact ⟨_, rfl, _, _, _, [], _, [], hW', trodAll_mk1 (shut_bool Try.underlying4 _), (trodAll_cons_mk (Below.trod laidOut (by kernel_rfl) (of_decide_eq_true (by kernel_rfl)) k0 bel lt0) (trodAll_cons_mk (Below.trod laidOut (by kernel_rfl) (of_decide_eq_true (by kernel_rfl)) k1 bel lt1) trodAll_mk0)), rfl, bel.frame _, fun h => by cases h⟩

theorem over : Rows.slotLoadsRow.holds Try.pinned (OpenSpec.ofChange Rows.slotLoadsSpec) :=
  OpenClaim.holds_of_wide 3 Try.f3 rfl rfl rfl rfl rfl rfl rfl ⟨rfl, rfl, rfl, rfl, rfl⟩ rfl rfl rfl rfl rfl (by kernel_rfl) Try.func3 (by kernel_rfl)
    (of_decide_eq_true (by kernel_rfl)) (by unfold Func.isWrapper; first | (rw [if_pos (by decide +kernel)]; kernel_rfl) | (rw [if_neg (by decide +kernel)]; exact ⟨rfl, rfl⟩))
    (fun os started H enc _ => lifted os started H enc)

/-- the statement -/
theorem proved : Rows.SlotLoadsSaid := over
end Go.Proofs.Ytkidjlmjjfgknaa.slotLoads
