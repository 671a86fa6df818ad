/- A queue's put and Put (layer 15). -/
import Derived.Test.YtkflbhaomoaonaaQuNew
import Derived.Deep.RegionHeld3
import Derived.Shelf.Abstract
namespace Go.Proofs.Ytkflbhaomoaonaa.Que
open Go.RowKit Go.Proofs.Ytkflbhaomoaonaa.Mem
set_option linter.unusedVariables false
set_option linter.unusedSimpArgs false
theorem step_calls {P : Program} {ops : Array Oper} {o : Oper} {a : Act} {w : World} {K : Act → World → Prop} {Q : Exit → Act → World → Prop} {E : Prop} (hgd : o.guard = none) (f : FuncId) (args : Array Operand) (tys : Array TypeId)
    (ho : o.op = .call { callee := .value (.func f), args := args, argTypes := tys }) (vs : Array Value) (hv : args.map a.eval = vs) (hen : ∀ (args : Array Value) (w : World), (callFunc f args).run P w = .ok (.enter f args) w)
    {R : Ending → World → Prop} (hc : Calls P f vs w R) (h : ∀ e w', R e w' → ∃ v, e = .returned v ∧ K (a.put o.dst v) w') : if Region.wanted o (yielded ops a.tmps) = true then Oper.wp P o a w K Q else E := by
  have hw : Region.wanted o (yielded ops a.tmps) = true := by simp [Region.wanted, hgd]
  rw [if_pos hw]
  have hrun : (execOp a.eval o).run P w = .ok (.enter f vs) w := by
    unfold execOp
    simp [ho, resolve, invoke, Act.eval, Deferred.ofValue, Result.andThen]
    have hv' : Array.map (fun x => a.eval x) args = vs := hv
    rw [hv']
    exact hen vs w
  unfold Oper.wp
  rw [hrun]
  show Calls P f vs w _
  refine hc.mono fun e w' hr => ?_
  obtain ⟨v, rfl, hk⟩ := h e w' hr
  exact hk
def putE (ts : List (List Nat)) : Int := if ts.length < 32 then 0 else 4
def putQ (ts : List (List Nat)) (xs : List Nat) : List (List Nat) := if ts.length < 32 then ts ++ [xs] else ts
set_option maxRecDepth 20000 in
set_option maxHeartbeats 4000000 in
theorem put_in (base g : Nat) (v u : Value) (ts : List (List Nat)) (xs : List Nat) (w : World) (h : QAt w base g v ts) (hs : Sl w w.heap.size u xs) (hx : xs.length ≤ 200000) (hl : ts.length ≤ 32) (hb : base ≤ w.heap.size) :
    Calls Try.prog 33 #[ptr g, u] w fun e w' => e = .returned (.int .i64 (putE ts)) ∧ QOut w base g v w' (putQ ts xs) := by
  obtain ⟨c0, c1, f1, hlt⟩ := h.cells
  obtain ⟨A, n, c, rfl, hn, h1, h2⟩ := slRow_form2 h.row
  unfold putE putQ
  by_cases hf : ts.length < 32
  · rw [if_pos hf, if_pos hf]
    have CL := Lib.hid (fun (W : World) (hw : Below w.heap.size w W) => clone_any u xs W ((hs.below hw (Nat.le_refl _)).more hw.size) hx)
    obtain ⟨Au, nu, cu, rfl, _⟩ := id hs
    have HEN := Lib.hid (enters_of Try.func32 (by kernel_rfl) rfl)
    have HQ := Lib.hid h; clear h
    have HL := Lib.hid hl; clear hl
    have HB := Lib.hid hb; clear hb
    rw [hn] at hf
    have hd : decide (32 ≤ (n : Int)) = false := by simp only [decide_eq_false_iff_not]; omega
    have HN := Lib.hid hn; clear hn hf
    go_enter Try.func33, Try.ntmps33
    go_wp2_with (fail)
    go_region_law (first
      | (refine step_calls rfl 32 _ _ rfl #[.slice Au nu cu] (by simp [Act.eval, Act.put]) HEN.out (by exact CL.out w.drew ((Below.refl _ _).drew)) ?_; rintro e w1 ⟨u1, rfl, hs1, hb1⟩; refine ⟨_, rfl, ?_⟩; have hb1 : Below w.heap.size w w1 := ⟨hb1.os, hb1.tape, hb1.output, hb1.size, hb1.block⟩; have HQ1 := Lib.hid (HQ.out.below hb1); have HS1 := Lib.hid hs1; have HB1 := Lib.hid hb1; obtain ⟨A1, n1, k1, rfl, _⟩ := id hs1; clear hb1 hs1; obtain ⟨d0, d1, g1, glt⟩ := HQ1.out.cells)
      | (refine step_row rfl (.tmp 15) (.tmp 18) rfl base (.slice A n c) ts (by simp [Act.eval, Act.put]) (by exact HQ1.out.row.below ((Below.refl _ _).alloc (Nat.le_refl _) _)) _ 1 1 [xs] (by simp [Act.eval, Act.put]; rfl) (by exact sls_boxed _ rfl HS1.out) (by have := HL.out; simp; omega) (by have := HB.out; have := HB1.out.size; simp; omega) ?_; intro v2 w2 hr2 hg2 ho2; obtain ⟨A2, n2, k2, rfl, _⟩ := slRow_form2 hr2; have kb2 := (HQ1.out.blk.alloc (.cells #[.slice A1 n1 k1] 33)).grown hg2 HQ1.out.ne; have e1 := kb2.cell 1; have e2 := kb2.frozen 1; simp at e1; have HR2 := Lib.hid hr2; have HG2 := Lib.hid hg2; have HO2 := Lib.hid ho2; have KB2 := Lib.hid kb2; clear hr2 hg2 ho2 kb2))
    all_goals
      (go_wp2
       go_ret
       refine ⟨rfl, _, HQ.out.put (((KQ.of_below (HB1.out.alloc HB1.out.size (.cells #[.slice A1 n1 k1] 33))).trans (KQ.of_grown HG2.out) (fun q e => .inl e))) KB2.out HR2.out, ((KQ.of_below (HB1.out.alloc HB1.out.size (.cells #[.slice A1 n1 k1] 33))).trans (KQ.of_grown HG2.out) (fun q e => .inl e)).set 1 _, fun q e => ?_⟩
       have hs1 := HB1.out.size
       rcases HO2.out with h | h
       · exact .inl (h ▸ e)
       · rw [h] at e
         injection e with e
         refine .inr ?_
         subst e
         simp
         omega)
  · rw [if_neg hf, if_neg hf]
    have HQ := Lib.hid h; clear h
    rw [hn] at hf
    clear hn hl
    have hd : decide (32 ≤ (n : Int)) = true := by simp only [decide_eq_true_eq]; omega
    clear hf
    go_enter Try.func33, Try.ntmps33
    go_wp2
    go_ret
    exact ⟨rfl, HQ.out.same (Below.refl _ _)⟩
end Go.Proofs.Ytkflbhaomoaonaa.Que
