/- The small functions of the code's layer 17 (near): isWithin, isCost, isStart, hasNumbers, isSound, mayBe, notFull, notHeard. -/
import Derived.Test.YtgfoadldghcdeaaNearPure
namespace Go.Proofs.Ytgfoadldghcdeaa.Nea
open Go.RowKit Go.Proofs.Ytgfoadldghcdeaa.Mem
set_option linter.unusedVariables false
set_option linter.unusedSimpArgs false
def win3 (n a b : Int) : Bool := decide (a ≤ n) && decide (n ≤ b)
theorem win3_iff {n a b : Int} : win3 n a b = true ↔ a ≤ n ∧ n ≤ b := by simp [win3]
def numN (n : Nr) : Bool := (((win3 n.of_ 1 64 && win3 n.cost 0 1073741824) && win3 n.boot 0 1073741824) && win3 n.ep 0 1073741824) && win3 n.age 0 4
def soundN (n : Nr) : Bool := if n.heard = true then decide (0 < n.boot) && decide (0 < n.cost) && (n.full || !n.got) else !n.full && !n.got && decide (n.age = 0)
theorem mayN_parts (n : Nr) : mayN n = (numN n && soundN n) := by
  rw [Bool.eq_iff_iff, mayN_iff]
  obtain ⟨of_, cost, boot, ep, heard, full, age, got⟩ := n
  simp only [numN, soundN, Bool.and_eq_true, win3_iff]
  cases heard <;> simp <;> constructor <;> (intro h; (try simp_all); (try omega))
def notFullN (n : Nr) : Nr := { n with full := false, got := false }
def notHeardN (n : Nr) : Nr := ⟨n.of_, n.cost, n.boot, n.ep, false, false, 0, false⟩
/-- a struct in a cell is answered -/
theorem results_blk_one {P : Program} {fn : Func} {p : Tmp} {ty : TypeId} (h : fn.results = #[.cell p ty]) (tmps : Array Value) {w : World} {g : Nat} {cs : Array Value} {d : TypeDesc} (hp : tmps.getD p undef = .pointer (some ⟨g, 0, none⟩))
    (hb : Blk w g ty cs) (hu : P.underlying ty = some d) (hd : (match d with | .struct _ | .array _ _ => true | _ => false) = true) (hi : (P.info? ty).map (·.size) = some cs.size) :
    (results fn tmps).run P w = .ok (.agg cs) w := by
  have hp' : tmps[p]?.getD undef = .pointer (some ⟨g, 0, none⟩) := by simpa using hp
  simp [results, h, hp', asAddr, run_loadVar_blk hb hu hd hi]
/-- a struct in a cell and three more are answered -/
theorem results_blk_three {P : Program} {fn : Func} {p q r s : Tmp} {ty : TypeId} (h : fn.results = #[.cell p ty, .tmp q, .tmp r, .tmp s]) (tmps : Array Value) {w : World} {g : Nat} {cs : Array Value} {d : TypeDesc} (hp : tmps.getD p undef = .pointer (some ⟨g, 0, none⟩)) (u v x : Value) (hq : tmps.getD q undef = u) (hr : tmps.getD r undef = v) (hs : tmps.getD s undef = x)
    (hb : Blk w g ty cs) (hu : P.underlying ty = some d) (hd : (match d with | .struct _ | .array _ _ => true | _ => false) = true) (hi : (P.info? ty).map (·.size) = some cs.size) :
    (results fn tmps).run P w = .ok (.tuple #[.agg cs, u, v, x]) w := by
  subst hq hr hs
  have hp' : tmps[p]?.getD undef = .pointer (some ⟨g, 0, none⟩) := by simpa using hp
  simp [results, h, hp', asAddr, run_loadVar_blk hb hu hd hi]
set_option maxHeartbeats 400000 in
theorem within_any (n a b : Int) (w : World) : Calls Try.prog 22 #[.int .i64 n, .int .i64 a, .int .i64 b] w fun e w' => e = .returned (.bool (win3 n a b)) ∧ w = w' := by
  unfold win3
  cases h1 : decide (a ≤ n)
  · go_enter Try.func22, Try.ntmps22
    go_wp2
    go_ret
    exact ⟨rfl, rfl⟩
  · go_enter Try.func22, Try.ntmps22
    go_wp2
    go_ret
    exact ⟨ret_bool (by simp), rfl⟩
set_option maxHeartbeats 400000 in
theorem isCost_any (n : Int) (w : World) : Calls Try.prog 19 #[.int .i64 n] w fun e w' => e = .returned (.bool (win3 n 0 1073741824)) ∧ w = w' := by
  go_enter Try.func19, Try.ntmps19
  go_wp2_with (go_at_call 22; refine (within_any _ _ _ _).mono ?_; rintro e w' ⟨rfl, rfl⟩)
  go_ret
  exact ⟨rfl, rfl⟩
set_option maxHeartbeats 400000 in
theorem isStart_any (n : Int) (w : World) : Calls Try.prog 16 #[.int .i64 n] w fun e w' => e = .returned (.bool (win3 n 1 1073741824)) ∧ w = w' := by
  go_enter Try.func16, Try.ntmps16
  go_wp2_with (go_at_call 22; refine (within_any _ _ _ _).mono ?_; rintro e w' ⟨rfl, rfl⟩)
  go_ret
  exact ⟨rfl, rfl⟩
set_option maxRecDepth 20000 in
set_option maxHeartbeats 4000000 in
theorem numbers_any (n : Nr) (w : World) : Calls Try.prog 20 #[.agg (nrC n)] w fun e w' => e = .returned (.bool (numN n)) ∧ Below w.heap.size w w' := by
  generalize hz : numN n = z
  obtain ⟨of_, cost, boot, ep, heard, full, age, got⟩ := n
  unfold nrC
  unfold numN at hz
  simp only at hz ⊢
  have Z := Lib.hid hz; clear hz
  cases h1 : win3 of_ 1 64
  all_goals try cases h2 : win3 cost 0 1073741824
  all_goals try cases h3 : win3 boot 0 1073741824
  all_goals try cases h4 : win3 ep 0 1073741824
  all_goals
    (go_enter Try.func20, Try.ntmps20
     go_wp2_with (first
       | (go_at_call 22; refine (within_any _ _ _ _).mono ?_; rintro e w' ⟨rfl, rfl⟩)
       | (go_at_call 19; refine (isCost_any _ _).mono ?_; rintro e w' ⟨rfl, rfl⟩))
     go_ret
     exact ⟨ret_bool (by rw [← Z.out]; simp [*]), below1 _ _⟩)
set_option maxRecDepth 20000 in
set_option maxHeartbeats 4000000 in
theorem sound_any (n : Nr) (w : World) : Calls Try.prog 21 #[.agg (nrC n)] w fun e w' => e = .returned (.bool (soundN n)) ∧ Below w.heap.size w w' := by
  generalize hz : soundN n = z
  obtain ⟨of_, cost, boot, ep, heard, full, age, got⟩ := n
  unfold nrC
  simp only
  unfold soundN at hz
  cases heard <;> cases full <;> cases got
  all_goals
    (simp only [Bool.false_eq_true, if_true, if_false, Bool.not_true, Bool.not_false, Bool.false_and, Bool.and_false, Bool.true_and, Bool.and_true, Bool.true_or, Bool.or_true, Bool.false_or, Bool.or_false] at hz
     have Z := Lib.hid hz; clear hz
     go_enter Try.func21, Try.ntmps21
     go_wp2
     all_goals
       (go_ret
        refine ⟨ret_bool ?_, below1 _ _⟩
        rewrite [← Z.out]
        first
          | rfl
          | (simp [*]; done)
          | (simp [*]; omega)))
set_option maxRecDepth 20000 in
set_option maxHeartbeats 4000000 in
theorem mayBe_any (n : Nr) (w : World) : Calls Try.prog 15 #[.agg (nrC n)] w fun e w' => e = .returned (.bool (mayN n)) ∧ Below w.heap.size w w' := by
  rw [mayN_parts]
  have NU := Lib.hid (fun w => numbers_any n w)
  have SU := Lib.hid (fun w => sound_any n w)
  generalize numN n = z1 at *
  generalize soundN n = z2 at *
  obtain ⟨of_, cost, boot, ep, heard, full, age, got⟩ := n
  unfold nrC at *
  simp only at NU SU ⊢
  have KB := Lib.hid (Blk.new w 23 #[.int .i64 of_, .int .i64 cost, .int .i64 boot, .int .i64 ep, .bool heard, .bool full, .int .i64 age, .bool got])
  have HS := Lib.hid (below1 w (.cells #[.int .i64 of_, .int .i64 cost, .int .i64 boot, .int .i64 ep, .bool heard, .bool full, .int .i64 age, .bool got] 23))
  cases z1
  all_goals
    (go_enter Try.func15, Try.ntmps15
     go_wp2_with (first
       | (go_at_call 20; refine (NU.out _).mono ?_; rintro e w1 ⟨rfl, hb1⟩; have KB1 := Lib.hid (KB.out.below hb1 (by simp)); have HB1 := Lib.hid (HS.out.trans (hb1.mono (by simp))); clear hb1; obtain ⟨c0, c1, c2, c3, c4, c5, c6, c7, c8⟩ := blk_cells8 KB1.out)
       | (go_at_call 21; refine (SU.out _).mono ?_; rintro e w2 ⟨rfl, hb2⟩; have HB2 := Lib.hid (HB1.out.trans (hb2.mono HB1.out.size)); clear hb2))
     go_ret
     first
       | exact ⟨rfl, HB2.out⟩
       | exact ⟨rfl, HB1.out⟩
       | exact ⟨ret_bool (by simp), HB2.out⟩)
set_option maxRecDepth 20000 in
set_option maxHeartbeats 4000000 in
theorem nfull_any (n : Nr) (w : World) : Calls Try.prog 17 #[.agg (nrC n)] w fun e w' => e = .returned (.agg (nrC (notFullN n))) ∧ Below w.heap.size w w' := by
  obtain ⟨of_, cost, boot, ep, heard, full, age, got⟩ := n
  unfold notFullN nrC
  simp only
  have K1 := Lib.hid (Blk.new w 23 #[.int .i64 of_, .int .i64 cost, .int .i64 boot, .int .i64 ep, .bool heard, .bool false, .int .i64 age, .bool false])
  go_enter Try.func17, Try.ntmps17
  go_wp2_with (first
    | (refine wpList_load_blk rfl 23 (.tmp 1) rfl w.heap.size rfl _ (K1.out.alloc _) _ Try.underlying23 rfl (by rw [size_nr]; rfl) ?_)
    | (refine wpList_store_blk rfl 23 (.tmp 2) (.tmp 5) rfl (w.heap.size + 1) _ rfl rfl _ (blk_new2 w _ _ _) (by rw [size_nr]; rfl) rfl (by kernel_rfl) ?_; intro w9 hg9 k9; have K9 := Lib.hid k9; have HB9 := Lib.hid hg9; clear hg9 k9))
  exact bodyPost_ret (results_blk_one (P := Try.prog) Try.results17 _ rfl K9.out Try.underlying23 rfl (by rw [size_nr]; rfl)) rfl ⟨rfl, gr_below (below2 _ _ _) HB9.out (by simp; try omega) (by omega)⟩
theorem set46 {w : World} {g : Nat} {t : TypeId} {z0 z1 z2 z3 z4 z5 z6 z7 a b : Value} (h : Blk w g t #[z0, z1, z2, z3, z4, z5, z6, z7]) : Blk ((w.setCell ⟨g, 4, none⟩ a).setCell ⟨g, 6, none⟩ b) g t #[z0, z1, z2, z3, a, z5, b, z7] := by
  have k := (h.set_ 4 a).set_ 6 b
  simp only [List.setIfInBounds_toArray, List.set_cons_zero, List.set_cons_succ] at k
  exact k
theorem far2 {w : World} {g b o1 o2 : Nat} {t : TypeId} {cs : Array Value} {u v : Value} (h : Blk w g t cs) (hn : g ≠ b) : Blk ((w.setCell ⟨b, o1, none⟩ u).setCell ⟨b, o2, none⟩ v) g t cs := (h.far (p := ⟨b, o1, none⟩) hn u).far (p := ⟨b, o2, none⟩) hn v
theorem below_s2 {w0 w : World} {B b o1 o2 : Nat} {u v : Value} (h : Below B w0 w) (hn : B ≤ b) : Below B w0 ((w.setCell ⟨b, o1, none⟩ u).setCell ⟨b, o2, none⟩ v) := (h.setCell (p := ⟨b, o1, none⟩) hn u).setCell (p := ⟨b, o2, none⟩) hn v
set_option maxRecDepth 20000 in
set_option maxHeartbeats 4000000 in
theorem nheard_any (n : Nr) (w : World) : Calls Try.prog 18 #[.agg (nrC n)] w fun e w' => e = .returned (.agg (nrC (notHeardN n))) ∧ Below w.heap.size w w' := by
  have NF := Lib.hid (fun w => nfull_any n w)
  obtain ⟨of_, cost, boot, ep, heard, full, age, got⟩ := n
  unfold notHeardN
  unfold notFullN at NF
  unfold nrC at *
  simp only at NF ⊢
  have K1 := Lib.hid (show Blk ((w.alloc (.cells #[.int .i64 of_, .int .i64 cost, .int .i64 boot, .int .i64 ep, .bool heard, .bool full, .int .i64 age, .bool got] 23)).alloc (.cells zrC 23)) w.heap.size 23 _ from (Blk.new w _ _).alloc _)
  have K2 := Lib.hid (show Blk ((w.alloc (.cells #[.int .i64 of_, .int .i64 cost, .int .i64 boot, .int .i64 ep, .bool heard, .bool full, .int .i64 age, .bool got] 23)).alloc (.cells zrC 23)) (w.heap.size + 1) 23 zrC from blk_new2 _ _ _ _)
  have HB := Lib.hid (below2 w (.cells #[.int .i64 of_, .int .i64 cost, .int .i64 boot, .int .i64 ep, .bool heard, .bool full, .int .i64 age, .bool got] 23) (.cells zrC 23))
  go_enter Try.func18, Try.ntmps18
  go_wp2_with (first
    | (refine wpList_load_blk rfl 23 (.tmp 1) rfl w.heap.size rfl _ K1.out _ Try.underlying23 rfl (by rw [size_nr]; rfl) ?_)
    | (go_at_call 17; refine (NF.out _).mono ?_; rintro e w1 ⟨rfl, hb1⟩; have KA := Lib.hid (K1.out.below hb1 (by simp; omega)); have KB := Lib.hid (K2.out.below hb1 (by simp)); have HB1 := Lib.hid (HB.out.trans (hb1.mono (by simp; omega))); clear hb1)
    | (refine wpList_store_blk rfl 23 (.tmp 1) (.tmp 4) rfl w.heap.size _ rfl rfl _ KA.out (by rw [size_nr]; rfl) rfl (by kernel_rfl) ?_; intro w8 hg8 k8; have K8 := Lib.hid k8; have KB8 := Lib.hid (KB.out.grown hg8 (by simp)); have HB8 := Lib.hid (gr_below HB1.out hg8 HB1.out.size (Nat.le_refl _)); clear hg8 k8; obtain ⟨c0, c1, c2, c3, c4, c5, c6, c7, c8⟩ := blk_cells8 K8.out; obtain ⟨f0, f1, f2, f3, f4, f5, f6, f7⟩ := blk_frozen8 K8.out)
    | (refine wpList_load_blk rfl 23 (.tmp 1) rfl w.heap.size rfl _ (set46 K8.out) _ Try.underlying23 rfl (by rw [size_nr]; rfl) ?_)
    | (refine wpList_store_blk rfl 23 (.tmp 2) (.tmp 7) rfl (w.heap.size + 1) _ rfl rfl _ (far2 KB8.out (by omega)) (by rw [size_nr]; rfl) rfl (by kernel_rfl) ?_; intro w9 hg9 k9; have K9 := Lib.hid k9; have HB9 := Lib.hid hg9; clear hg9 k9))
  exact bodyPost_ret (results_blk_one (P := Try.prog) Try.results18 _ rfl K9.out Try.underlying23 rfl (by rw [size_nr]; rfl)) rfl ⟨rfl, gr_below (below_s2 HB8.out (Nat.le_refl _)) HB9.out (by have := HB8.out.size; simp; omega) (by omega)⟩
theorem step_calls {P : Program} {ops : Array Oper} {o : Oper} {a : Act} {w : World} {K : Act → World → Prop} {Q : Exit → Act → World → Prop} {E : Prop} (hgd : o.guard = none) (f : FuncId) (args : Array Operand) (tys : Array TypeId)
    (ho : o.op = .call { callee := .value (.func f), args := args, argTypes := tys }) (vs : Array Value) (hv : args.map a.eval = vs) (hen : ∀ (args : Array Value) (w : World), (callFunc f args).run P w = .ok (.enter f args) w)
    {R : Ending → World → Prop} (hc : Calls P f vs w R) (h : ∀ e w', R e w' → ∃ v, e = .returned v ∧ K (a.put o.dst v) w') : if Region.wanted o (yielded ops a.tmps) = true then Oper.wp P o a w K Q else E := by
  have hw : Region.wanted o (yielded ops a.tmps) = true := by simp [Region.wanted, hgd]
  rw [if_pos hw]
  have hrun : (execOp a.eval o).run P w = .ok (.enter f vs) w := by
    unfold execOp
    simp [ho, resolve, invoke, Act.eval, Deferred.ofValue, Result.andThen]
    have hv' : Array.map (fun x => a.eval x) args = vs := hv
    rw [hv']
    exact hen vs w
  unfold Oper.wp
  rw [hrun]
  show Calls P f vs w _
  refine hc.mono fun e w' hr => ?_
  obtain ⟨v, rfl, hk⟩ := h e w' hr
  exact hk
theorem below_drewN {B : Nat} {w w' : World} (h : Below B w w') (n : Nat) : Below B w (w'.drewN n) := ⟨h.os, h.tape, h.output, h.size, h.block⟩
theorem low_low {w w1 w2 : World} (h : Below w.heap.size w w1) (k : Below w1.heap.size w1 w2) : Below w.heap.size w w2 := h.trans (k.mono h.size)
end Go.Proofs.Ytgfoadldghcdeaa.Nea
