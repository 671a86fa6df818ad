/- The contract of a disk's Write (layer 3). -/
import Derived.Test.YtddhkajcakndlaaRead
import Derived.StillTailTactics
namespace Go.Proofs.Ytddhkajcakndlaa.Dsk
open Go.RowKit Go.Maps Go.Proofs.Ytddhkajcakndlaa.Mem
set_option linter.unusedVariables false
set_option linter.unusedSimpArgs false
theorem wpList_mapUpdate_sec (w : World) {ops : Array Oper} {rest : List Oper} {o : Oper} {a : Act} {Q : Exit → Act → World → Prop} (hg : o.guard = none) (m x v : Operand)
    (hop : o.op = Op.mapUpdate 36 m x v) (b : Nat) (f : Nat → Option (List Nat)) (i : Nat) (xs : List Nat) (hm : a.eval m = .map (some b)) (hx : a.eval x = .int .i64 (i : Nat)) (hv : a.eval v = secV xs)
    (h : SMap w b f) (hi : i < 1024) (hs : IsSec xs) (hK : ∀ w', Hid (SMap w' b (upd1 f i xs)) → w.grownBy w' (some b) → wpList Try.prog ops Q rest (a.put o.dst undef) w') : wpList Try.prog ops Q (o :: rest) a w := by
  refine wpList_plain hg fun K' hK' => ?_
  obtain ⟨w', hrun, r1, r2⟩ := h.put hi hs
  unfold Oper.wp
  simp [execOp, hop, hm, hx, hv, hrun, Result.andThen]
  exact hK' _ _ (hK w' r1 r2)
section
variable {P : Program} {ops : Array Oper} {rest : List Oper} {o : Oper} {a : Act} {w : World} {Q : Act → Prop}
theorem still_run (hgd : o.guard = none) (v : Value) (hrun : (execOp a.eval o).run P w = .ok (.value v) w) (h : wpStill P ops w Q rest (a.put o.dst v)) : wpStill P ops w Q (o :: rest) a := by
  refine wpStill_step fun K hK => ?_
  have hw : Region.wanted o (yielded ops a.tmps) = true := by simp [Region.wanted, hgd]
  rw [if_pos hw]
  unfold Oper.still
  rw [hrun]
  exact ⟨rfl, hK _ h⟩
theorem still_load_row (hgd : o.guard = none) (ty : TypeId) (x : Operand) (ho : o.op = .load ty x)
    (g : Nat) (hx : a.eval x = .pointer (some ⟨g, 0, none⟩)) (t : TypeId) (cs : Array Value) (fr : Nat × Nat) (d : TypeDesc) (hg : w.heap[g]? = some (.cells cs t fr))
    (hu : P.underlying ty = some d) (hd : (match d with | .struct _ | .array _ _ => true | _ => false) = true) (hi : (P.info? ty).map (·.size) = some cs.size)
    (h : wpStill P ops w Q rest (a.put o.dst (.agg cs))) : wpStill P ops w Q (o :: rest) a := by
  refine still_run hgd (.agg cs) ?_ h
  unfold execOp
  simp only [ho, hx, Instr.loadAt, Instr.sureAddr, Sem.run_bind, Sem.run_pure, Result.andThen_ok, run_loadVar_row w g t ty cs fr d hg hu hd hi]
theorem still_lookup (hgd : o.guard = none) (t : TypeId) (m x : Operand) (c : Bool) (ho : o.op = .lookup t m x c) (mv xv v : Value) (hm : a.eval m = mv) (hx : a.eval x = xv)
    (hrun : (Instr.lookup t mv xv c).run P w = .ok v w) (h : wpStill P ops w Q rest (a.put o.dst v)) : wpStill P ops w Q (o :: rest) a := by
  refine still_run hgd v ?_ h
  unfold execOp
  simp [ho, hm, hx, hrun, Result.andThen]
end
theorem u8_size1 : (Try.prog.info? 5).map (·.size) = some 1 := by kernel_rfl
theorem splice_all (zs xs : List Nat) (h : zs.length = xs.length) : splice (vals zs) 0 (vals xs) = vals xs := by
  simp [splice, vals_length, h]
theorem splice_torn (zs b : List Nat) (hz : zs.length = 512) : splice (vals zs) 0 (vals (b.take 512)) = vals (torn b zs) := by
  simp only [splice, List.take_zero, List.nil_append, Nat.zero_add, vals_length, List.length_take, torn, vals_append]
  congr 1
  simp only [vals, List.map_drop]
  by_cases h : b.length ≤ 512
  · rw [Nat.min_eq_right h]
  · rw [Nat.min_eq_left (by omega), List.drop_eq_nil_of_le (by simp; omega), List.drop_eq_nil_of_le (by simp; omega)]
set_option maxHeartbeats 1000000 in
theorem write_dead (g bs bw : Nat) (s : St) (i : Int) (v : Value) (w : World) (h : DiskAt w g bs bw s) (hd : s.dead = true) :
    Calls Try.prog 10 #[ptr g, .int .i64 i, v] w fun e w' => e = .returned (.int .i64 7) ∧ w = w' := by
  have c1 := dead_any g bs bw s w h
  rw [hd] at c1
  have C1 := Lib.hid c1; clear c1
  clear h
  go_enter Try.func10, Try.ntmps10
  go_wp2_with (go_at_call 30; refine (C1.out).mono ?_; rintro e w' ⟨rfl, rfl⟩)
  go_ret
  exact ⟨rfl, rfl⟩
set_option maxHeartbeats 1000000 in
theorem write_arg (g bs bw : Nat) (s : St) (i : Int) (A : Option Addr) (n c : Nat) (w : World) (h : DiskAt w g bs bw s) (hd : s.dead = false) (hi : ¬ (0 ≤ i ∧ i < s.n ∧ n = 512)) :
    Calls Try.prog 10 #[ptr g, .int .i64 i, .slice A n c] w fun e w' => e = .returned (.int .i64 1) ∧ w = w' := by
  have c1 := dead_any g bs bw s w h
  have c2 := has_any g bs bw s i w h
  rw [hd] at c1
  have C1 := Lib.hid c1; clear c1
  by_cases hh : 0 ≤ i ∧ i < s.n
  · rw [decide_eq_true hh] at c2
    have C2 := Lib.hid c2; clear c2
    have hne : ((n : Int) != 512) = true := by rw [bne_iff_ne]; omega
    clear h hi hh
    go_enter Try.func10, Try.ntmps10
    go_wp2_with (first
      | (go_at_call 30; refine (C1.out).mono ?_; rintro e w' ⟨rfl, rfl⟩)
      | (go_at_call 31; refine (C2.out).mono ?_; rintro e w' ⟨rfl, rfl⟩))
    go_ret
    exact ⟨rfl, rfl⟩
  · rw [decide_eq_false hh] at c2
    have C2 := Lib.hid c2; clear c2
    clear h hi hh
    go_enter Try.func10, Try.ntmps10
    go_wp2_with (first
      | (go_at_call 30; refine (C1.out).mono ?_; rintro e w' ⟨rfl, rfl⟩)
      | (go_at_call 31; refine (C2.out).mono ?_; rintro e w' ⟨rfl, rfl⟩))
    go_ret
    exact ⟨rfl, rfl⟩
set_option maxHeartbeats 1000000 in
theorem write_dies (g bs bw : Nat) (s : St) (i : Int) (A : Option Addr) (n c : Nat) (w : World) (h : DiskAt w g bs bw s) (hd : s.dead = false) (hi : 0 ≤ i ∧ i < s.n) (hn : n = 512) (ha : s.act.2 = false) :
    Calls Try.prog 10 #[ptr g, .int .i64 i, .slice A n c] w fun e w' => e = .returned (.int .i64 7) ∧ DiskAt w' g bs bw s.act.1 ∧ w.grownBy w' (some g) := by
  have c1 := dead_any g bs bw s w h
  have c2 := has_any g bs bw s i w h
  have c3 := act_any g bs bw s w h
  rw [hd] at c1
  rw [decide_eq_true hi] at c2
  rw [ha] at c3
  have C1 := Lib.hid c1; clear c1
  have C2 := Lib.hid c2; clear c2
  have C3 := Lib.hid c3; clear c3
  subst hn
  clear h hi
  go_enter Try.func10, Try.ntmps10
  go_wp2_with (first
    | (go_at_call 30; refine (C1.out).mono ?_; rintro e w' ⟨rfl, rfl⟩)
    | (go_at_call 31; refine (C2.out).mono ?_; rintro e w' ⟨rfl, rfl⟩)
    | (go_at_call 32; refine (C3.out).mono ?_; rintro e w' ⟨rfl, hD, hG⟩))
  go_ret
  exact ⟨rfl, hD, hG⟩
theorem disk_put {w w' : World} {g bs bw : Nat} {s : St} (h : DiskAt w g bs bw s) (i : Nat) (xs : List Nat) (hi : i < s.n) (hm : SMap w' bw (upd1 s.fw i xs)) (hg : w.grownBy w' (some bw)) : DiskAt w' g bs bw { s with fw := upd1 s.fw i xs } := by
  obtain ⟨h1, h2, h3⟩ := h.ne
  obtain ⟨hb, hs, hw, hne, hn1, hn2, hl1, hl2, hr⟩ := h
  refine ⟨hb.grown hg (by simp; omega), hs.kept hg (by simp; omega), hm, hne, hn1, hn2, hl1, hl2, fun j hj => ?_⟩
  simp only at hj
  simp only [upd1]
  rw [if_neg (by omega)]
  exact hr j hj
theorem disk_put_safe {w w' : World} {g bs bw : Nat} {s : St} (h : DiskAt w g bs bw s) (i : Nat) (xs : List Nat) (hm : SMap w' bs (upd1 s.fs i xs)) (hg : w.grownBy w' (some bs)) : DiskAt w' g bs bw { s with fs := upd1 s.fs i xs } := by
  obtain ⟨h1, h2, h3⟩ := h.ne
  obtain ⟨hb, hs, hw, hne, hn1, hn2, hl1, hl2, hr⟩ := h
  exact ⟨hb.grown hg (by simp; omega), hm, hw.kept hg (by simp; omega), hne, hn1, hn2, hl1, hl2, hr⟩
set_option maxRecDepth 20000 in
set_option maxHeartbeats 2000000 in
theorem write_ok (g bs bw : Nat) (s : St) (i : Nat) (A : Option Addr) (n c : Nat) (xs : List Nat) (w : World) (h : DiskAt w g bs bw s) (hd : s.dead = false) (hi : i < s.n) (ha : s.act.2 = true) (hN : n = 512)
    (hsec : IsSec xs) (hx : ∀ w1, w.grownBy w1 (some g) → Bts w1 w1.heap.size A n xs) :
    Calls Try.prog 10 #[ptr g, .int .i64 (i : Nat), .slice A n c] w fun e w' => e = .returned (.int .i64 0) ∧ DiskAt w' g bs bw { s.act.1 with fw := upd1 s.act.1.fw i xs } ∧ KeptBut w w' [g, bs, bw] := by
  have c1 := dead_any g bs bw s w h
  have c2 := has_any g bs bw s i w h
  have c3 := act_any g bs bw s w h
  have hn := h.2.2.2.2.2.1
  rw [hd] at c1
  rw [decide_eq_true ⟨by omega, by omega⟩] at c2
  rw [ha] at c3
  have hz := zero72
  have hcut := cut72
  have hne : ((n : Int) != 512) = false := by simp; omega
  rw [← hN] at hcut
  have HN := Lib.hid hN; clear hN
  obtain ⟨zs, hzs⟩ : ∃ zs, zs = noughts := ⟨_, rfl⟩
  simp only [← hzs] at hz
  have HZS := Lib.hid (hzs ▸ isSec_noughts); clear hzs
  have HSEC := Lib.hid hsec; clear hsec
  have HX := Lib.hid hx; clear hx
  have C1 := Lib.hid c1; clear c1
  have C2 := Lib.hid c2; clear c2
  have C3 := Lib.hid c3; clear c3
  have hi2 : i < 1024 := by omega
  have hn1 : s.act.1.n = s.n := by unfold St.act; split <;> rfl
  rw [← hn1] at hi
  have HI := Lib.hid hi; clear hi
  clear hn1 hn ha hd h
  obtain ⟨s1, hs1⟩ : ∃ s1, s1 = s.act.1 := ⟨_, rfl⟩
  rw [← hs1] at C3 HI ⊢
  clear hs1
  go_enter Try.func10, Try.ntmps10
  go_wp2_with (first
    | (go_at_call 30; refine (C1.out).mono ?_; rintro e w' ⟨rfl, rfl⟩)
    | (go_at_call 31; refine (C2.out).mono ?_; rintro e w' ⟨rfl, rfl⟩)
    | (go_at_call 32; refine (C3.out).mono ?_; rintro e w1 ⟨rfl, hD, hG⟩; have k1 := hD.c1; have k2 := hD.c2; have hlt1 := hD.1.lt; have HD := Lib.hid hD; clear hD; have HB := Lib.hid (HX.out w1 hG); have HG := Lib.hid hG; clear hG)
    | ((refine wpList_copy_splice rfl (.tmp 22) (.tmp 23) 22 22 rfl 5 Try.underlying22 u8_size1 _ _ n n n c rfl rfl w1.heap.size 0 (vals zs) 71 (heap_alloc_new w1 _) (vals xs) (by simp [vals_length, HSEC.out.1, HN.out]) (fun h0 => ⟨rfl, by obtain ⟨b, off, e, _⟩ := HB.out.2.2.2 (by rw [HN.out]; omega); exact ⟨_, e, bts_cells ((e ▸ HB.out).alloc (Nat.le_refl _) _)⟩⟩) (by simp [vals_length, HSEC.out.1, HZS.out.1]) (vals_one xs) w1.heap.size w1 ((Below.refl _ w1).alloc (Nat.le_refl _) _) (Nat.le_refl _) ?_; intro w2 HG2 hB2; have HB2 := Lib.hid hB2; clear hB2; have m1 := ((Below.cell HB2.out (p := ⟨g, 1, none⟩) hlt1).trans k1); have m2 := ((Below.cell HB2.out (p := ⟨g, 2, none⟩) hlt1).trans k2); rw [splice_all zs xs (by rw [HZS.out.1, HSEC.out.1])] at HG2)))
  go_frame
  have hlt2 : g < w2.heap.size := Nat.lt_of_lt_of_le hlt1 HB2.out.size
  have HD2 : Hid (DiskAt w2.drew g bs bw s1) := (HD.out.below (HB2.out)).drew
  have HG3 : Hid (w2.drew.heap[w1.heap.size]? = some (.cells (vals xs).toArray 71 (0, 0))) := HG2
  have HK2 : Hid (KeptBut w w2.drew [g, bs, bw]) := ((kept_of_grown HG.out (by simp)).trans (kept_of_below HB2.out (Nat.le_refl _))).trans kept_drew
  go_still_tail 6, (by kernel_rfl)
  refine still_load_row rfl 71 (.tmp 7) rfl w1.heap.size rfl 71 (vals xs).toArray (0, 0) _ HG3.out Try.underlying71 rfl (by rw [size72]; simp [vals_length, HSEC.out.1]) ?_
  refine wpStill_nil ?_
  change wpList _ _ _ _ _ w2.drew
  clear HG2 HB2 HD HG m1 m2
  generalize w2.drew = w3 at *
  go_wp2_with (refine wpList_mapUpdate_sec _ rfl (.tmp 28) (.tmp 29) (.tmp 30) rfl bw s1.fw i xs rfl rfl rfl HD2.out.2.2.1 hi2 HSEC.out ?_; intro w4 hm4 hg4)
  go_ret
  exact ⟨rfl, disk_put HD2.out i xs HI.out hm4.out hg4, HK2.out.trans (kept_of_grown hg4 (by simp))⟩
end Go.Proofs.Ytddhkajcakndlaa.Dsk
