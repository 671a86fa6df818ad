/- The reference of layer 3: Flush. -/
import Derived.Test.YtpmkacpdmjnbjaaRefX
import Derived.Shelf.Abstract
namespace Go.Proofs.Ytpmkacpdmjnbjaa.Dsk
open Go.RowKit Go.Maps Go.Shelf Go.Proofs.Ytpmkacpdmjnbjaa.Mem
set_option linter.unusedVariables false
set_option linter.unusedSimpArgs false
theorem step_calls {P : Program} {ops : Array Oper} {o : Oper} {a : Act} {w : World} {K : Act → World → Prop} {Q : Exit → Act → World → Prop} {E : Prop} (hgd : o.guard = none) (f : FuncId) (args : Array Operand) (tys : Array TypeId)
    (ho : o.op = .call { callee := .value (.func f), args := args, argTypes := tys }) (vs : Array Value) (hv : args.map a.eval = vs) (hen : ∀ (args : Array Value) (w : World), (callFunc f args).run P w = .ok (.enter f args) w)
    {R : Ending → World → Prop} (hc : Calls P f vs w R) (h : ∀ e w', R e w' → ∃ v, e = .returned v ∧ K (a.put o.dst v) w') : if Region.wanted o (yielded ops a.tmps) = true then Oper.wp P o a w K Q else E := by
  have hw : Region.wanted o (yielded ops a.tmps) = true := by simp [Region.wanted, hgd]
  rw [if_pos hw]
  have hrun : (execOp a.eval o).run P w = .ok (.enter f vs) w := by
    unfold execOp
    simp [ho, resolve, invoke, Act.eval, Deferred.ofValue, Result.andThen]
    have hv' : Array.map (fun x => a.eval x) args = vs := hv
    rw [hv']
    exact hen vs w
  unfold Oper.wp
  rw [hrun]
  show Calls P f vs w _
  refine hc.mono fun e w' hr => ?_
  obtain ⟨v, rfl, hk⟩ := h e w' hr
  exact hk
theorem KeptBut.grownAbove {w w1 w2 : World} {S : List Nat} {row : Option Nat} (h : KeptBut w w1 S) (hg : w1.grownBy w2 row) (hr : ∀ g, row = some g → w.heap.size ≤ g) : KeptBut w w2 S :=
  ⟨hg.os.trans h.os, hg.tape.trans h.tape, hg.output.trans h.output, Nat.le_trans h.size hg.size, fun g hg' hn => (hg.block g (Nat.lt_of_lt_of_le hg' h.size) (fun e => by have := hr g e.symm; omega)).trans (h.block g hg' hn)⟩
theorem lit_reads (W : World) (u : Value) (t : TypeId) : Reads (W.alloc (.cells #[u] t)) (W.heap.size + 1) 1 (some ⟨W.heap.size, 0, none⟩) 1 [u] := by
  refine ⟨by simp, fun _ => ⟨_, rfl, by simp, fun j v hv => ?_⟩⟩
  have hj : j = 0 := by
    have := (List.getElem?_eq_some_iff.1 hv).1
    simp at this
    omega
  subst hj
  simp at hv
  subst hv
  rw [add_plain]
  exact (Blk.new W t #[u]).cell 0
def getU (s : St) (us1 us2 : Nat → Value) (i : Nat) : Value := if (s.fw i).isSome = true then us2 i else us1 i
set_option maxHeartbeats 1000000 in
theorem ref_getU (S : List Nat) (A1 A2 : Option Addr) (n c1 c2 : Nat) (s : St) (us1 us2 : Nat → Value) (i : Nat) (w : World) (hg : Good s) (h1 : RowS w S (.slice A1 n c1) n us1) (h2 : RowS w S (.slice A2 n c2) n us2) (h4 : ∃ A c, us2 i = .slice A ((s.fw i).getD []).length c) (hi : i < n) :
    Calls Try.prog 41 #[refV (.slice A1 n c1) (.slice A2 n c2) s, .int .i64 (i : Nat)] w fun e w' => e = .returned (getU s us1 us2 i) ∧ Below w.heap.size w w' := by
  have hw := hg.fwl i
  unfold getU
  obtain ⟨b1, o1, c1', e1, hb1, _, g1⟩ := h1.at_ hi
  obtain ⟨b2, o2, c2', e2, hb2, _, g2⟩ := h2.at_ hi
  injection e1 with e1 _ _
  injection e2 with e2 _ _
  subst e1 e2
  obtain ⟨A', cc, e'⟩ := h4
  rw [e'] at g2
  have HE := Lib.hid e'; clear e'
  clear h1 h2
  generalize hm : ((s.fw i).getD []).length = m at *
  unfold refV
  generalize armedOf s.left = ar at *
  generalize s.dead = dd at *
  rcases hw with ⟨hf, rfl⟩ | ⟨hf, rfl⟩
  · rw [hf]
    clear hm
    go_enter Try.func41, Try.ntmps41
    go_wp2
    go_ret
    exact ⟨rfl, (Below.refl _ w).alloc (Nat.le_refl _) _⟩
  · rw [if_pos hf]
    clear hm hf
    rw [HE.out]
    go_enter Try.func41, Try.ntmps41
    go_wp2
    go_ret
    exact ⟨rfl, (Below.refl _ w).alloc (Nat.le_refl _) _⟩
set_option maxRecDepth 20000 in
set_option maxHeartbeats 2000000 in
theorem rflush_no (A1 A2 : Option Addr) (n n2 c1 c2 : Nat) (s : St) (w : World) (hg : Good s) (ha : s.ract.2 = false) :
    Calls Try.prog 38 #[refV (.slice A1 n c1) (.slice A2 n2 c2) s] w fun e w' => e = .returned (.tuple #[refV (.slice A1 n c1) (.slice A2 n2 c2) s.ract.1, .int .i64 7]) ∧ Below w.heap.size w w' := by
  have c := fun W => ref_act A1 A2 n n2 c1 c2 s W hg
  rw [ha] at c
  unfold refV at c ⊢
  have C := Lib.hid c; clear c
  clear ha hg
  generalize armedOf s.left = ar at *
  generalize s.dead = dd at *
  generalize armedOf s.ract.1.left = ar2 at *
  generalize s.ract.1.dead = dd2 at *
  have k1 : Blk ((w.alloc (dcells A1 A2 n n2 c1 c2 ar dd)).alloc zero31) (w.heap.size + 1) 31 #[nilS, nilS, .int .i64 0, .bool false] := by
    have := Blk.new (w.alloc (dcells A1 A2 n n2 c1 c2 ar dd)) 31 #[nilS, nilS, .int .i64 0, .bool false]
    simpa using this
  have K1 := Lib.hid k1; clear k1
  have hb1 : Below w.heap.size w ((w.alloc (dcells A1 A2 n n2 c1 c2 ar dd)).alloc zero31) := ((Below.refl _ _).alloc (Nat.le_refl _) _).alloc (by simp) _
  have HB1 := Lib.hid hb1; clear hb1
  go_enter Try.func38, Try.ntmps38
  go_wp2_with (go_at_call 61; refine (C.out _).mono ?_; rintro e w2 ⟨rfl, hb⟩; have kb := K1.out.below hb K1.out.lt; have q0 := kb.cell 0; have q1 := kb.cell 1; have q2 := kb.cell 2; have q3 := kb.cell 3; have p0 := kb.frozen 0; have p1 := kb.frozen 1; have p2 := kb.frozen 2; have p3 := kb.frozen 3; have klt := kb.lt; simp at q0 q1 q2 q3; clear kb; have HB := Lib.hid (HB1.out.trans (hb.mono HB1.out.size)); clear hb)
  have hs := HB.out.size
  exact bodyPost_ret (v := .tuple #[.agg #[.slice A1 n c1, .slice A2 n2 c2, .int .i64 ar2, .bool dd2], .int .i64 7]) (by simp [results, Try.results38, go_sem, q0, q1, q2, q3, klt]) rfl ⟨rfl, (set4_below HB.out (by omega)).alloc (by simp; omega) _⟩
set_option maxRecDepth 20000 in
set_option maxHeartbeats 4000000 in
theorem rflush_ok (S : List Nat) (A1 A2 : Option Addr) (n c1 c2 : Nat) (s : St) (us1 us2 : Nat → Value) (w : World) (hg : Good s) (hd : s.dead = false) (hn : n = s.n) (ha : s.act.2 = true)
    (hr1 : RowS w S (.slice A1 n c1) n us1) (hr2 : RowS w S (.slice A2 n c2) n us2) (he1 : ∀ j, j < n → SlS w S (us1 j) ((s.fs j).getD noughts)) (he2 : ∀ j, j < n → SlS w S (us2 j) ((s.fw j).getD [])) (hS : ∀ x ∈ S, x < w.heap.size) :
    Calls Try.prog 38 #[refV (.slice A1 n c1) (.slice A2 n c2) s] w fun e w' => ∃ v', e = .returned (.tuple #[v', .int .i64 0]) ∧ RefAt w' S v' { s.act.1 with fs := fun i => (s.fw i).or (s.fs i), fw := fun _ => none } ∧ Below w.heap.size w w' := by
  have c := fun W => ref_act A1 A2 n n c1 c2 s W hg
  rw [ract_live hd, ha] at c
  have hn1 : n ≤ 1024 := by have := hg.2.1; omega
  have hgt : ∀ (W : World) (hW : Below w.heap.size w W) (i : Nat) (hi : i < n), Calls Try.prog 41 #[refV (.slice A1 n c1) (.slice A2 n c2) s, .int .i64 (i : Nat)] W fun e w' => e = .returned (getU s us1 us2 i) ∧ Below W.heap.size W w' := fun W hW i hi =>
    ref_getU S A1 A2 n c1 c2 s us1 us2 i W hg (hr1.kept (kept_of_below hW (Nat.le_refl _))) (hr2.kept (kept_of_below hW (Nat.le_refl _))) (by obtain ⟨A, c, e, _⟩ := (he2 i hi).len; exact ⟨A, c, e⟩) hi
  unfold refV at c hgt ⊢
  rw [hd] at c hgt ⊢
  have hdd : s.act.1.dead = false := by
    unfold St.act at ha ⊢
    split at ha
    · cases ha
    · rw [if_neg (by assumption)]; exact hd
  rw [hdd] at c
  have HDD := Lib.hid hdd; clear hdd
  have C := Lib.hid c; clear c
  have GT := Lib.hid hgt; clear hgt
  have HR1 := Lib.hid hr1; clear hr1
  have HR2 := Lib.hid hr2; clear hr2
  have huf : ∀ i, i < n → ∃ A m c, getU s us1 us2 i = .slice A m c := by
    intro i hi
    unfold getU
    split
    · obtain ⟨A, c, e, _⟩ := (he2 i hi).len
      exact ⟨A, _, c, e⟩
    · obtain ⟨A, c, e, _⟩ := (he1 i hi).len
      exact ⟨A, _, c, e⟩
  have HUF := Lib.hid huf; clear huf
  have HEN := Lib.hid (enters_of Try.func41 (by kernel_rfl) rfl)
  have HE1 := Lib.hid he1; clear he1
  have HE2 := Lib.hid he2; clear he2
  have HS := Lib.hid hS; clear hS
  have HN := Lib.hid hn; clear hn
  have HG := Lib.hid hg; clear hg
  clear ha
  generalize har : armedOf s.left = ar at *
  generalize har2 : armedOf s.act.1.left = ar2 at *
  have HAR2 := Lib.hid har2; clear har2 har hd
  obtain ⟨i0, hi, hz0, hz1, hz2⟩ := info_parts Try.info35
  have HI := Lib.hid hi; clear hi
  have HZ0 := Lib.hid hz0; clear hz0
  have HZ1 := Lib.hid hz1; clear hz1
  have HZ2 := Lib.hid hz2; clear hz2
  have hmr := make_rows n hn1
  have k1 : Blk ((w.alloc (dcells A1 A2 n n c1 c2 ar false)).alloc zero31) (w.heap.size + 1) 31 #[nilS, nilS, .int .i64 0, .bool false] := by
    have := Blk.new (w.alloc (dcells A1 A2 n n c1 c2 ar false)) 31 #[nilS, nilS, .int .i64 0, .bool false]
    simpa using this
  have K1 := Lib.hid k1; clear k1
  have k0 : Blk ((w.alloc (dcells A1 A2 n n c1 c2 ar false)).alloc zero31) w.heap.size 31 #[.slice A1 n c1, .slice A2 n c2, .int .i64 ar, .bool false] := (Blk.new _ _ _).alloc _
  have K0 := Lib.hid k0; clear k0
  have hb1 : Below w.heap.size w ((w.alloc (dcells A1 A2 n n c1 c2 ar false)).alloc zero31) := ((Below.refl _ _).alloc (Nat.le_refl _) _).alloc (by simp) _
  have HB1 := Lib.hid hb1; clear hb1
  go_enter Try.func38, Try.ntmps38
  go_wp2_with (go_at_call 61; refine (C.out _).mono ?_; rintro e w2 ⟨rfl, hb⟩; have kb := K1.out.below hb K1.out.lt; have ka := K0.out.below hb K0.out.lt; have HB := Lib.hid (HB1.out.trans (hb.mono HB1.out.size)); clear hb; have hs2 : w.heap.size + 1 < w2.heap.size := kb.lt; have a0 := ka.cell 0; simp at a0; have K2 := Lib.hid kb; clear kb; have L2 := Lib.hid ka; clear ka)
  have KD3 := Lib.hid (Blk.new w2 31 #[.slice A1 n c1, .slice A2 n c2, .int .i64 ar2, .bool false])
  have L3 := Lib.hid (L2.out.alloc (Obj.cells #[.slice A1 n c1, .slice A2 n c2, .int .i64 ar2, .bool false] 31))
  have K3 := Lib.hid (K2.out.alloc (Obj.cells #[.slice A1 n c1, .slice A2 n c2, .int .i64 ar2, .bool false] 31))
  have HB3 := Lib.hid (HB.out.alloc HB.out.size (Obj.cells #[.slice A1 n c1, .slice A2 n c2, .int .i64 ar2, .bool false] 31))
  clear L2 K2 a0
  generalize w2.alloc (Obj.cells #[.slice A1 n c1, .slice A2 n c2, .int .i64 ar2, .bool false] 31) = w3 at *
  have a0 := L3.out.cell 0
  have a1 := (L3.out.alloc zero31).cell 0
  have a2 := (L3.out.alloc (.cells (madeCells #[nilS] n) 35)).cell 0
  have a3 := ((L3.out.alloc (.cells (madeCells #[nilS] n) 35)).alloc zero31).cell 0
  have a4 := ((L3.out.alloc zero31).alloc (.cells (madeCells #[nilS] n) 35)).cell 0
  have b0 := KD3.out.cell 2
  have b1 := (KD3.out.alloc zero31).cell 2
  have b2 := (KD3.out.alloc (.cells (madeCells #[nilS] n) 35)).cell 2
  have b3 := ((KD3.out.alloc (.cells (madeCells #[nilS] n) 35)).alloc zero31).cell 2
  have b4 := ((KD3.out.alloc zero31).alloc (.cells (madeCells #[nilS] n) 35)).cell 2
  have l1 := L3.out.lt
  have l2 := KD3.out.lt
  simp at a0 a1 a2 a3 a4 b0 b1 b2 b3 b4
  go_region_held3 (fun W => W.cell? ⟨w.heap.size, 0, none⟩ = some (.slice A1 n c1) ∧ W.cell? ⟨w2.heap.size, 2, none⟩ = some (.int .i64 ar2))
    (first
      | exact ⟨a0, b0⟩
      | exact ⟨a1, b1⟩
      | exact ⟨a2, b2⟩
      | exact ⟨a3, b3⟩
      | exact ⟨a4, b4⟩
      | go_keep)
    (first
      | fail)
  all_goals
    first
    | (have fY : Blk ((w3.alloc (Obj.cells (madeCells #[nilS] n) 35)).alloc (Obj.cells #[nilS, .slice (some ⟨w3.heap.size, 0, none⟩) n n, .int .i64 ar2, .bool false] 31)).drew (w3.heap.size + 1) 31 #[nilS, .slice (some ⟨w3.heap.size, 0, none⟩) n n, .int .i64 ar2, .bool false] := (by have := Blk.new (w3.alloc (Obj.cells (madeCells #[nilS] n) 35)) 31 #[nilS, .slice (some ⟨w3.heap.size, 0, none⟩) n n, .int .i64 ar2, .bool false]; exact (by simpa using this : Blk _ (w3.heap.size + 1) _ _).drew)
       have fR : Blk ((w3.alloc (Obj.cells (madeCells #[nilS] n) 35)).alloc (Obj.cells #[nilS, .slice (some ⟨w3.heap.size, 0, none⟩) n n, .int .i64 ar2, .bool false] 31)).drew w3.heap.size 35 (madeCells #[nilS] n) := ((Blk.new _ _ _).alloc _).drew
       have fB : Below (w2.heap.size + 1) w3 ((w3.alloc (Obj.cells (madeCells #[nilS] n) 35)).alloc (Obj.cells #[nilS, .slice (some ⟨w3.heap.size, 0, none⟩) n n, .int .i64 ar2, .bool false] 31)).drew := (((Below.refl _ w3).alloc (by omega) _).alloc (by simp; omega) _).drew
       have FY := Lib.hid fY; clear fY
       have FR := Lib.hid fR; clear fR
       have FB := Lib.hid fB; clear fB
       obtain ⟨w5, hw5⟩ : ∃ w5, w5 = ((w3.alloc (Obj.cells (madeCells #[nilS] n) 35)).alloc (Obj.cells #[nilS, .slice (some ⟨w3.heap.size, 0, none⟩) n n, .int .i64 ar2, .bool false] 31)).drew := ⟨_, rfl⟩
       rw [← hw5] at FY FR FB ⊢
       clear hw5
       have hyb : w2.heap.size < w3.heap.size + 1 := by omega
       have hrb : w2.heap.size < w3.heap.size := by omega
       have hyr : w3.heap.size + 1 ≠ w3.heap.size := by omega
       clear a0 a1 a2 a3 a4 b0 b1 b2 b3 b4 l1
       generalize w3.heap.size + 1 = yb at *
       generalize w3.heap.size = rb at *)
    | (have fY : Blk ((w3.alloc (Obj.cells #[nilS, .slice (some ⟨w3.heap.size + 1, 0, none⟩) n n, .int .i64 ar2, .bool false] 31)).alloc (Obj.cells (madeCells #[nilS] n) 35)).drew w3.heap.size 31 #[nilS, .slice (some ⟨w3.heap.size + 1, 0, none⟩) n n, .int .i64 ar2, .bool false] := ((Blk.new _ _ _).alloc _).drew
       have fR : Blk ((w3.alloc (Obj.cells #[nilS, .slice (some ⟨w3.heap.size + 1, 0, none⟩) n n, .int .i64 ar2, .bool false] 31)).alloc (Obj.cells (madeCells #[nilS] n) 35)).drew (w3.heap.size + 1) 35 (madeCells #[nilS] n) := (by have := Blk.new (w3.alloc (Obj.cells #[nilS, .slice (some ⟨w3.heap.size + 1, 0, none⟩) n n, .int .i64 ar2, .bool false] 31)) 35 (madeCells #[nilS] n); exact (by simpa using this : Blk _ (w3.heap.size + 1) _ _).drew)
       have fB : Below (w2.heap.size + 1) w3 ((w3.alloc (Obj.cells #[nilS, .slice (some ⟨w3.heap.size + 1, 0, none⟩) n n, .int .i64 ar2, .bool false] 31)).alloc (Obj.cells (madeCells #[nilS] n) 35)).drew := (((Below.refl _ w3).alloc (by omega) _).alloc (by simp; omega) _).drew
       have FY := Lib.hid fY; clear fY
       have FR := Lib.hid fR; clear fR
       have FB := Lib.hid fB; clear fB
       obtain ⟨w5, hw5⟩ : ∃ w5, w5 = ((w3.alloc (Obj.cells #[nilS, .slice (some ⟨w3.heap.size + 1, 0, none⟩) n n, .int .i64 ar2, .bool false] 31)).alloc (Obj.cells (madeCells #[nilS] n) 35)).drew := ⟨_, rfl⟩
       rw [← hw5] at FY FR FB ⊢
       clear hw5
       have hyb : w2.heap.size < w3.heap.size := by omega
       have hrb : w2.heap.size < w3.heap.size + 1 := by omega
       have hyr : w3.heap.size ≠ w3.heap.size + 1 := by omega
       clear a0 a1 a2 a3 a4 b0 b1 b2 b3 b4 l1
       generalize w3.heap.size + 1 = rb at *
       generalize w3.heap.size = yb at *)
  all_goals
    have h5y := FY.out.lt
    have h5r := FR.out.lt
    have hB5 : Below (w.heap.size + 2) w3 w5 := FB.out.mono (by omega)
    have hBw : Below w.heap.size w w5 := HB3.out.trans (hB5.mono (by omega))
    have hL5 := L3.out.below hB5 (by omega)
    have hK5 := K3.out.below hB5 (by omega)
    have L5 := Lib.hid hL5; clear hL5
    have K5 := Lib.hid hK5; clear hK5
    have HBW := Lib.hid hBw; clear hBw hB5
    go_wp2
    go_loopw [7] (fun i wr => ∃ (k : Nat) (A : Option Addr) (c : Nat), k ≤ n ∧ i = .int .i64 k ∧ Blk wr yb 31 #[.slice A k c, .slice (some ⟨rb, 0, none⟩) n n, .int .i64 ar2, .bool false] ∧
      wr.ownsRow w5.heap.size 35 1 (.slice A k c) k ((List.range k).map (getU s us1 us2)) ∧ KeptBut w5 wr [yb]) (fun i _ => n - (intOf i).toNat)
    case atStart => exact ⟨0, none, 0, Nat.zero_le _, rfl, FY.out, World.ownsRow_nil _ _ _ _, KeptBut.refl _ _⟩
    case round =>
      obtain ⟨k, A, c, hk, rfl, hy, hown, hkp⟩ := hrel
      have hL := hkp.blk L5.out (by simp; omega)
      have d0 := hL.cell 0
      have d1 := hL.cell 1
      have d2 := hL.cell 2
      have d3 := hL.cell 3
      have dlt := hL.lt
      have y0 := hy.cell 0
      have ylt := hy.lt
      simp at d0 d1 d2 d3 y0
      have HL := Lib.hid hL; clear hL
      have HY := Lib.hid hy; clear hy
      have HO := Lib.hid hown; clear hown
      have HKP := Lib.hid hkp; clear hkp
      have hkb : (k + 1) * 24 ≤ 140737488355328 := by omega
      have HKB := Lib.hid hkb; clear hkb
      by_cases hlt : k < n
      · have hbr : Below w.heap.size w wr.drew := (HBW.out.trans (HKP.out.below (by simp; omega) (by omega))).drew
        have HBR := Lib.hid hbr; clear hbr
        obtain ⟨Au, mu, cu, eu⟩ := HUF.out k hlt
        have gt := GT.out wr.drew HBR.out k hlt
        rw [eu] at gt
        have GTK := Lib.hid gt; clear gt
        have hrng : (List.range (k + 1)).map (getU s us1 us2) = (List.range k).map (getU s us1 us2) ++ [.slice Au mu cu] := by rw [List.range_succ, List.map_append, ← eu]; rfl
        have HRNG := Lib.hid hrng; clear hrng eu
        generalize (List.range k).map (getU s us1 us2) = zs at *
        go_wp2
        go_region_law (first
          | (refine step_calls rfl 41 _ _ rfl #[.agg #[.slice A1 n c1, .slice A2 n c2, .int .i64 ar, .bool false], .int .i64 (k : Nat)] (by simp [Act.eval]) HEN.out (by exact GTK.out) ?_; rintro e w6 ⟨rfl, hb⟩; refine ⟨_, rfl, ?_⟩; have hb : Below wr.heap.size wr w6 := ⟨hb.os, hb.tape, hb.output, hb.size, hb.block⟩; have hy6 := HY.out.below hb ylt; have y1 := hy6.cell 0; have y2 := (hy6.alloc (.cells #[.slice Au mu cu] 35)).cell 0; have y3 := hy6.lt; simp at y1 y2; have HY6 := Lib.hid hy6; clear hy6; have HO6 := Lib.hid (own_below HO.out hb); have hsz6 := hb.size; have HB6 := Lib.hid hb; clear hb)
          | (refine step_append_any _ rfl (.tmp 31) (.tmp 35) 29 rfl w5.heap.size 35 i0 nilS 1 24 Try.underlying29 HI.out HZ0.out HZ1.out HZ2.out rfl (by decide) (.slice A k c) k zs rfl (HO6.out.alloc _) (w6.heap.size + 1) (some ⟨w6.heap.size, 0, none⟩) 1 1 [.slice Au mu cu] rfl (lit_reads _ _ _) (by intro u hu; simp at hu; subst hu; rfl) (by unfold maxLen; omega) HKB.out (by have := HKP.out.size; simp; omega) ?_; intro v7 w7 hown7 hg7 _; obtain ⟨A7, c7, rfl⟩ := own_form hown7; have hy7 := (HY6.out.alloc (.cells #[.slice Au mu cu] 35)).grown hg7 (fun e => own_blk_ne HO6.out HY6.out (by decide) e.symm); have y4 := hy7.cell 0; have y5 := hy7.frozen 0; have y6 := hy7.lt; simp at y4; have HY7 := Lib.hid hy7; clear hy7; have HO7 := Lib.hid hown7; clear hown7; have HG7 := Lib.hid hg7; clear hg7))
        all_goals
          have hkp2 : KeptBut w5 w7 [yb] := by
            exact ((HKP.out.trans (kept_of_below HB6.out (Nat.le_refl _))).trans (kept_alloc _)).grownAbove HG7.out (fun q hq => (HO.out.lt q hq).1)
          have HKP2 := Lib.hid hkp2; clear hkp2
          go_wp2
          go_roundw
          case rel => exact ⟨k + 1, A7, c7, by omega, by go_num, HY7.out.set_ 0 _, by rw [HRNG.out]; exact ownsRow_setCell_below HO7.out (by simp; omega) _, HKP2.out.trans (kept_set _ _ (by simp))⟩
          case measure => simp [intOf]; omega
      · have hkn : k = n := by omega
        subst hkn
        have y1 := HY.out.cell 1
        have y2 := HY.out.cell 2
        have y3 := HY.out.cell 3
        have hkr := HKP.out.blk K5.out (by simp; omega)
        have q0 := hkr.cell 0
        have q1 := hkr.cell 1
        have q2 := hkr.cell 2
        have q3 := hkr.cell 3
        have p0 := hkr.frozen 0
        have p1 := hkr.frozen 1
        have p2 := hkr.frozen 2
        have p3 := hkr.frozen 3
        have hklt := hkr.lt
        simp at y1 y2 y3 q0 q1 q2 q3
        clear hkr
        have hbr : Below w.heap.size w wr := HBW.out.trans (HKP.out.below (by simp; omega) (by omega))
        have hra : RefAt wr ((w.heap.size + 1) :: S) (.agg #[.slice A k c, .slice (some ⟨rb, 0, none⟩) k k, .int .i64 ar2, .bool false]) { s.act.1 with fs := fun i => (s.fw i).or (s.fs i), fw := fun _ => none } := by
          have hK : KeptBut w wr ((w.heap.size + 1) :: S) := kept_of_below hbr (Nat.le_refl _)
          have hn' : s.act.1.n = k := (act_n s).trans HN.out.symm
          have hraise := raise_cons (S := S) (B := w.heap.size) (x := w.heap.size + 1) (by omega)
          refine ⟨.slice A k c, .slice (some ⟨rb, 0, none⟩) k k, getU s us1 us2, fun _ => nilS, ?_, ?_, ?_, ?_, ?_⟩
          · show _ = Value.agg #[_, _, .int .i64 (armedOf s.act.1.left), .bool s.act.1.dead]
            rw [HAR2.out, HDD.out]
          · show RowS wr _ _ s.act.1.n _
            rw [hn']
            refine (rowS_own HO.out (cons_lt HS.out (by omega) (by omega))).ext fun j hj => ?_
            simp [List.getD, hj]
          · show RowS wr _ _ s.act.1.n _
            rw [hn']
            exact madeRow k hn1 (HKP.out.blk FR.out (by simp; omega)) (cons_lt HS.out (by omega) (by omega))
          · intro j hj
            have hj' : j < k := by rw [← hn']; exact hj
            show SlS wr _ (getU s us1 us2 j) (((s.fw j).or (s.fs j)).getD noughts)
            unfold getU
            have e1 := HE1.out j hj'
            have e2 := HE2.out j hj'
            cases hf : s.fw j with
            | none =>
              rw [Option.none_or, if_neg (by simp)]
              exact (e1.raise hraise).kept hK
            | some xs =>
              rw [Option.some_or, if_pos (by simp), Option.getD_some]
              rw [hf, Option.getD_some] at e2
              exact (e2.raise hraise).kept hK
          · intro j hj
            exact slS_nil _ _
        have HRA := Lib.hid hra; clear hra
        have HBR := Lib.hid hbr; clear hbr
        go_wp2
        exact bodyPost_ret (v := .tuple #[.agg #[.slice A k c, .slice (some ⟨rb, 0, none⟩) k k, .int .i64 ar2, .bool false], .int .i64 0]) (by simp [results, Try.results38, go_sem, q0, q1, q2, q3, hklt]) rfl ⟨_, rfl, (HRA.out.kept (set4_kept (KeptBut.refl _ _) (List.mem_cons_self ..))).more (fun x hx => List.mem_cons_of_mem _ hx), set4_below HBR.out (by omega)⟩
theorem ref_flush (S : List Nat) (v : Value) (s : St) (w : World) (hg : Good s) (h : RefAt w S v s) (hS : ∀ x ∈ S, x < w.heap.size) :
    Calls Try.prog 38 #[v] w fun e w' => ∃ v', e = .returned (.tuple #[v', .int .i64 s.flush.2]) ∧ RefAt w' S v' s.flush.1 ∧ Below w.heap.size w w' := by
  obtain ⟨v1, v2, us1, us2, rfl, h1, h2, h3, h4⟩ := h
  obtain ⟨A1, c1, rfl, _⟩ := id h1
  obtain ⟨A2, c2, rfl, _⟩ := id h2
  cases hd : s.dead with
  | true =>
    have e : s.flush = (s, 7) := by simp [St.flush, hd]
    have er : s.ract = (s, false) := by simp [St.ract, hd]
    rw [e]
    have := rflush_no A1 A2 s.n s.n c1 c2 s w hg (by rw [er])
    rw [er] at this
    refine this.mono ?_
    rintro e w' ⟨rfl, hb⟩
    exact ⟨_, rfl, RefAt.below ⟨_, _, us1, us2, rfl, h1, h2, h3, h4⟩ hb, hb⟩
  | false =>
    cases ha : s.act.2 with
    | false =>
      have e : s.flush = (s.act.1, 7) := by simp [St.flush, hd, ha]
      rw [e]
      have := rflush_no A1 A2 s.n s.n c1 c2 s w hg (by rw [ract_live hd]; exact ha)
      rw [ract_live hd] at this
      refine this.mono ?_
      rintro e w' ⟨rfl, hb⟩
      refine ⟨_, rfl, RefAt.below ⟨_, _, us1, us2, rfl, ?_, ?_, ?_, ?_⟩ hb, hb⟩
      · rw [act_n]; exact h1
      · rw [act_n]; exact h2
      · rw [act_n, act_fs]; exact h3
      · rw [act_n, act_fw]; exact h4
    | true =>
      have e : s.flush = ({ s.act.1 with fs := fun i => (s.fw i).or (s.fs i), fw := fun _ => none }, 0) := by simp [St.flush, hd, ha]
      rw [e]
      exact rflush_ok S A1 A2 s.n c1 c2 s us1 us2 w hg hd rfl ha h1 h2 h3 h4 hS
theorem ref_write (S : List Nat) (v vb : Value) (s : St) (i : Int) (xs : List Nat) (w : World) (hg : Good s) (h : RefAt w S v s) (hS : ∀ x ∈ S, x < w.heap.size) (hb : Sl w w.heap.size vb xs) :
    Calls Try.prog 37 #[v, .int .i64 i, vb] w fun e w' => ∃ v', e = .returned (.tuple #[v', .int .i64 (s.write i xs).2]) ∧ RefAt w' S v' (s.write i xs).1 ∧ Below w.heap.size w w' := by
  obtain ⟨v1, v2, us1, us2, rfl, h1, h2, h3, h4⟩ := h
  obtain ⟨A1, c1, rfl, _⟩ := id h1
  obtain ⟨A2, c2, rfl, _⟩ := id h2
  obtain ⟨A3, n3, c3, rfl, hb, _⟩ := hb
  have hl := hb.1
  cases hd : s.dead with
  | true =>
    have e : s.write i xs = (s, 7) := by simp [St.write, hd]
    rw [e]
    refine (rwrite_dead A1 A2 s.n s.n c1 c2 s i _ w hd).mono ?_
    rintro e w' ⟨rfl, hb⟩
    exact ⟨_, rfl, RefAt.below ⟨_, _, us1, us2, rfl, h1, h2, h3, h4⟩ hb, hb⟩
  | false =>
    by_cases hi : 0 ≤ i ∧ i < s.n ∧ n3 = 512
    · cases ha : s.act.2 with
      | false =>
        have e : s.write i xs = (s.act.1, 7) := by simp [St.write, hd, ha, hl, hi]
        rw [e]
        refine (rwrite_dies A1 A2 A3 s.n s.n n3 c1 c2 c3 s i w hg hd hi.1 hi.2.1 hi.2.2 ha).mono ?_
        rintro e w' ⟨rfl, hb⟩
        refine ⟨_, rfl, RefAt.below ⟨_, _, us1, us2, rfl, ?_, ?_, ?_, ?_⟩ hb, hb⟩
        · rw [act_n]; exact h1
        · rw [act_n]; exact h2
        · rw [act_n, act_fs]; exact h3
        · rw [act_n, act_fw]; exact h4
      | true =>
        have e : s.write i xs = ({ s.act.1 with fw := upd1 s.act.1.fw i.toNat xs }, 0) := by simp [St.write, hd, ha, hl, hi]
        rw [e]
        have := rwrite_ok S A1 A2 A3 s.n c1 c2 c3 n3 s i.toNat xs us1 us2 w hg hd rfl (by omega) hi.2.2 ha h1 h2 h3 h4 hb hS
        rw [Int.toNat_of_nonneg hi.1] at this
        exact this
    · have e : s.write i xs = (s, 1) := by
        unfold St.write
        rw [hd, if_neg (by simp), if_neg (by rw [hl]; exact hi)]
      rw [e]
      refine (rwrite_arg A1 A2 A3 s.n s.n n3 c1 c2 c3 s i w hd hi).mono ?_
      rintro e w' ⟨rfl, hb⟩
      exact ⟨_, rfl, RefAt.below ⟨_, _, us1, us2, rfl, h1, h2, h3, h4⟩ hb, hb⟩
end Go.Proofs.Ytpmkacpdmjnbjaa.Dsk
