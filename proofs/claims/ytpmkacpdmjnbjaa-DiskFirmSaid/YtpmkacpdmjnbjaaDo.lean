/- The law's own helper of layer 3: Do, but for writes; the disk's state and the reference's may be two. -/
import Derived.Test.YtpmkacpdmjnbjaaFine
namespace Go.Proofs.Ytpmkacpdmjnbjaa.Dsk
open Go.RowKit Go.Maps Go.Shelf Go.Proofs.Ytpmkacpdmjnbjaa.Mem
set_option linter.unusedVariables false
set_option linter.unusedSimpArgs false
/-- an act -/
structure Ac where
  what : Int
  n : Int
  b : List Nat
  short : Bool
  tears : List (Int × List Nat)
def ActAt (w : World) (B : Nat) (va : Value) (a : Ac) : Prop :=
  ∃ vb vt, va = .agg #[.int .i64 a.what, .int .i64 a.n, vb, .bool a.short, vt] ∧ Sl w B vb a.b ∧ TearsAt w B vt a.tears ∧ -9223372036854775808 ≤ a.n ∧ a.n ≤ 9223372036854775807
def Ac.bytes (a : Ac) : List Nat := if a.short = true then a.b else torn a.b noughts
def St.step (s : St) (a : Ac) : St :=
  if a.what = 0 then (s.write a.n a.bytes).1 else if a.what = 1 then s.flush.1 else if a.what = 2 then { s with left := a.n } else if a.what = 3 then s.crash a.tears else s
theorem ref_form {w : World} {S : List Nat} {v : Value} {s : St} (h : RefAt w S v s) : ∃ A1 A2 c1 c2, v = refV (.slice A1 s.n c1) (.slice A2 s.n c2) s := by
  obtain ⟨v1, v2, us1, us2, rfl, h1, h2, _⟩ := h
  obtain ⟨A1, c1, rfl, _⟩ := h1
  obtain ⟨A2, c2, rfl, _⟩ := h2
  exact ⟨A1, A2, c1, c2, rfl⟩
abbrev acells (k n : Int) (vb : Value) (sh : Bool) (vt : Value) : Obj := .cells #[.int .i64 k, .int .i64 n, vb, .bool sh, vt] 38
theorem set4_grown (w : World) (g : Nat) (a b c d : Value) : w.grownBy (set4 w g a b c d) (some g) :=
  grown_trans (grown_trans (grown_trans (grown_set w ⟨g, 0, none⟩ a) (grown_set _ ⟨g, 1, none⟩ b)) (grown_set _ ⟨g, 2, none⟩ c)) (grown_set _ ⟨g, 3, none⟩ d)
theorem close4 {w w3 : World} {S : List Nat} {g bs bw x : Nat} {v a b c d : Value} {s s' : St} (hD : DiskAt w3 g bs bw s) (hR : RefAt w3 (x :: S) v s') (hK : KeptBut w w3 [g, bs, bw]) (h1 : g < w.heap.size ∧ bs < w.heap.size ∧ bw < w.heap.size) (hx : w.heap.size ≤ x) :
    DiskAt (set4 w3 x a b c d) g bs bw s ∧ RefAt (set4 w3 x a b c d) S v s' ∧ KeptBut w (set4 w3 x a b c d) [g, bs, bw] :=
  ⟨hD.kept (set4_kept (KeptBut.refl _ _) (S := [x]) (by simp)) (by simp; omega) (by simp; omega) (by simp; omega),
   (hR.kept (set4_kept (KeptBut.refl _ _) (List.mem_cons_self ..))).more (fun y hy => List.mem_cons_of_mem _ hy), hK.grownAbove (set4_grown _ _ _ _ _ _) (fun y hy => by cases hy; first | exact Nat.le_refl _ | assumption)⟩
theorem raise4 {w : World} {S : List Nat} {x : Nat} {v : Value} {s : St} (h : RefAt w S v s) (hx : w.heap.size ≤ x) : RefAt w (x :: S) v s := h.raise (raise_cons hx)
theorem step_other {s : St} {a : Ac} (h0 : a.what ≠ 0) (h1 : a.what ≠ 1) (h2 : a.what ≠ 2) (h3 : a.what ≠ 3) : s.step a = s := by simp [St.step, h0, h1, h2, h3]
set_option maxRecDepth 20000 in
set_option maxHeartbeats 2000000 in
theorem do_other (g : Nat) (A1 A2 A3 A4 : Option Addr) (n1 n2 n3 n4 c1 c2 c3 c4 : Nat) (s : St) (k n : Int) (sh : Bool) (w : World) (h0 : k ≠ 0) (h1 : k ≠ 1) (h2 : k ≠ 2) (h3 : k ≠ 3) :
    Calls Try.prog 14 #[ptr g, refV (.slice A1 n1 c1) (.slice A2 n2 c2) s, .agg #[.int .i64 k, .int .i64 n, .slice A3 n3 c3, .bool sh, .slice A4 n4 c4]] w fun e w' => e = .returned (.tuple #[refV (.slice A1 n1 c1) (.slice A2 n2 c2) s, .bool true]) ∧ Below w.heap.size w w' := by
  have e0 : (k == 0) = false := beq_false_of_ne h0
  have e1 : (k == 1) = false := beq_false_of_ne h1
  have e2 : (k == 2) = false := beq_false_of_ne h2
  have e3 : (k == 3) = false := beq_false_of_ne h3
  unfold refV
  generalize armedOf s.left = ar
  generalize s.dead = dd
  clear h0 h1 h2 h3
  go_enter Try.func14, Try.ntmps14
  go_wp2
  exact bodyPost_ret (v := .tuple #[.agg #[.slice A1 n1 c1, .slice A2 n2 c2, .int .i64 ar, .bool dd], .bool true]) (by simp [results, Try.results14, go_sem]) rfl ⟨rfl, (((Below.refl _ w).alloc (Nat.le_refl _) _).alloc (by simp) _).alloc (by simp; omega) _⟩
set_option maxRecDepth 20000 in
set_option maxHeartbeats 2000000 in
theorem do_crash (S : List Nat) (g bs bw B : Nat) (A1 A2 A3 A4 : Option Addr) (n3 n4 c1 c2 c3 c4 : Nat) (s s' : St) (l : List (Int × List Nat)) (n : Int) (sh : Bool) (w : World) (hd : DiskAt w g bs bw s) (hr : RefAt w S (refV (.slice A1 s'.n c1) (.slice A2 s'.n c2) s') s') (hf : Fine s') (hsub : ∀ x ∈ [g, bs, bw], x ∈ S) (hS : ∀ x ∈ S, x < w.heap.size)
    (ht : TearsAt w B (.slice A4 n4 c4) l) (hB : ∀ x ∈ [g, bs, bw], B ≤ x) :
    Calls Try.prog 14 #[ptr g, refV (.slice A1 s'.n c1) (.slice A2 s'.n c2) s', .agg #[.int .i64 3, .int .i64 n, .slice A3 n3 c3, .bool sh, .slice A4 n4 c4]] w fun e w' => ∃ v', e = .returned (.tuple #[v', .bool true]) ∧ DiskAt w' g bs bw (s.crash l) ∧ RefAt w' S v' (s'.crash l) ∧ KeptBut w w' [g, bs, bw] := by
  have hg := hf.1
  have hlt := hd.lt
  have hBw : B ≤ w.heap.size := by have := hB g (by simp); omega
  have c := fun (W : World) (hW : Below w.heap.size w W) => crash_any g bs bw B s (.slice A4 n4 c4) l W (hd.below hW) (ht.below hW hBw) hB
  have r := fun (W : World) (hW : KeptBut w W [g, bs, bw]) (hx : w.heap.size + 1 + 1 < W.heap.size) => ref_crash ((w.heap.size + 1 + 1) :: S) B (refV (.slice A1 s'.n c1) (.slice A2 s'.n c2) s') (.slice A4 n4 c4) s' l W hg ((raise4 hr (by omega)).kept (hW.more (fun y hy => List.mem_cons_of_mem _ (hsub y hy)))) (by have h1 := hW.size; intro y hy; rcases List.mem_cons.1 hy with rfl | hy; exact hx; have := hS y hy; omega) (ht.below (hW.below hB hBw) (Nat.le_refl _)) (by have := hW.size; omega) hf.2
  have C := Lib.hid c; clear c
  have R := Lib.hid r; clear r
  have HLT := Lib.hid hlt; clear hlt
  have HSUB := Lib.hid hsub
  clear hg hr ht hB hd hBw hsub hS
  unfold refV at R ⊢
  generalize s'.n = n1 at *
  generalize armedOf s'.left = ar at *
  generalize s'.dead = dd at *
  have hb0 : Below w.heap.size w (((w.alloc (dcells A1 A2 n1 n1 c1 c2 ar dd)).alloc (acells 3 n (.slice A3 n3 c3) sh (.slice A4 n4 c4))).alloc zero31) := (((Below.refl _ w).alloc (Nat.le_refl _) _).alloc (by simp) _).alloc (by simp; omega) _
  have k0 : Blk (((w.alloc (dcells A1 A2 n1 n1 c1 c2 ar dd)).alloc (acells 3 n (.slice A3 n3 c3) sh (.slice A4 n4 c4))).alloc zero31) w.heap.size 31 #[.slice A1 n1 c1, .slice A2 n1 c2, .int .i64 ar, .bool dd] := ((Blk.new _ _ _).alloc _).alloc _
  have k1 : Blk (((w.alloc (dcells A1 A2 n1 n1 c1 c2 ar dd)).alloc (acells 3 n (.slice A3 n3 c3) sh (.slice A4 n4 c4))).alloc zero31) (w.heap.size + 1) 38 #[.int .i64 3, .int .i64 n, .slice A3 n3 c3, .bool sh, .slice A4 n4 c4] := (blk_last (by simp)).alloc _
  have k2 : Blk (((w.alloc (dcells A1 A2 n1 n1 c1 c2 ar dd)).alloc (acells 3 n (.slice A3 n3 c3) sh (.slice A4 n4 c4))).alloc zero31) (w.heap.size + 1 + 1) 31 #[nilS, nilS, .int .i64 0, .bool false] := blk_last (by simp)
  have HB0 := Lib.hid hb0; clear hb0
  have K0 := Lib.hid k0; clear k0
  have K1 := Lib.hid k1; clear k1
  have K2 := Lib.hid k2; clear k2
  go_enter Try.func14, Try.ntmps14
  go_wp2_with (first
    | (go_at_call 17; refine (C.out _ HB0.out).mono ?_; rintro e w2 ⟨rfl, hD, hK⟩; have j0 := hK.blk K0.out (by have := HLT.out; simp; omega); have j1 := hK.blk K1.out (by have := HLT.out; simp; omega); have j2 := hK.blk K2.out (by have := HLT.out; simp; omega); have x0 := j0.cell 0; have x1 := j0.cell 1; have x2 := j0.cell 2; have x3 := j0.cell 3; have x4 := j1.cell 4; have x5 := j0.lt; have x6 := j1.lt; simp at x0 x1 x2 x3 x4; have J2 := Lib.hid j2; clear j0 j1 j2; have HD2 := Lib.hid hD; clear hD; have HK2 := Lib.hid ((kept_of_below (S := [g, bs, bw]) HB0.out (Nat.le_refl _)).trans hK); clear hK)
    | (go_at_call 39; refine (R.out _ HK2.out J2.out.lt).mono ?_; rintro e w3 ⟨v3, rfl, hR, hb⟩; obtain ⟨B1, B2, d1, d2, hv3⟩ := ref_form hR; subst hv3; have j2 := J2.out.below hb J2.out.lt; have y0 := j2.cell 0; have y1 := j2.cell 1; have y2 := j2.cell 2; have y3 := j2.cell 3; have f0 := j2.frozen 0; have f1 := j2.frozen 1; have f2 := j2.frozen 2; have f3 := j2.frozen 3; have y4 := j2.lt; simp at y0 y1 y2 y3; clear j2; have HD3 := Lib.hid (HD2.out.below hb); have HR3 := Lib.hid hR; clear hR; have HK3 := Lib.hid (HK2.out.trans (kept_of_below hb (Nat.le_refl _))); clear hb; unfold refV at HR3; unfold refV))
  obtain ⟨z1, z2, z3⟩ := close4 (a := .slice B1 (s'.crash l).n d1) (b := .slice B2 (s'.crash l).n d2) (c := .int .i64 (armedOf (s'.crash l).left)) (d := .bool (s'.crash l).dead) HD3.out HR3.out HK3.out HLT.out (by omega)
  exact bodyPost_ret (v := .tuple #[.agg #[.slice B1 (s'.crash l).n d1, .slice B2 (s'.crash l).n d2, .int .i64 (armedOf (s'.crash l).left), .bool (s'.crash l).dead], .bool true]) (by simp [results, Try.results14, go_sem, y0, y1, y2, y3, y4]) rfl ⟨_, rfl, z1, z2, z3⟩
set_option maxRecDepth 20000 in
set_option maxHeartbeats 2000000 in
theorem do_arm (S : List Nat) (g bs bw : Nat) (A1 A2 A3 A4 : Option Addr) (n3 n4 c1 c2 c3 c4 : Nat) (s s' : St) (n : Int) (sh : Bool) (w : World) (hd : DiskAt w g bs bw s) (hr : RefAt w S (refV (.slice A1 s'.n c1) (.slice A2 s'.n c2) s') s') (hf : Fine s') (hsub : ∀ x ∈ [g, bs, bw], x ∈ S) (hS : ∀ x ∈ S, x < w.heap.size)
    (h1 : -9223372036854775808 ≤ n) (h2 : n ≤ 9223372036854775807) :
    Calls Try.prog 14 #[ptr g, refV (.slice A1 s'.n c1) (.slice A2 s'.n c2) s', .agg #[.int .i64 2, .int .i64 n, .slice A3 n3 c3, .bool sh, .slice A4 n4 c4]] w fun e w' => ∃ v', e = .returned (.tuple #[v', .bool true]) ∧ DiskAt w' g bs bw { s with left := n } ∧ RefAt w' S v' { s' with left := n } ∧ KeptBut w w' [g, bs, bw] := by
  have hlt := hd.lt
  have c := fun (W : World) (hW : Below w.heap.size w W) => arm_any g bs bw s n W (hd.below hW) h1 h2
  have C := Lib.hid c; clear c
  have HLT := Lib.hid hlt; clear hlt
  have HSUB := Lib.hid hsub
  obtain ⟨v1, v2, us1, us2, hv, hr1, hr2, he1, he2⟩ := raise4 (x := w.heap.size + 1 + 1) hr (by omega)
  have hrf : ∀ W, KeptBut w W [g, bs, bw] → RefAt W ((w.heap.size + 1 + 1) :: S) (refV (.slice A1 s'.n c1) (.slice A2 s'.n c2) { s' with left := n }) { s' with left := n } := fun W hW => by
    have hv' := hv
    unfold refV at hv'
    injection hv' with hv'
    have e1 : Value.slice A1 s'.n c1 = v1 := by
      have := congrArg (fun (x : Array Value) => x[0]!) hv'
      simpa using this
    have e2 : Value.slice A2 s'.n c2 = v2 := by
      have := congrArg (fun (x : Array Value) => x[1]!) hv'
      simpa using this
    have hk := hW.more (S' := (w.heap.size + 1 + 1) :: S) (fun y hy => List.mem_cons_of_mem _ (hsub y hy))
    exact ⟨_, _, us1, us2, rfl, e1 ▸ hr1.kept hk, e2 ▸ hr2.kept hk, fun i hi => (he1 i hi).kept hk, fun i hi => (he2 i hi).kept hk⟩
  have HRF := Lib.hid hrf; clear hrf hv hr1 hr2 he1 he2 hr hsub hS
  unfold refV at HRF ⊢
  simp only at HRF
  generalize hn1 : s'.n = n1 at *
  have HN1 := Lib.hid hn1; clear hn1
  generalize armedOf s'.left = ar at *
  generalize hdd : s'.dead = dd at *
  have HDD := Lib.hid hdd; clear hdd
  have hb0 : Below w.heap.size w (((w.alloc (dcells A1 A2 n1 n1 c1 c2 ar dd)).alloc (acells 2 n (.slice A3 n3 c3) sh (.slice A4 n4 c4))).alloc zero31) := (((Below.refl _ w).alloc (Nat.le_refl _) _).alloc (by simp) _).alloc (by simp; omega) _
  have k0 : Blk (((w.alloc (dcells A1 A2 n1 n1 c1 c2 ar dd)).alloc (acells 2 n (.slice A3 n3 c3) sh (.slice A4 n4 c4))).alloc zero31) w.heap.size 31 #[.slice A1 n1 c1, .slice A2 n1 c2, .int .i64 ar, .bool dd] := ((Blk.new _ _ _).alloc _).alloc _
  have k1 : Blk (((w.alloc (dcells A1 A2 n1 n1 c1 c2 ar dd)).alloc (acells 2 n (.slice A3 n3 c3) sh (.slice A4 n4 c4))).alloc zero31) (w.heap.size + 1) 38 #[.int .i64 2, .int .i64 n, .slice A3 n3 c3, .bool sh, .slice A4 n4 c4] := (blk_last (by simp)).alloc _
  have k2 : Blk (((w.alloc (dcells A1 A2 n1 n1 c1 c2 ar dd)).alloc (acells 2 n (.slice A3 n3 c3) sh (.slice A4 n4 c4))).alloc zero31) (w.heap.size + 1 + 1) 31 #[nilS, nilS, .int .i64 0, .bool false] := blk_last (by simp)
  have HB0 := Lib.hid hb0; clear hb0
  have K0 := Lib.hid k0; clear k0
  have K1 := Lib.hid k1; clear k1
  have K2 := Lib.hid k2; clear k2
  clear hd
  by_cases hneg : n < 0
  · have hd1 : decide (n < 0) = true := by simpa using hneg
    have ea : armedOf n = -1 := by unfold armedOf; omega
    rw [ea] at HRF
    go_enter Try.func14, Try.ntmps14
    go_wp2_with (go_at_call 26; refine (C.out _ HB0.out).mono ?_; rintro e w2 ⟨rfl, hD, hG⟩; have hK : KeptBut _ w2 [g, bs, bw] := kept_of_grown hG (by simp); have j0 := hK.blk K0.out (by have := HLT.out; simp; omega); have j1 := hK.blk K1.out (by have := HLT.out; simp; omega); have j2 := hK.blk K2.out (by have := HLT.out; simp; omega); have x0 := j0.cell 0; have x1 := j0.cell 1; have x2 := j0.cell 2; have x3 := j0.cell 3; have x7 := j0.frozen 2; have x4 := j1.cell 1; have x5 := j0.lt; have x6 := j1.lt; have y0 := j2.cell 0; have y1 := j2.cell 1; have y2 := j2.cell 2; have y3 := j2.cell 3; have f0 := j2.frozen 0; have f1 := j2.frozen 1; have f2 := j2.frozen 2; have f3 := j2.frozen 3; have y4 := j2.lt; simp at x0 x1 x2 x3 x4 y0 y1 y2 y3; have HD2 := Lib.hid hD; clear hD; have HK2 := Lib.hid ((kept_of_below (S := [g, bs, bw]) HB0.out (Nat.le_refl _)).trans hK); clear hK hG j0 j1 j2)
    have hg5 : KeptBut w ((w2.setCell ⟨w.heap.size, 2, none⟩ (.int .i64 n)).setCell ⟨w.heap.size, 2, none⟩ (.int .i64 (-1))) [g, bs, bw] := (HK2.out.grownAbove (grown_set w2 ⟨w.heap.size, 2, none⟩ _) (fun y hy => by cases hy; first | exact Nat.le_refl _ | assumption)).grownAbove (grown_set _ ⟨w.heap.size, 2, none⟩ _) (fun y hy => by cases hy; first | exact Nat.le_refl _ | assumption)
    have hd5 := (HD2.out.kept (kept_set w2 (g := w.heap.size) (i := 2) (.int .i64 n) (S := [w.heap.size]) (by simp)) (by have := HLT.out; simp; omega) (by have := HLT.out; simp; omega) (by have := HLT.out; simp; omega)).kept (kept_set _ (g := w.heap.size) (i := 2) (.int .i64 (-1)) (S := [w.heap.size]) (by simp)) (by have := HLT.out; simp; omega) (by have := HLT.out; simp; omega) (by have := HLT.out; simp; omega)
    obtain ⟨z1, z2, z3⟩ := close4 (a := .slice A1 n1 c1) (b := .slice A2 n1 c2) (c := .int .i64 (-1)) (d := .bool dd) hd5 (HRF.out _ hg5) hg5 HLT.out (by omega)
    exact bodyPost_ret (v := .tuple #[.agg #[.slice A1 n1 c1, .slice A2 n1 c2, .int .i64 (-1), .bool dd], .bool true]) (by simp [results, Try.results14, go_sem, y0, y1, y2, y3, y4]) rfl ⟨_, rfl, z1, z2, z3⟩
  · have hd1 : decide (n < 0) = false := by simpa using hneg
    have ea : armedOf n = n := by unfold armedOf; omega
    rw [ea] at HRF
    go_enter Try.func14, Try.ntmps14
    go_wp2_with (go_at_call 26; refine (C.out _ HB0.out).mono ?_; rintro e w2 ⟨rfl, hD, hG⟩; have hK : KeptBut _ w2 [g, bs, bw] := kept_of_grown hG (by simp); have j0 := hK.blk K0.out (by have := HLT.out; simp; omega); have j1 := hK.blk K1.out (by have := HLT.out; simp; omega); have j2 := hK.blk K2.out (by have := HLT.out; simp; omega); have x0 := j0.cell 0; have x1 := j0.cell 1; have x2 := j0.cell 2; have x3 := j0.cell 3; have x7 := j0.frozen 2; have x4 := j1.cell 1; have x5 := j0.lt; have x6 := j1.lt; have y0 := j2.cell 0; have y1 := j2.cell 1; have y2 := j2.cell 2; have y3 := j2.cell 3; have f0 := j2.frozen 0; have f1 := j2.frozen 1; have f2 := j2.frozen 2; have f3 := j2.frozen 3; have y4 := j2.lt; simp at x0 x1 x2 x3 x4 y0 y1 y2 y3; have HD2 := Lib.hid hD; clear hD; have HK2 := Lib.hid ((kept_of_below (S := [g, bs, bw]) HB0.out (Nat.le_refl _)).trans hK); clear hK hG j0 j1 j2)
    have hg5 : KeptBut w (w2.setCell ⟨w.heap.size, 2, none⟩ (.int .i64 n)) [g, bs, bw] := HK2.out.grownAbove (grown_set w2 ⟨w.heap.size, 2, none⟩ _) (fun y hy => by cases hy; first | exact Nat.le_refl _ | assumption)
    have hd5 := HD2.out.kept (kept_set w2 (g := w.heap.size) (i := 2) (.int .i64 n) (S := [w.heap.size]) (by simp)) (by have := HLT.out; simp; omega) (by have := HLT.out; simp; omega) (by have := HLT.out; simp; omega)
    obtain ⟨z1, z2, z3⟩ := close4 (a := .slice A1 n1 c1) (b := .slice A2 n1 c2) (c := .int .i64 n) (d := .bool dd) hd5 (HRF.out _ hg5) hg5 HLT.out (by omega)
    exact bodyPost_ret (v := .tuple #[.agg #[.slice A1 n1 c1, .slice A2 n1 c2, .int .i64 n, .bool dd], .bool true]) (by simp [results, Try.results14, go_sem, y0, y1, y2, y3, y4]) rfl ⟨_, rfl, z1, z2, z3⟩
set_option maxRecDepth 20000 in
set_option maxHeartbeats 4000000 in
theorem do_flush (S : List Nat) (g bs bw : Nat) (A1 A2 A3 A4 : Option Addr) (n3 n4 c1 c2 c3 c4 : Nat) (s s' : St) (n : Int) (sh : Bool) (w : World) (hd : DiskAt w g bs bw s) (hr : RefAt w S (refV (.slice A1 s'.n c1) (.slice A2 s'.n c2) s') s') (hf : Fine s') (hsub : ∀ x ∈ [g, bs, bw], x ∈ S) (hS : ∀ x ∈ S, x < w.heap.size) :
    Calls Try.prog 14 #[ptr g, refV (.slice A1 s'.n c1) (.slice A2 s'.n c2) s', .agg #[.int .i64 1, .int .i64 n, .slice A3 n3 c3, .bool sh, .slice A4 n4 c4]] w fun e w' => ∃ v', e = .returned (.tuple #[v', .bool (s.flush.2 == s'.flush.2)]) ∧ DiskAt w' g bs bw s.flush.1 ∧ RefAt w' S v' s'.flush.1 ∧ KeptBut w w' [g, bs, bw] := by
  have hg := hf.1
  have hlt := hd.lt
  have c := fun (W : World) (hW : DiskAt W g bs bw s) => flush_any g bs bw s W hW
  have r := fun (W : World) (hW : KeptBut w W [g, bs, bw]) (hx : w.heap.size + 1 + 1 < W.heap.size) => ref_flush ((w.heap.size + 1 + 1) :: S) (refV (.slice A1 s'.n c1) (.slice A2 s'.n c2) s') s' W hg ((raise4 hr (by omega)).kept (hW.more (fun y hy => List.mem_cons_of_mem _ (hsub y hy)))) (by have h1 := hW.size; intro y hy; rcases List.mem_cons.1 hy with rfl | hy; exact hx; have := hS y hy; omega)
  have C := Lib.hid c; clear c
  have R := Lib.hid r; clear r
  have HLT := Lib.hid hlt; clear hlt
  have HSUB := Lib.hid hsub
  have HD := Lib.hid hd
  clear hg hr hd hsub hS
  unfold refV at R ⊢
  generalize hn1 : s'.n = n1 at *
  clear hn1
  generalize armedOf s'.left = ar at *
  generalize s'.dead = dd at *
  have hb0 : Below w.heap.size w (((w.alloc (dcells A1 A2 n1 n1 c1 c2 ar dd)).alloc (acells 1 n (.slice A3 n3 c3) sh (.slice A4 n4 c4))).alloc zero31) := (((Below.refl _ w).alloc (Nat.le_refl _) _).alloc (by simp) _).alloc (by simp; omega) _
  have k2 : Blk (((w.alloc (dcells A1 A2 n1 n1 c1 c2 ar dd)).alloc (acells 1 n (.slice A3 n3 c3) sh (.slice A4 n4 c4))).alloc zero31) (w.heap.size + 1 + 1) 31 #[nilS, nilS, .int .i64 0, .bool false] := blk_last (by simp)
  have HB0 := Lib.hid hb0; clear hb0
  have HK0 := Lib.hid (kept_of_below (S := [g, bs, bw]) HB0.out (Nat.le_refl _))
  have K2 := Lib.hid k2; clear k2
  go_enter Try.func14, Try.ntmps14
  go_wp2_with (go_at_call 38; refine (R.out _ HK0.out K2.out.lt).mono ?_; rintro e w2 ⟨v2, rfl, hR, hb⟩; obtain ⟨B1, B2, d1, d2, hv2⟩ := ref_form hR; subst hv2; have J2 := Lib.hid (K2.out.below hb K2.out.lt); have HR2 := Lib.hid hR; clear hR; have HB2 := Lib.hid (HB0.out.trans (hb.mono HB0.out.size)); clear hb; unfold refV at HR2; unfold refV)
  generalize s'.flush.1.n = n2 at *
  generalize armedOf s'.flush.1.left = ar2 at *
  generalize s'.flush.1.dead = dd2 at *
  have X3 := Lib.hid (Blk.new w2 31 #[.slice B1 n2 d1, .slice B2 n2 d2, .int .i64 ar2, .bool dd2])
  have J3 := Lib.hid (J2.out.alloc (Obj.cells #[.slice B1 n2 d1, .slice B2 n2 d2, .int .i64 ar2, .bool dd2] 31))
  have HR3 := Lib.hid (HR2.out.below ((Below.refl _ w2).alloc (Nat.le_refl _) (Obj.cells #[.slice B1 n2 d1, .slice B2 n2 d2, .int .i64 ar2, .bool dd2] 31)))
  have HB3 := Lib.hid (HB2.out.alloc HB2.out.size (Obj.cells #[.slice B1 n2 d1, .slice B2 n2 d2, .int .i64 ar2, .bool dd2] 31))
  have hj2 := J2.out.lt
  generalize w2.alloc (Obj.cells #[.slice B1 n2 d1, .slice B2 n2 d2, .int .i64 ar2, .bool dd2] 31) = w3 at *
  have HD3 : Hid (DiskAt w3.drew g bs bw s) := (HD.out.below HB3.out).drew
  have a0 := X3.out.cell 0
  have a1 := X3.out.cell 1
  have a2 := X3.out.cell 2
  have a3 := X3.out.cell 3
  have b0 := J3.out.cell 0
  have b1 := J3.out.cell 1
  have b2 := J3.out.cell 2
  have b3 := J3.out.cell 3
  have f0 := J3.out.frozen 0
  have f1 := J3.out.frozen 1
  have f2 := J3.out.frozen 2
  have f3 := J3.out.frozen 3
  have l1 := X3.out.lt
  have l2 := J3.out.lt
  have hne : ¬ w.heap.size + 1 + 1 = w2.heap.size := by omega
  simp at a0 a1 a2 a3 b0 b1 b2 b3
  go_region_held3 (fun W => W.cell? ⟨w2.heap.size, 0, none⟩ = some (.slice B1 n2 d1) ∧ W.cell? ⟨w2.heap.size, 1, none⟩ = some (.slice B2 n2 d2) ∧ W.cell? ⟨w2.heap.size, 2, none⟩ = some (.int .i64 ar2) ∧ W.cell? ⟨w2.heap.size, 3, none⟩ = some (.bool dd2))
    (first
      | with_reducible exact ⟨a0, a1, a2, a3⟩
      | with_reducible exact ⟨q0, q1, q2, q3⟩
      | go_keep)
    (first
      | (go_at_call 20; refine (C.out _ (by exact HD3.out)).mono ?_; rintro e w4 ⟨rfl, hD, hK⟩; have xk := hK.blk X3.out.drew (by have := HLT.out; simp; omega); have jk := hK.blk J3.out.drew (by have := HLT.out; simp; omega); have q0 := xk.cell 0; have q1 := xk.cell 1; have q2 := xk.cell 2; have q3 := xk.cell 3; have y0 := jk.cell 0; have y1 := jk.cell 1; have y2 := jk.cell 2; have y3 := jk.cell 3; have z0 := jk.frozen 0; have z1 := jk.frozen 1; have z2 := jk.frozen 2; have z3 := jk.frozen 3; have z4 := jk.lt; have z5 := xk.lt; simp at q0 q1 q2 q3 y0 y1 y2 y3; clear xk jk; have HD4 := Lib.hid hD; clear hD; have HK4 : Hid (KeptBut w3 w4 [g, bs, bw]) := kept_drew.trans hK; clear hK))
  go_wp2
  obtain ⟨r1, r2, r3⟩ := close4 (a := .slice B1 n2 d1) (b := .slice B2 n2 d2) (c := .int .i64 ar2) (d := .bool dd2) HD4.out (HR3.out.kept (HK4.out.more (fun y hy => List.mem_cons_of_mem _ (HSUB.out y hy)))) ((kept_of_below HB3.out (Nat.le_refl _)).trans HK4.out) HLT.out (by omega)
  exact bodyPost_ret (v := .tuple #[.agg #[.slice B1 n2 d1, .slice B2 n2 d2, .int .i64 ar2, .bool dd2], .bool (s.flush.2 == s'.flush.2)]) (by simp [results, Try.results14, go_sem, y0, y1, y2, y3, z4]) rfl ⟨_, rfl, r1, r2, r3⟩
end Go.Proofs.Ytpmkacpdmjnbjaa.Dsk
