/- A log is opened (layer 8): the contract of wal.Open where there is a base, and of a new disk. -/
import Derived.Test.YtddhkajcakndlaaWalOpen
import Derived.BigQuiet
import Derived.Deep.RegionHeld3
namespace Go.Proofs.Ytddhkajcakndlaa.Wl
open Go.RowKit Go.Proofs.Ytddhkajcakndlaa.Mem Go.Proofs.Ytddhkajcakndlaa.Pg Go.Proofs.Ytddhkajcakndlaa.Rcd Go.Proofs.Ytddhkajcakndlaa.Slt
open Go.Proofs.Ytddhkajcakndlaa.Dsk (KeptBut SMap DiskAt St ptr kept_of_below kept_of_grown kept_drew IsSec NoneAt)
open Go.Proofs.Ytddhkajcakndlaa.Plt (sl plV sl_le sl_pos)
set_option linter.unusedVariables false
set_option linter.unusedSimpArgs false
theorem ofS_shift (D : Nat → List Nat) (m : Nat) (g : Int) : (ofLog (fun i => got (D (m + i))) g) = logF D m g := rfl
theorem blk_c {w : World} {g : Nat} {t : TypeId} {cs : Array Value} (h : Blk w g t cs) (i : Nat) (u : Value) (hu : cs[i]? = some u) : w.cell? ⟨g, i, none⟩ = some u := by rw [h.cell]; exact hu
theorem out_some {w w' : World} {g bs bw x n c : Nat} {s : St} {v : Wn} {A : Option Addr} {vr : Value} (ho : (openP s).ok = some v) (he : (openP s).e = 0) (hd : DiskAt w' g bs bw (openP s).st) (hk : KeptBut w w' [g, bs, bw])
    (hb : Bts w' w'.heap.size A n (openP s).b) (hr : Sls w' w'.heap.size vr (openP s).recs) (hx : w.heap.size ≤ x) (hw : WalAt w' x g s.n v) : OpenOut w g bs bw s (.returned (.tuple #[ptr x, .slice A n c, vr, .int .i64 0])) w' :=
  ⟨ptr x, A, n, c, vr, by rw [he], hd, hk, hb, hr, (fun e => by rw [ho] at e; cases e), (fun v' hv => by rw [ho] at hv; cases hv; exact ⟨x, rfl, hx, hw⟩)⟩
theorem out_drewN {w w' : World} {g bs bw : Nat} {s : St} {e : Ending} (h : OpenOut w g bs bw s e w') (n : Nat) : OpenOut w g bs bw s e (w'.drewN n) := by
  obtain ⟨vw, A, n', c, vr, h1, h2, h3, h4, h5, h6, h7⟩ := h
  have hk : Below w'.heap.size w' (w'.drewN n) := below_drewN (Below.refl _ _) n
  refine ⟨vw, A, n', c, vr, h1, h2.below hk, h3.trans (kept_of_below hk (Nat.le_refl _)), bts_up h4 hk, h5.up hk, h6, fun v hv => ?_⟩
  obtain ⟨x, a1, a2, a3⟩ := h7 v hv
  exact ⟨x, a1, a2, a3.up hk⟩
set_option maxRecDepth 20000 in
set_option maxHeartbeats 8000000 in
theorem open_old (g bs bw : Nat) (s : St) (w : World) (h : DiskAt w g bs bw s) (hn : 6 ≤ s.n) (hn2 : s.n ≤ 1000) (hd : s.dead = false) (hm : ¬ 2147483648 < openMark s) (y : Bs) (hy : theBase s.get s.n = some y) :
    Calls Try.prog 6 #[ptr g] w (OpenOut w g bs bw s) := by
  have c := Dsk.size_any g bs bw s w h
  have mk := fun (W : World) => make_k s.n W hn (by omega)
  have rd := fun (W : World) (hW : Below w.heap.size w W) => wread_ok g bs bw s W (h.below hW) hd hn2
  have e0 : openP s = ⟨s, some ⟨y.1, openMark s, (recsS s y.1).2, false⟩, y.2, (recsS s y.1).1, 0⟩ := by unfold openP; rw [if_neg (by omega), if_neg (by rw [hd]; simp), if_neg hm, hy]
  have ma := fun (b : Nat) (W : World) (hS : Sls W W.heap.size (.slice (some ⟨b, 0, none⟩) s.n s.n) (ofS s.get s.n)) => mark_any _ s.n s.n _ W hS hn2 (get_600 h s.n)
  obtain ⟨hm0, hm1⟩ := mark_bounds (ofS s.get s.n)
  have hom : openMark s = markOf (ofS s.get s.n) + 1 := rfl
  rw [hom] at hm
  have hlk : lg s.n ≤ 1000 := by unfold lg; omega
  have ba := fun (b x : Nat) (W : World) (hW : Below w.heap.size w W) (hw : WalAt W x g s.n ⟨0, openMark s, 0, false⟩) (hS : Sls W W.heap.size (.slice (some ⟨b, 0, none⟩) s.n s.n) (ofS s.get s.n)) =>
    base_some (base_any x g bs bw s.n s ⟨0, openMark s, 0, false⟩ _ s.n W hw (h.below hW) rfl hn hn2 (by simp only; omega) (by simp only; omega) (by simp) hS (get_600 h s.n)) hy
  have lo := fun (b : Nat) (W : World) (hS : Sls W W.heap.size (.slice (some ⟨b, 0, none⟩) s.n s.n) (ofS s.get s.n)) => log_any s.n _ s.n s.get W hn hn2 hS
  have re := fun (b : Nat) (W : World) (hS : Sls W W.heap.size (.slice (some ⟨b, 0, none⟩) (lg s.n) (lg s.n)) (ofS (fun i => s.get (2 * sl s.n + i)) (lg s.n))) => records_any _ (lg s.n) (lg s.n) (fun i => s.get (2 * sl s.n + i)) y.1 W hS hlk (fun y hy => by
    obtain ⟨i, _, rfl⟩ := ofS_mem hy
    have := (get_sec h (2 * sl s.n + i)).1
    omega)
  rw [ofS_shift] at re
  have hTT : recsOf (logF s.get (2 * sl s.n) y.1) (lg s.n) = recsS s y.1 := rfl
  rw [hTT] at re
  obtain ⟨T, hT⟩ : ∃ T, T = recsS s y.1 := ⟨_, rfl⟩
  rw [← hT] at re e0
  have HO := Lib.hid (fun (w' : World) (x : Nat) (A : Option Addr) (n c : Nat) (vr : Value) (h1 : DiskAt w' g bs bw s) (h2 : KeptBut w w' [g, bs, bw]) (h3 : Bts w' w'.heap.size A n y.2) (h4 : Sls w' w'.heap.size vr T.1) (h5 : w.heap.size ≤ x) (h6 : WalAt w' x g s.n ⟨y.1, openMark s, T.2, false⟩) =>
    out_some (w := w) (w' := w') (g := g) (bs := bs) (bw := bw) (x := x) (n := n) (c := c) (s := s) (A := A) (vr := vr) (v := ⟨y.1, openMark s, T.2, false⟩) (by rw [e0]) (by rw [e0]) (by rw [e0]; exact h1) h2 (by rw [e0]; exact h3) (by rw [e0]; exact h4) h5 h6)
  clear e0 hT hy
  obtain ⟨G, B⟩ := y
  simp only at ba re HO lo hTT
  rw [hom] at ba HO
  generalize markOf (ofS s.get s.n) = m at *
  have hodd := odd_disk h
  have hlt := h.lt
  have hdw := fun (W : World) (hW : Below w.heap.size w W) => h.below hW
  have hdm : decide (2147483648 < m + 1) = false := by simpa using hm
  generalize hL2 : ofS (fun i => s.get (2 * sl s.n + i)) (lg s.n) = L2 at *
  generalize ofS s.get s.n = L at *
  generalize s.n = k at *
  have C := Lib.hid c; clear c
  have MK := Lib.hid mk; clear mk
  have RD := Lib.hid rd; clear rd
  have MA := Lib.hid ma; clear ma
  have BA := Lib.hid ba; clear ba
  have LO := Lib.hid lo; clear lo
  have RE := Lib.hid re; clear re
  have HLT := Lib.hid hlt; clear hlt
  have HDW := Lib.hid hdw; clear hdw
  have HODD := Lib.hid hodd; clear hodd
  clear h hom hTT hn hn2 hd hm hL2 hlk
  go_enter Try.func6, Try.ntmps6
  go_wp2_with (first
    | (go_at_call 18; refine (C.out).mono ?_; rintro e w' ⟨rfl, rfl⟩)
    | (go_at_call 17; refine (MK.out _).mono ?_; rintro e w1 ⟨rfl, hb⟩; have HP1 := Lib.hid hb.size; have KP := Lib.hid (Blk.new w1 40 #[.int .i64 (sl k : Nat), .int .i64 (2 * (sl k : Nat)), .int .i64 (lg k : Nat)]); have HB := Lib.hid (palloc hb (plC k)); clear hb)
    | (go_at_call 19; refine (RD.out _ HB.out).mono ?_; rintro e w2 ⟨b0, rfl, hs, hb⟩; have KP2 := Lib.hid (KP.out.below hb KP.out.lt); have HS2 := Lib.hid hs; have HB2 := Lib.hid (HB.out.trans (hb.mono HB.out.size)); clear hb hs)
    | (go_at_call 20; refine (MA.out b0 _ HS2.out).mono ?_; rintro e w3 ⟨rfl, hb⟩; have kp3 := KP2.out.below hb KP2.out.lt; have p0 := kp3.cell 0; have p1 := kp3.cell 1; have p2 := kp3.cell 2; have p3 := kp3.lt; simp at p0 p1 p2; have HX := Lib.hid (Nat.le_trans HB2.out.size hb.size); have KP3 := Lib.hid (kp3.alloc (.cells (walCs g k ⟨0, m + 1, 0, false⟩) 42)); have HS3 := Lib.hid (HS2.out.up (palloc hb (.cells (walCs g k ⟨0, m + 1, 0, false⟩) 42))); have HB3 := Lib.hid (palloc (HB2.out.trans (hb.mono HB2.out.size)) (.cells (walCs g k ⟨0, m + 1, 0, false⟩) 42)); have HW3 := Lib.hid (Blk.new w3 42 (walCs g k ⟨0, m + 1, 0, false⟩)); clear hb kp3)
    | (go_at_call 21; refine (BA.out b0 _ _ HB3.out HW3.out HS3.out).mono ?_; rintro e w5 ⟨A5, n5, c5, rfl, ht, hb⟩; have hw5 := WalAt.up HW3.out hb; have c4 := hw5.c4; have f4 := hw5.fz 4; have hxl5 := hw5.lt; have HW5 := Lib.hid hw5; have KP5 := Lib.hid (KP3.out.below hb KP3.out.lt); have HS5 := Lib.hid (HS3.out.up hb); have HT5 := Lib.hid ht; have HD5 := Lib.hid (HDW.out _ (HB3.out.trans (hb.mono HB3.out.size))); have HK5 := Lib.hid (kept_of_below (S := [g, bs, bw]) (HB3.out.trans (hb.mono HB3.out.size)) (Nat.le_refl _)); clear hb ht hw5))
  generalize hxx : w3.heap.size = x at *
  have HXX := Lib.hid hxx; clear hxx
  clear p0 p1 p2 p3
  obtain ⟨l1, l2, l3⟩ := HLT.out
  have n1 : x ≠ g := by have := HX.out; omega
  have n2 : x ≠ bs := by have := HX.out; omega
  have n3 : x ≠ bw := by have := HX.out; omega
  have hxl := HW5.out.lt
  have hpx : w1.heap.size ≠ x := fun e => by
    have h1 := Blk.ne_ KP5.out HW5.out (by decide)
    exact h1 e
  have hks := kept_set1 (w := w5) (x := x) (i := 4) (.int .i64 G)
  have ha := palloc (Below.refl (w5.setCell ⟨x, 4, none⟩ (.int .i64 G)).heap.size (w5.setCell ⟨x, 4, none⟩ (.int .i64 G))) (.cells #[.int .i64 G, .slice A5 n5 c5] 52)
  have hsz : (w5.setCell ⟨x, 4, none⟩ (.int .i64 G)).heap.size = w5.heap.size := by simp
  have HW6 := Lib.hid ((HW5.out.set_gen G).up ha)
  have KP6 := Lib.hid ((KP5.out.far (p := ⟨x, 4, none⟩) hpx (.int .i64 G)).alloc (.cells #[.int .i64 G, .slice A5 n5 c5] 52))
  have kq6 := Blk.new (w5.setCell ⟨x, 4, none⟩ (.int .i64 G)) 52 #[.int .i64 G, .slice A5 n5 c5]
  rw [hsz] at kq6
  have KQ6 := Lib.hid kq6
  have HS6 := Lib.hid (((sls_kept HS5.out hks (odd_wal HW5.out) (Nat.le_refl _)).more hks.size).up ha)
  have HT6 := Lib.hid (bts_up ((bts_kept HT5.out hks (odd_wal HW5.out) (Nat.le_refl _)).more hks.size) ha)
  have HD6 := Lib.hid ((DiskAt.set_far (i := 4) HD5.out (.int .i64 G) n1 n2 n3).below ha)
  have HK6 := Lib.hid ((kept_above HK5.out (grown_set w5 ⟨x, 4, none⟩ (.int .i64 G)) (fun q hq => by cases hq; exact HX.out)).trans (kept_of_below ha (Nat.le_refl _)))
  have hqx : w5.heap.size ≠ x := by omega
  clear ha hks HW5 KP5 HS5 HT5 HD5 HK5 hxl f4 c4 hxl5 kq6 hsz
  generalize (w5.setCell ⟨x, 4, none⟩ (.int .i64 G)).alloc (.cells #[.int .i64 G, .slice A5 n5 c5] 52) = w6 at *
  generalize w5.heap.size = q at *
  generalize w1.heap.size = p at *
  have p0 := KP6.out.cell 0
  have p1 := KP6.out.cell 1
  have p2 := KP6.out.cell 2
  have q0 := KQ6.out.cell 0
  have q1 := KQ6.out.cell 1
  simp at p0 p1 p2 q0 q1
  have hpl := KP6.out.lt
  have hql := KQ6.out.lt
  go_region_held3 (fun W => W.cell? ⟨p, 0, none⟩ = some (.int .i64 (sl k : Nat)) ∧ W.cell? ⟨p, 1, none⟩ = some (.int .i64 (2 * (sl k : Nat))) ∧ W.cell? ⟨p, 2, none⟩ = some (.int .i64 (lg k : Nat)) ∧ W.cell? ⟨q, 0, none⟩ = some (.int .i64 G))
    (first
      | with_reducible exact ⟨p0, p1, p2, q0⟩
      | with_reducible exact ⟨r0, r1, r2, r3⟩
      | with_reducible exact ⟨t0, t1, t2, t3⟩
      | go_keep)
    (first
      | (go_at_call 23; refine (LO.out b0 _ (by exact HS6.out)).mono ?_; rintro e w7 ⟨b1, rfl, hs, hb⟩; have hb := undrew hb; have hb : Below w6.heap.size w6 w7 := hb; have kp := KP6.out.below hb hpl; have kq := KQ6.out.below hb hql; have r0 := kp.cell 0; have r1 := kp.cell 1; have r2 := kp.cell 2; have r3 := kq.cell 0; have r4 := kp.lt; have r5 := kq.lt; simp at r0 r1 r2 r3; have KP7 := Lib.hid kp; have KQ7 := Lib.hid kq; have HS7 := Lib.hid hs; have HB7 := Lib.hid hb; clear kp kq hs hb)
      | (go_at_call 22; refine (RE.out b1 _ (by exact HS7.out)).mono ?_; rintro e w8 ⟨v8, rfl, hs, hb⟩; have kp := KP7.out.below hb r4; have kq := KQ7.out.below hb r5; have t0 := kp.cell 0; have t1 := kp.cell 1; have t2 := kp.cell 2; have t3 := kq.cell 0; have t4 := kq.cell 1; have t5 := kq.lt; simp at t0 t1 t2 t3 t4; have HS8 := Lib.hid hs; have HB8 := Lib.hid (HB7.out.trans (hb.mono HB7.out.size)); clear kp kq hs hb))
  have hw8 := HW6.out.up HB8.out
  have c6 := hw8.c6
  have f6 := hw8.fz 6
  have hx8 := hw8.lt
  obtain ⟨A9, n9, c9, rfl, _⟩ := id HS8.out
  clear p0 p1 p2 q0 q1 hpl hql
  go_wp2
  go_quiet (fail)
  go_wp2
  have hks := kept_set1 (w := w8) (x := x) (i := 6) (.int .i64 (T.2 : Nat))
  have ho := HO.out (w8.setCell ⟨x, 6, none⟩ (.int .i64 (T.2 : Nat))) x A5 n5 c5 (.slice A9 n9 c9) (DiskAt.set_far (i := 6) (HD6.out.below HB8.out) (.int .i64 (T.2 : Nat)) n1 n2 n3)
    (kept_above (HK6.out.trans (kept_of_below HB8.out (Nat.le_refl _))) (grown_set w8 ⟨x, 6, none⟩ (.int .i64 (T.2 : Nat))) (fun q hq => by cases hq; exact HX.out))
    ((bts_kept (bts_up HT6.out HB8.out) hks (odd_wal hw8) (Nat.le_refl _)).more hks.size) ((sls_kept HS8.out hks (odd_wal hw8) (Nat.le_refl _)).more hks.size) HX.out (hw8.set_next T.2)
  exact bodyPost_ret (v := .tuple #[ptr x, .slice A5 n5 c5, .slice A9 n9 c9, .int .i64 0]) (by simp [results, Try.results6, go_sem]) rfl (out_drewN ho _)
theorem kept_drop {w w3 w5 : World} {x g bs bw : Nat} (hb : Below w.heap.size w w3) (hx : w.heap.size ≤ x) (hk : KeptBut w3 w5 [x, g, bs, bw]) : KeptBut w w5 [g, bs, bw] :=
  ⟨hk.os.trans hb.os, hk.tape.trans hb.tape, hk.output.trans hb.output, Nat.le_trans hb.size hk.size, fun q hq hn => (hk.block q (Nat.lt_of_lt_of_le hq hb.size) (by
    simp only [List.mem_cons, not_or] at hn ⊢
    exact ⟨by omega, hn⟩)).trans (hb.block q hq)⟩
theorem new_sep {w w1 W : World} {x g bs bw k : Nat} {s : St} {v : Wn} {cs : Array Value} (hx : w.heap.size ≤ x) (hd : DiskAt W g bs bw s) (hl : g < w.heap.size ∧ bs < w.heap.size ∧ bw < w.heap.size) (hp : w.heap.size ≤ w1.heap.size) (hk : Blk W w1.heap.size 40 cs) (hw : WalAt W x g k v) : w1.heap.size ∉ [x, g, bs, bw] := by
  have h1 := Blk.ne_ hk hw (by decide)
  simp only [List.mem_cons, not_or, List.not_mem_nil, not_false_eq_true, and_true]
  exact ⟨h1, by omega, by omega, by omega⟩
set_option maxRecDepth 20000 in
set_option maxHeartbeats 8000000 in
theorem open_new (g bs bw : Nat) (s : St) (w : World) (h : DiskAt w g bs bw s) (hn : 6 ≤ s.n) (hn2 : s.n ≤ 1000) (hd : s.dead = false) (hm : ¬ 2147483648 < openMark s) (hy : theBase s.get s.n = none) (hnd : newD s.get s.n = true) (he : (firstP s s.n (openMark s)).2 = 0) :
    Calls Try.prog 6 #[ptr g] w (OpenOut w g bs bw s) := by
  have c := Dsk.size_any g bs bw s w h
  have mk := fun (W : World) => make_k s.n W hn (by omega)
  have rd := fun (W : World) (hW : Below w.heap.size w W) => wread_ok g bs bw s W (h.below hW) hd hn2
  have e0 : openP s = ⟨(firstP s s.n (openMark s)).1, some ⟨1, openMark s, 0, false⟩, [], [], 0⟩ := by unfold openP; rw [if_neg (by omega), if_neg (by rw [hd]; simp), if_neg hm, hy]; simp only; rw [if_pos hnd, if_pos he]
  have ma := fun (b : Nat) (W : World) (hS : Sls W W.heap.size (.slice (some ⟨b, 0, none⟩) s.n s.n) (ofS s.get s.n)) => mark_any _ s.n s.n _ W hS hn2 (get_600 h s.n)
  obtain ⟨hm0, hm1⟩ := mark_bounds (ofS s.get s.n)
  have hom : openMark s = markOf (ofS s.get s.n) + 1 := rfl
  rw [hom] at hm
  have hlk : lg s.n ≤ 1000 := by unfold lg; omega
  have ba := fun (b x : Nat) (W : World) (hW : Below w.heap.size w W) (hw : WalAt W x g s.n ⟨0, openMark s, 0, false⟩) (hS : Sls W W.heap.size (.slice (some ⟨b, 0, none⟩) s.n s.n) (ofS s.get s.n)) =>
    base_new (base_any x g bs bw s.n s ⟨0, openMark s, 0, false⟩ _ s.n W hw (h.below hW) rfl hn hn2 (by simp only; omega) (by simp only; omega) (by simp) hS (get_600 h s.n)) hy hnd
  have lo := fun (b : Nat) (W : World) (hS : Sls W W.heap.size (.slice (some ⟨b, 0, none⟩) s.n s.n) (ofS s.get s.n)) => log_any s.n _ s.n s.get W hn hn2 hS
  have re := fun (b : Nat) (W : World) (hS : Sls W W.heap.size (.slice (some ⟨b, 0, none⟩) (lg s.n) (lg s.n)) (ofS (fun i => s.get (2 * sl s.n + i)) (lg s.n))) => records_any _ (lg s.n) (lg s.n) (fun i => s.get (2 * sl s.n + i)) 1 W hS hlk (fun y hy => by
    obtain ⟨i, _, rfl⟩ := ofS_mem hy
    have := (get_sec h (2 * sl s.n + i)).1
    omega)
  rw [ofS_shift] at re
  have hTT : recsOf (logF s.get (2 * sl s.n) 1) (lg s.n) = recsS s 1 := rfl
  rw [hTT] at re
  obtain ⟨T, hT⟩ : ∃ T, T = recsS s 1 := ⟨_, rfl⟩
  rw [← hT] at re
  have hT0 : T = ([], 0) := by rw [hT]; exact new_recs hnd hn
  subst hT0
  have HO := Lib.hid (fun (w' : World) (x : Nat) (A : Option Addr) (n c : Nat) (vr : Value) (h1 : DiskAt w' g bs bw (firstP s s.n (openMark s)).1) (h2 : KeptBut w w' [g, bs, bw]) (h3 : Bts w' w'.heap.size A n []) (h4 : Sls w' w'.heap.size vr []) (h5 : w.heap.size ≤ x) (h6 : WalAt w' x g s.n ⟨1, openMark s, 0, false⟩) =>
    out_some (w := w) (w' := w') (g := g) (bs := bs) (bw := bw) (x := x) (n := n) (c := c) (s := s) (A := A) (vr := vr) (v := ⟨1, openMark s, 0, false⟩) (by rw [e0]) (by rw [e0]) (by rw [e0]; exact h1) h2 (by rw [e0]; exact h3) (by rw [e0]; exact h4) h5 h6)
  have hfe : (firstP s s.n (openMark s)).2 = 0 := he
  simp only [hfe] at ba
  have hb0 : (⟨0, openMark s, 0, false⟩ : Wn).brk 0 = ⟨0, openMark s, 0, false⟩ := rfl
  rw [hb0] at ba
  obtain ⟨F, hF⟩ : ∃ F, F = (firstP s s.n (openMark s)).1 := ⟨_, rfl⟩
  rw [← hF] at ba HO
  clear e0 hT hy hnd he hfe hb0 hF
  rw [hom] at ba HO
  generalize markOf (ofS s.get s.n) = m at *
  have hodd := odd_disk h
  have hlt := h.lt
  have hdw := fun (W : World) (hW : Below w.heap.size w W) => h.below hW
  have hdm : decide (2147483648 < m + 1) = false := by simpa using hm
  generalize hL2 : ofS (fun i => s.get (2 * sl s.n + i)) (lg s.n) = L2 at *
  generalize ofS s.get s.n = L at *
  generalize s.n = k at *
  have C := Lib.hid c; clear c
  have MK := Lib.hid mk; clear mk
  have RD := Lib.hid rd; clear rd
  have MA := Lib.hid ma; clear ma
  have BA := Lib.hid ba; clear ba
  have LO := Lib.hid lo; clear lo
  have RE := Lib.hid re; clear re
  have HLT := Lib.hid hlt; clear hlt
  have HDW := Lib.hid hdw; clear hdw
  have HODD := Lib.hid hodd; clear hodd
  clear h hom hTT hn hn2 hd hm hL2 hlk
  go_enter Try.func6, Try.ntmps6
  go_wp2_with (first
    | (go_at_call 18; refine (C.out).mono ?_; rintro e w' ⟨rfl, rfl⟩)
    | (go_at_call 17; refine (MK.out _).mono ?_; rintro e w1 ⟨rfl, hb⟩; have HP1 := Lib.hid hb.size; have KP := Lib.hid (Blk.new w1 40 #[.int .i64 (sl k : Nat), .int .i64 (2 * (sl k : Nat)), .int .i64 (lg k : Nat)]); have HB := Lib.hid (palloc hb (plC k)); clear hb)
    | (go_at_call 19; refine (RD.out _ HB.out).mono ?_; rintro e w2 ⟨b0, rfl, hs, hb⟩; have KP2 := Lib.hid (KP.out.below hb KP.out.lt); have HS2 := Lib.hid hs; have HB2 := Lib.hid (HB.out.trans (hb.mono HB.out.size)); clear hb hs)
    | (go_at_call 20; refine (MA.out b0 _ HS2.out).mono ?_; rintro e w3 ⟨rfl, hb⟩; have kp3 := KP2.out.below hb KP2.out.lt; have p0 := kp3.cell 0; have p1 := kp3.cell 1; have p2 := kp3.cell 2; have p3 := kp3.lt; simp at p0 p1 p2; have HX := Lib.hid (Nat.le_trans HB2.out.size hb.size); have KP3 := Lib.hid (kp3.alloc (.cells (walCs g k ⟨0, m + 1, 0, false⟩) 42)); have HS3 := Lib.hid (HS2.out.up (palloc hb (.cells (walCs g k ⟨0, m + 1, 0, false⟩) 42))); have HB3 := Lib.hid (palloc (HB2.out.trans (hb.mono HB2.out.size)) (.cells (walCs g k ⟨0, m + 1, 0, false⟩) 42)); have HW3 := Lib.hid (Blk.new w3 42 (walCs g k ⟨0, m + 1, 0, false⟩)); clear hb kp3)
    | (go_at_call 21; refine (BA.out b0 _ _ HB3.out HW3.out HS3.out).mono ?_; rintro e w5 ⟨rfl, hw5, hd5, hk5⟩; obtain ⟨A5, n5, c5, ha5, hn5, hc5⟩ : ∃ (A5 : Option Addr) (n5 c5 : Nat), A5 = none ∧ n5 = 0 ∧ c5 = 0 := ⟨_, _, _, rfl, rfl, rfl⟩; have c4 := hw5.c4; have f4 := hw5.fz 4; have hxl5 := hw5.lt; have HW5 := Lib.hid hw5; have hd0 := HDW.out _ HB3.out; have hns := new_sep HX.out hd0 HLT.out HP1.out KP3.out HW3.out; have KP5 := Lib.hid (hk5.blk KP3.out hns); have HS5 := Lib.hid ((sls_kept HS3.out hk5 (odd_both HW3.out hd0) (Nat.le_refl _)).more hk5.size); have HT5 := Lib.hid (bts_nil w5 w5.heap.size none); have HD5 := Lib.hid hd5; have HK5 := Lib.hid (kept_drop HB3.out HX.out hk5); clear hw5 hd5 hk5 hd0 hns ha5 hn5 hc5 A5 n5 c5))
  generalize hxx : w3.heap.size = x at *
  have HXX := Lib.hid hxx; clear hxx
  clear p0 p1 p2 p3
  obtain ⟨l1, l2, l3⟩ := HLT.out
  have n1 : x ≠ g := by have := HX.out; omega
  have n2 : x ≠ bs := by have := HX.out; omega
  have n3 : x ≠ bw := by have := HX.out; omega
  have hxl := HW5.out.lt
  have hpx : w1.heap.size ≠ x := fun e => by
    have h1 := Blk.ne_ KP5.out HW5.out (by decide)
    exact h1 e
  have hks := kept_set1 (w := w5) (x := x) (i := 4) (.int .i64 1)
  have ha := palloc (Below.refl (w5.setCell ⟨x, 4, none⟩ (.int .i64 1)).heap.size (w5.setCell ⟨x, 4, none⟩ (.int .i64 1))) (.cells #[.int .i64 1, .slice none 0 0] 52)
  have hsz : (w5.setCell ⟨x, 4, none⟩ (.int .i64 1)).heap.size = w5.heap.size := by simp
  have HW6 := Lib.hid ((HW5.out.set_gen 1).up ha)
  have KP6 := Lib.hid ((KP5.out.far (p := ⟨x, 4, none⟩) hpx (.int .i64 1)).alloc (.cells #[.int .i64 1, .slice none 0 0] 52))
  have kq6 := Blk.new (w5.setCell ⟨x, 4, none⟩ (.int .i64 1)) 52 #[.int .i64 1, .slice none 0 0]
  rw [hsz] at kq6
  have KQ6 := Lib.hid kq6
  have HS6 := Lib.hid (((sls_kept HS5.out hks (odd_wal HW5.out) (Nat.le_refl _)).more hks.size).up ha)
  have HT6 := Lib.hid (bts_up ((bts_kept HT5.out hks (odd_wal HW5.out) (Nat.le_refl _)).more hks.size) ha)
  have HD6 := Lib.hid ((DiskAt.set_far (i := 4) HD5.out (.int .i64 1) n1 n2 n3).below ha)
  have HK6 := Lib.hid ((kept_above HK5.out (grown_set w5 ⟨x, 4, none⟩ (.int .i64 1)) (fun q hq => by cases hq; exact HX.out)).trans (kept_of_below ha (Nat.le_refl _)))
  have hqx : w5.heap.size ≠ x := by omega
  clear ha hks HW5 KP5 HS5 HT5 HD5 HK5 hxl f4 c4 hxl5 kq6 hsz
  generalize (w5.setCell ⟨x, 4, none⟩ (.int .i64 1)).alloc (.cells #[.int .i64 1, .slice none 0 0] 52) = w6 at *
  generalize w5.heap.size = q at *
  generalize w1.heap.size = p at *
  have p0 := KP6.out.cell 0
  have p1 := KP6.out.cell 1
  have p2 := KP6.out.cell 2
  have q0 := KQ6.out.cell 0
  have q1 := KQ6.out.cell 1
  simp at p0 p1 p2 q0 q1
  have hpl := KP6.out.lt
  have hql := KQ6.out.lt
  go_region_held3 (fun W => W.cell? ⟨p, 0, none⟩ = some (.int .i64 (sl k : Nat)) ∧ W.cell? ⟨p, 1, none⟩ = some (.int .i64 (2 * (sl k : Nat))) ∧ W.cell? ⟨p, 2, none⟩ = some (.int .i64 (lg k : Nat)) ∧ W.cell? ⟨q, 0, none⟩ = some (.int .i64 1))
    (first
      | with_reducible exact ⟨p0, p1, p2, q0⟩
      | with_reducible exact ⟨r0, r1, r2, r3⟩
      | with_reducible exact ⟨t0, t1, t2, t3⟩
      | go_keep)
    (first
      | (go_at_call 23; refine (LO.out b0 _ (by exact HS6.out)).mono ?_; rintro e w7 ⟨b1, rfl, hs, hb⟩; have hb := undrew hb; have hb : Below w6.heap.size w6 w7 := hb; have kp := KP6.out.below hb hpl; have kq := KQ6.out.below hb hql; have r0 := kp.cell 0; have r1 := kp.cell 1; have r2 := kp.cell 2; have r3 := kq.cell 0; have r4 := kp.lt; have r5 := kq.lt; simp at r0 r1 r2 r3; have KP7 := Lib.hid kp; have KQ7 := Lib.hid kq; have HS7 := Lib.hid hs; have HB7 := Lib.hid hb; clear kp kq hs hb)
      | (go_at_call 22; refine (RE.out b1 _ (by exact HS7.out)).mono ?_; rintro e w8 ⟨v8, rfl, hs, hb⟩; have kp := KP7.out.below hb r4; have kq := KQ7.out.below hb r5; have t0 := kp.cell 0; have t1 := kp.cell 1; have t2 := kp.cell 2; have t3 := kq.cell 0; have t4 := kq.cell 1; have t5 := kq.lt; simp at t0 t1 t2 t3 t4; have HS8 := Lib.hid hs; have HB8 := Lib.hid (HB7.out.trans (hb.mono HB7.out.size)); clear kp kq hs hb))
  have hw8 := HW6.out.up HB8.out
  have c6 := hw8.c6
  have f6 := hw8.fz 6
  have hx8 := hw8.lt
  obtain ⟨A9, n9, c9, rfl, _⟩ := id HS8.out
  clear p0 p1 p2 q0 q1 hpl hql
  go_wp2
  go_quiet (fail)
  go_wp2
  have hks := kept_set1 (w := w8) (x := x) (i := 6) (.int .i64 0)
  have ho := HO.out (w8.setCell ⟨x, 6, none⟩ (.int .i64 0)) x none 0 0 (.slice A9 n9 c9) (DiskAt.set_far (i := 6) (HD6.out.below HB8.out) (.int .i64 0) n1 n2 n3)
    (kept_above (HK6.out.trans (kept_of_below HB8.out (Nat.le_refl _))) (grown_set w8 ⟨x, 6, none⟩ (.int .i64 0)) (fun q hq => by cases hq; exact HX.out))
    ((bts_kept (bts_up HT6.out HB8.out) hks (odd_wal hw8) (Nat.le_refl _)).more hks.size) ((sls_kept HS8.out hks (odd_wal hw8) (Nat.le_refl _)).more hks.size) HX.out (hw8.set_next 0)
  exact bodyPost_ret (v := .tuple #[ptr x, .slice none 0 0, .slice A9 n9 c9, .int .i64 0]) (by simp [results, Try.results6, go_sem]) rfl (out_drewN ho _)
set_option maxRecDepth 20000 in
set_option maxHeartbeats 4000000 in
theorem open_dies (g bs bw : Nat) (s : St) (w : World) (h : DiskAt w g bs bw s) (hn : 6 ≤ s.n) (hn2 : s.n ≤ 1000) (hd : s.dead = false) (hm : ¬ 2147483648 < openMark s) (hy : theBase s.get s.n = none) (hnd : newD s.get s.n = true) (he : (firstP s s.n (openMark s)).2 ≠ 0) :
    Calls Try.prog 6 #[ptr g] w (OpenOut w g bs bw s) := by
  have c := Dsk.size_any g bs bw s w h
  have mk := fun (W : World) => make_k s.n W hn (by omega)
  have rd := fun (W : World) (hW : Below w.heap.size w W) => wread_ok g bs bw s W (h.below hW) hd hn2
  have e0 : openP s = ⟨(firstP s s.n (openMark s)).1, none, [], [], (firstP s s.n (openMark s)).2⟩ := by unfold openP; rw [if_neg (by omega), if_neg (by rw [hd]; simp), if_neg hm, hy]; simp only; rw [if_pos hnd, if_neg he]
  have HO := Lib.hid (fun (w' : World) (h1 : DiskAt w' g bs bw (firstP s s.n (openMark s)).1) (h2 : KeptBut w w' [g, bs, bw]) => out_none (w := w) (w' := w') (g := g) (bs := bs) (bw := bw) (s := s) (by rw [e0]) (by rw [e0]) (by rw [e0]) (by rw [e0]; exact h1) h2)
  have E0 := Lib.hid (show (openP s).e = (firstP s s.n (openMark s)).2 by rw [e0])
  have ma := fun (b : Nat) (W : World) (hS : Sls W W.heap.size (.slice (some ⟨b, 0, none⟩) s.n s.n) (ofS s.get s.n)) => mark_any _ s.n s.n _ W hS hn2 (get_600 h s.n)
  obtain ⟨hm0, hm1⟩ := mark_bounds (ofS s.get s.n)
  have hom : openMark s = markOf (ofS s.get s.n) + 1 := rfl
  rw [hom] at hm
  have ba := fun (b x : Nat) (W : World) (hW : Below w.heap.size w W) (hw : WalAt W x g s.n ⟨0, openMark s, 0, false⟩) (hS : Sls W W.heap.size (.slice (some ⟨b, 0, none⟩) s.n s.n) (ofS s.get s.n)) =>
    base_new (base_any x g bs bw s.n s ⟨0, openMark s, 0, false⟩ _ s.n W hw (h.below hW) rfl hn hn2 (by simp only; omega) (by simp only; omega) (by simp) hS (get_600 h s.n)) hy hnd
  rw [hom] at ba HO E0 he
  simp only at ba
  obtain ⟨F, hF⟩ : ∃ F, F = firstP s s.n (markOf (ofS s.get s.n) + 1) := ⟨_, rfl⟩
  rw [← hF] at ba HO E0 he
  obtain ⟨F1, F2⟩ := F
  simp only at ba HO E0 he
  have hne : (F2 != 0) = true := bne_iff_ne.2 he
  generalize markOf (ofS s.get s.n) = m at *
  generalize ofS s.get s.n = L at *
  generalize s.n = k at *
  have hdm : decide (2147483648 < m + 1) = false := by simpa using hm
  have C := Lib.hid c; clear c
  have MK := Lib.hid mk; clear mk
  have RD := Lib.hid rd; clear rd
  have MA := Lib.hid ma; clear ma
  have BA := Lib.hid ba; clear ba
  clear h e0 hn hn2 hd hom hm hy hnd he hF
  go_enter Try.func6, Try.ntmps6
  go_wp2_with (first
    | (go_at_call 18; refine (C.out).mono ?_; rintro e w' ⟨rfl, rfl⟩)
    | (go_at_call 17; refine (MK.out _).mono ?_; rintro e w1 ⟨rfl, hb⟩; have KP := Lib.hid (Blk.new w1 40 #[.int .i64 (sl k : Nat), .int .i64 (2 * (sl k : Nat)), .int .i64 (lg k : Nat)]); have HB := Lib.hid (palloc hb (plC k)); clear hb)
    | (go_at_call 19; refine (RD.out _ HB.out).mono ?_; rintro e w2 ⟨b0, rfl, hs, hb⟩; have KP2 := Lib.hid (KP.out.below hb KP.out.lt); have HS2 := Lib.hid hs; have HB2 := Lib.hid (HB.out.trans (hb.mono HB.out.size)); clear hb hs)
    | (go_at_call 20; refine (MA.out b0 _ HS2.out).mono ?_; rintro e w3 ⟨rfl, hb⟩; have kp3 := KP2.out.below hb KP2.out.lt; have p0 := kp3.cell 0; have p1 := kp3.cell 1; have p2 := kp3.cell 2; have p3 := kp3.lt; simp at p0 p1 p2; have HX := Lib.hid (Nat.le_trans HB2.out.size hb.size); have HS3 := Lib.hid (HS2.out.up (palloc hb (.cells (walCs g k ⟨0, m + 1, 0, false⟩) 42))); have HB3 := Lib.hid (palloc (HB2.out.trans (hb.mono HB2.out.size)) (.cells (walCs g k ⟨0, m + 1, 0, false⟩) 42)); have HW3 := Lib.hid (Blk.new w3 42 (walCs g k ⟨0, m + 1, 0, false⟩)); clear hb kp3)
    | (go_at_call 21; refine (BA.out b0 _ _ HB3.out HW3.out HS3.out).mono ?_; rintro e w5 ⟨rfl, hw5, hd5, hk5⟩; have HD5 := Lib.hid hd5; have HK5 := Lib.hid (kept_drop HB3.out HX.out hk5); clear hw5 hd5 hk5))
  have ha := palloc (Below.refl w5.heap.size w5) (.cells #[.int .i64 1, .slice none 0 0] 52)
  have ho := HO.out _ (HD5.out.below ha) (HK5.out.trans (kept_of_below ha (Nat.le_refl _)))
  rw [E0.out] at ho
  exact bodyPost_ret (v := .tuple #[.pointer none, .slice none 0 0, .slice none 0 0, .int .i64 F2]) (by simp [results, Try.results6, go_sem]) rfl ho
theorem open_any (g bs bw : Nat) (s : St) (w : World) (h : DiskAt w g bs bw s) (hn2 : s.n ≤ 1000) : Calls Try.prog 6 #[ptr g] w (OpenOut w g bs bw s) := by
  by_cases hn : s.n < 6
  · exact open_small g bs bw s w h hn
  · cases hd : s.dead with
    | true => exact open_dead g bs bw s w h (by omega) hn2 hd
    | false =>
      by_cases hm : 2147483648 < openMark s
      · exact open_full g bs bw s w h (by omega) hn2 hd hm
      · cases hy : theBase s.get s.n with
        | some y => exact open_old g bs bw s w h (by omega) hn2 hd hm y hy
        | none =>
          cases hnd : newD s.get s.n with
          | false => exact open_bad g bs bw s w h (by omega) hn2 hd hm hy hnd
          | true =>
            by_cases he : (firstP s s.n (openMark s)).2 = 0
            · exact open_new g bs bw s w h (by omega) hn2 hd hm hy hnd he
            · exact open_dies g bs bw s w h (by omega) hn2 hd hm hy hnd he
end Go.Proofs.Ytddhkajcakndlaa.Wl
