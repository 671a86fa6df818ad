/- Changes done, by the document's own answer (layer 11): waymarkref11.Apply. -/
import Derived.Test.YtcojimbnenibnaaBasRefDo
import Derived.Test.YtcojimbnenibnaaBasRefMay
import Derived.Test.YtcojimbnenibnaaChgRefMay
namespace Go.Proofs.Ytcojimbnenibnaa.Bas
open Go.RowKit Go.Shelf Go.Proofs.Ytcojimbnenibnaa.Mem Go.Proofs.Ytcojimbnenibnaa.Oct Go.Proofs.Ytcojimbnenibnaa.Lsa Go.Proofs.Ytcojimbnenibnaa.Chg
set_option linter.unusedVariables false
set_option linter.unusedSimpArgs false
def RApplyOut (w : World) (s : Sta) (l : List Ch) (e : Ending) (w' : World) : Prop :=
  ∃ dv ev, e = .returned (.tuple #[stV (applyS s l).1 dv ev, .int .i64 (applyS s l).2]) ∧ StM w' w'.heap.size dv ev (applyS s l).1 ∧ Below w.heap.size w w'
/-- what the walk holds: the state's box and its rows, the answer's box -/
structure RA (w wr : World) (dv ev : Value) (s : Sta) : Prop where
  box : Blk wr w.heap.size 25 #[dv, .int .i64 s.up, .int .i64 s.bo, ev]
  res : Blk wr (w.heap.size + 1) 25 #[.slice none 0 0, .int .i64 0, .int .i64 0, .slice none 0 0]
  db : SafeL wr w.heap.size dv s.db
  ep : SafeE wr w.heap.size ev s.ep
  low : Below w.heap.size w wr
  size : w.heap.size + 1 < wr.heap.size
theorem upd4_cell {w : World} {g q i : Nat} {x u0 u1 u2 u3 : Value} (hne : q ≠ g) (h : w.cell? ⟨q, i, none⟩ = some x) : (upd4 w g u0 u1 u2 u3).cell? ⟨q, i, none⟩ = some x := by
  have hq := block_lt_of_cell h
  rw [← h]
  exact World.cell?_of_block ((upd4_grown w g u0 u1 u2 u3).block q hq (by simpa using hne))
theorem RA.below {w wr w' : World} {dv ev : Value} {s : Sta} (h : RA w wr dv ev s) (hb : Below wr.heap.size wr w') : RA w w' dv ev s :=
  ⟨h.box.below hb h.box.lt, h.res.below hb h.res.lt, h.db.up (by have := h.size; omega) hb, h.ep.up hb, low_low h.low hb, Nat.lt_of_lt_of_le h.size hb.size⟩
theorem RA.far {w wr w' : World} {dv ev : Value} {s : Sta} {g : Nat} {cs : Array Value} (h : RA w wr dv ev s) (hk : Blk wr g 25 cs) (hgt : w.heap.size + 1 < g) (hg : wr.grownBy w' (some g)) : RA w w' dv ev s :=
  ⟨h.box.grown hg (by simp; omega), h.res.grown hg (by simp; omega), h.db.blk (by have := h.size; omega) hk (by decide) (by omega) hg, h.ep.blk hk (by decide) (by omega) hg, h.low.grown hg h.low.size (fun q hq => by cases hq; omega), Nat.lt_of_lt_of_le h.size hg.size⟩
/-- the next state in the box -/
theorem RA.next {w wr : World} {dv ev dv' ev' : Value} {s t : Sta} (h : RA w wr dv ev s) (hd : SafeL wr w.heap.size dv' t.db) (he : SafeE wr w.heap.size ev' t.ep) : RA w (upd4 wr w.heap.size dv' (.int .i64 t.up) (.int .i64 t.bo) ev') dv' ev' t :=
  ⟨upd4_blk h.box, h.res.grown (upd4_grown _ _ _ _ _ _) (by simp), hd.blk (by have := h.size; omega) h.box (by decide) (Nat.le_refl _) (upd4_grown _ _ _ _ _ _), he.blk h.box (by decide) (Nat.le_refl _) (upd4_grown _ _ _ _ _ _), h.low.grown (upd4_grown _ _ _ _ _ _) h.low.size (fun q hq => by cases hq; exact Nat.le_refl _), Nat.lt_of_lt_of_le h.size (upd4_grown wr w.heap.size _ _ _ _).size⟩
theorem RA.done {w wr : World} {dv ev dv' ev' : Value} {s t : Sta} (h : RA w wr dv ev s) (hd : SafeL wr w.heap.size dv' t.db) (he : SafeE wr w.heap.size ev' t.ep) : StM (upd4 wr (w.heap.size + 1) dv' (.int .i64 t.up) (.int .i64 t.bo) ev') (upd4 wr (w.heap.size + 1) dv' (.int .i64 t.up) (.int .i64 t.bo) ev').heap.size dv' ev' t ∧ Below w.heap.size w (upd4 wr (w.heap.size + 1) dv' (.int .i64 t.up) (.int .i64 t.bo) ev') := by
  have hg := upd4_grown wr (w.heap.size + 1) dv' (.int .i64 t.up) (.int .i64 t.bo) ev'
  have hs := h.size
  refine ⟨⟨(hd.blk (by omega) h.res (by decide) (by omega) hg).las (by have := hg.size; omega), (he.blk h.res (by decide) (by omega) hg).lks⟩, h.low.grown hg h.low.size (fun q hq => by cases hq; omega)⟩
set_option maxRecDepth 100000 in
set_option maxHeartbeats 8000000 in
theorem rapply_any (s : Sta) (dv ev : Value) (A : Option Addr) (n c : Nat) (l : List Ch) (w : World) (h : StM w w.heap.size dv ev s) (hl : Chs w w.heap.size (.slice A n c) l) :
    Calls Try.prog 11 #[stV s dv ev, .slice A n c] w (RApplyOut w s l) := by
  obtain ⟨A1, n1, c1, rfl, hq1_⟩ := id h.1
  obtain ⟨A2, n2, c2, rfl, hq2_⟩ := id h.2
  clear hq1_ hq2_
  obtain ⟨hln, hnc, hcm⟩ := chs_len hl
  unfold maxLen at hcm
  have hb := low2 w (.cells #[.slice A1 n1 c1, .int .i64 s.up, .int .i64 s.bo, .slice A2 n2 c2] 25) (.cells #[.slice none 0 0, .int .i64 0, .int .i64 0, .slice none 0 0] 25)
  have hra : RA w ((w.alloc (.cells #[.slice A1 n1 c1, .int .i64 s.up, .int .i64 s.bo, .slice A2 n2 c2] 25)).alloc (.cells #[.slice none 0 0, .int .i64 0, .int .i64 0, .slice none 0 0] 25)) (.slice A1 n1 c1) (.slice A2 n2 c2) s :=
    ⟨(Blk.new w _ _).alloc _, blk_second w _ _ _, safeL_in (h.1.keep hb) hb.size, safeE_in (h.2.below hb (Nat.le_refl _)) hb.size, hb, by simp⟩
  obtain ⟨P1, hP1⟩ : ∃ P1, P1 = RApplyOut w s l := ⟨_, rfl⟩
  rw [← hP1]
  have MY := Lib.hid (fun (W : World) (hW : RA w W (.slice A1 n1 c1) (.slice A2 n2 c2) s) => rmay_st s (.slice A1 n1 c1) (.slice A2 n2 c2) W ⟨hW.db.las (by have := hW.size; omega), hW.ep.lks⟩)
  have CH := Lib.hid (fun (W : World) (hW : Below w.heap.size w W) => hl.keep hW)
  have hfin : ∀ (W : World) (dv ev d e : Value) (sk t : Sta) (b : Int), RA w W dv ev sk → SafeL W w.heap.size d t.db → SafeE W w.heap.size e t.ep → applyS s l = (t, b) → P1 (.returned (.tuple #[stV t d e, .int .i64 b])) (upd4 W (w.heap.size + 1) d (.int .i64 t.up) (.int .i64 t.bo) e) := by
    intro W dv ev d e sk t b hW hd he hap
    obtain ⟨h1, h2⟩ := hW.done hd he
    rw [hP1]
    unfold RApplyOut
    rw [hap]
    exact ⟨_, _, rfl, h1, h2⟩
  have FIN := Lib.hid hfin; clear hfin hP1
  have zL : ∀ W : World, SafeL W w.heap.size (.slice none 0 0) zeroS.db := fun W => ⟨none, 0, 0, rfl, rfl, Nat.le_refl _, by unfold maxLen; omega, fun _ => rfl, fun h => absurd h (by omega)⟩
  have zE : ∀ W : World, SafeE W w.heap.size (.slice none 0 0) zeroS.ep := fun W => ⟨none, 0, 0, rfl, rfl, Nat.le_refl _, by unfold maxLen; omega, fun _ => rfl, fun h => absurd h (by omega)⟩
  have ZL := Lib.hid zL; clear zL
  have ZE := Lib.hid zE; clear zE
  have HR := Lib.hid hra; clear hra hb h hl
  have HLN := Lib.hid hln; clear hln
  obtain ⟨x0, x1, x2, x3, x4⟩ := blk_cells4 HR.out.box
  go_enter Try.func11, Try.ntmps11
  go_wp2_with (fail)
  generalize ((w.alloc (.cells #[.slice A1 n1 c1, .int .i64 s.up, .int .i64 s.bo, .slice A2 n2 c2] 25)).alloc (.cells #[.slice none 0 0, .int .i64 0, .int .i64 0, .slice none 0 0] 25)) = W1 at *
  refine (MY.out W1 HR.out).mono ?_
  rintro e w3 ⟨rfl, hb3⟩
  have hr3 := HR.out.below hb3
  clear hb3 x0 x1 x2 x3 x4 HR
  cases hm : mayS s
  · have hap : applyS s l = (zeroS, 1) := by unfold applyS; rw [if_neg (by rw [hm]; simp)]
    have HF := Lib.hid (FIN.out w3 _ _ _ _ _ zeroS 1 hr3 (ZL.out _) (ZE.out _) hap)
    obtain ⟨z0, z1, z2, z3, z4⟩ := blk_cells4 hr3.res
    obtain ⟨g0, g1, g2, g3⟩ := blk_fz4 hr3.res
    clear hap hr3
    go_wp2
    refine bodyPost_ret (v := .tuple #[stV zeroS (.slice none 0 0) (.slice none 0 0), .int .i64 1]) ?_ rfl HF.out
    simp [results, Try.results11, go_sem, z0, z1, z2, z3, zeroS]
  have HR := Lib.hid hr3; clear hr3
  have HM := Lib.hid hm; clear hm
  go_wp2_with (fail)
  obtain ⟨W3, hW3⟩ : ∃ W : World, W = w3 := ⟨_, rfl⟩
  rw [← hW3] at HR ⊢
  clear hW3
  go_loopw [6] (fun i wr => ∃ k : Nat, k ≤ n ∧ i = .int .i64 k ∧ Hid (l.all mayC = (l.drop k).all mayC) ∧ Hid (RA w wr (.slice A1 n1 c1) (.slice A2 n2 c2) s)) (fun i _ => n - (intOf i).toNat)
  case atStart => exact ⟨0, Nat.zero_le _, rfl, Lib.hid rfl, HR⟩
  case round =>
    clear HR
    obtain ⟨k, hk, rfl, HA, HR⟩ := hrel
    by_cases hlt : k < n
    · obtain ⟨b, off, rfl, hb, hc⟩ := chs_at (CH.out wr HR.out.low) (by omega)
      obtain ⟨u, hr, hk2⟩ := hc k hlt
      have c0 := hr 0 _ rfl
      have c1_ := hr 1 _ rfl
      have c2_ := hr 2 _ rfl
      have c3_ := hr 3 _ rfl
      have c4_ := hr 4 _ rfl
      have c5_ := hr 5 _ rfl
      rw [Nat.add_zero] at c0
      have hkl : k < l.length := by rw [HLN.out]; exact hlt
      have ha := HA.out
      rw [all_step l k hkl] at ha
      clear hc hr
      generalize l.getD k zeroC = y at *
      have mc := rmay_c y u wr (hk2.more HR.out.low.size)
      obtain ⟨yk, yo, ys, yl, yn, yf⟩ := y
      obtain ⟨Au, nu, cu, rfl, _, hr_⟩ := id hk2
      clear hr_
      simp only [chV] at c0 c1_ c2_ c3_ c4_ c5_ hk2 mc
      cases hmc : mayC ⟨yk, yo, ys, yl, yn, yf⟩
      · rw [hmc] at mc ha
        have MC := Lib.hid mc; clear mc hk2
        have hap : applyS s l = (zeroS, 1) := by unfold applyS; rw [if_neg (by rw [ha]; simp)]
        have HAP := Lib.hid hap; clear hap ha
        go_wp2_with (go_at_call 26; refine (MC.out).mono ?_; rintro e w4 ⟨rfl, hb4⟩; have hr4 := HR.out.below hb4; have HF := Lib.hid (FIN.out w4 _ _ _ _ _ zeroS 1 hr4 (ZL.out _) (ZE.out _) HAP.out); obtain ⟨z0, z1, z2, z3, z4⟩ := blk_cells4 hr4.res; obtain ⟨g0, g1, g2, g3⟩ := blk_fz4 hr4.res; clear hr4 hb4)
        refine bodyPost_ret (v := .tuple #[stV zeroS (.slice none 0 0) (.slice none 0 0), .int .i64 1]) ?_ rfl HF.out
        simp [results, Try.results11, go_sem, z0, z1, z2, z3, zeroS]
      · rw [hmc, Bool.true_and] at ha
        rw [hmc] at mc
        have MC := Lib.hid mc; clear mc hk2
        have HA2 := Lib.hid ha; clear ha
        go_wp2_with (go_at_call 26; refine (MC.out).mono ?_; rintro e w4 ⟨rfl, hb4⟩; have HR4 := Lib.hid (HR.out.below hb4); clear hb4)
        go_roundw
        case rel => exact ⟨k + 1, by omega, by go_num, HA2, HR4⟩
        case measure => simp [intOf]; omega
    · obtain rfl : n = k := by omega
      have hall : l.all mayC = true := by rw [HA.out, List.drop_eq_nil_of_le (by have := HLN.out; omega)]; rfl
      have HALL := Lib.hid hall; clear hall HA
      go_wp2_with (fail)
      obtain ⟨wo, hwo⟩ : ∃ wo : World, wo = wr := ⟨_, rfl⟩
      rw [← hwo] at HR ⊢
      clear hwo
      go_loopw [7] (fun i wr => ∃ (k : Nat) (sk : Sta) (dk ek : Value), k ≤ n ∧ i = .int .i64 k ∧ Hid (mayS sk = true) ∧ Hid (doAll s l = doAll sk (l.drop k)) ∧ Hid (RA w wr dk ek sk)) (fun i _ => n - (intOf i).toNat)
      case atStart => exact ⟨0, s, _, _, Nat.zero_le _, rfl, HM, Lib.hid rfl, HR⟩
      case round =>
        clear HR
        obtain ⟨k, sk, dk, ek, hk, rfl, HMK, HDA, HR⟩ := hrel
        obtain ⟨Ad, nd, cd, rfl⟩ := HR.out.db.form
        obtain ⟨Ae, ne, ce, rfl⟩ := HR.out.ep.form
        by_cases hlt : k < n
        · obtain ⟨b, off, rfl, hb, hc⟩ := chs_at (CH.out wr HR.out.low) (by omega)
          obtain ⟨u, hr, hk2⟩ := hc k hlt
          have c0 := hr 0 _ rfl
          have c1_ := hr 1 _ rfl
          have c2_ := hr 2 _ rfl
          have c3_ := hr 3 _ rfl
          have c4_ := hr 4 _ rfl
          have c5_ := hr 5 _ rfl
          rw [Nat.add_zero] at c0
          have hkl : k < l.length := by rw [HLN.out]; exact hlt
          have hda := HDA.out
          rw [doAll_step sk l k hkl] at hda
          have hmc : mayC (l.getD k zeroC) = true := List.all_eq_true.1 HALL.out (l.getD k zeroC) (by simp [List.getD, List.getElem?_eq_getElem hkl])
          clear hc hr
          generalize l.getD k zeroC = y at *
          obtain ⟨yk, yo, ys, yl, yn, yf⟩ := y
          obtain ⟨Au, nu, cu, rfl, _, hr_⟩ := id hk2
          clear hr_
          simp only at c0 c1_ c2_ c3_ c4_ c5_ hk2
          have hws := HR.out.low.size
          have hbw : b < wr.heap.size := by omega
          have DO := Lib.hid (fun (W : World) (hW : Below wr.heap.size wr W) => rdo_any sk ⟨yk, yo, ys, yl, yn, yf⟩ (.slice Ad nd cd) (.slice Ae ne ce) (.slice Au nu cu) w.heap.size W (by have := hW.size; omega) (HR.out.db.up hws hW) (HR.out.ep.up hW) (hk2.below hW hws) HMK.out hmc)
          simp only [stV, chV] at DO
          have HEN := Lib.hid (enters_of Try.func27 (by kernel_rfl) rfl)
          have HMS := Lib.hid (fun t => doS_may (t := t) HMK.out hmc)
          have HK2 := Lib.hid hk2
          clear hmc hk2
          obtain ⟨x0, x1, x2, x3, x4⟩ := blk_cells4 HR.out.box
          have HDA2 := Lib.hid hda; clear hda HDA
          unfold RDoOut at DO
          have hqs : w.heap.size < wr.heap.size := by have := HR.out.size; omega
          have hqn : w.heap.size ≠ wr.heap.size := by omega
          have hbn : b ≠ wr.heap.size := by omega
          cases hds : doS sk ⟨yk, yo, ys, yl, yn, yf⟩ with
          | none =>
            rw [hds] at DO
            simp only [Option.getD_none, Option.isSome_none] at DO
            have HDS := Lib.hid hds; clear hds
            go_wp2_with (fail)
            go_region_held3 (fun W => W.cell? ⟨w.heap.size, 0, none⟩ = some (.slice Ad nd cd) ∧ W.cell? ⟨w.heap.size, 1, none⟩ = some (.int .i64 sk.up) ∧ W.cell? ⟨w.heap.size, 2, none⟩ = some (.int .i64 sk.bo) ∧ W.cell? ⟨w.heap.size, 3, none⟩ = some (.slice Ae ne ce) ∧ W.cell? ⟨b, off + k * 6, none⟩ = some (.int .i64 yk) ∧ W.cell? ⟨b, off + k * 6 + 1, none⟩ = some (.int .i64 yo) ∧ W.cell? ⟨b, off + k * 6 + 2, none⟩ = some (.int .i64 ys) ∧ W.cell? ⟨b, off + k * 6 + 3, none⟩ = some (.slice Au nu cu) ∧ W.cell? ⟨b, off + k * 6 + 4, none⟩ = some (.int .i64 yn) ∧ W.cell? ⟨b, off + k * 6 + 5, none⟩ = some (.int .i64 yf))
              (first
                | with_reducible exact ⟨x0, x1, x2, x3, c0, c1_, c2_, c3_, c4_, c5_⟩
                | with_reducible exact ⟨m0, m1, m2, m3, n0, n1, n2, n3, n4, n5_⟩
                | with_reducible exact ⟨upd4_cell hqn m0, upd4_cell hqn m1, upd4_cell hqn m2, upd4_cell hqn m3, upd4_cell hbn n0, upd4_cell hbn n1, upd4_cell hbn n2, upd4_cell hbn n3, upd4_cell hbn n4, upd4_cell hbn n5_⟩
                | go_keep)
              (first | (go_at_call 27; first
                | (refine (DO.out _ (low1 (Below.refl wr.heap.size wr) (.cells #[.slice none 0 0, .int .i64 0, .int .i64 0, .slice none 0 0] 25)).drew).mono ?_; rintro e w5 ⟨dv5, ev5, rfl, hd5, he5, hb5⟩; obtain ⟨A5, n5, c5, rfl⟩ := hd5.form; obtain ⟨A6, n6, c6, rfl⟩ := he5.form; have hbw5 : Below wr.heap.size wr w5 := low_low (low1 (Below.refl wr.heap.size wr) (.cells #[.slice none 0 0, .int .i64 0, .int .i64 0, .slice none 0 0] 25)).drew hb5; have m0 := (hbw5.cell (p := ⟨w.heap.size, 0, none⟩) hqs).trans x0; have m1 := (hbw5.cell (p := ⟨w.heap.size, 1, none⟩) hqs).trans x1; have m2 := (hbw5.cell (p := ⟨w.heap.size, 2, none⟩) hqs).trans x2; have m3 := (hbw5.cell (p := ⟨w.heap.size, 3, none⟩) hqs).trans x3; have n0 := (hbw5.cell (p := ⟨b, off + k * 6, none⟩) hbw).trans c0; have n1 := (hbw5.cell (p := ⟨b, off + k * 6 + 1, none⟩) hbw).trans c1_; have n2 := (hbw5.cell (p := ⟨b, off + k * 6 + 2, none⟩) hbw).trans c2_; have n3 := (hbw5.cell (p := ⟨b, off + k * 6 + 3, none⟩) hbw).trans c3_; have n4 := (hbw5.cell (p := ⟨b, off + k * 6 + 4, none⟩) hbw).trans c4_; have n5_ := (hbw5.cell (p := ⟨b, off + k * 6 + 5, none⟩) hbw).trans c5_; have HR5 := Lib.hid (HR.out.below hbw5); have HD5 := Lib.hid hd5; have HE5 := Lib.hid he5; have KX := Lib.hid ((Blk.new wr 25 #[.slice none 0 0, .int .i64 0, .int .i64 0, .slice none 0 0]).drew.below hb5 (by simp)); obtain ⟨o0, o1, o2, o3, o4⟩ := blk_cells4 KX.out; obtain ⟨p0, p1, p2, p3⟩ := blk_fz4 KX.out; clear hbw5 hd5 he5 hb5)
                | (refine (DO.out _ (Below.refl wr.heap.size wr).drew).mono ?_; rintro e w5 ⟨dv5, ev5, rfl, hd5, he5, hb5⟩; obtain ⟨A5, n5, c5, rfl⟩ := hd5.form; obtain ⟨A6, n6, c6, rfl⟩ := he5.form; have hbw5 : Below wr.heap.size wr w5 := low_low (Below.refl wr.heap.size wr).drew hb5; have m0 := (hbw5.cell (p := ⟨w.heap.size, 0, none⟩) hqs).trans x0; have m1 := (hbw5.cell (p := ⟨w.heap.size, 1, none⟩) hqs).trans x1; have m2 := (hbw5.cell (p := ⟨w.heap.size, 2, none⟩) hqs).trans x2; have m3 := (hbw5.cell (p := ⟨w.heap.size, 3, none⟩) hqs).trans x3; have n0 := (hbw5.cell (p := ⟨b, off + k * 6, none⟩) hbw).trans c0; have n1 := (hbw5.cell (p := ⟨b, off + k * 6 + 1, none⟩) hbw).trans c1_; have n2 := (hbw5.cell (p := ⟨b, off + k * 6 + 2, none⟩) hbw).trans c2_; have n3 := (hbw5.cell (p := ⟨b, off + k * 6 + 3, none⟩) hbw).trans c3_; have n4 := (hbw5.cell (p := ⟨b, off + k * 6 + 4, none⟩) hbw).trans c4_; have n5_ := (hbw5.cell (p := ⟨b, off + k * 6 + 5, none⟩) hbw).trans c5_; have HR5 := Lib.hid (HR.out.below hbw5); have HD5 := Lib.hid hd5; have HE5 := Lib.hid he5;  clear hbw5 hd5 he5 hb5)))
            · skip
              have HRX := Lib.hid (HR5.out.below (low1 (Below.refl w5.heap.size w5) (.cells #[.slice A5 n5 c5, .int .i64 sk.up, .int .i64 sk.bo, .slice A6 n6 c6] 25)))
              have KX := Lib.hid (Blk.new w5 25 #[.slice A5 n5 c5, .int .i64 sk.up, .int .i64 sk.bo, .slice A6 n6 c6])
              have HDX := Lib.hid (HD5.out.up (by have := HR5.out.size; omega) (low1 (Below.refl w5.heap.size w5) (.cells #[.slice A5 n5 c5, .int .i64 sk.up, .int .i64 sk.bo, .slice A6 n6 c6] 25)))
              have HEX := Lib.hid (HE5.out.up (low1 (Below.refl w5.heap.size w5) (.cells #[.slice A5 n5 c5, .int .i64 sk.up, .int .i64 sk.bo, .slice A6 n6 c6] 25)))
              clear HR5 HD5 HE5 m0 m1 m2 m3 n0 n1 n2 n3 n4 n5_
              generalize w5.alloc (.cells #[.slice A5 n5 c5, .int .i64 sk.up, .int .i64 sk.bo, .slice A6 n6 c6] 25) = WX at *
              generalize w5.heap.size = gx at *
              have hap : applyS s l = (zeroS, 10) := by unfold applyS; rw [if_pos ⟨HM.out, HALL.out⟩, HDA2.out, HDS.out]; rfl
              have HF := Lib.hid (FIN.out WX _ _ _ _ _ zeroS 10 HRX.out (ZL.out _) (ZE.out _) hap)
              obtain ⟨z0, z1, z2, z3, z4⟩ := blk_cells4 HRX.out.res
              obtain ⟨g0, g1, g2, g3⟩ := blk_fz4 HRX.out.res
              clear hap
              go_wp2
              refine bodyPost_ret (v := .tuple #[stV zeroS (.slice none 0 0) (.slice none 0 0), .int .i64 10]) ?_ rfl HF.out
              simp [results, Try.results11, go_sem, z0, z1, z2, z3, zeroS]
            · skip
              have HRX := Lib.hid (HR5.out.far KX.out (by have := HR.out.size; omega) (upd4_grown w5 wr.heap.size (.slice A5 n5 c5) (.int .i64 sk.up) (.int .i64 sk.bo) (.slice A6 n6 c6)))
              have HDX := Lib.hid (HD5.out.blk (by have := HR5.out.size; omega) KX.out (by decide) (by have := HR.out.size; omega) (upd4_grown w5 wr.heap.size (.slice A5 n5 c5) (.int .i64 sk.up) (.int .i64 sk.bo) (.slice A6 n6 c6)))
              have HEX := Lib.hid (HE5.out.blk KX.out (by decide) (by have := HR.out.size; omega) (upd4_grown w5 wr.heap.size (.slice A5 n5 c5) (.int .i64 sk.up) (.int .i64 sk.bo) (.slice A6 n6 c6)))
              have KY := Lib.hid (upd4_blk KX.out (u0 := .slice A5 n5 c5) (u1 := .int .i64 sk.up) (u2 := .int .i64 sk.bo) (u3 := .slice A6 n6 c6))
              clear KX HR5 HD5 HE5 m0 m1 m2 m3 n0 n1 n2 n3 n4 n5_ o0 o1 o2 o3 o4 p0 p1 p2 p3
              unfold upd4 at HRX HDX HEX KY
              generalize ((((w5.setCell ⟨wr.heap.size, 0, none⟩ (.slice A5 n5 c5)).setCell ⟨wr.heap.size, 1, none⟩ (.int .i64 sk.up)).setCell ⟨wr.heap.size, 2, none⟩ (.int .i64 sk.bo)).setCell ⟨wr.heap.size, 3, none⟩ (.slice A6 n6 c6)) = WX at *
              have KX := KY
              clear KY
              have hap : applyS s l = (zeroS, 10) := by unfold applyS; rw [if_pos ⟨HM.out, HALL.out⟩, HDA2.out, HDS.out]; rfl
              have HF := Lib.hid (FIN.out WX _ _ _ _ _ zeroS 10 HRX.out (ZL.out _) (ZE.out _) hap)
              obtain ⟨z0, z1, z2, z3, z4⟩ := blk_cells4 HRX.out.res
              obtain ⟨g0, g1, g2, g3⟩ := blk_fz4 HRX.out.res
              clear hap
              go_wp2
              refine bodyPost_ret (v := .tuple #[stV zeroS (.slice none 0 0) (.slice none 0 0), .int .i64 10]) ?_ rfl HF.out
              simp [results, Try.results11, go_sem, z0, z1, z2, z3, zeroS]
          | some t =>
            rw [hds] at DO
            simp only [Option.getD_some, Option.isSome_some] at DO
            have HDS := Lib.hid hds; clear hds
            go_wp2_with (fail)
            go_region_held3 (fun W => W.cell? ⟨w.heap.size, 0, none⟩ = some (.slice Ad nd cd) ∧ W.cell? ⟨w.heap.size, 1, none⟩ = some (.int .i64 sk.up) ∧ W.cell? ⟨w.heap.size, 2, none⟩ = some (.int .i64 sk.bo) ∧ W.cell? ⟨w.heap.size, 3, none⟩ = some (.slice Ae ne ce) ∧ W.cell? ⟨b, off + k * 6, none⟩ = some (.int .i64 yk) ∧ W.cell? ⟨b, off + k * 6 + 1, none⟩ = some (.int .i64 yo) ∧ W.cell? ⟨b, off + k * 6 + 2, none⟩ = some (.int .i64 ys) ∧ W.cell? ⟨b, off + k * 6 + 3, none⟩ = some (.slice Au nu cu) ∧ W.cell? ⟨b, off + k * 6 + 4, none⟩ = some (.int .i64 yn) ∧ W.cell? ⟨b, off + k * 6 + 5, none⟩ = some (.int .i64 yf))
              (first
                | with_reducible exact ⟨x0, x1, x2, x3, c0, c1_, c2_, c3_, c4_, c5_⟩
                | with_reducible exact ⟨m0, m1, m2, m3, n0, n1, n2, n3, n4, n5_⟩
                | with_reducible exact ⟨upd4_cell hqn m0, upd4_cell hqn m1, upd4_cell hqn m2, upd4_cell hqn m3, upd4_cell hbn n0, upd4_cell hbn n1, upd4_cell hbn n2, upd4_cell hbn n3, upd4_cell hbn n4, upd4_cell hbn n5_⟩
                | go_keep)
              (first | (go_at_call 27; first
                | (refine (DO.out _ (low1 (Below.refl wr.heap.size wr) (.cells #[.slice none 0 0, .int .i64 0, .int .i64 0, .slice none 0 0] 25)).drew).mono ?_; rintro e w5 ⟨dv5, ev5, rfl, hd5, he5, hb5⟩; obtain ⟨A5, n5, c5, rfl⟩ := hd5.form; obtain ⟨A6, n6, c6, rfl⟩ := he5.form; have hbw5 : Below wr.heap.size wr w5 := low_low (low1 (Below.refl wr.heap.size wr) (.cells #[.slice none 0 0, .int .i64 0, .int .i64 0, .slice none 0 0] 25)).drew hb5; have m0 := (hbw5.cell (p := ⟨w.heap.size, 0, none⟩) hqs).trans x0; have m1 := (hbw5.cell (p := ⟨w.heap.size, 1, none⟩) hqs).trans x1; have m2 := (hbw5.cell (p := ⟨w.heap.size, 2, none⟩) hqs).trans x2; have m3 := (hbw5.cell (p := ⟨w.heap.size, 3, none⟩) hqs).trans x3; have n0 := (hbw5.cell (p := ⟨b, off + k * 6, none⟩) hbw).trans c0; have n1 := (hbw5.cell (p := ⟨b, off + k * 6 + 1, none⟩) hbw).trans c1_; have n2 := (hbw5.cell (p := ⟨b, off + k * 6 + 2, none⟩) hbw).trans c2_; have n3 := (hbw5.cell (p := ⟨b, off + k * 6 + 3, none⟩) hbw).trans c3_; have n4 := (hbw5.cell (p := ⟨b, off + k * 6 + 4, none⟩) hbw).trans c4_; have n5_ := (hbw5.cell (p := ⟨b, off + k * 6 + 5, none⟩) hbw).trans c5_; have HR5 := Lib.hid (HR.out.below hbw5); have HD5 := Lib.hid hd5; have HE5 := Lib.hid he5; have KX := Lib.hid ((Blk.new wr 25 #[.slice none 0 0, .int .i64 0, .int .i64 0, .slice none 0 0]).drew.below hb5 (by simp)); obtain ⟨o0, o1, o2, o3, o4⟩ := blk_cells4 KX.out; obtain ⟨p0, p1, p2, p3⟩ := blk_fz4 KX.out; clear hbw5 hd5 he5 hb5)
                | (refine (DO.out _ (Below.refl wr.heap.size wr).drew).mono ?_; rintro e w5 ⟨dv5, ev5, rfl, hd5, he5, hb5⟩; obtain ⟨A5, n5, c5, rfl⟩ := hd5.form; obtain ⟨A6, n6, c6, rfl⟩ := he5.form; have hbw5 : Below wr.heap.size wr w5 := low_low (Below.refl wr.heap.size wr).drew hb5; have m0 := (hbw5.cell (p := ⟨w.heap.size, 0, none⟩) hqs).trans x0; have m1 := (hbw5.cell (p := ⟨w.heap.size, 1, none⟩) hqs).trans x1; have m2 := (hbw5.cell (p := ⟨w.heap.size, 2, none⟩) hqs).trans x2; have m3 := (hbw5.cell (p := ⟨w.heap.size, 3, none⟩) hqs).trans x3; have n0 := (hbw5.cell (p := ⟨b, off + k * 6, none⟩) hbw).trans c0; have n1 := (hbw5.cell (p := ⟨b, off + k * 6 + 1, none⟩) hbw).trans c1_; have n2 := (hbw5.cell (p := ⟨b, off + k * 6 + 2, none⟩) hbw).trans c2_; have n3 := (hbw5.cell (p := ⟨b, off + k * 6 + 3, none⟩) hbw).trans c3_; have n4 := (hbw5.cell (p := ⟨b, off + k * 6 + 4, none⟩) hbw).trans c4_; have n5_ := (hbw5.cell (p := ⟨b, off + k * 6 + 5, none⟩) hbw).trans c5_; have HR5 := Lib.hid (HR.out.below hbw5); have HD5 := Lib.hid hd5; have HE5 := Lib.hid he5;  clear hbw5 hd5 he5 hb5)))
            · skip
              have HRX := Lib.hid (HR5.out.below (low1 (Below.refl w5.heap.size w5) (.cells #[.slice A5 n5 c5, .int .i64 t.up, .int .i64 t.bo, .slice A6 n6 c6] 25)))
              have KX := Lib.hid (Blk.new w5 25 #[.slice A5 n5 c5, .int .i64 t.up, .int .i64 t.bo, .slice A6 n6 c6])
              have HDX := Lib.hid (HD5.out.up (by have := HR5.out.size; omega) (low1 (Below.refl w5.heap.size w5) (.cells #[.slice A5 n5 c5, .int .i64 t.up, .int .i64 t.bo, .slice A6 n6 c6] 25)))
              have HEX := Lib.hid (HE5.out.up (low1 (Below.refl w5.heap.size w5) (.cells #[.slice A5 n5 c5, .int .i64 t.up, .int .i64 t.bo, .slice A6 n6 c6] 25)))
              clear HR5 HD5 HE5 m0 m1 m2 m3 n0 n1 n2 n3 n4 n5_
              generalize w5.alloc (.cells #[.slice A5 n5 c5, .int .i64 t.up, .int .i64 t.bo, .slice A6 n6 c6] 25) = WX at *
              generalize w5.heap.size = gx at *
              obtain ⟨x0, x1, x2, x3, x4⟩ := blk_cells4 KX.out
              obtain ⟨y0, y1, y2, y3, y4⟩ := blk_cells4 HRX.out.box
              obtain ⟨f0, f1, f2, f3⟩ := blk_fz4 HRX.out.box
              have HRN := Lib.hid (HRX.out.next HDX.out HEX.out)
              clear HR HRX
              go_wp2_with (fail)
              go_roundw
              case rel => exact ⟨k + 1, t, _, _, by omega, by go_num, Lib.hid (HMS.out t HDS.out), Lib.hid (by rw [HDA2.out, HDS.out]; rfl), HRN⟩
              case measure => simp [intOf]; omega
            · skip
              have HRX := Lib.hid (HR5.out.far KX.out (by have := HR.out.size; omega) (upd4_grown w5 wr.heap.size (.slice A5 n5 c5) (.int .i64 t.up) (.int .i64 t.bo) (.slice A6 n6 c6)))
              have HDX := Lib.hid (HD5.out.blk (by have := HR5.out.size; omega) KX.out (by decide) (by have := HR.out.size; omega) (upd4_grown w5 wr.heap.size (.slice A5 n5 c5) (.int .i64 t.up) (.int .i64 t.bo) (.slice A6 n6 c6)))
              have HEX := Lib.hid (HE5.out.blk KX.out (by decide) (by have := HR.out.size; omega) (upd4_grown w5 wr.heap.size (.slice A5 n5 c5) (.int .i64 t.up) (.int .i64 t.bo) (.slice A6 n6 c6)))
              have KY := Lib.hid (upd4_blk KX.out (u0 := .slice A5 n5 c5) (u1 := .int .i64 t.up) (u2 := .int .i64 t.bo) (u3 := .slice A6 n6 c6))
              clear KX HR5 HD5 HE5 m0 m1 m2 m3 n0 n1 n2 n3 n4 n5_ o0 o1 o2 o3 o4 p0 p1 p2 p3
              unfold upd4 at HRX HDX HEX KY
              generalize ((((w5.setCell ⟨wr.heap.size, 0, none⟩ (.slice A5 n5 c5)).setCell ⟨wr.heap.size, 1, none⟩ (.int .i64 t.up)).setCell ⟨wr.heap.size, 2, none⟩ (.int .i64 t.bo)).setCell ⟨wr.heap.size, 3, none⟩ (.slice A6 n6 c6)) = WX at *
              have KX := KY
              clear KY
              obtain ⟨x0, x1, x2, x3, x4⟩ := blk_cells4 KX.out
              obtain ⟨y0, y1, y2, y3, y4⟩ := blk_cells4 HRX.out.box
              obtain ⟨f0, f1, f2, f3⟩ := blk_fz4 HRX.out.box
              have HRN := Lib.hid (HRX.out.next HDX.out HEX.out)
              clear HR HRX
              go_wp2_with (fail)
              go_roundw
              case rel => exact ⟨k + 1, t, _, _, by omega, by go_num, Lib.hid (HMS.out t HDS.out), Lib.hid (by rw [HDA2.out, HDS.out]; rfl), HRN⟩
              case measure => simp [intOf]; omega
        · obtain rfl : n = k := by omega
          have hda := HDA.out
          rw [List.drop_eq_nil_of_le (by have := HLN.out; omega)] at hda
          have hap : applyS s l = (sk, 0) := by unfold applyS; rw [if_pos ⟨HM.out, HALL.out⟩, hda]; rfl
          have HF := Lib.hid (FIN.out wr _ _ _ _ _ sk 0 HR.out HR.out.db HR.out.ep hap)
          obtain ⟨x0, x1, x2, x3, x4⟩ := blk_cells4 HR.out.box
          obtain ⟨z0, z1, z2, z3, z4⟩ := blk_cells4 HR.out.res
          obtain ⟨g0, g1, g2, g3⟩ := blk_fz4 HR.out.res
          clear hda hap
          go_wp2
          refine bodyPost_ret (v := .tuple #[stV sk (.slice Ad nd cd) (.slice Ae ne ce), .int .i64 0]) ?_ rfl HF.out
          simp [results, Try.results11, go_sem, z0, z1, z2, z3]
end Go.Proofs.Ytcojimbnenibnaa.Bas
