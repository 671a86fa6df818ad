/- DiskActs: what any acts tell, and what they leave: the walk, at acts that are light and a disk that there can be. -/
import Derived.Test.YtpmkacpdmjnbjaaArgs
import Derived.IntWalk
import Derived.WalkKit
import Derived.ProofKit
import Derived.OpenShut
import Derived.ShutString
import Derived.ChangeOld
import Derived.Below
namespace Go.Proofs.Ytpmkacpdmjnbjaa.Dsk
open Go.RowKit Go.Maps Go.Shelf Go.Proofs.Ytpmkacpdmjnbjaa.Mem
set_option linter.unusedVariables false
set_option linter.unusedSimpArgs false
theorem set4_cell {w : World} {g b o : Nat} {a' b' c' d' : Value} (h : b ≠ g) : (set4 w g a' b' c' d').cell? ⟨b, o, none⟩ = w.cell? ⟨b, o, none⟩ :=
  (far_cell _ h).trans ((far_cell _ h).trans ((far_cell _ h).trans (far_cell _ h)))
set_option maxRecDepth 20000 in
set_option maxHeartbeats 8000000 in
theorem acts_true (n : Nat) (A : Option Addr) (len cap : Nat) (l : List Ac) (w : World) (h1 : 1 ≤ n) (h2 : n ≤ 8) (h40 : len ≤ 40)
    (hL : Calls Try.prog 10 #[.slice A len cap] w fun e w' => e = .returned (.bool true) ∧ w = w') (hA : ActsAt w w.heap.size A len l) :
    Calls Try.prog 3 #[.int .i64 (n : Nat), .slice A len cap] w fun e w' => e = .returned (.bool true) ∧ Below w.heap.size w w' := by
  have LT := Lib.hid hL; clear hL
  have HA := Lib.hid hA; clear hA
  have cN := new_ok n w h1 (by omega)
  have CN := Lib.hid cN; clear cN
  have hd1 : decide (8 < (n : Int)) = false := by simp; omega
  have hd2 : decide ((n : Int) < 1) = false := by simp; omega
  have hd3 : decide (1024 < (n : Int)) = false := by simp; omega
  go_enter Try.func3, Try.ntmps3
  go_wp2_with (first
    | (go_at_call 10; refine (LT.out).mono ?_; rintro e w' ⟨rfl, rfl⟩)
    | (go_at_call 12; refine (CN.out).mono ?_; rintro e w1 ⟨g, bs, bw, rfl, hD, hb, hS⟩; have hlt := hD.lt; have RN := Lib.hid (ref_new [g, bs, bw] n w1 h1 (by omega) (by simp; omega)); have HD1 := Lib.hid hD; clear hD; have HB1 := Lib.hid hb; clear hb; have HS := Lib.hid hS; clear hS)
    | (go_at_call 13; refine (RN.out).mono ?_; rintro e w2 ⟨v2, rfl, hR, hb⟩; obtain ⟨A1, A2, c1, c2, hv2⟩ := ref_form hR; subst hv2; have HR2 := Lib.hid hR; clear hR; have HD2 := Lib.hid (HD1.out.below hb); have HB2 := Lib.hid (HB1.out.trans (hb.mono HB1.out.size)); have hz2 := hb.size; clear hb; unfold refV at HR2; unfold refV))
  have hk7 := Blk.new w2 31 #[.slice A1 (St.new n).n c1, .slice A2 (St.new n).n c2, .int .i64 (armedOf (St.new n).left), .bool (St.new n).dead]
  have hal := (Below.refl w2.heap.size w2).alloc (Nat.le_refl _) (Obj.cells #[.slice A1 (St.new n).n c1, .slice A2 (St.new n).n c2, .int .i64 (armedOf (St.new n).left), .bool (St.new n).dead] 31)
  have HD3 := Lib.hid (HD2.out.below hal)
  have HR3 := Lib.hid ((HR2.out.raise (raise_cons (x := w2.heap.size) (Nat.le_refl _))).below hal)
  have HB3 := Lib.hid (HB2.out.trans (hal.mono HB2.out.size))
  have HK3 := Lib.hid hk7; clear hk7 hal
  have hlt3 := HD2.out.lt
  generalize w2.alloc (Obj.cells #[.slice A1 (St.new n).n c1, .slice A2 (St.new n).n c2, .int .i64 (armedOf (St.new n).left), .bool (St.new n).dead] 31) = w3 at *
  generalize hx7 : w2.heap.size = x7 at *
  have hxw : w.heap.size ≤ x7 := by have := HB2.out.size; omega
  clear hx7 hlt
  go_wp2
  go_loopw [8] (fun i wr => ∃ (k : Nat) (B1 B2 : Option Addr) (d1 d2 : Nat), k ≤ len ∧ i = .int .i64 k ∧ Blk wr x7 31 #[.slice B1 n d1, .slice B2 n d2, .int .i64 (armedOf ((St.new n).run (l.take k)).left), .bool ((St.new n).run (l.take k)).dead] ∧ DiskAt wr g bs bw ((St.new n).run (l.take k)) ∧
    RefAt wr (x7 :: [g, bs, bw]) (.agg #[.slice B1 n d1, .slice B2 n d2, .int .i64 (armedOf ((St.new n).run (l.take k)).left), .bool ((St.new n).run (l.take k)).dead]) ((St.new n).run (l.take k)) ∧ Below w.heap.size w wr) (fun i _ => len - (intOf i).toNat)
  case atStart => exact ⟨0, A1, A2, c1, c2, Nat.zero_le _, rfl, HK3.out, HD3.out, HR3.out, HB3.out⟩
  case round =>
    obtain ⟨k, B1, B2, d1, d2, hk, rfl, hk7, hd, hr, hb⟩ := hrel
    have a0 := hk7.cell 0
    have a1 := hk7.cell 1
    have a2 := hk7.cell 2
    have a3 := hk7.cell 3
    have a4 := hk7.lt
    simp at a0 a1 a2 a3
    have hn' : ((St.new n).run (l.take k)).n = n := run_n _ _
    generalize hs : (St.new n).run (l.take k) = s at *
    have HK := Lib.hid hk7; clear hk7
    have HD := Lib.hid hd; clear hd
    have HR := Lib.hid hr; clear hr
    have HB := Lib.hid hb; clear hb
    have HN := Lib.hid hn'; clear hn'
    have HSE := Lib.hid hs; clear hs
    by_cases hlt : k < len
    · obtain ⟨b, off, a, Ab, At, nb, cb, nt, ct, rfl, hbB, hlk, g0, g1, g2, g3, g4, hact⟩ := acts_at HA.out HB.out hlt
      have hbw : b < wr.heap.size := by have := HB.out.size; omega
      have hdo := fun (W : World) (hW : Below wr.heap.size wr W) => do_any (x7 :: [g, bs, bw]) g bs bw w.heap.size s (refV (.slice B1 s.n d1) (.slice B2 s.n d2) s) _ a W (HD.out.below hW) (by have h := HR.out.below hW; rw [← HN.out] at h; exact h) (fun y hy => List.mem_cons_of_mem _ hy) (by have h1 := hW.size; have h2 := HD.out.lt; intro y hy; simp at hy; omega) (by obtain ⟨vb, vt, e, q1, q2, q3⟩ := hact; exact ⟨vb, vt, e, q1.below hW (by have := HB.out.size; omega), q2.below hW (by have := HB.out.size; omega), q3⟩) HS.out
      have DO := Lib.hid hdo; clear hdo
      have hdo2 := fun (W : World) (hW : Below wr.heap.size wr W) (hlW : wr.heap.size < W.heap.size) => do_any (wr.heap.size :: x7 :: [g, bs, bw]) g bs bw w.heap.size s (refV (.slice B1 s.n d1) (.slice B2 s.n d2) s) _ a W (HD.out.below hW) (by have h := (HR.out.raise (raise_cons (x := wr.heap.size) (Nat.le_refl _))).below hW; rw [← HN.out] at h; exact h) (fun y hy => List.mem_cons_of_mem _ (List.mem_cons_of_mem _ hy)) (by have h1 := hW.size; have h2 := HD.out.lt; intro y hy; simp at hy; omega) (by obtain ⟨vb, vt, e, q1, q2, q3⟩ := hact; exact ⟨vb, vt, e, q1.below hW (by have := HB.out.size; omega), q2.below hW (by have := HB.out.size; omega), q3⟩) HS.out
      have DO2 := Lib.hid hdo2; clear hdo2
      have HST := Lib.hid (run_step (St.new n) l k a hlk); clear hlk hact
      unfold refV at DO DO2
      rw [HN.out] at DO DO2
      have hx9 : x7 ≠ wr.heap.size := by omega
      have hb9 : b ≠ wr.heap.size := by omega
      go_wp2
      go_region_held3 (fun W => W.cell? ⟨x7, 0, none⟩ = some (.slice B1 n d1) ∧ W.cell? ⟨x7, 1, none⟩ = some (.slice B2 n d2) ∧ W.cell? ⟨x7, 2, none⟩ = some (.int .i64 (armedOf s.left)) ∧ W.cell? ⟨x7, 3, none⟩ = some (.bool s.dead) ∧
          W.cell? ⟨b, off + k * 5, none⟩ = some (.int .i64 a.what) ∧ W.cell? ⟨b, off + k * 5 + 1, none⟩ = some (.int .i64 a.n) ∧ W.cell? ⟨b, off + k * 5 + 2, none⟩ = some (.slice Ab nb cb) ∧ W.cell? ⟨b, off + k * 5 + 3, none⟩ = some (.bool a.short) ∧ W.cell? ⟨b, off + k * 5 + 4, none⟩ = some (.slice At nt ct))
        (first
          | with_reducible exact ⟨a0, a1, a2, a3, g0, g1, g2, g3, g4⟩
          | with_reducible exact ⟨m0, m1, m2, m3, m4, m5, m6, m7, m8⟩
          | with_reducible exact ⟨(set4_cell hx9).trans m0, (set4_cell hx9).trans m1, (set4_cell hx9).trans m2, (set4_cell hx9).trans m3, (set4_cell hb9).trans m4, (set4_cell hb9).trans m5, (set4_cell hb9).trans m6, (set4_cell hb9).trans m7, (set4_cell hb9).trans m8⟩
          | go_keep)
        (first
          | (go_at_call 14; refine (DO.out _ (by exact (Below.refl wr.heap.size wr).drew)).mono ?_; rintro e w4 ⟨v4, rfl, hD, hR, hK⟩; obtain ⟨E1, E2, e1, e2, hv4⟩ := ref_form hR; subst hv4; have hn4 : (s.step a).n = n := (step_n s a).trans HN.out; rw [hn4] at hR; have x7k := hK.blk HK.out.drew (by have := HD.out.lt; simp; omega); have m0 := x7k.cell 0; have m1 := x7k.cell 1; have m2 := x7k.cell 2; have m3 := x7k.cell 3; have mf0 := x7k.frozen 0; have mf1 := x7k.frozen 1; have mf2 := x7k.frozen 2; have mf3 := x7k.frozen 3; have ml := x7k.lt; simp at m0 m1 m2 m3; have hbl4 : Below w.heap.size wr w4 := (Below.mono (Below.refl wr.heap.size wr).drew (by have := HB.out.size; omega)).trans (hK.below HS.out (by have := HB.out.size; simp; omega)); have m4 := (hbl4.cell (p := ⟨b, off + k * 5, none⟩) hbB).trans g0; have m5 := (hbl4.cell (p := ⟨b, off + k * 5 + 1, none⟩) hbB).trans g1; have m6 := (hbl4.cell (p := ⟨b, off + k * 5 + 2, none⟩) hbB).trans g2; have m7 := (hbl4.cell (p := ⟨b, off + k * 5 + 3, none⟩) hbB).trans g3; have m8 := (hbl4.cell (p := ⟨b, off + k * 5 + 4, none⟩) hbB).trans g4; have HX4 := Lib.hid x7k; clear x7k; have HD4 := Lib.hid hD; clear hD; have HR4 := Lib.hid hR; clear hR; have HB4 := Lib.hid (HB.out.trans hbl4); clear hbl4; unfold refV at HR4; unfold refV; try rw [hn4])
          | (go_at_call 14; refine (DO2.out _ (by exact ((Below.refl wr.heap.size wr).alloc (Nat.le_refl _) zero31).drew) (by simp)).mono ?_; rintro e w4 ⟨v4, rfl, hD, hR, hK⟩; obtain ⟨E1, E2, e1, e2, hv4⟩ := ref_form hR; subst hv4; have hn4 : (s.step a).n = n := (step_n s a).trans HN.out; rw [hn4] at hR; have t9k := hK.blk (Blk.new wr 31 #[nilS, nilS, .int .i64 0, .bool false]).drew (by have := HD.out.lt; simp; omega); have t0 := t9k.cell 0; have t1 := t9k.cell 1; have t2 := t9k.cell 2; have t3 := t9k.cell 3; have tf0 := t9k.frozen 0; have tf1 := t9k.frozen 1; have tf2 := t9k.frozen 2; have tf3 := t9k.frozen 3; have tl := t9k.lt; simp at t0 t1 t2 t3; have T9 := Lib.hid t9k; clear t9k; have x7k := hK.blk (HK.out.alloc zero31).drew (by have := HD.out.lt; simp; omega); have m0 := x7k.cell 0; have m1 := x7k.cell 1; have m2 := x7k.cell 2; have m3 := x7k.cell 3; have mf0 := x7k.frozen 0; have mf1 := x7k.frozen 1; have mf2 := x7k.frozen 2; have mf3 := x7k.frozen 3; have ml := x7k.lt; simp at m0 m1 m2 m3; have hbl4 : Below w.heap.size wr w4 := (Below.mono ((Below.refl wr.heap.size wr).alloc (Nat.le_refl _) zero31).drew (by have := HB.out.size; omega)).trans (hK.below HS.out (by have := HB.out.size; simp; omega)); have m4 := (hbl4.cell (p := ⟨b, off + k * 5, none⟩) hbB).trans g0; have m5 := (hbl4.cell (p := ⟨b, off + k * 5 + 1, none⟩) hbB).trans g1; have m6 := (hbl4.cell (p := ⟨b, off + k * 5 + 2, none⟩) hbB).trans g2; have m7 := (hbl4.cell (p := ⟨b, off + k * 5 + 3, none⟩) hbB).trans g3; have m8 := (hbl4.cell (p := ⟨b, off + k * 5 + 4, none⟩) hbB).trans g4; have HX4 := Lib.hid x7k; clear x7k; have HD4 := Lib.hid hD; clear hD; have HR4 := Lib.hid hR; clear hR; have HB4 := Lib.hid (HB.out.trans hbl4); clear hbl4; unfold refV at HR4; unfold refV; try rw [hn4]))
      all_goals first
        | (have fT := set4_blk (a' := .slice E1 n e1) (b' := .slice E2 n e2) (c' := .int .i64 (armedOf (s.step a).left)) (d' := .bool (s.step a).dead) T9.out
           have fX := set4_far (a' := .slice E1 n e1) (b' := .slice E2 n e2) (c' := .int .i64 (armedOf (s.step a).left)) (d' := .bool (s.step a).dead) HX4.out hx9
           have fne := hx9
           have fk := set4_kept (g := wr.heap.size) (S := [wr.heap.size]) (a := .slice E1 n e1) (b := .slice E2 n e2) (c := .int .i64 (armedOf (s.step a).left)) (d := .bool (s.step a).dead) (KeptBut.refl w4 [wr.heap.size]) (by simp)
           have hl9 := HD.out.lt
           have fD := HD4.out.kept fk (by simp; omega) (by simp; omega) (by simp; omega)
           have fR := (HR4.out.kept (fk.more (S' := wr.heap.size :: x7 :: [g, bs, bw]) (by simp))).more (S' := x7 :: [g, bs, bw]) (fun y hy => List.mem_cons_of_mem _ hy)
           have fB := set4_below (a := .slice E1 n e1) (b := .slice E2 n e2) (c := .int .i64 (armedOf (s.step a).left)) (d := .bool (s.step a).dead) HB4.out HB.out.size
           clear fk
           unfold set4 at fT fX fD fR fB
           generalize (((w4.setCell ⟨wr.heap.size, 0, none⟩ (.slice E1 n e1)).setCell ⟨wr.heap.size, 1, none⟩ (.slice E2 n e2)).setCell ⟨wr.heap.size, 2, none⟩ (.int .i64 (armedOf (s.step a).left))).setCell ⟨wr.heap.size, 3, none⟩ (.bool (s.step a).dead) = w5 at *
           generalize wr.heap.size = t9 at *)
        | (have fT := Blk.new w4 31 #[.slice E1 n e1, .slice E2 n e2, .int .i64 (armedOf (s.step a).left), .bool (s.step a).dead]
           have fX := HX4.out.alloc (Obj.cells #[.slice E1 n e1, .slice E2 n e2, .int .i64 (armedOf (s.step a).left), .bool (s.step a).dead] 31)
           have fal := (Below.refl w4.heap.size w4).alloc (Nat.le_refl _) (Obj.cells #[.slice E1 n e1, .slice E2 n e2, .int .i64 (armedOf (s.step a).left), .bool (s.step a).dead] 31)
           have fD := HD4.out.below fal
           have fR := HR4.out.below fal
           have fB := HB4.out.trans (fal.mono HB4.out.size)
           have fne : x7 ≠ w4.heap.size := by have := HX4.out.lt; omega
           clear fal
           generalize w4.alloc (Obj.cells #[.slice E1 n e1, .slice E2 n e2, .int .i64 (armedOf (s.step a).left), .bool (s.step a).dead] 31) = w5 at *
           generalize w4.heap.size = t9 at *)
      all_goals
        (have q0 := fT.cell 0
         have q1 := fT.cell 1
         have q2 := fT.cell 2
         have q3 := fT.cell 3
         have p0 := fX.frozen 0
         have p1 := fX.frozen 1
         have p2 := fX.frozen 2
         have p3 := fX.frozen 3
         have p4 := fX.lt
         have p5 := fT.lt
         simp at q0 q1 q2 q3
         have gX := set4_blk (a' := .slice E1 n e1) (b' := .slice E2 n e2) (c' := .int .i64 (armedOf (s.step a).left)) (d' := .bool (s.step a).dead) fX
         have gk := set4_kept (g := x7) (S := [x7]) (a := .slice E1 n e1) (b := .slice E2 n e2) (c := .int .i64 (armedOf (s.step a).left)) (d := .bool (s.step a).dead) (KeptBut.refl w5 [x7]) (by simp)
         have gl := HD.out.lt
         have gD := fD.kept gk (by simp; omega) (by simp; omega) (by simp; omega)
         have gR := fR.kept (gk.more (S' := x7 :: [g, bs, bw]) (by simp))
         have gB := set4_below (a := .slice E1 n e1) (b := .slice E2 n e2) (c := .int .i64 (armedOf (s.step a).left)) (d := .bool (s.step a).dead) fB hxw
         have LK := Lib.hid (like_any g bs bw _ _ _ _ gD gR)
         have GX := Lib.hid gX
         have GD := Lib.hid gD
         have GR := Lib.hid gR
         have GB := Lib.hid gB
         clear gX gk gD gR gB fT fX fD fR fB
         unfold set4 at LK
         go_wp2_with (go_at_call 15; refine (LK.out).mono ?_; rintro e w6 ⟨rfl, hb6⟩; have GX6 := Lib.hid (GX.out.below hb6 GX.out.lt); have GD6 := Lib.hid (GD.out.below hb6); have GR6 := Lib.hid (GR.out.below hb6); have GB6 := Lib.hid (GB.out.trans (hb6.mono GB.out.size)); clear hb6)
         go_roundw
         case rel =>
           refine ⟨k + 1, E1, E2, e1, e2, by omega, by go_num, ?_, ?_, ?_, ?_⟩
           · rw [HST.out, HSE.out]; exact GX6.out
           · rw [HST.out, HSE.out]; exact GD6.out
           · rw [HST.out, HSE.out]; exact GR6.out
           · exact GB6.out
         case measure => simp [intOf]; omega)
    · obtain rfl : k = len := by omega
      obtain ⟨dd, hdd⟩ : ∃ dd, dd = s.dead := ⟨_, rfl⟩
      have r1 := read_any g bs bw s (n : Nat) wr HD.out
      have r2 := fun (W : World) (hW : Below wr.heap.size wr W) => read_any g bs bw s (-1) W (HD.out.below hW)
      have hq1 : (s.read (n : Nat)).2 = if dd = true then 7 else 1 := by
        unfold St.read
        rw [← hdd]
        cases dd
        · rw [if_neg (by simp), if_neg (by rw [HN.out]; omega)]; rfl
        · rw [if_pos rfl]; rfl
      have hq2 : (s.read (-1)).2 = if dd = true then 7 else 1 := by
        unfold St.read
        rw [← hdd]
        cases dd
        · rw [if_neg (by simp), if_neg (by omega)]; rfl
        · rw [if_pos rfl]; rfl
      rw [hq1] at r1
      rw [hq2] at r2
      rw [← hdd] at a3
      have R1 := Lib.hid r1; clear r1
      have R2 := Lib.hid r2; clear r2
      clear hq1 hq2 hdd
      have hgl := HD.out.lt
      have hz := HB.out.size
      cases dd
      · go_wp2_with (first
          | (go_at_call 16; first
              | (refine (R2.out _ B6.out).mono ?_; rintro e w7 ⟨v7, rfl, _, hb⟩; have hb7 := B6.out.trans (hb.mono B6.out.size); have y3 := (hb7.cell (p := ⟨x7, 3, none⟩) a4).trans a3; have y4 := Nat.lt_of_lt_of_le a4 hb7.size; have B7 := Lib.hid hb7; clear hb7 hb)
              | (refine (R1.out).mono ?_; rintro e w6 ⟨v6, rfl, _, hb⟩; have B6 := Lib.hid hb; clear hb))
          | (go_at_call 11; refine (awake_any _).mono ?_; rintro e w8 ⟨rfl, hb8⟩))
        go_ret
        exact ⟨rfl, (HB.out.trans (B7.out.mono hz)).trans (hb8.mono (by have := B7.out.size; omega))⟩
      · go_wp2_with (first
          | (go_at_call 16; first
              | (refine (R2.out _ B6.out).mono ?_; rintro e w7 ⟨v7, rfl, _, hb⟩; have hb7 := B6.out.trans (hb.mono B6.out.size); have y3 := (hb7.cell (p := ⟨x7, 3, none⟩) a4).trans a3; have y4 := Nat.lt_of_lt_of_le a4 hb7.size; have B7 := Lib.hid hb7; clear hb7 hb)
              | (refine (R1.out).mono ?_; rintro e w6 ⟨v6, rfl, _, hb⟩; have B6 := Lib.hid hb; clear hb))
          | (go_at_call 11; refine (awake_any _).mono ?_; rintro e w8 ⟨rfl, hb8⟩))
        go_ret
        exact ⟨rfl, (HB.out.trans (B7.out.mono hz)).trans (hb8.mono (by have := B7.out.size; omega))⟩
set_option maxHeartbeats 1000000 in
theorem acts_awake (n : Int) (A : Option Addr) (len cap : Nat) (t : Bool) (w : World) (h : t = false ∨ (8 < n ∧ n ≤ 1024))
    (hL : Calls Try.prog 10 #[.slice A len cap] w fun e w' => e = .returned (.bool t) ∧ w = w') :
    Calls Try.prog 3 #[.int .i64 n, .slice A len cap] w fun e w' => e = .returned (.bool true) ∧ Below w.heap.size w w' := by
  have LT := Lib.hid hL; clear hL
  cases t
  · clear h
    go_enter Try.func3, Try.ntmps3
    go_wp2_with (first
      | (go_at_call 10; refine (LT.out).mono ?_; rintro e w' ⟨rfl, rfl⟩)
      | (go_at_call 11; refine (awake_any _).mono ?_; rintro e w8 ⟨rfl, hb8⟩))
    go_ret
    exact ⟨rfl, hb8⟩
  · obtain ⟨h1, h2⟩ := h.resolve_left (by simp)
    have hd1 : decide (8 < n) = true := by simpa using h1
    have hd2 : decide (n ≤ 1024) = true := by simpa using h2
    clear h h1 h2
    go_enter Try.func3, Try.ntmps3
    go_wp2_with (first
      | (go_at_call 10; refine (LT.out).mono ?_; rintro e w' ⟨rfl, rfl⟩)
      | (go_at_call 11; refine (awake_any _).mono ?_; rintro e w8 ⟨rfl, hb8⟩))
    go_ret
    exact ⟨rfl, hb8⟩
set_option maxHeartbeats 1000000 in
theorem acts_none (n : Int) (A : Option Addr) (len cap : Nat) (w : World) (h : n < 1 ∨ 1024 < n)
    (hL : Calls Try.prog 10 #[.slice A len cap] w fun e w' => e = .returned (.bool true) ∧ w = w') :
    Calls Try.prog 3 #[.int .i64 n, .slice A len cap] w fun e w' => e = .returned (.bool true) ∧ Below w.heap.size w w' := by
  have LT := Lib.hid hL; clear hL
  have cN := new_no n w (by omega)
  have CN := Lib.hid cN; clear cN
  by_cases h1 : n < 1
  · have hd1 : decide (8 < n) = false := by simp; omega
    have hd2 : decide (n < 1) = true := by simpa using h1
    clear h h1
    go_enter Try.func3, Try.ntmps3
    go_wp2_with (first
      | (go_at_call 10; refine (LT.out).mono ?_; rintro e w' ⟨rfl, rfl⟩)
      | (go_at_call 12; refine (CN.out).mono ?_; rintro e w1 ⟨rfl, hb⟩)
      | (go_at_call 11; refine (awake_any _).mono ?_; rintro e w8 ⟨rfl, hb8⟩))
    go_ret
    exact ⟨rfl, by first | exact hb8 | (subst hb; exact hb8) | exact hb.trans (hb8.mono hb.size)⟩
  · have hd1 : decide (8 < n) = true := by simp; omega
    have hd2 : decide (n < 1) = false := by simpa using h1
    have hd3 : decide (1024 < n) = true := by simp; omega
    have hd4 : decide (n ≤ 1024) = false := by simp; omega
    clear h h1
    go_enter Try.func3, Try.ntmps3
    go_wp2_with (first
      | (go_at_call 10; refine (LT.out).mono ?_; rintro e w' ⟨rfl, rfl⟩)
      | (go_at_call 12; refine (CN.out).mono ?_; rintro e w1 ⟨rfl, hb⟩)
      | (go_at_call 11; refine (awake_any _).mono ?_; rintro e w8 ⟨rfl, hb8⟩))
    go_ret
    exact ⟨rfl, by first | exact hb8 | (subst hb; exact hb8) | exact hb.trans (hb8.mono hb.size)⟩
end Go.Proofs.Ytpmkacpdmjnbjaa.Dsk
namespace Go.Proofs.Ytpmkacpdmjnbjaa.diskActs
open Go.Proofs.Ytpmkacpdmjnbjaa.Mem Go.Proofs.Ytpmkacpdmjnbjaa.Dsk
open Go.ChangeShapes Go.WideShapes Go.ChangeAt Go.RowKit
set_option linter.unusedVariables false
theorem own : ownKnob Try.prog.godebug = none := by kernel_rfl
theorem laidOut : laidOutB Try.prog = true := by kernel_rfl
theorem walk (a0 : Int) (a1 : Option Addr) (len1 cap1 : Nat) (w : World) (w0 : (Lit.int .i64 a0).wf = true) (w1 : IsRecs w a1 len1 cap1 5 (ActR w)) :
    Calls Try.prog 3 #[.int .i64 a0, .slice a1 len1 cap1] w fun e w' => e = .returned (.bool true) ∧ Below w.heap.size w w' := by
  have hl := light_any a1 len1 cap1 w (recs_len w1) (lens_of w1)
  by_cases hf : len1 ≤ 40 ∧ ∀ b off, a1 = some ⟨b, off, none⟩ → ∀ i, i < len1 → ActFits w b off i
  · have ht := hl.mono (R' := fun e w' => e = .returned (.bool true) ∧ w = w') fun e w' ⟨t, h1, h2, h3⟩ => by
      obtain rfl := h3.2 hf
      exact ⟨h1, h2⟩
    by_cases h1 : a0 < 1 ∨ 1024 < a0
    · exact acts_none a0 a1 len1 cap1 w h1 ht
    · by_cases h2 : 8 < a0
      · exact acts_awake a0 a1 len1 cap1 true w (.inr ⟨h2, by omega⟩) ht
      · obtain ⟨n, rfl⟩ : ∃ n : Nat, a0 = n := ⟨a0.toNat, by omega⟩
        obtain ⟨l, hA⟩ := acts_of w1 hf.2
        exact acts_true n a1 len1 cap1 l w (by omega) (by omega) hf.1 ht hA
  · have ht := hl.mono (R' := fun e w' => e = .returned (.bool false) ∧ w = w') fun e w' ⟨t, h1, h2, h3⟩ => by
      cases t
      · exact ⟨h1, h2⟩
      · exact absurd (h3.1 rfl) hf
    exact acts_awake a0 a1 len1 cap1 false w (.inl rfl) ht
/-! the step from the walk to the row -/
set_option maxRecDepth 100000 in
theorem lifted (os : Os) (started : os.Started) (H : Type) (enc : TypeId × Value → H) :
    ReturnsInHanded {} Try.checked os 3 .any (Rows.diskActsSpec.pre6 enc Try.prog Try.f3 Rows.diskActsRow.domain false) (Rows.diskActsSpec.post enc Try.prog Try.f3 false true false false) := by
  refine returnsInHanded_of_change (C := Try.checked) own started (by kernel_rfl) Try.func3
    (ChangeSpec.witness6 (enc := enc) (C := Try.checked) false ⟨#[], #[.int .i64 0, .slice none 0 0], []⟩ 8 (by kernel_rfl) (by kernel_rfl) (by kernel_rfl) (by kernel_rfl)) ?_
  intro W base args ds gs before hval0 hW hcnd _
  have hval : ∀ (j : Nat) t v, Try.f3.params[j]? = some t → args[j]? = some v → Value.okWide Try.prog W .any base t v := hval0
  have hW' := hW
  obtain ⟨p, q, hA0, hV, rfl, hfz, hnd⟩ := hW
  have hA : DataW.TrodAll enc Try.prog W 0 (fun _ => true) true Try.f3.params.toList args.toList ds p := hA0
  rw [Try.params3] at hA hval
  obtain ⟨v0, vs0, d0, ds0, p0, q0, hargs, rfl, rfl, h0, r0⟩ := trodAll_cons hA
  obtain ⟨v1, vs1, d1, ds1, p1, q1, rfl, rfl, rfl, h1, r1⟩ := trodAll_cons r0
  obtain ⟨rfl, rfl, rfl⟩ := trodAll_nil r1
  obtain rfl : args = #[v0, v1] := by cases args; simp_all
  obtain ⟨rfl, rfl⟩ := trodVars_none hV
  obtain ⟨a0, rfl, rfl, rfl, w0⟩ := open_int Try.underlying3 (hval 0 3 v0 rfl rfl) h0
  obtain ⟨a1, len1, cap1, rfl⟩ := okWide_slice Try.underlying22 (hval 1 22 v1 rfl rfl)
  have k1 := h1
  have lt1 : ∀ x ∈ p1, x.block < W.heap.size := by obtain ⟨m, hm⟩ := k1; exact DataW.trod_lt m _ _ _ hm
  have w1 : IsRecs W a1 len1 cap1 5 (ActR W) := by
    obtain ⟨fuel, hf⟩ := h1
    rcases open_slice_fields Try.underlying22 Try.underlying38 (by kernel_rfl) (by kernel_rfl) hf with ⟨hcs, _⟩ | ⟨x, l, c, m, D, Pl, hcs, _, hl, hm, hmm, _, hh⟩
    · simp [Value.cells] at hcs
      obtain ⟨rfl, rfl, rfl⟩ := hcs
      exact .inl ⟨rfl, rfl, rfl⟩
    · simp [Value.cells] at hcs
      obtain ⟨rfl, rfl, rfl⟩ := hcs
      refine .inr ⟨_, rfl, hl, hm, fun i hi j hj => ?_⟩
      obtain ⟨ys, n, _, _, _, hg⟩ := hh i (by rw [hmm, if_pos rfl]; exact hi)
      match j, hj with
      | 0, _ =>
        obtain ⟨v, y, hc, _, ht⟩ := hg 0 _ rfl
        exact ⟨v, hc, open_num_at Try.underlying3 ht⟩
      | 1, _ =>
        obtain ⟨v, y, hc, _, ht⟩ := hg 1 _ rfl
        exact ⟨v, hc, open_num_at Try.underlying3 ht⟩
      | 2, _ =>
        obtain ⟨v, y, hc, _, ht⟩ := hg 2 _ rfl
        exact ⟨v, hc, open_row_at Try.underlying35 Try.underlying5 (by kernel_rfl) ht⟩
      | 3, _ =>
        obtain ⟨v, y, hc, _, ht⟩ := hg 3 _ rfl
        exact ⟨v, hc, open_bool_at Try.underlying4 ht⟩
      | 4, _ =>
        obtain ⟨v, y, hc, _, ht⟩ := hg 4 _ rfl
        refine ⟨v, hc, ?_⟩
        rcases open_slice_fields Try.underlying36 Try.underlying52 (by kernel_rfl) (by kernel_rfl) ht with ⟨hcs', _⟩ | ⟨x', l', c', m', D', Pl', hcs', _, hl', hm', hmm', _, hh'⟩
        · obtain rfl : v = .slice none 0 0 := by simpa using hcs'
          exact ⟨_, _, _, rfl, .inl ⟨rfl, rfl, rfl⟩⟩
        · obtain rfl : v = .slice (some x') l' c' := by simpa using hcs'
          refine ⟨_, _, _, rfl, ?_⟩
          refine .inr ⟨_, rfl, hl', hm', fun i' hi' j' hj' => ?_⟩
          obtain ⟨ys', n', _, _, _, hg'⟩ := hh' i' (by rw [hmm', if_pos rfl]; exact hi')
          match j', hj' with
          | 0, _ =>
            obtain ⟨v, y, hc, _, ht⟩ := hg' 0 _ rfl
            exact ⟨v, hc, open_num_at Try.underlying3 ht⟩
          | 1, _ =>
            obtain ⟨v, y, hc, _, ht⟩ := hg' 1 _ rfl
            exact ⟨v, hc, open_row_at Try.underlying35 Try.underlying5 (by kernel_rfl) ht⟩
  clear hA0 hval0
  refine (walk a0 a1 len1 cap1 W w0 w1).mono fun e W' ⟨he, bel⟩ => ?_
  subst he
  exact ⟨_, rfl, _, _, _, [], _, [], hW', trodAll_mk1 (shut_bool Try.underlying4 _), (trodAll_cons_mk (shut_int Try.underlying3 w0) (trodAll_cons_mk (Below.trod laidOut (by kernel_rfl) (of_decide_eq_true (by kernel_rfl)) k1 bel lt1) trodAll_mk0)), rfl, bel.frame _, fun h => by cases h⟩

theorem over : Rows.diskActsRow.holds Try.pinned (OpenSpec.ofChange Rows.diskActsSpec) :=
  OpenClaim.holds_of_wide 3 Try.f3 rfl rfl rfl rfl rfl rfl rfl ⟨rfl, rfl, rfl, rfl, rfl⟩ rfl rfl rfl rfl rfl (by kernel_rfl) Try.func3 (by kernel_rfl)
    (of_decide_eq_true (by kernel_rfl)) (by unfold Func.isWrapper; first | (rw [if_pos (by decide +kernel)]; kernel_rfl) | (rw [if_neg (by decide +kernel)]; exact ⟨rfl, rfl⟩))
    (fun os started H enc _ => lifted os started H enc)

/-- the statement -/
theorem proved : Rows.DiskActsSaid := over
end Go.Proofs.Ytpmkacpdmjnbjaa.diskActs
