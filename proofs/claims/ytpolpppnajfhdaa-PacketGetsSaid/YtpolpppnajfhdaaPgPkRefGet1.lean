/- What the reference reads of any bytes (layer 14): those that are heard. Printed by tools/packet/get2.py. -/
import Derived.Test.YtpolpppnajfhdaaPgRefNumH
namespace Go.Proofs.Ytpolpppnajfhdaa.Pkt
open Go.RowKit Go.Proofs.Ytpolpppnajfhdaa.Mem Go.Proofs.Ytpolpppnajfhdaa.Lsa Go.Proofs.Ytpolpppnajfhdaa.Bas Go.Proofs.Ytpolpppnajfhdaa.Oct
set_option linter.unusedVariables false
set_option linter.unusedSimpArgs false
set_option maxRecDepth 100000 in
set_option maxHeartbeats 16000000 in
theorem rget_hello (v : Value) (xs : List Nat) (w : World) (h : Sl w w.heap.size v xs) (h15l : 15 ≤ xs.length) (k1 : xs.getD 0 0 = 1) :
    Calls Try.prog 16 #[v] w (GetOut14 w (getP xs)) := by
  obtain ⟨A, n, c, rfl, _⟩ := id h
  have hx := h.lt
  obtain ⟨_, _, _, e_, hbt, hnc, hcm, hz⟩ := id h
  injection e_ with e1_ e2_ e3_
  subst e1_ e2_ e3_
  have hn : xs.length = n := hbt.1
  have hnb : n ≤ 1000000 := hbt.2.2.1
  have hb0 := Chg.low1 (Below.refl w.heap.size w) (.cells zR14 26)
  have k0 := Blk.new w 26 zR14
  obtain ⟨P1, hP1⟩ : ∃ P1, P1 = GetOut14 w (getP xs) := ⟨_, rfl⟩
  rw [← hP1]
  have hno : ∀ (W : World), getP xs = none → Below w.heap.size w W → P1 (.returned (.tuple #[pkV zeroP (.slice none 0 0) (.slice none 0 0) (.slice none 0 0), .bool false])) W := by
    intro W hc hW
    rw [hP1, hc]
    exact ⟨none, none, none, 0, 0, 0, 0, 0, 0, ⟨lks_nil _ _, lks_nil _ _, las_nil _ _⟩, rfl, hW⟩
  have NO := Lib.hid hno; clear hno
  have HP1 := Lib.hid hP1; clear hP1
  have HB0 := Lib.hid hb0; clear hb0
  have K0 := Lib.hid k0; clear k0
  have h15 : ¬ n < 15 := by omega
  have d0 : decide ((n : Int) < 15) = false := by simp; omega
  obtain ⟨b, off, rfl, hb, hc⟩ := hbt.2.2.2 (by omega)
  have HCX := Lib.hid (fun (W : World) (hW : Below w.heap.size w W) (i : Nat) (hi : i < n) => (hW.cell (p := ⟨b, off + i, none⟩) hb).trans (hc i hi))
  have HS := Lib.hid (fun (W : World) (hW : Below w.heap.size w W) => sl_up h hW)
  have R2 := Lib.hid (fun (W : World) (hW : Below w.heap.size w W) => rnum4 (.slice (some ⟨b, off, none⟩) n c) xs 2 2 rfl W (sl_up h hW) (by omega))
  have R7 := Lib.hid (fun (W : World) (hW : Below w.heap.size w W) => rnum4 (.slice (some ⟨b, off, none⟩) n c) xs 7 7 rfl W (sl_up h hW) (by omega))
  have R11 := Lib.hid (fun (W : World) (hW : Below w.heap.size w W) => rnum4 (.slice (some ⟨b, off, none⟩) n c) xs 11 11 rfl W (sl_up h hW) (by omega))
  have R15 := Lib.hid (fun (W : World) (hW : Below w.heap.size w W) => rnum4 (.slice (some ⟨b, off, none⟩) n c) xs 15 15 rfl W (sl_up h hW) (by omega))
  have hX0 : xs.getD 0 0 < 256 := getD_lt hx 0
  have hX1 : xs.getD 1 0 < 256 := getD_lt hx 1
  have hX6 : xs.getD 6 0 < 256 := getD_lt hx 6
  have hX11 : xs.getD 11 0 < 256 := getD_lt hx 11
  have hX15 : xs.getD 15 0 < 256 := getD_lt hx 15
  obtain ⟨X0, E0_⟩ : ∃ Y, Y = xs.getD 0 0 := ⟨_, rfl⟩
  rewrite [← E0_] at hX0
  have E0 := Lib.hid E0_.symm; clear E0_
  obtain ⟨X1, E1_⟩ : ∃ Y, Y = xs.getD 1 0 := ⟨_, rfl⟩
  rewrite [← E1_] at hX1
  have E1 := Lib.hid E1_.symm; clear E1_
  obtain ⟨X6, E6_⟩ : ∃ Y, Y = xs.getD 6 0 := ⟨_, rfl⟩
  rewrite [← E6_] at hX6
  have E6 := Lib.hid E6_.symm; clear E6_
  obtain ⟨X11, E11_⟩ : ∃ Y, Y = xs.getD 11 0 := ⟨_, rfl⟩
  rewrite [← E11_] at hX11
  have E11 := Lib.hid E11_.symm; clear E11_
  obtain ⟨X15, E15_⟩ : ∃ Y, Y = xs.getD 15 0 := ⟨_, rfl⟩
  rewrite [← E15_] at hX15
  have E15 := Lib.hid E15_.symm; clear E15_
  obtain ⟨b2, c2⟩ := numAt_lt hx 2
  obtain ⟨N2, F2_⟩ : ∃ Y, Y = numAt xs 2 4 := ⟨_, rfl⟩
  rewrite [← F2_] at R2 b2 c2
  have F2 := Lib.hid F2_.symm; clear F2_
  obtain ⟨b7, c7⟩ := numAt_lt hx 7
  obtain ⟨N7, F7_⟩ : ∃ Y, Y = numAt xs 7 4 := ⟨_, rfl⟩
  rewrite [← F7_] at R7 b7 c7
  have F7 := Lib.hid F7_.symm; clear F7_
  obtain ⟨b11, c11⟩ := numAt_lt hx 11
  obtain ⟨N11, F11_⟩ : ∃ Y, Y = numAt xs 11 4 := ⟨_, rfl⟩
  rewrite [← F11_] at R11 b11 c11
  have F11 := Lib.hid F11_.symm; clear F11_
  obtain ⟨b15, c15⟩ := numAt_lt hx 15
  obtain ⟨N15, F15_⟩ : ∃ Y, Y = numAt xs 15 4 := ⟨_, rfl⟩
  rewrite [← F15_] at R15 b15 c15
  have F15 := Lib.hid F15_.symm; clear F15_
  have vX0 : IntKind.i64.wrap (X0 : Int) = (X0 : Int) := IntWalk.i64_in _ (by omega)
  have vX1 : IntKind.i64.wrap (X1 : Int) = (X1 : Int) := IntWalk.i64_in _ (by omega)
  have vX6 : IntKind.i64.wrap (X6 : Int) = (X6 : Int) := IntWalk.i64_in _ (by omega)
  have vX11 : IntKind.i64.wrap (X11 : Int) = (X11 : Int) := IntWalk.i64_in _ (by omega)
  have vX15 : IntKind.i64.wrap (X15 : Int) = (X15 : Int) := IntWalk.i64_in _ (by omega)
  have HN := Lib.hid hn
  have HX := Lib.hid hx; clear hx
  clear h hn hbt hc
  obtain ⟨w0, hw0⟩ : ∃ w0, w0 = w.alloc (.cells zR14 26) := ⟨_, rfl⟩
  rewrite [← hw0] at HB0 K0
  have hs0 : w0.heap.size = w.heap.size + 1 := by rw [hw0]; simp
  have hw01 : w.heap.size < w0.heap.size := by omega
  have HS0 := Lib.hid hs0; clear hs0
  have hn0 : b ≠ w0.heap.size := Nat.ne_of_lt (Nat.lt_trans hb hw01)
  have l0_ : 0 < n := by omega
  have l1_ : 1 < n := by omega
  have l6_ : 6 < n := by omega
  have i1_ : (1 : Int) < (n : Int) := by omega
  have i6_ : (6 : Int) < (n : Int) := by omega
  have HW0 := Lib.hid hw0; clear hw0
  have a0 := HCX.out w0 HB0.out 0 l0_; have a1 := HCX.out w0 HB0.out 1 l1_; have a6 := HCX.out w0 HB0.out 6 l6_; rewrite [E0.out, Nat.add_zero] at a0; rewrite [E1.out] at a1; rewrite [E6.out] at a6
  go_enter Try.func16, Try.ntmps16
  go_upto_region 3 with fail
  rewrite [← HW0.out]
  go_cut [4] from 14 to 30 (fun v wz => ∃ gx, v = .pointer (some ⟨gx, 0, none⟩) ∧ RG0 w wz gx ⟨(X0 : Nat), (X1 : Nat), N2, (X6 : Nat), N7, 0, 0, [], [], []⟩)
  case first =>
    go_region_held3 (fun W => W.cell? ⟨b, off, none⟩ = some (.int .u8 (X0 : Nat)) ∧ W.cell? ⟨b, off + 1, none⟩ = some (.int .u8 (X1 : Nat)) ∧ W.cell? ⟨b, off + 6, none⟩ = some (.int .u8 (X6 : Nat)))
      (first
        | with_reducible exact ⟨a0, a1, a6⟩
        | with_reducible exact ⟨p0, p1, p6⟩
        | with_reducible exact ⟨q0, q1, q6⟩
        | with_reducible exact ⟨(s10_keep hn0).trans q0, (s10_keep hn0).trans q1, (s10_keep hn0).trans q6⟩
        | with_reducible exact ⟨(s10_keep hn2).trans q0, (s10_keep hn2).trans q1, (s10_keep hn2).trans q6⟩
        | go_keep)
      (first
        | (have HM1 := R2; go_at_call 40; refine (R2.out _ (by first | exact HB0.out | exact (HB0.out).drew)).mono ?_; rintro e w2 ⟨rfl, hb2⟩; have hb2 : Below (w0).heap.size (w0) w2 := (by first | exact hb2 | exact undrew hb2); have HB2 := Lib.hid (Chg.low_low HB0.out hb2); have K2 := Lib.hid (K0.out.below (hb2) K0.out.lt); have hs2 := K2.out.lt; have hn2 : b ≠ w2.heap.size := Nat.ne_of_lt (Nat.lt_of_lt_of_le hb HB2.out.size); have p0 := HCX.out w2 HB2.out 0 l0_; have p1 := HCX.out w2 HB2.out 1 l1_; have p6 := HCX.out w2 HB2.out 6 l6_; rewrite [E0.out, Nat.add_zero] at p0; rewrite [E1.out] at p1; rewrite [E6.out] at p6; clear hb2 HM1 R2)
        | (have HM1 := R2; go_at_call 40; refine (R2.out _ (by first | exact Chg.low1 HB0.out (.cells zR14 26) | exact (Chg.low1 HB0.out (.cells zR14 26)).drew)).mono ?_; rintro e w2 ⟨rfl, hb2⟩; have hb2 : Below (w0.alloc (.cells zR14 26)).heap.size (w0.alloc (.cells zR14 26)) w2 := (by first | exact hb2 | exact undrew hb2); have KG := Lib.hid ((Blk.new w0 26 zR14).below hb2 (by simp)); have HG := Lib.hid (Blk.lt KG.out); have HB2 := Lib.hid (Chg.low_low (Chg.low1 HB0.out (.cells zR14 26)) hb2); have K2 := Lib.hid (K0.out.below (Chg.low_low ((Below.refl w0.heap.size w0).alloc (Nat.le_refl _) (.cells zR14 26)) hb2) K0.out.lt); have hs2 := K2.out.lt; have hn2 : b ≠ w2.heap.size := Nat.ne_of_lt (Nat.lt_of_lt_of_le hb HB2.out.size); have p0 := HCX.out w2 HB2.out 0 l0_; have p1 := HCX.out w2 HB2.out 1 l1_; have p6 := HCX.out w2 HB2.out 6 l6_; rewrite [E0.out, Nat.add_zero] at p0; rewrite [E1.out] at p1; rewrite [E6.out] at p6; clear hb2 HM1 R2)
        | (go_at_call 40; refine (R7.out _ (by first | exact HB2.out | exact (HB2.out).drew)).mono ?_; rintro e w3 ⟨rfl, hb3⟩; have hb3 : Below (w2).heap.size (w2) w3 := (by first | exact hb3 | exact undrew hb3); (first | (have KG := Lib.hid (KG.out.below hb3 KG.out.lt); have g0 := KG.out.cell 0; have g1 := KG.out.cell 1; have g2 := KG.out.cell 2; have g3 := KG.out.cell 3; have g4 := KG.out.cell 4; have g5 := KG.out.cell 5; have g6 := KG.out.cell 6; have g7 := KG.out.cell 7; have g8 := KG.out.cell 8; have g9 := KG.out.cell 9; simp only [List.getElem?_toArray, List.getElem?_cons_zero, List.getElem?_cons_succ] at g0 g1 g2 g3 g4 g5 g6 g7 g8 g9; have y0 := KG.out.frozen 0; have y1 := KG.out.frozen 1; have y2 := KG.out.frozen 2; have y3 := KG.out.frozen 3; have y4 := KG.out.frozen 4; have y5 := KG.out.frozen 5; have y6 := KG.out.frozen 6; have y7 := KG.out.frozen 7; have y8 := KG.out.frozen 8; have y9 := KG.out.frozen 9; have hGl := KG.out.lt) | skip); have HB3 := Lib.hid (Chg.low_low (HB2.out) hb3); have K3 := Lib.hid (K2.out.below (hb3) K2.out.lt); have hs3 := K3.out.lt; have q0 := HCX.out w3 HB3.out 0 l0_; have q1 := HCX.out w3 HB3.out 1 l1_; have q6 := HCX.out w3 HB3.out 6 l6_; rewrite [E0.out, Nat.add_zero] at q0; rewrite [E1.out] at q1; rewrite [E6.out] at q6; clear hb3)
        | (go_at_call 40; refine (R7.out _ (by first | exact Chg.low1 HB2.out (.cells zR14 26) | exact (Chg.low1 HB2.out (.cells zR14 26)).drew)).mono ?_; rintro e w3 ⟨rfl, hb3⟩; have hb3 : Below (w2.alloc (.cells zR14 26)).heap.size (w2.alloc (.cells zR14 26)) w3 := (by first | exact hb3 | exact undrew hb3); have KG := Lib.hid ((Blk.new w2 26 zR14).below hb3 (by simp)); have g0 := KG.out.cell 0; have g1 := KG.out.cell 1; have g2 := KG.out.cell 2; have g3 := KG.out.cell 3; have g4 := KG.out.cell 4; have g5 := KG.out.cell 5; have g6 := KG.out.cell 6; have g7 := KG.out.cell 7; have g8 := KG.out.cell 8; have g9 := KG.out.cell 9; simp only [List.getElem?_toArray, List.getElem?_cons_zero, List.getElem?_cons_succ] at g0 g1 g2 g3 g4 g5 g6 g7 g8 g9; have y0 := KG.out.frozen 0; have y1 := KG.out.frozen 1; have y2 := KG.out.frozen 2; have y3 := KG.out.frozen 3; have y4 := KG.out.frozen 4; have y5 := KG.out.frozen 5; have y6 := KG.out.frozen 6; have y7 := KG.out.frozen 7; have y8 := KG.out.frozen 8; have y9 := KG.out.frozen 9; have hGl := KG.out.lt; have HB3 := Lib.hid (Chg.low_low (Chg.low1 HB2.out (.cells zR14 26)) hb3); have K3 := Lib.hid (K2.out.below (Chg.low_low ((Below.refl w2.heap.size w2).alloc (Nat.le_refl _) (.cells zR14 26)) hb3) K2.out.lt); have hs3 := K3.out.lt; have q0 := HCX.out w3 HB3.out 0 l0_; have q1 := HCX.out w3 HB3.out 1 l1_; have q6 := HCX.out w3 HB3.out 6 l6_; rewrite [E0.out, Nat.add_zero] at q0; rewrite [E1.out] at q1; rewrite [E6.out] at q6; clear hb3)
        | fail)
    all_goals
      go_wp2_with fail
      go_meet
      case rel =>
        first
          | with_reducible exact ⟨_, rfl, rg_new K3.out HB3.out⟩
          | with_reducible exact ⟨_, rfl, rg_set KG.out K3.out HB3.out (by first | exact hs2 | exact hw01)⟩
  case rest =>
    rename World => wz
    obtain ⟨gx, rfl, hx0, hr0, hb0, hg0⟩ := hcut
    have hX : RX w wz gx #[.int .i64 (X0 : Nat), .int .i64 (X1 : Nat), .int .i64 N2, .int .i64 (X6 : Nat), .int .i64 N7, .int .i64 0, .int .i64 0, .slice none 0 0, .slice none 0 0, .slice none 0 0] := ⟨hx0, hr0, hb0, hg0⟩
    have HX1 := Lib.hid hX; clear hX hx0 hr0 hb0
    obtain ⟨x0, x1, x2, x3, x4, x5, x6, x7, x8, x9, x10⟩ := blk_cells10 HX1.out.x
    obtain ⟨f0, f1, f2, f3, f4, f5, f6, f7, f8, f9⟩ := blk_fz10 HX1.out.x
    have l11_ : 11 < n := by omega
    have i11_ : (11 : Int) < (n : Int) := by omega
    have u11 := HCX.out wz HX1.out.low 11 l11_
    rewrite [E11.out] at u11
    have hm11 := many11 E0.out (by rw [← E0.out, k1]; decide) (by rw [← E0.out, k1]; decide)
    rewrite [E0.out] at k1
    have HG := Lib.hid (fun l hl => get_hd (M := X11) (AT := 12) h15l E0.out E1.out E6.out F2.out F7.out (hm11.1.trans E11.out) hm11.2 k1 l hl)
    have d1 : ((X0 : Int) == 1) = true := by rw [beq_iff_eq]; omega
    have d2 : ((X0 : Int) == 2) = false := by rw [beq_eq_false_iff_ne]; omega
    have d3 : ((X0 : Int) == 3) = false := by rw [beq_eq_false_iff_ne]; omega
    have d4 : ((X0 : Int) == 4) = false := by rw [beq_eq_false_iff_ne]; omega
    clear k1 hm11
    obtain ⟨i0, hi, hz0, hz1, hz2⟩ := info_parts info_heard
    have HI := Lib.hid hi; clear hi
    have HZ0 := Lib.hid hz0; clear hz0
    have HZ1 := Lib.hid hz1; clear hz1
    have HZ2 := Lib.hid hz2; clear hz2
    have HEN := Lib.hid (enters_of Try.func40 (by kernel_rfl) rfl)
    go_wp2_with (fail)
    go_loopw [5, 7, 8, 9] (fun a i _ _ wr => ∃ (k at_ : Nat) (l : List Lk) (Ai : Option Addr) (ni ci : Nat), k ≤ X11 ∧ i = .int .i64 k ∧ a = .int .i64 at_ ∧ at_ ≤ n + 16 ∧ l.length ≤ k ∧ Hid (hds xs X11 12 [] = hds xs (X11 - k) at_ l) ∧ Hid (RX w wr gx #[.int .i64 (X0 : Nat), .int .i64 (X1 : Nat), .int .i64 N2, .int .i64 (X6 : Nat), .int .i64 N7, .int .i64 0, .int .i64 0, .slice Ai ni ci, .slice none 0 0, .slice none 0 0]) ∧ Hid (wr.ownsRow (gx + 1) 59 2 (.slice Ai ni ci) l.length (lkCells l))) (fun _ i _ _ _ => X11 - (intOf i).toNat)
    case atStart => exact ⟨0, 12, [], none, 0, 0, Nat.zero_le _, rfl, rfl, by omega, Nat.le_refl _, Lib.hid rfl, HX1, Lib.hid (World.ownsRow_nil _ _ _ _)⟩
    case round =>
      clear HX1
      obtain ⟨k, at_, l, Ai, ni, ci, hk, rfl, rfl, hat, hlk, HIT, HRX, HOW⟩ := hrel
      have hni : l.length = ni := own_len14 HOW.out
      have hend : (k = X11 ∨ xs.length ≤ at_) → getP xs = ifP xs ⟨(X0 : Nat), (X1 : Nat), N2, (X6 : Nat), N7, 0, 0, l, [], []⟩ := fun he => HG.out l (hds_off hk he HIT.out)
      by_cases hkM : k < X11
      · have dk : decide ((k : Int) < ((X11 : Nat) : Int)) = true := by simp; omega
        by_cases han : at_ < n
        · have da : decide ((at_ : Int) < (n : Int)) = true := by simp; omega
          clear hend
          have hon := hds_on hkM (by have := HN.out; omega) HIT.out
          clear HIT
          have c0 := HCX.out wr HRX.out.low at_ han
          have t256 := getD_lt HX.out at_
          have rn := rnum4 (.slice (some ⟨b, off, none⟩) n c) xs (at_ + 1) ((at_ : Int) + 1) (by omega) wr.drew (HS.out wr HRX.out.low) (by have := HN.out; omega)
          have hitem : hdAt xs at_ = (((xs.getD at_ 0 : Nat) : Int), numAt xs (at_ + 1) 4) := rfl
          rewrite [hitem] at hon
          have cb := fun (W : World) (hW : Below w.heap.size w W) => HCX.out W hW at_ han
          generalize numAt xs (at_ + 1) 4 = S8 at *
          generalize xs.getD at_ 0 = t0 at *
          have e8 : (4 : Int) = 4 := rfl
          have ea : (4 : Int) = 4 := rfl
          have HON := Lib.hid hon; clear hon hitem
          have CB := Lib.hid cb; clear cb
          have RN := Lib.hid rn; clear rn e8 ea
          have wa1 : IntKind.i64.wrap ((at_ : Int) + 1) = (at_ : Int) + 1 := IntWalk.i64_in _ (by omega)
          have wa9 : IntKind.i64.wrap ((at_ : Int) + 5) = (at_ : Int) + 5 := IntWalk.i64_in _ (by omega)
          have wt0 : IntKind.i64.wrap (t0 : Int) = (t0 : Int) := IntWalk.i64_in _ (by omega)
          have hp0 : (0 : Int) ≤ (at_ : Int) := by omega
          have hp1 : (at_ : Int) < (n : Int) := by omega
          have hl9 : l.length ≤ 1000 := by omega
          have o1 := HRX.out.o1
          obtain ⟨y0, y1, y2, y3, y4, y5, y6, y7, y8, y9, y10⟩ := blk_cells10 HRX.out.x
          obtain ⟨k0, k1, k2, k3, k4, k5, k6, k7, k8, k9⟩ := blk_fz10 HRX.out.x
          subst hni
          go_wp2_with (fail)
          go_region_law (first
            | (refine step_calls14 rfl 40 _ _ rfl #[(.slice (some ⟨b, off, none⟩) n c), .int .i64 ((at_ : Int) + 1), .int .i64 4] (by simp [Act.eval, Act.put, wa1]) HEN.out (by exact RN.out) ?_; rintro e w1 ⟨rfl, hb1⟩; refine ⟨_, rfl, ?_⟩; have hb1 : Below wr.heap.size wr w1 := undrew hb1; have HR1 := Lib.hid (HRX.out.below hb1); have HO1 := Lib.hid (own_below HOW.out hb1); have q0_ := CB.out w1 HR1.out.low; obtain ⟨a0, a1, a2, a3, a4, a5, a6, a7, a8, a9, a10⟩ := blk_cells10 HR1.out.x; have hs1 := HR1.out.x.lt; clear hb1)
            | (refine step_append_any _ rfl (.tmp 99) (.tmp 110) 22 rfl (gx + 1) 59 i0 (.agg #[.int .i64 0, .int .i64 0]) 2 16 Try.underlying22 HI.out HZ0.out HZ1.out HZ2.out rfl (by decide) (.slice Ai l.length ci) l.length (lkCells l) rfl ((HO1.out.alloc _).drew) (w1.heap.size + 1) (some ⟨w1.heap.size, 0, none⟩) 1 1 (lkCells [(((t0 : Nat) : Int), S8)]) rfl ((reads_two w1 _ _ _ _ rfl).drew) (lkCells_one' _) (by unfold maxLen; omega) (by omega) (by simp; omega) ?_; intro v6 w6 hown6 hg6 _; have hg6 : (w1.alloc (.cells #[.int .i64 (t0 : Nat), .int .i64 S8] 59)).grownBy w6 (Value.slice Ai l.length ci).ownBlock := ⟨hg6.os, hg6.tape, hg6.output, hg6.size, hg6.block⟩; obtain ⟨A6, n6, c6, rfl⟩ := own_form14 hown6; have hr6 := rx_grown HR1.out (grown_trans (World.grownBy_alloc w1 (.cells #[.int .i64 (t0 : Nat), .int .i64 S8] 59) _) hg6) (fun q hq => (HO1.out.lt q hq).1); obtain ⟨d0, d1, d2, d3, d4, d5, d6, d7, d8, d9, d10⟩ := blk_cells10 hr6.x; obtain ⟨h0, h1, h2, h3, h4, h5, h6, h7, h8, h9⟩ := blk_fz10 hr6.x; have HRN := Lib.hid (rx_push (j := 7) (u := .slice A6 n6 c6) (cs' := #[.int .i64 (X0 : Nat), .int .i64 (X1 : Nat), .int .i64 N2, .int .i64 (X6 : Nat), .int .i64 N7, .int .i64 0, .int .i64 0, .slice A6 n6 c6, .slice none 0 0, .slice none 0 0]) HR1.out HO1.out hg6 rfl); have hl6 : (lkCells l ++ lkCells [(((t0 : Nat) : Int), S8)]) = lkCells (l ++ [(((t0 : Nat) : Int), S8)]) := (lkCells_app _ _).symm; rewrite [hl6] at hown6; have HONW := Lib.hid (own_set14 (j := 7) (u := .slice A6 n6 c6) hown6); clear hown6 hg6 hr6 hl6)
            | fail)
          all_goals
            go_wp2_with (fail)
            go_roundw
            case rel => exact ⟨k + 1, at_ + 5, l ++ [(((t0 : Nat) : Int), S8)], A6, n6, c6, by omega, by go_num, val_int (by omega), by omega, by rw [List.length_append]; simp; omega, HON, HRN, by rw [List.length_append]; exact HONW⟩
            case measure => simp [intOf]; omega
        · have da : decide ((at_ : Int) < (n : Int)) = false := by simp; omega
          have hcase := hend (.inr (by have := HN.out; omega))
          clear hend HIT
          have my := rmay_pk ⟨(X0 : Nat), (X1 : Nat), N2, (X6 : Nat), N7, 0, 0, l, [], []⟩ Ai none none ni ci 0 0 0 0 wr ⟨pk_row HOW.out, lks_nil _ _, las_nil _ _⟩
          unfold ifP at hcase
          obtain ⟨s0, s1, s2, s3, s4, s5, s6, s7, s8, s9, s10⟩ := blk_cells10 HRX.out.x
          cases hm : mayP ⟨(X0 : Nat), (X1 : Nat), N2, (X6 : Nat), N7, 0, 0, l, [], []⟩
          · rw [hm] at my hcase
            rw [if_neg (by simp)] at hcase
            have MY := Lib.hid my; clear my hm
            have HCN := Lib.hid hcase; clear hcase
            go_wp2_with (first
              | (have HM1 := MY; go_at_call 10; refine (MY.out).mono ?_; rintro e w7 ⟨rfl, hb7⟩; have HR7 := Lib.hid (HRX.out.below hb7); have HO7 := Lib.hid (own_below HOW.out hb7); obtain ⟨r0, r1, r2, r3, r4, r5, r6, r7, r8, r9, r10⟩ := blk_cells10 HR7.out.x; clear hb7 HM1 MY)
              | (refine wpList_store_blk rfl 26 (.tmp 2) (.tmp 146) rfl w.heap.size zR14 rfl rfl _ HR7.out.res (by rw [size_pk]; rfl) rfl (by kernel_rfl) ?_; intro wq hgq kq; have KQ := Lib.hid kq; have HBQ := Lib.hid (HR7.out.low.grown hgq HR7.out.low.size (fun q hq => by cases hq; exact Nat.le_refl _)); clear hgq kq))
            refine bodyPost_ret (v := .tuple #[.agg zR14, .bool false]) ?_ rfl (NO.out wq HCN.out HBQ.out)
            exact results_blk_tmp (P := Try.prog) Try.results16 _ rfl _ rfl KQ.out Try.underlying26 rfl (by rw [size_pk]; rfl)
          · have rb := fun (W : World) (hS : PkM W W.heap.size (.slice Ai ni ci) (.slice none 0 0) (.slice none 0 0) ⟨(X0 : Nat), (X1 : Nat), N2, (X6 : Nat), N7, 0, 0, l, [], []⟩) => rput_pk ⟨(X0 : Nat), (X1 : Nat), N2, (X6 : Nat), N7, 0, 0, l, [], []⟩ Ai none none ni ci 0 0 0 0 W hS hm
            rw [hm] at my hcase
            have MY := Lib.hid my; clear my hm
            have RB := Lib.hid rb; clear rb
            have sq := fun (A' : Option Addr) (n' c' : Nat) (W : World) (hA : Sl W W.heap.size (.slice A' n' c') (putP ⟨(X0 : Nat), (X1 : Nat), N2, (X6 : Nat), N7, 0, 0, l, [], []⟩)) (hB : Sl W W.heap.size (.slice (some ⟨b, off, none⟩) n c) xs) => Mem.rsame_any A' (some ⟨b, off, none⟩) n' n c' c _ _ (putP ⟨(X0 : Nat), (X1 : Nat), N2, (X6 : Nat), N7, 0, 0, l, [], []⟩) xs W (sl_btsG hA) (sl_btsG hB)
            by_cases hbx : putP ⟨(X0 : Nat), (X1 : Nat), N2, (X6 : Nat), N7, 0, 0, l, [], []⟩ = xs
            · rw [if_pos ⟨rfl, hbx⟩] at hcase
              rw [decide_eq_true hbx] at sq
              have SQ := Lib.hid sq; clear sq hbx
              have HCY := Lib.hid hcase; clear hcase
              go_wp2_with (first
                | (have HM1 := MY; go_at_call 10; refine (MY.out).mono ?_; rintro e w7 ⟨rfl, hb7⟩; have HR7 := Lib.hid (HRX.out.below hb7); have HO7 := Lib.hid (own_below HOW.out hb7); obtain ⟨r0, r1, r2, r3, r4, r5, r6, r7, r8, r9, r10⟩ := blk_cells10 HR7.out.x; clear hb7 HM1 MY)
                | (go_at_call 15; refine (RB.out w7 ⟨pk_row HO7.out, lks_nil _ _, las_nil _ _⟩).mono ?_; rintro e w8 ⟨v8, rfl, hs8, hb8⟩; obtain ⟨A8, n8, c8, rfl, _⟩ := id hs8; have HS8 := Lib.hid hs8; have HR8 := Lib.hid (HR7.out.below hb8); have HO8 := Lib.hid (own_below HO7.out hb8); clear hs8 hb8)
                | (go_at_call 14; refine (SQ.out _ _ _ _ HS8.out (HS.out _ HR8.out.low)).mono ?_; rintro e w9 ⟨rfl, m9, rfl⟩; have hbd := below_drewN (Below.refl w8.heap.size w8) m9; have HR9 := Lib.hid (HR8.out.below hbd); have HO9 := Lib.hid (own_below HO8.out hbd); clear hbd)
                | (refine wpList_load_blk rfl 26 (.tmp 4) rfl gx rfl #[.int .i64 (X0 : Nat), .int .i64 (X1 : Nat), .int .i64 N2, .int .i64 (X6 : Nat), .int .i64 N7, .int .i64 0, .int .i64 0, .slice Ai ni ci, .slice none 0 0, .slice none 0 0] HR9.out.x _ Try.underlying26 rfl (by rw [size_pk]; rfl) ?_)
                | (refine wpList_store_blk rfl 26 (.tmp 2) (.tmp 147) rfl w.heap.size #[.int .i64 (X0 : Nat), .int .i64 (X1 : Nat), .int .i64 N2, .int .i64 (X6 : Nat), .int .i64 N7, .int .i64 0, .int .i64 0, .slice Ai ni ci, .slice none 0 0, .slice none 0 0] rfl rfl _ HR9.out.res (by rw [size_pk]; rfl) rfl (by kernel_rfl) ?_; intro wq hgq kq; have KQ := Lib.hid kq; have HBQ := Lib.hid (HR9.out.low.grown hgq HR9.out.low.size (fun q hq => by cases hq; exact Nat.le_refl _)); have HOQ := Lib.hid (own_gr14 HO9.out hgq (by have := HR9.out.o1; omega)); clear hgq kq))
              refine bodyPost_ret (v := .tuple #[.agg #[.int .i64 (X0 : Nat), .int .i64 (X1 : Nat), .int .i64 N2, .int .i64 (X6 : Nat), .int .i64 N7, .int .i64 0, .int .i64 0, .slice Ai ni ci, .slice none 0 0, .slice none 0 0], .bool true]) ?_ rfl ?_
              · exact results_blk_tmp (P := Try.prog) Try.results16 _ rfl _ rfl KQ.out Try.underlying26 rfl (by rw [size_pk]; rfl)
              · rewrite [HP1.out, HCY.out]
                exact ⟨_, _, _, _, _, _, _, _, _, ⟨pk_row HOQ.out, lks_nil _ _, las_nil _ _⟩, rfl, HBQ.out⟩
            · rw [if_neg (fun h => hbx h.2)] at hcase
              rw [decide_eq_false hbx] at sq
              have SQ := Lib.hid sq; clear sq hbx
              have HCN := Lib.hid hcase; clear hcase
              go_wp2_with (first
                | (have HM1 := MY; go_at_call 10; refine (MY.out).mono ?_; rintro e w7 ⟨rfl, hb7⟩; have HR7 := Lib.hid (HRX.out.below hb7); have HO7 := Lib.hid (own_below HOW.out hb7); obtain ⟨r0, r1, r2, r3, r4, r5, r6, r7, r8, r9, r10⟩ := blk_cells10 HR7.out.x; clear hb7 HM1 MY)
                | (go_at_call 15; refine (RB.out w7 ⟨pk_row HO7.out, lks_nil _ _, las_nil _ _⟩).mono ?_; rintro e w8 ⟨v8, rfl, hs8, hb8⟩; obtain ⟨A8, n8, c8, rfl, _⟩ := id hs8; have HS8 := Lib.hid hs8; have HR8 := Lib.hid (HR7.out.below hb8); have HO8 := Lib.hid (own_below HO7.out hb8); clear hs8 hb8)
                | (go_at_call 14; refine (SQ.out _ _ _ _ HS8.out (HS.out _ HR8.out.low)).mono ?_; rintro e w9 ⟨rfl, m9, rfl⟩; have hbd := below_drewN (Below.refl w8.heap.size w8) m9; have HR9 := Lib.hid (HR8.out.below hbd); have HO9 := Lib.hid (own_below HO8.out hbd); clear hbd)
                | (refine wpList_store_blk rfl 26 (.tmp 2) (.tmp 146) rfl w.heap.size zR14 rfl rfl _ HR9.out.res (by rw [size_pk]; rfl) rfl (by kernel_rfl) ?_; intro wq hgq kq; have KQ := Lib.hid kq; have HBQ := Lib.hid (HR9.out.low.grown hgq HR9.out.low.size (fun q hq => by cases hq; exact Nat.le_refl _)); clear hgq kq))
              refine bodyPost_ret (v := .tuple #[.agg zR14, .bool false]) ?_ rfl (NO.out wq HCN.out HBQ.out)
              exact results_blk_tmp (P := Try.prog) Try.results16 _ rfl _ rfl KQ.out Try.underlying26 rfl (by rw [size_pk]; rfl)
      · have dk : decide ((k : Int) < ((X11 : Nat) : Int)) = false := by simp; omega
        have hcase := hend (.inl (by omega))
        clear hend HIT
        have my := rmay_pk ⟨(X0 : Nat), (X1 : Nat), N2, (X6 : Nat), N7, 0, 0, l, [], []⟩ Ai none none ni ci 0 0 0 0 wr ⟨pk_row HOW.out, lks_nil _ _, las_nil _ _⟩
        unfold ifP at hcase
        obtain ⟨s0, s1, s2, s3, s4, s5, s6, s7, s8, s9, s10⟩ := blk_cells10 HRX.out.x
        cases hm : mayP ⟨(X0 : Nat), (X1 : Nat), N2, (X6 : Nat), N7, 0, 0, l, [], []⟩
        · rw [hm] at my hcase
          rw [if_neg (by simp)] at hcase
          have MY := Lib.hid my; clear my hm
          have HCN := Lib.hid hcase; clear hcase
          go_wp2_with (first
            | (have HM1 := MY; go_at_call 10; refine (MY.out).mono ?_; rintro e w7 ⟨rfl, hb7⟩; have HR7 := Lib.hid (HRX.out.below hb7); have HO7 := Lib.hid (own_below HOW.out hb7); obtain ⟨r0, r1, r2, r3, r4, r5, r6, r7, r8, r9, r10⟩ := blk_cells10 HR7.out.x; clear hb7 HM1 MY)
            | (refine wpList_store_blk rfl 26 (.tmp 2) (.tmp 146) rfl w.heap.size zR14 rfl rfl _ HR7.out.res (by rw [size_pk]; rfl) rfl (by kernel_rfl) ?_; intro wq hgq kq; have KQ := Lib.hid kq; have HBQ := Lib.hid (HR7.out.low.grown hgq HR7.out.low.size (fun q hq => by cases hq; exact Nat.le_refl _)); clear hgq kq))
          refine bodyPost_ret (v := .tuple #[.agg zR14, .bool false]) ?_ rfl (NO.out wq HCN.out HBQ.out)
          exact results_blk_tmp (P := Try.prog) Try.results16 _ rfl _ rfl KQ.out Try.underlying26 rfl (by rw [size_pk]; rfl)
        · have rb := fun (W : World) (hS : PkM W W.heap.size (.slice Ai ni ci) (.slice none 0 0) (.slice none 0 0) ⟨(X0 : Nat), (X1 : Nat), N2, (X6 : Nat), N7, 0, 0, l, [], []⟩) => rput_pk ⟨(X0 : Nat), (X1 : Nat), N2, (X6 : Nat), N7, 0, 0, l, [], []⟩ Ai none none ni ci 0 0 0 0 W hS hm
          rw [hm] at my hcase
          have MY := Lib.hid my; clear my hm
          have RB := Lib.hid rb; clear rb
          have sq := fun (A' : Option Addr) (n' c' : Nat) (W : World) (hA : Sl W W.heap.size (.slice A' n' c') (putP ⟨(X0 : Nat), (X1 : Nat), N2, (X6 : Nat), N7, 0, 0, l, [], []⟩)) (hB : Sl W W.heap.size (.slice (some ⟨b, off, none⟩) n c) xs) => Mem.rsame_any A' (some ⟨b, off, none⟩) n' n c' c _ _ (putP ⟨(X0 : Nat), (X1 : Nat), N2, (X6 : Nat), N7, 0, 0, l, [], []⟩) xs W (sl_btsG hA) (sl_btsG hB)
          by_cases hbx : putP ⟨(X0 : Nat), (X1 : Nat), N2, (X6 : Nat), N7, 0, 0, l, [], []⟩ = xs
          · rw [if_pos ⟨rfl, hbx⟩] at hcase
            rw [decide_eq_true hbx] at sq
            have SQ := Lib.hid sq; clear sq hbx
            have HCY := Lib.hid hcase; clear hcase
            go_wp2_with (first
              | (have HM1 := MY; go_at_call 10; refine (MY.out).mono ?_; rintro e w7 ⟨rfl, hb7⟩; have HR7 := Lib.hid (HRX.out.below hb7); have HO7 := Lib.hid (own_below HOW.out hb7); obtain ⟨r0, r1, r2, r3, r4, r5, r6, r7, r8, r9, r10⟩ := blk_cells10 HR7.out.x; clear hb7 HM1 MY)
              | (go_at_call 15; refine (RB.out w7 ⟨pk_row HO7.out, lks_nil _ _, las_nil _ _⟩).mono ?_; rintro e w8 ⟨v8, rfl, hs8, hb8⟩; obtain ⟨A8, n8, c8, rfl, _⟩ := id hs8; have HS8 := Lib.hid hs8; have HR8 := Lib.hid (HR7.out.below hb8); have HO8 := Lib.hid (own_below HO7.out hb8); clear hs8 hb8)
              | (go_at_call 14; refine (SQ.out _ _ _ _ HS8.out (HS.out _ HR8.out.low)).mono ?_; rintro e w9 ⟨rfl, m9, rfl⟩; have hbd := below_drewN (Below.refl w8.heap.size w8) m9; have HR9 := Lib.hid (HR8.out.below hbd); have HO9 := Lib.hid (own_below HO8.out hbd); clear hbd)
              | (refine wpList_load_blk rfl 26 (.tmp 4) rfl gx rfl #[.int .i64 (X0 : Nat), .int .i64 (X1 : Nat), .int .i64 N2, .int .i64 (X6 : Nat), .int .i64 N7, .int .i64 0, .int .i64 0, .slice Ai ni ci, .slice none 0 0, .slice none 0 0] HR9.out.x _ Try.underlying26 rfl (by rw [size_pk]; rfl) ?_)
              | (refine wpList_store_blk rfl 26 (.tmp 2) (.tmp 147) rfl w.heap.size #[.int .i64 (X0 : Nat), .int .i64 (X1 : Nat), .int .i64 N2, .int .i64 (X6 : Nat), .int .i64 N7, .int .i64 0, .int .i64 0, .slice Ai ni ci, .slice none 0 0, .slice none 0 0] rfl rfl _ HR9.out.res (by rw [size_pk]; rfl) rfl (by kernel_rfl) ?_; intro wq hgq kq; have KQ := Lib.hid kq; have HBQ := Lib.hid (HR9.out.low.grown hgq HR9.out.low.size (fun q hq => by cases hq; exact Nat.le_refl _)); have HOQ := Lib.hid (own_gr14 HO9.out hgq (by have := HR9.out.o1; omega)); clear hgq kq))
            refine bodyPost_ret (v := .tuple #[.agg #[.int .i64 (X0 : Nat), .int .i64 (X1 : Nat), .int .i64 N2, .int .i64 (X6 : Nat), .int .i64 N7, .int .i64 0, .int .i64 0, .slice Ai ni ci, .slice none 0 0, .slice none 0 0], .bool true]) ?_ rfl ?_
            · exact results_blk_tmp (P := Try.prog) Try.results16 _ rfl _ rfl KQ.out Try.underlying26 rfl (by rw [size_pk]; rfl)
            · rewrite [HP1.out, HCY.out]
              exact ⟨_, _, _, _, _, _, _, _, _, ⟨pk_row HOQ.out, lks_nil _ _, las_nil _ _⟩, rfl, HBQ.out⟩
          · rw [if_neg (fun h => hbx h.2)] at hcase
            rw [decide_eq_false hbx] at sq
            have SQ := Lib.hid sq; clear sq hbx
            have HCN := Lib.hid hcase; clear hcase
            go_wp2_with (first
              | (have HM1 := MY; go_at_call 10; refine (MY.out).mono ?_; rintro e w7 ⟨rfl, hb7⟩; have HR7 := Lib.hid (HRX.out.below hb7); have HO7 := Lib.hid (own_below HOW.out hb7); obtain ⟨r0, r1, r2, r3, r4, r5, r6, r7, r8, r9, r10⟩ := blk_cells10 HR7.out.x; clear hb7 HM1 MY)
              | (go_at_call 15; refine (RB.out w7 ⟨pk_row HO7.out, lks_nil _ _, las_nil _ _⟩).mono ?_; rintro e w8 ⟨v8, rfl, hs8, hb8⟩; obtain ⟨A8, n8, c8, rfl, _⟩ := id hs8; have HS8 := Lib.hid hs8; have HR8 := Lib.hid (HR7.out.below hb8); have HO8 := Lib.hid (own_below HO7.out hb8); clear hs8 hb8)
              | (go_at_call 14; refine (SQ.out _ _ _ _ HS8.out (HS.out _ HR8.out.low)).mono ?_; rintro e w9 ⟨rfl, m9, rfl⟩; have hbd := below_drewN (Below.refl w8.heap.size w8) m9; have HR9 := Lib.hid (HR8.out.below hbd); have HO9 := Lib.hid (own_below HO8.out hbd); clear hbd)
              | (refine wpList_store_blk rfl 26 (.tmp 2) (.tmp 146) rfl w.heap.size zR14 rfl rfl _ HR9.out.res (by rw [size_pk]; rfl) rfl (by kernel_rfl) ?_; intro wq hgq kq; have KQ := Lib.hid kq; have HBQ := Lib.hid (HR9.out.low.grown hgq HR9.out.low.size (fun q hq => by cases hq; exact Nat.le_refl _)); clear hgq kq))
            refine bodyPost_ret (v := .tuple #[.agg zR14, .bool false]) ?_ rfl (NO.out wq HCN.out HBQ.out)
            exact results_blk_tmp (P := Try.prog) Try.results16 _ rfl _ rfl KQ.out Try.underlying26 rfl (by rw [size_pk]; rfl)
end Go.Proofs.Ytpolpppnajfhdaa.Pkt
