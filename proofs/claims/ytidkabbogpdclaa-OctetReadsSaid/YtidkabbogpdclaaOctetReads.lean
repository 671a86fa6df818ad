/- OctetReads: for every bytes and every list of widths the law returns true and its arguments read as before: what is read is what the document says. No condition. -/
import Derived.Test.YtidkabbogpdclaaAwake
import Derived.Test.YtidkabbogpdclaaRef
import Derived.Deep.RegionHeld3
import Derived.StillTailTactics
import Derived.IntWalk
import Derived.WalkKit
import Derived.ProofKit
import Derived.OpenShut
import Derived.ShutString
import Derived.ChangeOld
import Derived.Below
namespace Go.Proofs.Ytidkabbogpdclaa.octetReads
open Go.Proofs.Ytidkabbogpdclaa.Mem Go.Proofs.Ytidkabbogpdclaa.Oct
open Go.ChangeShapes Go.WideShapes Go.ChangeAt Go.RowKit
open Go.ChangeMaps (open_string shut_string)
set_option linter.unusedVariables false

theorem own : ownKnob Try.prog.godebug = none := by kernel_rfl
theorem laidOut : laidOutB Try.prog = true := by kernel_rfl
theorem same_true (A : Option Addr) (n c : Nat) (v' : Value) (B B' : Nat) (xs : List Nat) (w : World) (h : Bts w B A n xs) (h' : Sl w B' v' xs) :
    Calls Try.prog 11 #[.slice A n c, v'] w fun e w' => e = .returned (.bool true) ∧ ∃ m, w' = w.drewN m := by
  obtain ⟨A', n', c', rfl, hb', _⟩ := h'
  have := rsame_any A A' n n' c c' B B' xs xs w h hb'
  rwa [decide_eq_true rfl] at this
set_option maxHeartbeats 400000 in
theorem walk_long (a0 : Option Addr) (n0 c0 : Nat) (a1 : Option Addr) (n1 c1 : Nat) (w : World) (h : 2000 < n0 ∨ 40 < n1) :
    Calls Try.prog 4 #[.slice a0 n0 c0, .slice a1 n1 c1] w fun e w' => e = .returned (.bool true) ∧ Below w.heap.size w w' := by
  by_cases h0 : 2000 < n0
  · have hd : decide ((2000 : Int) < n0) = true := by simp; omega
    go_enter Try.func4, Try.ntmps4
    go_wp2_with (go_at_call 8; refine (awake_any _).mono ?_; rintro e w' ⟨rfl, hb⟩)
    go_ret
    exact ⟨rfl, hb⟩
  · have h1 : 40 < n1 := by omega
    have hd : decide ((2000 : Int) < n0) = false := by simp; omega
    have hd1 : decide ((40 : Int) < n1) = true := by simp; omega
    go_enter Try.func4, Try.ntmps4
    go_wp2_with (go_at_call 8; refine (awake_any _).mono ?_; rintro e w' ⟨rfl, hb⟩)
    go_ret
    exact ⟨rfl, hb⟩
/-- the law's own state between two rounds: the reader in block g, the reference reader in block g2 -/
def Inv (w wr : World) (g g2 : Nat) (v : Value) (xs : List Nat) (at_ : Nat) (s : Bool) : Prop :=
  at_ ≤ xs.length ∧ g < g2 ∧ w.heap.size ≤ g ∧ Rdr wr g (xs.drop at_, s) ∧ Blk wr g2 33 #[v, .int .i64 (at_ : Nat), .bool (!s)] ∧ Below w.heap.size w wr
set_option maxRecDepth 20000 in
set_option maxHeartbeats 2000000 in
theorem walk_short (a0 : Option Addr) (n0 c0 : Nat) (a1 : Option Addr) (n1 c1 : Nat) (xs : List Nat) (z1 : List Int) (w : World) (h0 : n0 ≤ 2000) (h1 : n1 ≤ 40)
    (b0 : Sl w w.heap.size (.slice a0 n0 c0) xs) (w1 : IsRow .i64 w a1 n1 c1 z1) :
    Calls Try.prog 4 #[.slice a0 n0 c0, .slice a1 n1 c1] w fun e w' => e = .returned (.bool true) ∧ Below w.heap.size w w' := by
  have hd : decide ((2000 : Int) < n0) = false := by simp; omega
  have hd1 : decide ((40 : Int) < n1) = false := by simp; omega
  have hlx : xs.length ≤ 2000 := by have := (Sl.cell b0).1; omega
  have t1 := read_any (.slice a0 n0 c0) xs w b0 (by omega)
  have T1 := Lib.hid t1; clear t1
  have B0 := Lib.hid b0; clear b0
  have W1 := Lib.hid w1; clear w1
  go_enter Try.func4, Try.ntmps4
  go_wp2_with (go_at_call 9; refine (T1.out).mono ?_; rintro e wa ⟨g, rfl, hg, hra, hba⟩; have HRA := Lib.hid hra; clear hra; have HBA := Lib.hid hba; clear hba)
  go_loopw [7] (fun i wr => ∃ (k at_ : Nat) (s : Bool), k ≤ n1 ∧ i = .int .i64 k ∧ Inv w wr g wa.heap.size (.slice a0 n0 c0) xs at_ s) (fun i _ => n1 - (intOf i).toNat)
  case atStart => exact ⟨0, 0, true, Nat.zero_le _, rfl, Nat.zero_le _, HRA.out.size, hg, HRA.out.alloc _, Blk.new _ _ _, HBA.out.alloc HBA.out.size _⟩
  case round =>
    obtain ⟨k, at_, s, hk, rfl, hinv⟩ := hrel
    obtain ⟨hat, hgg, hgw, hr, hblk, hbel⟩ := hinv
    have hgs := hblk.lt
    generalize wa.heap.size = g2 at *
    have HR := Lib.hid hr; clear hr
    have HK := Lib.hid hblk; clear hblk
    have HB := Lib.hid hbel; clear hbel
    by_cases hlt : k < n1
    · obtain ⟨b1, o1, rfl, hb1, hc1, hw1⟩ := row_at W1.out k hlt
      have hc := (HB.out.cell (p := ⟨b1, o1 + k, none⟩) hb1).trans hc1
      clear hc1
      generalize z1.getD k 0 = q at *
      have c0' := HK.out.cell 0
      have c1' := HK.out.cell 1
      have c2' := HK.out.cell 2
      simp at c0' c1' c2'
      have hn0 := (Sl.cell B0.out).1
      by_cases hq : q = 0
      · subst hq
        have t2 := reftext_any (.slice a0 n0 c0) xs at_ s wr ((B0.out.below HB.out (Nat.le_refl _)).more HB.out.size) hat
        have t3 := fun (W : World) (hW : Rdr W g (xs.drop at_, s)) => rtext_any g _ W hW
        obtain ⟨⟨⟨ys, s'⟩, ts⟩, hR⟩ : ∃ R, R = rtext (xs.drop at_, s) := ⟨_, rfl⟩
        rw [← hR] at t2 t3
        unfold rval at t2
        simp only at t2 t3
        have T2 := Lib.hid t2; clear t2
        have T3 := Lib.hid t3; clear t3
        have HN0 := Lib.hid hn0; clear hn0
        clear hR
        go_wp2_with (first
          | (go_at_call 10; refine (T2.out).mono ?_; rintro e w1 ⟨at', v2, hat', hys, rfl, ho2, hb2⟩; have k3 := HK.out.below hb2 hgs; have f0 := k3.frozen 0; have f1 := k3.frozen 1; have f2 := k3.frozen 2; have d0 := k3.cell 0; have d1 := k3.cell 1; have d2 := k3.cell 2; simp at d0 d1 d2; have hs1 := Nat.lt_of_lt_of_le hgs hb2.size; have K3 := Lib.hid k3; clear k3; have HY := Lib.hid hys; clear hys; have HO2 := Lib.hid ho2; clear ho2; have HR2 := Lib.hid (HR.out.below hb2 (by omega)); have HB2 := Lib.hid (HB.out.trans (hb2.mono HB.out.size)); clear hb2)
          | (go_at_call 12; refine (T3.out _ (HR2.out.upd hgg)).mono ?_; rintro e w3 ⟨A3, n3, c3, rfl, hx3, hn3, hm3, hr3, hg3⟩; have HX3 := Lib.hid hx3; clear hx3; have HR3 := Lib.hid hr3; clear hr3; have HK3 := Lib.hid ((upd_blk K3.out).grown hg3 (by simp; omega)); have HO3 := Lib.hid (own_grown (upd_own HO2.out hgs) hg3 (by omega)); have HB3 := Lib.hid ((upd_below HB2.out (by omega) (by omega)).grown hg3 (by simp; omega) (fun q hq => by cases hq; exact hgw)); clear hg3)
          | (go_at_call 11; refine (same_true A3 n3 c3 v2 _ _ ts w3 HX3.out (sl_own HO3.out HX3.out.2.1 (by have := HX3.out.1; have := HX3.out.2.2.1; omega))).mono ?_; rintro e w4 ⟨rfl, m4, hw4⟩; have HR4 := Lib.hid (show Rdr w4 g (ys, s') from hw4 ▸ HR3.out); have hk4 : Blk w4 g2 33 #[.slice a0 n0 c0, .int .i64 (at' : Nat), .bool (!s')] := hw4 ▸ HK3.out; have e1 := hk4.cell 1; have e2 := hk4.cell 2; simp at e1 e2; have HK4 := Lib.hid hk4; clear hk4; have HB4 := Lib.hid (show Below w.heap.size w w4 from hw4 ▸ below_drewN HB3.out m4); clear hw4))
        have t5 := fun (W : World) (hW : Rdr W g (ys, s')) => left_any g (ys, s') W hW
        have t6 := fun (W : World) (hW : Rdr W g (ys, s')) => wrong_any g (ys, s') W hW
        have t7 := fun (W : World) (hW : Rdr W g (ys, s')) => done_any g (ys, s') W hW
        have hly : ((ys.length : Nat) : Int) = (n0 : Int) - at' := by rw [HY.out, List.length_drop, HN0.out]; have := HN0.out; omega
        have hdn : decide (ys.length = 0) = ((at' : Int) == (n0 : Int)) := by
          by_cases h : ys.length = 0
          · rw [decide_eq_true h, beq_iff_eq.2 (by omega)]
          · rw [decide_eq_false h, beq_false_of_ne (by omega)]
        simp only at t5 t6 t7
        rw [hly] at t5
        rw [hdn] at t7
        have T5 := Lib.hid t5; clear t5
        have T6 := Lib.hid t6; clear t6
        have T7 := Lib.hid t7; clear t7
        clear hly hdn
        have hwrap0 : True := trivial --IntKind.i64.wrap ((n0 : Int) - at') = (n0 : Int) - at' := IntWalk.i64_in _ (by have := HN0.out; omega)
        cases s'
        all_goals
          go_quiet (first
            | (go_at_call 15; exact quiet_left (T5.out _ HR4.out))
            | (go_at_call 16; exact quiet_left (T6.out _ HR4.out))
            | (go_at_call 17; exact quiet_left (T7.out _ HR4.out)))
          go_wp2
          go_roundw
          case rel => exact ⟨k + 1, at', _, by omega, by go_num, hat', hgg, hgw, HY.out ▸ HR4.out.drewN _, HK4.out.drewN _, below_drewN HB4.out _⟩
          case measure => simp [intOf]; omega
      · have hqb : (q == (0 : Int)) = false := beq_false_of_ne hq
        clear hq
        have t2 : ∀ W : World, Below wr.heap.size wr W → Calls Try.prog 13 #[rval (.slice a0 n0 c0) at_ s, .int .i64 q] W fun e w' => ∃ at', at' ≤ xs.length ∧ (rnum (xs.drop at_, s) q).1.1 = xs.drop at' ∧ e = .returned (.tuple #[rval (.slice a0 n0 c0) at' (rnum (xs.drop at_, s) q).1.2, .int .u64 ((rnum (xs.drop at_, s) q).2 : Nat)]) ∧ Below W.heap.size W w' ∧ Below wr.heap.size wr w' := by
          intro W hW
          have hWb := HB.out.trans (hW.mono HB.out.size)
          refine (refread_any (.slice a0 n0 c0) xs at_ s q W ((B0.out.below hWb (Nat.le_refl _)).more hWb.size) hat).mono ?_
          rintro e w' ⟨at', h1, h2, h3, h4⟩
          exact ⟨at', h1, h2, h3, h4, hW.trans (h4.mono hW.size)⟩
        have t3 := fun (W : World) (hW : Rdr W g (xs.drop at_, s)) => rnum_any g _ q W hW
        obtain ⟨⟨⟨ys, s'⟩, N⟩, hR⟩ : ∃ R, R = rnum (xs.drop at_, s) q := ⟨_, rfl⟩
        rw [← hR] at t2 t3
        unfold rval at t2
        simp only at t2 t3
        have T2 := Lib.hid t2; clear t2
        have T3 := Lib.hid t3; clear t3
        have HN0 := Lib.hid hn0; clear hn0
        clear hR
        go_wp2
        have hne1 : wr.heap.size ≠ g2 := by omega
        have hne2 : wr.heap.size ≠ b1 := by have := HB.out.size; omega
        go_region_held3 (fun W => W.cell? ⟨g2, 0, none⟩ = some (.slice a0 n0 c0) ∧ W.cell? ⟨g2, 1, none⟩ = some (.int .i64 (at_ : Nat)) ∧ W.cell? ⟨g2, 2, none⟩ = some (.bool (!s)) ∧ W.cell? ⟨b1, o1 + k, none⟩ = some (.int .i64 q))
          (first
            | go_keep
            | exact ⟨d0, d1, d2, d3⟩)
          (first
            | (go_at_call 13; refine (T2.out _ (Below.refl _ _).drew).mono ?_; rintro e w1 ⟨at', hat', hys, rfl, hbx, hb2⟩; have hs1 := Nat.lt_of_lt_of_le hgs hb2.size; have k3 := HK.out.below hb2 hgs; have d0 := k3.cell 0; have d1 := k3.cell 1; have d2 := k3.cell 2; have f0 := k3.frozen 0; have f1 := k3.frozen 1; have f2 := k3.frozen 2; have d3 := (hb2.cell (p := ⟨b1, o1 + k, none⟩) (Nat.lt_of_lt_of_le hb1 HB.out.size)).trans hc; simp at d0 d1 d2; have K3 := Lib.hid k3; clear k3; have HY := Lib.hid hys; clear hys; have HR2 := Lib.hid (HR.out.below hb2 (by omega)); have HB2 := Lib.hid (HB.out.trans (hb2.mono HB.out.size)); clear hbx hb2)
            | (go_at_call 13; refine (T2.out _ (((Below.refl _ _).alloc (Nat.le_refl _) _).drew)).mono ?_; rintro e w1 ⟨at', hat', hys, rfl, hbx, hb2⟩; have kx : Blk w1 wr.heap.size 33 #[.slice none 0 0, .int .i64 0, .bool false] := (hbx.block wr.heap.size (by simp)).trans (heap_alloc_new wr _); have x0 := kx.cell 0; have x1 := kx.cell 1; have x2 := kx.cell 2; have y0 := kx.frozen 0; have y1 := kx.frozen 1; have y2 := kx.frozen 2; have y3 := kx.lt; simp at x0 x1 x2; have KX := Lib.hid kx; clear kx; have hs1 := Nat.lt_of_lt_of_le hgs hb2.size; have k3 := HK.out.below hb2 hgs; have d0 := k3.cell 0; have d1 := k3.cell 1; have d2 := k3.cell 2; have f0 := k3.frozen 0; have f1 := k3.frozen 1; have f2 := k3.frozen 2; have d3 := (hb2.cell (p := ⟨b1, o1 + k, none⟩) (Nat.lt_of_lt_of_le hb1 HB.out.size)).trans hc; simp at d0 d1 d2; have K3 := Lib.hid k3; clear k3; have HY := Lib.hid hys; clear hys; have HR2 := Lib.hid (HR.out.below hb2 (by omega)); have HB2 := Lib.hid (HB.out.trans (hb2.mono HB.out.size)); clear hbx hb2))
        · have G1 := Lib.hid (Blk.new w1 33 #[.slice a0 n0 c0, .int .i64 (at' : Nat), .bool (!s')])
          have G2 := Lib.hid (K3.out.alloc (Obj.cells #[.slice a0 n0 c0, .int .i64 (at' : Nat), .bool (!s')] 33))
          have G3 := Lib.hid (HR2.out.alloc (Obj.cells #[.slice a0 n0 c0, .int .i64 (at' : Nat), .bool (!s')] 33))
          have G4 := Lib.hid (HB2.out.alloc HB2.out.size (Obj.cells #[.slice a0 n0 c0, .int .i64 (at' : Nat), .bool (!s')] 33))
          have G5 := Lib.hid hs1
          clear d0 d1 d2 d3 f0 f1 f2 hs1 K3 HR2 HB2
          generalize w1.alloc (Obj.cells #[.slice a0 n0 c0, .int .i64 (at' : Nat), .bool (!s')] 33) = Wx at *
          generalize w1.heap.size = xb at *
          have x0 := G1.out.cell 0
          have x1 := G1.out.cell 1
          have x2 := G1.out.cell 2
          have d0 := G2.out.cell 0
          have d1 := G2.out.cell 1
          have d2 := G2.out.cell 2
          have f0 := G2.out.frozen 0
          have f1 := G2.out.frozen 1
          have f2 := G2.out.frozen 2
          simp at x0 x1 x2 d0 d1 d2
          have hgx : g2 < xb := G5.out
          go_wp2_with (go_at_call 14; refine (T3.out _ (G3.out.upd3 hgg)).mono ?_; rintro e w4 ⟨rfl, hr3, hg3⟩; have HR4 := Lib.hid hr3; clear hr3; have hk4 := (upd3_blk (u0 := .slice a0 n0 c0) (u1 := .int .i64 (at' : Nat)) (u2 := .bool (!s')) G2.out).grown hg3 (by simp; omega); have e1 := hk4.cell 1; have e2 := hk4.cell 2; simp at e1 e2; have HK4 := Lib.hid hk4; clear hk4; have HB4 := Lib.hid ((upd3_below G4.out (by omega)).grown hg3 (by simp [World.setCell]; exact G4.out.size) (fun q hq => by cases hq; exact hgw)); clear hg3)
          have t5 := fun (W : World) (hW : Rdr W g (ys, s')) => left_any g (ys, s') W hW
          have t6 := fun (W : World) (hW : Rdr W g (ys, s')) => wrong_any g (ys, s') W hW
          have t7 := fun (W : World) (hW : Rdr W g (ys, s')) => done_any g (ys, s') W hW
          have hly : ((ys.length : Nat) : Int) = (n0 : Int) - at' := by rw [HY.out, List.length_drop, HN0.out]; have := HN0.out; omega
          have hdn : decide (ys.length = 0) = ((at' : Int) == (n0 : Int)) := by
            by_cases h : ys.length = 0
            · rw [decide_eq_true h, beq_iff_eq.2 (by omega)]
            · rw [decide_eq_false h, beq_false_of_ne (by omega)]
          simp only at t5 t6 t7
          rw [hly] at t5
          rw [hdn] at t7
          have T5 := Lib.hid t5; clear t5
          have T6 := Lib.hid t6; clear t6
          have T7 := Lib.hid t7; clear t7
          clear hly hdn
          have hwrap0 : True := trivial --IntKind.i64.wrap ((n0 : Int) - at') = (n0 : Int) - at' := IntWalk.i64_in _ (by have := HN0.out; omega)
          cases s'
          all_goals
            go_quiet (first
              | (go_at_call 15; exact quiet_left (T5.out _ HR4.out))
              | (go_at_call 16; exact quiet_left (T6.out _ HR4.out))
              | (go_at_call 17; exact quiet_left (T7.out _ HR4.out)))
            go_wp2
            go_roundw
            case rel => exact ⟨k + 1, at', _, by omega, by go_num, hat', hgg, hgw, HY.out ▸ HR4.out.drewN _, HK4.out.drewN _, below_drewN HB4.out _⟩
            case measure => simp [intOf]; omega
        · have G1 := Lib.hid (upd3_blk (u0 := .slice a0 n0 c0) (u1 := .int .i64 (at' : Nat)) (u2 := .bool (!s')) KX.out)
          have G2 := Lib.hid (upd3_far (g' := wr.heap.size) (u0 := .slice a0 n0 c0) (u1 := .int .i64 (at' : Nat)) (u2 := .bool (!s')) K3.out (by omega))
          have G3 := Lib.hid (HR2.out.upd3 (g2 := wr.heap.size) (u0 := .slice a0 n0 c0) (u1 := .int .i64 (at' : Nat)) (u2 := .bool (!s')) (by omega))
          have G4 := Lib.hid (upd3_below (g := wr.heap.size) (u0 := .slice a0 n0 c0) (u1 := .int .i64 (at' : Nat)) (u2 := .bool (!s')) HB2.out (by omega))
          have G5 := Lib.hid hgs
          clear d0 d1 d2 d3 f0 f1 f2 hs1 K3 HR2 HB2 KX x0 x1 x2 y0 y1 y2 y3
          unfold upd3 at G1 G2 G3 G4
          generalize ((w1.setCell ⟨wr.heap.size, 0, none⟩ (.slice a0 n0 c0)).setCell ⟨wr.heap.size, 1, none⟩ (.int .i64 (at' : Nat))).setCell ⟨wr.heap.size, 2, none⟩ (.bool (!s')) = Wx at *
          generalize wr.heap.size = xb at *
          have x0 := G1.out.cell 0
          have x1 := G1.out.cell 1
          have x2 := G1.out.cell 2
          have d0 := G2.out.cell 0
          have d1 := G2.out.cell 1
          have d2 := G2.out.cell 2
          have f0 := G2.out.frozen 0
          have f1 := G2.out.frozen 1
          have f2 := G2.out.frozen 2
          simp at x0 x1 x2 d0 d1 d2
          have hgx : g2 < xb := G5.out
          go_wp2_with (go_at_call 14; refine (T3.out _ (G3.out.upd3 hgg)).mono ?_; rintro e w4 ⟨rfl, hr3, hg3⟩; have HR4 := Lib.hid hr3; clear hr3; have hk4 := (upd3_blk (u0 := .slice a0 n0 c0) (u1 := .int .i64 (at' : Nat)) (u2 := .bool (!s')) G2.out).grown hg3 (by simp; omega); have e1 := hk4.cell 1; have e2 := hk4.cell 2; simp at e1 e2; have HK4 := Lib.hid hk4; clear hk4; have HB4 := Lib.hid ((upd3_below G4.out (by omega)).grown hg3 (by simp [World.setCell]; exact G4.out.size) (fun q hq => by cases hq; exact hgw)); clear hg3)
          have t5 := fun (W : World) (hW : Rdr W g (ys, s')) => left_any g (ys, s') W hW
          have t6 := fun (W : World) (hW : Rdr W g (ys, s')) => wrong_any g (ys, s') W hW
          have t7 := fun (W : World) (hW : Rdr W g (ys, s')) => done_any g (ys, s') W hW
          have hly : ((ys.length : Nat) : Int) = (n0 : Int) - at' := by rw [HY.out, List.length_drop, HN0.out]; have := HN0.out; omega
          have hdn : decide (ys.length = 0) = ((at' : Int) == (n0 : Int)) := by
            by_cases h : ys.length = 0
            · rw [decide_eq_true h, beq_iff_eq.2 (by omega)]
            · rw [decide_eq_false h, beq_false_of_ne (by omega)]
          simp only at t5 t6 t7
          rw [hly] at t5
          rw [hdn] at t7
          have T5 := Lib.hid t5; clear t5
          have T6 := Lib.hid t6; clear t6
          have T7 := Lib.hid t7; clear t7
          clear hly hdn
          have hwrap0 : True := trivial --IntKind.i64.wrap ((n0 : Int) - at') = (n0 : Int) - at' := IntWalk.i64_in _ (by have := HN0.out; omega)
          cases s'
          all_goals
            go_quiet (first
              | (go_at_call 15; exact quiet_left (T5.out _ HR4.out))
              | (go_at_call 16; exact quiet_left (T6.out _ HR4.out))
              | (go_at_call 17; exact quiet_left (T7.out _ HR4.out)))
            go_wp2
            go_roundw
            case rel => exact ⟨k + 1, at', _, by omega, by go_num, hat', hgg, hgw, HY.out ▸ HR4.out.drewN _, HK4.out.drewN _, below_drewN HB4.out _⟩
            case measure => simp [intOf]; omega
    · have hkn : k = n1 := by omega
      subst hkn
      go_wp2_with (go_at_call 8; refine (awake_any _).mono ?_; rintro e w5 ⟨rfl, l5⟩)
      go_ret
      exact ⟨rfl, HB.out.trans (l5.mono HB.out.size)⟩
theorem walk (a0 : Option Addr) (len0 cap0 : Nat) (z0 : List Int) (a1 : Option Addr) (len1 cap1 : Nat) (z1 : List Int) (w : World) (w0 : IsRow .u8 w a0 len0 cap0 z0) (w1 : IsRow .i64 w a1 len1 cap1 z1) :
    Calls Try.prog 4 #[.slice a0 len0 cap0, .slice a1 len1 cap1] w fun e w' => e = .returned (.bool true) ∧ Below w.heap.size w w' := by
  by_cases h : 2000 < len0 ∨ 40 < len1
  · exact walk_long a0 len0 cap0 a1 len1 cap1 w h
  · obtain ⟨xs, b0, _⟩ := sl_of_row w0 (by omega)
    exact walk_short a0 len0 cap0 a1 len1 cap1 xs z1 w (by omega) (by omega) b0 w1
/-! the step from the walk to the row -/
set_option maxRecDepth 100000 in
theorem lifted (os : Os) (started : os.Started) (H : Type) (enc : TypeId × Value → H) :
    ReturnsInHanded {} Try.checked os 4 .any (Rows.octetReadsSpec.pre6 enc Try.prog Try.f4 Rows.octetReadsRow.domain false) (Rows.octetReadsSpec.post enc Try.prog Try.f4 false true false false) := by
  refine returnsInHanded_of_change (C := Try.checked) own started (by kernel_rfl) Try.func4
    (ChangeSpec.witness6 (enc := enc) (C := Try.checked) false ⟨#[], #[.slice none 0 0, .slice none 0 0], []⟩ 8 (by kernel_rfl) (by kernel_rfl) (by kernel_rfl) (by kernel_rfl)) ?_
  intro W base args ds gs before hval0 hW hcnd _
  have hval : ∀ (j : Nat) t v, Try.f4.params[j]? = some t → args[j]? = some v → Value.okWide Try.prog W .any base t v := hval0
  have hW' := hW
  obtain ⟨p, q, hA0, hV, rfl, hfz, hnd⟩ := hW
  have hA : DataW.TrodAll enc Try.prog W 0 (fun _ => true) true Try.f4.params.toList args.toList ds p := hA0
  rw [Try.params4] at hA hval
  obtain ⟨v0, vs0, d0, ds0, p0, q0, hargs, rfl, rfl, h0, r0⟩ := trodAll_cons hA
  obtain ⟨v1, vs1, d1, ds1, p1, q1, rfl, rfl, rfl, h1, r1⟩ := trodAll_cons r0
  obtain ⟨rfl, rfl, rfl⟩ := trodAll_nil r1
  obtain rfl : args = #[v0, v1] := by cases args; simp_all
  obtain ⟨rfl, rfl⟩ := trodVars_none hV
  obtain ⟨a0, len0, cap0, rfl⟩ := okWide_slice Try.underlying22 (hval 0 22 v0 rfl rfl)
  have k0 := h0
  have lt0 : ∀ x ∈ p0, x.block < W.heap.size := by obtain ⟨m, hm⟩ := k0; exact DataW.trod_lt m _ _ _ hm
  obtain ⟨z0, w0⟩ : ∃ zs, IsRow .u8 W a0 len0 cap0 zs := by
    obtain ⟨fuel, hf⟩ := h0
    rcases open_ints Try.underlying22 Try.underlying5 (by kernel_rfl) hf with ⟨hcs, _⟩ | ⟨x, l, c, zs, hcs, _, hl, hm, hz, _, hcell, hwz⟩
    · simp [Value.cells] at hcs
      obtain ⟨rfl, rfl, rfl⟩ := hcs
      exact ⟨[], .inl ⟨rfl, rfl, rfl, rfl⟩⟩
    · simp [Value.cells] at hcs
      obtain ⟨rfl, rfl, rfl⟩ := hcs
      exact ⟨zs, .inr ⟨_, rfl, hl, hm, by simpa using hz, hcell, hwz⟩⟩
  obtain ⟨a1, len1, cap1, rfl⟩ := okWide_slice Try.underlying28 (hval 1 28 v1 rfl rfl)
  have k1 := h1
  have lt1 : ∀ x ∈ p1, x.block < W.heap.size := by obtain ⟨m, hm⟩ := k1; exact DataW.trod_lt m _ _ _ hm
  obtain ⟨z1, w1⟩ : ∃ zs, IsRow .i64 W a1 len1 cap1 zs := by
    obtain ⟨fuel, hf⟩ := h1
    rcases open_ints Try.underlying28 Try.underlying3 (by kernel_rfl) hf with ⟨hcs, _⟩ | ⟨x, l, c, zs, hcs, _, hl, hm, hz, _, hcell, hwz⟩
    · simp [Value.cells] at hcs
      obtain ⟨rfl, rfl, rfl⟩ := hcs
      exact ⟨[], .inl ⟨rfl, rfl, rfl, rfl⟩⟩
    · simp [Value.cells] at hcs
      obtain ⟨rfl, rfl, rfl⟩ := hcs
      exact ⟨zs, .inr ⟨_, rfl, hl, hm, by simpa using hz, hcell, hwz⟩⟩
  clear hA0 hval0
  refine (walk a0 len0 cap0 z0 a1 len1 cap1 z1 W w0 w1).mono fun e W' ⟨he, bel⟩ => ?_
  subst he
  exact ⟨_, rfl, _, _, _, [], _, [], hW', trodAll_mk1 (shut_bool Try.underlying4 _), (trodAll_cons_mk (Below.trod laidOut (by kernel_rfl) (of_decide_eq_true (by kernel_rfl)) k0 bel lt0) (trodAll_cons_mk (Below.trod laidOut (by kernel_rfl) (of_decide_eq_true (by kernel_rfl)) k1 bel lt1) trodAll_mk0)), rfl, bel.frame _, fun h => by cases h⟩

theorem over : Rows.octetReadsRow.holds Try.pinned (OpenSpec.ofChange Rows.octetReadsSpec) :=
  OpenClaim.holds_of_wide 4 Try.f4 rfl rfl rfl rfl rfl rfl rfl ⟨rfl, rfl, rfl, rfl, rfl⟩ rfl rfl rfl rfl rfl (by kernel_rfl) Try.func4 (by kernel_rfl)
    (of_decide_eq_true (by kernel_rfl)) (by unfold Func.isWrapper; first | (rw [if_pos (by decide +kernel)]; kernel_rfl) | (rw [if_neg (by decide +kernel)]; exact ⟨rfl, rfl⟩))
    (fun os started H enc _ => lifted os started H enc)

/-- the statement -/
theorem proved : Rows.OctetReadsSaid := over
end Go.Proofs.Ytidkabbogpdclaa.octetReads
