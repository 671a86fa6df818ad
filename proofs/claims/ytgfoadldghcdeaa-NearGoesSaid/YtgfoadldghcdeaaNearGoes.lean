/- NearGoes: for every number and every steps the law returns true and its arguments read as before: whatever happens, down comes only to one that is full, up makes it so; and behind five ticks without a hello it is not full. No condition. Printed by tools/near/goes.py. -/
import Derived.Test.YtgfoadldghcdeaaNearAwake
import Derived.Test.YtgfoadldghcdeaaNearStep
import Derived.Deep.RegionHeld3
import Derived.Deep.RegionLaw
import Derived.Shelf.Abstract
import Derived.Deep.Cut
import Derived.Deep.CutBlock
import Derived.Deep.CutRange
import Derived.IntWalk
import Derived.WalkKit
import Derived.ProofKit
import Derived.OpenShut
import Derived.ShutString
import Derived.ChangeOld
import Derived.Below
namespace Go.Proofs.Ytgfoadldghcdeaa.nearGoes
open Go.RowKit Go.Proofs.Ytgfoadldghcdeaa.Mem Go.Proofs.Ytgfoadldghcdeaa.Nea
set_option linter.unusedVariables false
set_option linter.unusedSimpArgs false
theorem walk_no (o : Int) (a0 : Option Addr) (n0 c0 : Nat) (w : World) (h : o < 1 ∨ 64 < o ∨ 100 < n0) :
    Calls Try.prog 5 #[.int .i64 o, .slice a0 n0 c0] w fun e w' => e = .returned (.bool true) ∧ Below w.heap.size w w' := by
  have hc : (o < 1) ∨ (¬ o < 1 ∧ 64 < o) ∨ (¬ o < 1 ∧ ¬ 64 < o ∧ (100 : Int) < n0) := by omega
  clear h
  rcases hc with h | ⟨h, h2⟩ | ⟨h, h2, h3⟩
  · have d1 : decide (o < 1) = true := by simpa using h
    clear h
    go_enter Try.func5, Try.ntmps5
    go_wp2_with (go_at_call 9; refine (awake17_any _).mono ?_; rintro e w5 ⟨rfl, hb⟩; have HB5 := Lib.hid hb; clear hb)
    go_ret
    exact ⟨rfl, HB5.out⟩
  · have d1 : decide (o < 1) = false := by simpa using h
    have d2 : decide ((64 : Int) < o) = true := by simpa using h2
    clear h h2
    go_enter Try.func5, Try.ntmps5
    go_wp2_with (go_at_call 9; refine (awake17_any _).mono ?_; rintro e w5 ⟨rfl, hb⟩; have HB5 := Lib.hid hb; clear hb)
    go_ret
    exact ⟨rfl, HB5.out⟩
  · have d1 : decide (o < 1) = false := by simpa using h
    have d2 : decide ((64 : Int) < o) = false := by simpa using h2
    have d3 : decide ((100 : Int) < n0) = true := by simpa using h3
    clear h h2 h3
    go_enter Try.func5, Try.ntmps5
    go_wp2_with (go_at_call 9; refine (awake17_any _).mono ?_; rintro e w5 ⟨rfl, hb⟩; have HB5 := Lib.hid hb; clear hb)
    go_ret
    exact ⟨rfl, HB5.out⟩
set_option maxRecDepth 20000 in
set_option maxHeartbeats 16000000 in
theorem walk_yes (o : Int) (a0 : Option Addr) (n0 c0 : Nat) (w : World) (h1 : 1 ≤ o) (h2 : o ≤ 64) (h0 : n0 ≤ 100) (w0 : IsRecs w a0 n0 c0 3 (StepR w)) :
    Calls Try.prog 5 #[.int .i64 o, .slice a0 n0 c0] w fun e w' => e = .returned (.bool true) ∧ Below w.heap.size w w' := by
  have d1 : decide (o < 1) = false := by simp; omega
  have d2 : decide ((64 : Int) < o) = false := by simp; omega
  have d3 : decide ((100 : Int) < n0) = false := by simp; omega
  have hg0 : GoodN o 0 ⟨o, 1, 0, 0, false, false, 0, false⟩ := ⟨by rw [mayN_iff]; exact ⟨by simp only; omega, fun e => by simp at e, fun _ => by simp⟩, rfl, fun e => by simp at e⟩
  have HG0 := Lib.hid hg0; clear hg0 h1 h2
  have HB0 := Lib.hid (below1 w (.cells #[.int .i64 o, .int .i64 1, .int .i64 0, .int .i64 0, .bool false, .bool false, .int .i64 0, .bool false] 23))
  have K0 := Lib.hid (Blk.new w 23 #[.int .i64 o, .int .i64 1, .int .i64 0, .int .i64 0, .bool false, .bool false, .int .i64 0, .bool false])
  have W0 := Lib.hid w0; clear w0
  go_enter Try.func5, Try.ntmps5
  go_wp2_with (fail)
  generalize hg : w.heap.size = g at *
  go_loopw [6, 7] (fun s i wr => ∃ (k m : Nat) (n : Nr), k ≤ n0 ∧ m ≤ k ∧ s = .int .i64 m ∧ i = .int .i64 k ∧ GoodN o m n ∧ Blk wr g 23 (nrC n) ∧ Below g w wr) (fun _ i _ => n0 - (intOf i).toNat)
  case atStart => exact ⟨0, 0, _, Nat.zero_le _, Nat.le_refl _, rfl, rfl, HG0.out, K0.out, HB0.out⟩
  case round =>
    clear HG0 K0 HB0
    obtain ⟨k, m, n, hk, hmk, rfl, rfl, hgood, hblk, hbel⟩ := hrel
    have HG := Lib.hid hgood; clear hgood
    have HB := Lib.hid hbel; clear hbel
    have K := Lib.hid hblk; clear hblk
    by_cases hlt : k < n0
    · obtain ⟨b, off, dd, x, hears, rfl, hbw, c0, c1, c2⟩ := step_at W0.out hlt
      have hby : b < g := by omega
      have hgb : b ≠ g := by omega
      replace c0 := (HB.out.cell (p := ⟨b, off + k * 3, none⟩) hby).trans c0
      replace c1 := (HB.out.cell (p := ⟨b, off + k * 3 + 1, none⟩) hby).trans c1
      replace c2 := (HB.out.cell (p := ⟨b, off + k * 3 + 2, none⟩) hby).trans c2
      have ST := Lib.hid (step_hello x hears HG.out)
      have SK := Lib.hid (step_tick HG.out)
      have SC := Lib.hid (step_cost x HG.out)
      have NH := fun (W : World) => nhello_any n x hears W
      have NT := fun (W : World) => ntick_any n W
      have NC := fun (W : World) => ncost_any n x W
      have hgw : g < wr.heap.size := K.out.lt
      have hbr : b < wr.heap.size := by omega
      have K1 := K.out
      unfold nrC at K1
      obtain ⟨k0, k1, k2, k3, k4, k5, k6, k7, _⟩ := blk_cells8 K1
      clear K1
      have KA := Lib.hid (K.out.alloc (.cells (nrC n) 23))
      have YA := Lib.hid (Blk.new wr 23 (nrC n))
      have HA := Lib.hid (HB.out.alloc (by omega) (.cells (nrC n) 23))
      generalize helloC n x hears = rh at *
      generalize tickC n = rt at *
      generalize costC n x = rc at *
      obtain ⟨no, nc, nb, ne, nh, nf, na, ng⟩ := n
      unfold nrC at NH NT NC KA YA HA
      simp only at NH NT NC KA YA HA k0 k1 k2 k3 k4 k5 k6 k7
      go_upto_block 2 with fail
      generalize hyy : wr.heap.size = y at *
      generalize hWW : wr.alloc (.cells #[.int .i64 no, .int .i64 nc, .int .i64 nb, .int .i64 ne, .bool nh, .bool nf, .int .i64 na, .bool ng] 23) = WA at *
      have hyg : y ≠ g := by omega
      have hbA : b < WA.heap.size := by have := KA.out.lt; omega
      have e0 : WA.cell? ⟨b, off + k * 3, none⟩ = some (.int .i64 dd) := by rw [← hWW]; exact (World.cell?_alloc_lt wr _ _ (by rw [hyy]; exact hbr)).trans c0
      have e1 : WA.cell? ⟨b, off + k * 3 + 1, none⟩ = some (.int .i64 x) := by rw [← hWW]; exact (World.cell?_alloc_lt wr _ _ (by rw [hyy]; exact hbr)).trans c1
      have e2 : WA.cell? ⟨b, off + k * 3 + 2, none⟩ = some (.bool hears) := by rw [← hWW]; exact (World.cell?_alloc_lt wr _ _ (by rw [hyy]; exact hbr)).trans c2
      clear c0 c1 c2 hWW hyy k0 k1 k2 k3 k4 k5 k6 k7 HB K
      obtain ⟨z0, z1, z2, z3, z4, z5, z6, z7, hgA⟩ := blk_cells8 KA.out
      obtain ⟨f0, f1, f2, f3, f4, f5, f6, f7⟩ := blk_frozen8 KA.out
      have HM := Lib.hid hmk; clear hmk
      go_cut [6, 9, 10, 11] from 38 to 77 (fun q6 q9 q10 q11 wx => ∃ (m' : Nat) (x : Nr) (d u : Bool) (er : Int), q6 = .int .i64 m' ∧ q9 = .bool d ∧ q10 = .bool u ∧ q11 = .int .i64 er ∧ m' ≤ k + 1 ∧ StepOk o m' ⟨no, nc, nb, ne, nh, nf, na, ng⟩ (x, d, u, er) ∧ Blk wx g 23 (nrC x) ∧ Blk wx y 23 #[.int .i64 no, .int .i64 nc, .int .i64 nb, .int .i64 ne, .bool nh, .bool nf, .int .i64 na, .bool ng] ∧ Below g w wx)
      case first =>
        by_cases hd0 : dd = 0
        · subst hd0
          obtain ⟨⟨xo, xc, xb, xe, xh, xf, xa, xg⟩, d, u, er⟩ := rh
          simp only at NH
          have NH := Lib.hid NH
          have HST := ST; clear ST SK SC NT NC
          have HEN := Lib.hid (enters_of Try.func6 (by kernel_rfl) rfl)
          go_wp2_with (fail)
          go_region_law (refine step_calls rfl 6 _ _ rfl #[.agg #[.int .i64 no, .int .i64 nc, .int .i64 nb, .int .i64 ne, .bool nh, .bool nf, .int .i64 na, .bool ng], .int .i64 x, .bool hears] (by simp [Act.eval, Act.put]) HEN.out (NH.out WA.drew) ?_; rintro e wa ⟨rfl, hb⟩; refine ⟨_, rfl, ?_⟩; have hb : Below WA.heap.size WA wa := ⟨hb.os, hb.tape, hb.output, hb.size, hb.block⟩; have HEa := Lib.hid hb; clear hb; obtain ⟨a0, a1, a2, a3, a4, a5, a6, a7, a8⟩ := blk_cells8 (KA.out.below HEa.out KA.out.lt); obtain ⟨l0, l1, l2, l3, l4, l5, l6, l7⟩ := blk_frozen8 (KA.out.below HEa.out KA.out.lt))
          all_goals
            (try go_wp2_with (fail)
             have KB := KA.out.below HEa.out KA.out.lt
             have YB := YA.out.below HEa.out YA.out.lt
             have HBB := HA.out.trans (HEa.out.mono (by omega))
             go_meet
             case rel => first | exact ⟨0, ⟨xo, xc, xb, xe, xh, xf, xa, xg⟩, d, u, er, by first | rfl | go_num, rfl, rfl, rfl, Nat.zero_le _, HST.out, st8_blk KB, (((((((YB.far (p := ⟨g, 0, none⟩) hyg _).far (p := ⟨g, 1, none⟩) hyg _).far (p := ⟨g, 2, none⟩) hyg _).far (p := ⟨g, 3, none⟩) hyg _).far (p := ⟨g, 4, none⟩) hyg _).far (p := ⟨g, 5, none⟩) hyg _).far (p := ⟨g, 6, none⟩) hyg _).far (p := ⟨g, 7, none⟩) hyg _, st8_below HBB (Nat.le_refl g)⟩ | exact ⟨0, ⟨xo, xc, xb, xe, xh, xf, xa, xg⟩, d, u, er, by first | rfl | go_num, rfl, rfl, rfl, Nat.zero_le _, HST.out, (st8_blk KB).drew, Blk.drew ((((((((YB.far (p := ⟨g, 0, none⟩) hyg _).far (p := ⟨g, 1, none⟩) hyg _).far (p := ⟨g, 2, none⟩) hyg _).far (p := ⟨g, 3, none⟩) hyg _).far (p := ⟨g, 4, none⟩) hyg _).far (p := ⟨g, 5, none⟩) hyg _).far (p := ⟨g, 6, none⟩) hyg _).far (p := ⟨g, 7, none⟩) hyg _), (st8_below HBB (Nat.le_refl g)).drew⟩)
        · have hd0' : (dd == 0) = false := beq_false_of_ne hd0
          by_cases hd1 : dd = 1
          · subst hd1
            clear hd0 hd0'
            obtain ⟨⟨xo, xc, xb, xe, xh, xf, xa, xg⟩, d, er⟩ := rt
            simp only at NT
            have NT := Lib.hid NT
            have HST := SK; clear ST SK SC NH NC
            have hmk := HM.out
            have hm1 : IntKind.i64.wrap ((m : Int) + 1) = (m : Int) + 1 := IntWalk.i64_in _ (by omega)
            go_wp2_with (first | (go_at_call 11; refine (NT.out _).mono ?_; rintro e wa ⟨rfl, hb⟩; have HEa := Lib.hid hb; clear hb; obtain ⟨a0, a1, a2, a3, a4, a5, a6, a7, a8⟩ := blk_cells8 (KA.out.below HEa.out KA.out.lt); obtain ⟨l0, l1, l2, l3, l4, l5, l6, l7⟩ := blk_frozen8 (KA.out.below HEa.out KA.out.lt)))
            all_goals
              (have hz9 : True := trivial
               have KB := KA.out.below HEa.out KA.out.lt
               have YB := YA.out.below HEa.out YA.out.lt
               have HBB := HA.out.trans (HEa.out.mono (by omega))
               go_meet
               case rel => first | exact ⟨(m + 1), ⟨xo, xc, xb, xe, xh, xf, xa, xg⟩, d, false, er, by first | rfl | go_num, rfl, rfl, rfl, by have := HM.out; omega, HST.out, st8_blk KB, (((((((YB.far (p := ⟨g, 0, none⟩) hyg _).far (p := ⟨g, 1, none⟩) hyg _).far (p := ⟨g, 2, none⟩) hyg _).far (p := ⟨g, 3, none⟩) hyg _).far (p := ⟨g, 4, none⟩) hyg _).far (p := ⟨g, 5, none⟩) hyg _).far (p := ⟨g, 6, none⟩) hyg _).far (p := ⟨g, 7, none⟩) hyg _, st8_below HBB (Nat.le_refl g)⟩ | exact ⟨(m + 1), ⟨xo, xc, xb, xe, xh, xf, xa, xg⟩, d, false, er, by first | rfl | go_num, rfl, rfl, rfl, by have := HM.out; omega, HST.out, (st8_blk KB).drew, Blk.drew ((((((((YB.far (p := ⟨g, 0, none⟩) hyg _).far (p := ⟨g, 1, none⟩) hyg _).far (p := ⟨g, 2, none⟩) hyg _).far (p := ⟨g, 3, none⟩) hyg _).far (p := ⟨g, 4, none⟩) hyg _).far (p := ⟨g, 5, none⟩) hyg _).far (p := ⟨g, 6, none⟩) hyg _).far (p := ⟨g, 7, none⟩) hyg _), (st8_below HBB (Nat.le_refl g)).drew⟩)
          · have hd1' : (dd == 1) = false := beq_false_of_ne hd1
            obtain ⟨⟨xo, xc, xb, xe, xh, xf, xa, xg⟩, d, er⟩ := rc
            simp only at NC
            have NC := Lib.hid NC
            have HST := SC; clear ST SK SC NH NT hd0 hd1
            have HEN := Lib.hid (enters_of Try.func12 (by kernel_rfl) rfl)
            go_wp2_with (fail)
            go_region_law (refine step_calls rfl 12 _ _ rfl #[.agg #[.int .i64 no, .int .i64 nc, .int .i64 nb, .int .i64 ne, .bool nh, .bool nf, .int .i64 na, .bool ng], .int .i64 x] (by simp [Act.eval, Act.put]) HEN.out (NC.out WA.drew) ?_; rintro e wa ⟨rfl, hb⟩; refine ⟨_, rfl, ?_⟩; have hb : Below WA.heap.size WA wa := ⟨hb.os, hb.tape, hb.output, hb.size, hb.block⟩; have HEa := Lib.hid hb; clear hb; obtain ⟨a0, a1, a2, a3, a4, a5, a6, a7, a8⟩ := blk_cells8 (KA.out.below HEa.out KA.out.lt); obtain ⟨l0, l1, l2, l3, l4, l5, l6, l7⟩ := blk_frozen8 (KA.out.below HEa.out KA.out.lt))
            all_goals
              (try go_wp2_with (fail)
               have KB := KA.out.below HEa.out KA.out.lt
               have YB := YA.out.below HEa.out YA.out.lt
               have HBB := HA.out.trans (HEa.out.mono (by omega))
               go_meet
               case rel => first | exact ⟨m, ⟨xo, xc, xb, xe, xh, xf, xa, xg⟩, d, false, er, by first | rfl | go_num, rfl, rfl, rfl, by have := HM.out; omega, HST.out, st8_blk KB, (((((((YB.far (p := ⟨g, 0, none⟩) hyg _).far (p := ⟨g, 1, none⟩) hyg _).far (p := ⟨g, 2, none⟩) hyg _).far (p := ⟨g, 3, none⟩) hyg _).far (p := ⟨g, 4, none⟩) hyg _).far (p := ⟨g, 5, none⟩) hyg _).far (p := ⟨g, 6, none⟩) hyg _).far (p := ⟨g, 7, none⟩) hyg _, st8_below HBB (Nat.le_refl g)⟩ | exact ⟨m, ⟨xo, xc, xb, xe, xh, xf, xa, xg⟩, d, false, er, by first | rfl | go_num, rfl, rfl, rfl, by have := HM.out; omega, HST.out, (st8_blk KB).drew, Blk.drew ((((((((YB.far (p := ⟨g, 0, none⟩) hyg _).far (p := ⟨g, 1, none⟩) hyg _).far (p := ⟨g, 2, none⟩) hyg _).far (p := ⟨g, 3, none⟩) hyg _).far (p := ⟨g, 4, none⟩) hyg _).far (p := ⟨g, 5, none⟩) hyg _).far (p := ⟨g, 6, none⟩) hyg _).far (p := ⟨g, 7, none⟩) hyg _), (st8_below HBB (Nat.le_refl g)).drew⟩)
      case rest =>
        clear NH NT NC ST SK SC KA YA HA e0 e1 e2 z0 z1 z2 z3 z4 z5 z6 z7 f0 f1 f2 f3 f4 f5 f6 f7 HM
        obtain ⟨m', ⟨xo, xc, xb, xe, xh, xf, xa, xg⟩, d, u, er, rfl, rfl, rfl, rfl, hm', hst, hk3, hy3, hb3⟩ := hcut
        unfold nrC at hk3
        simp only at hk3
        have HST := Lib.hid hst
        have K3 := Lib.hid hk3
        have Y3 := Lib.hid hy3
        have HB3 := Lib.hid hb3
        obtain ⟨p0, p1, p2, p3, p4, p5, p6, p7, _⟩ := blk_cells8 K3.out
        obtain ⟨f0, f1, f2, f3, f4, f5, f6, f7⟩ := blk_frozen8 K3.out
        clear hk3 hy3 hb3 hst
        have hst := HST.out
        unfold StepOk at hst
        simp only at hst
        clear HST
        rcases hst with ⟨rfl, hgn⟩ | ⟨rfl, hgd, hbt, hsh⟩
        · have GN := Lib.hid hgn
          clear hgn
          obtain ⟨y0, y1, y2, y3, y4, y5, y6, y7, _⟩ := blk_cells8 Y3.out
          go_wp2_with (fail)
          go_roundw
          case rel => exact ⟨k + 1, m', ⟨no, nc, nb, ne, nh, nf, na, ng⟩, by omega, by omega, by first | rfl | go_num, by go_num, GN.out, st8_blk K3.out, st8_below HB3.out (Nat.le_refl _)⟩
          case measure => simp [intOf]; omega
        · obtain rfl : xo = o := hgd.of_
          have hs := hgd.silent
          have GD := Lib.hid hgd
          have db : decide (xb < nb) = false := by simp; omega
          simp only at hs
          obtain ⟨y0, y1, y2, y3, y4, y5, y6, y7, _⟩ := blk_cells8 Y3.out
          clear hgd hbt
          rcases hsh with ⟨rfl, rfl, rfl, rfl⟩ | ⟨rfl, rfl, rfl, rfl⟩ | ⟨rfl, rfl, rfl, rfl⟩ | ⟨rfl, rfl, rfl, rfl⟩ | ⟨rfl, rfl, rfl, rfl⟩
          · clear hs
            go_wp2_with (fail)
            all_goals
              (go_roundw
               case rel => exact ⟨k + 1, m', _, by omega, by omega, by first | rfl | go_num, by go_num, GD.out, K3.out, HB3.out⟩
               case measure => simp [intOf]; omega)
          · have dm : decide ((4 : Int) < (m' : Nat)) = false := by have := hs rfl; simp; omega
            clear hs
            go_wp2_with (fail)
            all_goals
              (go_roundw
               case rel => exact ⟨k + 1, m', _, by omega, by omega, by first | rfl | go_num, by go_num, GD.out, K3.out, HB3.out⟩
               case measure => simp [intOf]; omega)
          · clear hs
            go_wp2_with (fail)
            all_goals
              (go_roundw
               case rel => exact ⟨k + 1, m', _, by omega, by omega, by first | rfl | go_num, by go_num, GD.out, K3.out, HB3.out⟩
               case measure => simp [intOf]; omega)
          · have dm : decide ((4 : Int) < (m' : Nat)) = false := by have := hs rfl; simp; omega
            clear hs
            go_wp2_with (fail)
            all_goals
              (go_roundw
               case rel => exact ⟨k + 1, m', _, by omega, by omega, by first | rfl | go_num, by go_num, GD.out, K3.out, HB3.out⟩
               case measure => simp [intOf]; omega)
          · have dm : decide ((4 : Int) < (m' : Nat)) = false := by have := hs rfl; simp; omega
            clear hs
            go_wp2_with (fail)
            all_goals
              (go_roundw
               case rel => exact ⟨k + 1, m', _, by omega, by omega, by first | rfl | go_num, by go_num, GD.out, K3.out, HB3.out⟩
               case measure => simp [intOf]; omega)
    · obtain rfl : k = n0 := by omega
      go_wp2_with (go_at_call 9; refine (awake17_any _).mono ?_; rintro e w5 ⟨rfl, hb⟩; have HB5 := Lib.hid (HB.out.trans (hb.mono (by have := HB.out.size; omega))); clear hb)
      go_ret
      exact ⟨rfl, by rw [hg]; exact HB5.out⟩
theorem walk (o : Int) (a0 : Option Addr) (n0 c0 : Nat) (w : World) (_ : (Lit.int .i64 o).wf = true) (w0 : IsRecs w a0 n0 c0 3 (StepR w)) :
    Calls Try.prog 5 #[.int .i64 o, .slice a0 n0 c0] w fun e w' => e = .returned (.bool true) ∧ Below w.heap.size w w' := by
  by_cases h : o < 1 ∨ 64 < o ∨ 100 < n0
  · exact walk_no o a0 n0 c0 w h
  · exact walk_yes o a0 n0 c0 w (by omega) (by omega) (by omega) w0
open Go.ChangeShapes Go.WideShapes Go.ChangeAt Go.RowKit
theorem own : ownKnob Try.prog.godebug = none := by kernel_rfl
theorem laidOut : laidOutB Try.prog = true := by kernel_rfl
/-! the step from the walk to the row -/
set_option maxRecDepth 100000 in
theorem lifted (os : Os) (started : os.Started) (H : Type) (enc : TypeId × Value → H) :
    ReturnsInHanded {} Try.checked os 5 .any (Rows.nearGoesSpec.pre6 enc Try.prog Try.f5 Rows.nearGoesRow.domain false) (Rows.nearGoesSpec.post enc Try.prog Try.f5 false true false false) := by
  refine returnsInHanded_of_change (C := Try.checked) own started (by kernel_rfl) Try.func5
    (ChangeSpec.witness6 (enc := enc) (C := Try.checked) false ⟨#[], #[.int .i64 0, .slice none 0 0], []⟩ 8 (by kernel_rfl) (by kernel_rfl) (by kernel_rfl) (by kernel_rfl)) ?_
  intro W base args ds gs before hval0 hW hcnd _
  have hval : ∀ (j : Nat) t v, Try.f5.params[j]? = some t → args[j]? = some v → Value.okWide Try.prog W .any base t v := hval0
  have hW' := hW
  obtain ⟨p, q, hA0, hV, rfl, hfz, hnd⟩ := hW
  have hA : DataW.TrodAll enc Try.prog W 0 (fun _ => true) true Try.f5.params.toList args.toList ds p := hA0
  rw [Try.params5] at hA hval
  obtain ⟨v0, vs0, d0, ds0, p0, q0, hargs, rfl, rfl, h0, r0⟩ := trodAll_cons hA
  obtain ⟨v1, vs1, d1, ds1, p1, q1, rfl, rfl, rfl, h1, r1⟩ := trodAll_cons r0
  obtain ⟨rfl, rfl, rfl⟩ := trodAll_nil r1
  obtain rfl : args = #[v0, v1] := by cases args; simp_all
  obtain ⟨rfl, rfl⟩ := trodVars_none hV
  obtain ⟨a0, rfl, rfl, rfl, w0⟩ := open_int Try.underlying3 (hval 0 3 v0 rfl rfl) h0
  obtain ⟨a1, len1, cap1, rfl⟩ := okWide_slice Try.underlying40 (hval 1 40 v1 rfl rfl)
  have k1 := h1
  have lt1 : ∀ x ∈ p1, x.block < W.heap.size := by obtain ⟨m, hm⟩ := k1; exact DataW.trod_lt m _ _ _ hm
  have w1 : IsRecs W a1 len1 cap1 3 (StepR W) := by
    obtain ⟨fuel, hf⟩ := h1
    rcases open_slice_fields Try.underlying40 Try.underlying42 (by kernel_rfl) (by kernel_rfl) hf with ⟨hcs, _⟩ | ⟨x, l, c, m, D, Pl, hcs, _, hl, hm, hmm, _, hh⟩
    · simp [Value.cells] at hcs
      obtain ⟨rfl, rfl, rfl⟩ := hcs
      exact .inl ⟨rfl, rfl, rfl⟩
    · simp [Value.cells] at hcs
      obtain ⟨rfl, rfl, rfl⟩ := hcs
      refine .inr ⟨_, rfl, hl, hm, fun i hi j hj => ?_⟩
      obtain ⟨ys, n, _, _, _, hg⟩ := hh i (by rw [hmm, if_pos rfl]; exact hi)
      match j, hj with
      | 0, _ =>
        obtain ⟨v, y, hc, _, ht⟩ := hg 0 _ rfl
        exact ⟨v, hc, open_num_at Try.underlying3 ht⟩
      | 1, _ =>
        obtain ⟨v, y, hc, _, ht⟩ := hg 1 _ rfl
        exact ⟨v, hc, open_num_at Try.underlying3 ht⟩
      | 2, _ =>
        obtain ⟨v, y, hc, _, ht⟩ := hg 2 _ rfl
        exact ⟨v, hc, open_bool_at Try.underlying4 ht⟩
  clear hA0 hval0
  refine (walk a0 a1 len1 cap1 W w0 w1).mono fun e W' ⟨he, bel⟩ => ?_
  subst he
  exact ⟨_, rfl, _, _, _, [], _, [], hW', trodAll_mk1 (shut_bool Try.underlying4 _), (trodAll_cons_mk (shut_int Try.underlying3 w0) (trodAll_cons_mk (Below.trod laidOut (by kernel_rfl) (of_decide_eq_true (by kernel_rfl)) k1 bel lt1) trodAll_mk0)), rfl, bel.frame _, fun h => by cases h⟩

theorem over : Rows.nearGoesRow.holds Try.pinned (OpenSpec.ofChange Rows.nearGoesSpec) :=
  OpenClaim.holds_of_wide 5 Try.f5 rfl rfl rfl rfl rfl rfl rfl ⟨rfl, rfl, rfl, rfl, rfl⟩ rfl rfl rfl rfl rfl (by kernel_rfl) Try.func5 (by kernel_rfl)
    (of_decide_eq_true (by kernel_rfl)) (by unfold Func.isWrapper; first | (rw [if_pos (by decide +kernel)]; kernel_rfl) | (rw [if_neg (by decide +kernel)]; exact ⟨rfl, rfl⟩))
    (fun os started H enc _ => lifted os started H enc)

/-- the statement -/
theorem proved : Rows.NearGoesSaid := over
end Go.Proofs.Ytgfoadldghcdeaa.nearGoes
