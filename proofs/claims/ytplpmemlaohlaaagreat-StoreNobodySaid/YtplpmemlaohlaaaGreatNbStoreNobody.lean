/- StoreNobody: a store that Open did not give keeps nothing, and does nothing; and on which disks there is none. For every number. -/
import Derived.Test.YtplpmemlaohlaaaGreatNbRefBas
import Derived.Test.YtplpmemlaohlaaaGreatNbStoAwake
import Derived.Below
import Derived.ChangeOld
import Derived.IntWalk
import Derived.OpenShut
import Derived.ProofKit
import Derived.ShutString
import Derived.WalkKit
namespace Go.Proofs.YtplpmemlaohlaaaGreat.storeNobody
open Go.RowKit Go.Maps Go.Proofs.YtplpmemlaohlaaaGreat.Mem Go.Proofs.YtplpmemlaohlaaaGreat.Bas Go.Proofs.YtplpmemlaohlaaaGreat.Wl Go.Proofs.YtplpmemlaohlaaaGreat.Sto
open Go.Proofs.YtplpmemlaohlaaaGreat.Dsk (KeptBut SMap DiskAt kept_of_below kept_of_grown kept_drew NoneAt)
set_option linter.unusedVariables false
set_option linter.unusedSimpArgs false
set_option maxRecDepth 20000 in
set_option maxHeartbeats 16000000 in
theorem walk_mid (a0 : Int) (w : World) (h1 : 60 < a0) (h2 : a0 ≤ 1024) :
    Calls Tryz.prog 5 #[.int .i64 a0] w fun e w' => e = .returned (.bool true) ∧ Below w.heap.size w w' := by
  have AW := Lib.hid (fun (W : World) => awake12_any W)
  have d1 : decide (60 < a0) = true := by simp; omega
  have d2 : decide (a0 ≤ 1024) = true := by simp; omega
  go_enter Tryz.func5, Tryz.ntmps5
  go_wp2_with (go_at_call 7; refine (AW.out _).mono ?_; rintro e w2 ⟨rfl, hb⟩; have HB2 := Lib.hid hb; clear hb)
  go_ret
  exact ⟨rfl, HB2.out⟩
set_option maxRecDepth 20000 in
set_option maxHeartbeats 16000000 in
theorem walk_low (a0 : Int) (w : World) (h1 : a0 < 1) :
    Calls Tryz.prog 5 #[.int .i64 a0] w fun e w' => e = .returned (.bool true) ∧ Below w.heap.size w w' := by
  have nw := Dsk.new_no a0 w (by omega)
  have op := fun (W : World) => sopen_none (.pointer none) W (.inl rfl)
  have AW := Lib.hid (fun (W : World) => awake12_any W)
  have sm := fun (W : World) => rsame_st zeroS zeroS (.slice none 0 0) (.slice none 0 0) (.slice none 0 0) (.slice none 0 0) W (stM_nil _ _ _ _) (stM_nil _ _ _ _)
  simp only [stV, zeroS] at sm
  rw [show sameS ⟨[], 0, 0, []⟩ ⟨[], 0, 0, []⟩ = true from sameS_self _] at sm
  have SM := Lib.hid sm; clear sm
  have d1 : decide (60 < a0) = false := by simp; omega
  have d3 : decide (a0 < 6) = true := by simp; omega
  have NW := Lib.hid nw; clear nw
  have OP := Lib.hid op; clear op
  go_enter Tryz.func5, Tryz.ntmps5
  go_wp2_with (first
    | (go_at_call 8; refine (NW.out).mono ?_; rintro e w' ⟨rfl, rfl⟩)
    | (go_at_call 10; refine (OP.out _).mono ?_; rintro e w1 ⟨rfl, hb⟩; have HB1 := Lib.hid hb; clear hb))
  go_loopw [7] (fun i wr => (i = .int .i64 0 ∨ i = .int .i64 1 ∨ i = .int .i64 2) ∧ Below w.heap.size w wr) (fun i _ => 2 - (intOf i).toNat)
  case atStart => exact ⟨.inl rfl, HB1.out⟩
  case round =>
    obtain ⟨hj, hbw⟩ := hrel
    have HBW := Lib.hid hbw; clear hbw
    rcases hj with rfl | rfl | rfl
    · have nn : NoStore wr (.pointer none) := .inl rfl
      have q1 := sDo_none _ _ none 0 0 nn
      have q2 := sTurn_none _ _ nn
      have q3 := sGen_none _ _ nn
      have q4 := sBroken_none _ _ nn
      have q5 := sState_none _ _ nn
      simp only [stV, zeroS] at q5
      have Q1 := Lib.hid q1; clear q1
      have Q2 := Lib.hid q2; clear q2
      have Q3 := Lib.hid q3; clear q3
      have Q4 := Lib.hid q4; clear q4
      have Q5 := Lib.hid q5; clear q5
      clear nn
      go_wp2_with (first
        | (go_at_call 14; refine (Q1.out).mono ?_; rintro e w' ⟨rfl, rfl⟩)
        | (go_at_call 16; refine (Q2.out).mono ?_; rintro e w' ⟨rfl, rfl⟩)
        | (go_at_call 23; refine (Q3.out).mono ?_; rintro e w' ⟨rfl, rfl⟩)
        | (go_at_call 24; refine (Q4.out).mono ?_; rintro e w' ⟨rfl, rfl⟩)
        | (go_at_call 22; refine (Q5.out).mono ?_; rintro e w5 ⟨rfl, hb⟩; have HB5 := Lib.hid (HBW.out.trans (hb.mono HBW.out.size)); clear hb)
        | (go_at_call 21; refine (SM.out _).mono ?_; rintro e w6 ⟨rfl, hb⟩; have HB6 := Lib.hid (HB5.out.trans (hb.mono HB5.out.size)); clear hb))
      go_roundw
      case rel => exact ⟨.inr (.inl rfl), HB6.out⟩
      case measure => simp [intOf]
    · have nn : NoStore (wr.alloc (.cells #[.pointer none] 70)) (ptr wr.heap.size) := .inr ⟨_, rfl, Blk.new wr _ _⟩
      have q1 := sDo_none _ _ none 0 0 nn
      have q2 := sTurn_none _ _ nn
      have q3 := sGen_none _ _ nn
      have q4 := sBroken_none _ _ nn
      have q5 := sState_none _ _ nn
      simp only [stV, zeroS] at q5
      have Q1 := Lib.hid q1; clear q1
      have Q2 := Lib.hid q2; clear q2
      have Q3 := Lib.hid q3; clear q3
      have Q4 := Lib.hid q4; clear q4
      have Q5 := Lib.hid q5; clear q5
      clear nn
      go_wp2_with (first
        | (go_at_call 14; refine (Q1.out).mono ?_; rintro e w' ⟨rfl, rfl⟩)
        | (go_at_call 16; refine (Q2.out).mono ?_; rintro e w' ⟨rfl, rfl⟩)
        | (go_at_call 23; refine (Q3.out).mono ?_; rintro e w' ⟨rfl, rfl⟩)
        | (go_at_call 24; refine (Q4.out).mono ?_; rintro e w' ⟨rfl, rfl⟩)
        | (go_at_call 22; refine (Q5.out).mono ?_; rintro e w5 ⟨rfl, hb⟩; have HB5 := Lib.hid ((Chg.low1 HBW.out (.cells #[.pointer none] 70)).trans (hb.mono (Chg.low1 HBW.out (.cells #[.pointer none] 70)).size)); clear hb)
        | (go_at_call 21; refine (SM.out _).mono ?_; rintro e w6 ⟨rfl, hb⟩; have HB6 := Lib.hid (HB5.out.trans (hb.mono HB5.out.size)); clear hb))
      go_roundw
      case rel => exact ⟨.inr (.inr rfl), HB6.out⟩
      case measure => simp [intOf]
    · go_wp2_with (go_at_call 7; refine (AW.out _).mono ?_; rintro e w2 ⟨rfl, hb⟩; have HB2 := Lib.hid (HBW.out.trans (hb.mono HBW.out.size)); clear hb)
      go_ret
      exact ⟨rfl, HB2.out⟩
set_option maxRecDepth 20000 in
set_option maxHeartbeats 16000000 in
theorem walk_high (a0 : Int) (w : World) (h1 : 1024 < a0) :
    Calls Tryz.prog 5 #[.int .i64 a0] w fun e w' => e = .returned (.bool true) ∧ Below w.heap.size w w' := by
  have nw := Dsk.new_no a0 w (by omega)
  have op := fun (W : World) => sopen_none (.pointer none) W (.inl rfl)
  have AW := Lib.hid (fun (W : World) => awake12_any W)
  have sm := fun (W : World) => rsame_st zeroS zeroS (.slice none 0 0) (.slice none 0 0) (.slice none 0 0) (.slice none 0 0) W (stM_nil _ _ _ _) (stM_nil _ _ _ _)
  simp only [stV, zeroS] at sm
  rw [show sameS ⟨[], 0, 0, []⟩ ⟨[], 0, 0, []⟩ = true from sameS_self _] at sm
  have SM := Lib.hid sm; clear sm
  have d1 : decide (60 < a0) = true := by simp; omega
  have d2 : decide (a0 ≤ 1024) = false := by simp; omega
  have d3 : decide (a0 < 6) = false := by simp; omega
  have d4 : decide (1024 < a0) = true := by simp; omega
  have NW := Lib.hid nw; clear nw
  have OP := Lib.hid op; clear op
  go_enter Tryz.func5, Tryz.ntmps5
  go_wp2_with (first
    | (go_at_call 8; refine (NW.out).mono ?_; rintro e w' ⟨rfl, rfl⟩)
    | (go_at_call 10; refine (OP.out _).mono ?_; rintro e w1 ⟨rfl, hb⟩; have HB1 := Lib.hid hb; clear hb))
  go_loopw [7] (fun i wr => (i = .int .i64 0 ∨ i = .int .i64 1 ∨ i = .int .i64 2) ∧ Below w.heap.size w wr) (fun i _ => 2 - (intOf i).toNat)
  case atStart => exact ⟨.inl rfl, HB1.out⟩
  case round =>
    obtain ⟨hj, hbw⟩ := hrel
    have HBW := Lib.hid hbw; clear hbw
    rcases hj with rfl | rfl | rfl
    · have nn : NoStore wr (.pointer none) := .inl rfl
      have q1 := sDo_none _ _ none 0 0 nn
      have q2 := sTurn_none _ _ nn
      have q3 := sGen_none _ _ nn
      have q4 := sBroken_none _ _ nn
      have q5 := sState_none _ _ nn
      simp only [stV, zeroS] at q5
      have Q1 := Lib.hid q1; clear q1
      have Q2 := Lib.hid q2; clear q2
      have Q3 := Lib.hid q3; clear q3
      have Q4 := Lib.hid q4; clear q4
      have Q5 := Lib.hid q5; clear q5
      clear nn
      go_wp2_with (first
        | (go_at_call 14; refine (Q1.out).mono ?_; rintro e w' ⟨rfl, rfl⟩)
        | (go_at_call 16; refine (Q2.out).mono ?_; rintro e w' ⟨rfl, rfl⟩)
        | (go_at_call 23; refine (Q3.out).mono ?_; rintro e w' ⟨rfl, rfl⟩)
        | (go_at_call 24; refine (Q4.out).mono ?_; rintro e w' ⟨rfl, rfl⟩)
        | (go_at_call 22; refine (Q5.out).mono ?_; rintro e w5 ⟨rfl, hb⟩; have HB5 := Lib.hid (HBW.out.trans (hb.mono HBW.out.size)); clear hb)
        | (go_at_call 21; refine (SM.out _).mono ?_; rintro e w6 ⟨rfl, hb⟩; have HB6 := Lib.hid (HB5.out.trans (hb.mono HB5.out.size)); clear hb))
      go_roundw
      case rel => exact ⟨.inr (.inl rfl), HB6.out⟩
      case measure => simp [intOf]
    · have nn : NoStore (wr.alloc (.cells #[.pointer none] 70)) (ptr wr.heap.size) := .inr ⟨_, rfl, Blk.new wr _ _⟩
      have q1 := sDo_none _ _ none 0 0 nn
      have q2 := sTurn_none _ _ nn
      have q3 := sGen_none _ _ nn
      have q4 := sBroken_none _ _ nn
      have q5 := sState_none _ _ nn
      simp only [stV, zeroS] at q5
      have Q1 := Lib.hid q1; clear q1
      have Q2 := Lib.hid q2; clear q2
      have Q3 := Lib.hid q3; clear q3
      have Q4 := Lib.hid q4; clear q4
      have Q5 := Lib.hid q5; clear q5
      clear nn
      go_wp2_with (first
        | (go_at_call 14; refine (Q1.out).mono ?_; rintro e w' ⟨rfl, rfl⟩)
        | (go_at_call 16; refine (Q2.out).mono ?_; rintro e w' ⟨rfl, rfl⟩)
        | (go_at_call 23; refine (Q3.out).mono ?_; rintro e w' ⟨rfl, rfl⟩)
        | (go_at_call 24; refine (Q4.out).mono ?_; rintro e w' ⟨rfl, rfl⟩)
        | (go_at_call 22; refine (Q5.out).mono ?_; rintro e w5 ⟨rfl, hb⟩; have HB5 := Lib.hid ((Chg.low1 HBW.out (.cells #[.pointer none] 70)).trans (hb.mono (Chg.low1 HBW.out (.cells #[.pointer none] 70)).size)); clear hb)
        | (go_at_call 21; refine (SM.out _).mono ?_; rintro e w6 ⟨rfl, hb⟩; have HB6 := Lib.hid (HB5.out.trans (hb.mono HB5.out.size)); clear hb))
      go_roundw
      case rel => exact ⟨.inr (.inr rfl), HB6.out⟩
      case measure => simp [intOf]
    · go_wp2_with (go_at_call 7; refine (AW.out _).mono ?_; rintro e w2 ⟨rfl, hb⟩; have HB2 := Lib.hid (HBW.out.trans (hb.mono HBW.out.size)); clear hb)
      go_ret
      exact ⟨rfl, HB2.out⟩
theorem small_no {g bs bw : Nat} {d : Dsk.St} {w : World} (h : DiskAt w g bs bw d) (hn : d.n < 6) :
    Calls Tryz.prog 10 #[ptr g] w fun e w' => e = .returned (.tuple #[.pointer none, .int .i64 1]) ∧ KeptBut w w' [g, bs, bw] := by
  have e0 : openP d = ⟨d, none, [], [], 1⟩ := by unfold openP; rw [if_pos hn]
  refine (sopen_any g bs bw d w h (by omega) (by rw [e0]; simp) (by rw [e0]; simp)).mono ?_
  rintro e w' ⟨vy, h1, h2, h3, h4, h5⟩
  have e1 : openS d = ⟨d, none, 1⟩ := by unfold openS; rw [e0]
  rw [e1] at h1 h4
  rw [h4 rfl] at h1
  exact ⟨h1, h3⟩
set_option maxRecDepth 20000 in
set_option maxHeartbeats 16000000 in
theorem walk_small (n : Nat) (w : World) (h1 : 1 ≤ n) (h2 : n < 6) :
    Calls Tryz.prog 5 #[.int .i64 (n : Nat)] w fun e w' => e = .returned (.bool true) ∧ Below w.heap.size w w' := by
  have nw := Dsk.new_ok n w (by omega) (by omega)
  have op := fun (g bs bw : Nat) (W : World) (h : DiskAt W g bs bw (Dsk.St.new n)) => small_no h (by show n < 6; omega)
  have AW := Lib.hid (fun (W : World) => awake12_any W)
  have sm := fun (W : World) => rsame_st zeroS zeroS (.slice none 0 0) (.slice none 0 0) (.slice none 0 0) (.slice none 0 0) W (stM_nil _ _ _ _) (stM_nil _ _ _ _)
  simp only [stV, zeroS] at sm
  rw [show sameS ⟨[], 0, 0, []⟩ ⟨[], 0, 0, []⟩ = true from sameS_self _] at sm
  have SM := Lib.hid sm; clear sm
  have d1 : decide (60 < (n : Int)) = false := by simp; omega
  have d3 : decide ((n : Int) < 6) = true := by simp; omega
  have NW := Lib.hid nw; clear nw
  have OP := Lib.hid op; clear op
  go_enter Tryz.func5, Tryz.ntmps5
  go_wp2_with (first
    | (go_at_call 8; refine (NW.out).mono ?_; rintro e w1 ⟨g, bs, bw, rfl, hd, hb, hge⟩; have HD1 := Lib.hid hd; have HB1 := Lib.hid hb; have HGE := Lib.hid hge; clear hd hb hge)
    | (go_at_call 10; refine (OP.out g bs bw _ HD1.out).mono ?_; rintro e w2 ⟨rfl, hk⟩; have HB2 := Lib.hid (kept_low HB1.out hk HGE.out); clear hk))
  go_loopw [7] (fun i wr => (i = .int .i64 0 ∨ i = .int .i64 1 ∨ i = .int .i64 2) ∧ Below w.heap.size w wr) (fun i _ => 2 - (intOf i).toNat)
  case atStart => exact ⟨.inl rfl, HB2.out⟩
  case round =>
    obtain ⟨hj, hbw⟩ := hrel
    have HBW := Lib.hid hbw; clear hbw
    rcases hj with rfl | rfl | rfl
    · have nn : NoStore wr (.pointer none) := .inl rfl
      have q1 := sDo_none _ _ none 0 0 nn
      have q2 := sTurn_none _ _ nn
      have q3 := sGen_none _ _ nn
      have q4 := sBroken_none _ _ nn
      have q5 := sState_none _ _ nn
      simp only [stV, zeroS] at q5
      have Q1 := Lib.hid q1; clear q1
      have Q2 := Lib.hid q2; clear q2
      have Q3 := Lib.hid q3; clear q3
      have Q4 := Lib.hid q4; clear q4
      have Q5 := Lib.hid q5; clear q5
      clear nn
      go_wp2_with (first
        | (go_at_call 14; refine (Q1.out).mono ?_; rintro e w' ⟨rfl, rfl⟩)
        | (go_at_call 16; refine (Q2.out).mono ?_; rintro e w' ⟨rfl, rfl⟩)
        | (go_at_call 23; refine (Q3.out).mono ?_; rintro e w' ⟨rfl, rfl⟩)
        | (go_at_call 24; refine (Q4.out).mono ?_; rintro e w' ⟨rfl, rfl⟩)
        | (go_at_call 22; refine (Q5.out).mono ?_; rintro e w5 ⟨rfl, hb⟩; have HB5 := Lib.hid (HBW.out.trans (hb.mono HBW.out.size)); clear hb)
        | (go_at_call 21; refine (SM.out _).mono ?_; rintro e w6 ⟨rfl, hb⟩; have HB6 := Lib.hid (HB5.out.trans (hb.mono HB5.out.size)); clear hb))
      go_roundw
      case rel => exact ⟨.inr (.inl rfl), HB6.out⟩
      case measure => simp [intOf]
    · have nn : NoStore (wr.alloc (.cells #[.pointer none] 70)) (ptr wr.heap.size) := .inr ⟨_, rfl, Blk.new wr _ _⟩
      have q1 := sDo_none _ _ none 0 0 nn
      have q2 := sTurn_none _ _ nn
      have q3 := sGen_none _ _ nn
      have q4 := sBroken_none _ _ nn
      have q5 := sState_none _ _ nn
      simp only [stV, zeroS] at q5
      have Q1 := Lib.hid q1; clear q1
      have Q2 := Lib.hid q2; clear q2
      have Q3 := Lib.hid q3; clear q3
      have Q4 := Lib.hid q4; clear q4
      have Q5 := Lib.hid q5; clear q5
      clear nn
      go_wp2_with (first
        | (go_at_call 14; refine (Q1.out).mono ?_; rintro e w' ⟨rfl, rfl⟩)
        | (go_at_call 16; refine (Q2.out).mono ?_; rintro e w' ⟨rfl, rfl⟩)
        | (go_at_call 23; refine (Q3.out).mono ?_; rintro e w' ⟨rfl, rfl⟩)
        | (go_at_call 24; refine (Q4.out).mono ?_; rintro e w' ⟨rfl, rfl⟩)
        | (go_at_call 22; refine (Q5.out).mono ?_; rintro e w5 ⟨rfl, hb⟩; have HB5 := Lib.hid ((Chg.low1 HBW.out (.cells #[.pointer none] 70)).trans (hb.mono (Chg.low1 HBW.out (.cells #[.pointer none] 70)).size)); clear hb)
        | (go_at_call 21; refine (SM.out _).mono ?_; rintro e w6 ⟨rfl, hb⟩; have HB6 := Lib.hid (HB5.out.trans (hb.mono HB5.out.size)); clear hb))
      go_roundw
      case rel => exact ⟨.inr (.inr rfl), HB6.out⟩
      case measure => simp [intOf]
    · go_wp2_with (go_at_call 7; refine (AW.out _).mono ?_; rintro e w2 ⟨rfl, hb⟩; have HB2 := Lib.hid (HBW.out.trans (hb.mono HBW.out.size)); clear hb)
      go_ret
      exact ⟨rfl, HB2.out⟩
set_option maxRecDepth 20000 in
set_option maxHeartbeats 16000000 in
theorem walk_yes (n : Nat) (w : World) (h1 : 6 ≤ n) (h2 : n ≤ 60) :
    Calls Tryz.prog 5 #[.int .i64 (n : Nat)] w fun e w' => e = .returned (.bool true) ∧ Below w.heap.size w w' := by
  have nw := Dsk.new_ok n w (by omega) (by omega)
  obtain ⟨s1, p1, _, _, p4⟩ := fresh_says n h1
  have op := fun (g bs bw : Nat) (W : World) (h : DiskAt W g bs bw (Dsk.St.new n)) => sopen_yes h (by show n ≤ 1000; omega) p4 p1
  unfold OkOut at op
  have AW := Lib.hid (fun (W : World) => awake12_any W)
  have sm := fun (W : World) => rsame_st zeroS zeroS (.slice none 0 0) (.slice none 0 0) (.slice none 0 0) (.slice none 0 0) W (stM_nil _ _ _ _) (stM_nil _ _ _ _)
  simp only [stV, zeroS] at sm
  rw [show sameS ⟨[], 0, 0, []⟩ ⟨[], 0, 0, []⟩ = true from sameS_self _] at sm
  have SM := Lib.hid sm; clear sm
  have d1 : decide (60 < (n : Int)) = false := by simp; omega
  have d3 : decide ((n : Int) < 6) = false := by simp; omega
  have d4 : decide (1024 < (n : Int)) = false := by simp; omega
  have NW := Lib.hid nw; clear nw
  have OP := Lib.hid op; clear op
  go_enter Tryz.func5, Tryz.ntmps5
  go_wp2_with (first
    | (go_at_call 8; refine (NW.out).mono ?_; rintro e w1 ⟨g, bs, bw, rfl, hd, hb, hge⟩; have HD1 := Lib.hid hd; have HB1 := Lib.hid hb; have HGE := Lib.hid hge; clear hd hb hge)
    | (go_at_call 10; refine (OP.out g bs bw _ HD1.out).mono ?_; rintro e w2 ⟨y, q, x, rfl, hy, hq, hx, hs, hd, hk⟩; have HB2 := Lib.hid (kept_low HB1.out hk HGE.out); clear hy hq hx hs hd hk))
  go_loopw [7] (fun i wr => (i = .int .i64 0 ∨ i = .int .i64 1 ∨ i = .int .i64 2) ∧ Below w.heap.size w wr) (fun i _ => 2 - (intOf i).toNat)
  case atStart => exact ⟨.inl rfl, HB2.out⟩
  case round =>
    obtain ⟨hj, hbw⟩ := hrel
    have HBW := Lib.hid hbw; clear hbw
    rcases hj with rfl | rfl | rfl
    · have nn : NoStore wr (.pointer none) := .inl rfl
      have q1 := sDo_none _ _ none 0 0 nn
      have q2 := sTurn_none _ _ nn
      have q3 := sGen_none _ _ nn
      have q4 := sBroken_none _ _ nn
      have q5 := sState_none _ _ nn
      simp only [stV, zeroS] at q5
      have Q1 := Lib.hid q1; clear q1
      have Q2 := Lib.hid q2; clear q2
      have Q3 := Lib.hid q3; clear q3
      have Q4 := Lib.hid q4; clear q4
      have Q5 := Lib.hid q5; clear q5
      clear nn
      go_wp2_with (first
        | (go_at_call 14; refine (Q1.out).mono ?_; rintro e w' ⟨rfl, rfl⟩)
        | (go_at_call 16; refine (Q2.out).mono ?_; rintro e w' ⟨rfl, rfl⟩)
        | (go_at_call 23; refine (Q3.out).mono ?_; rintro e w' ⟨rfl, rfl⟩)
        | (go_at_call 24; refine (Q4.out).mono ?_; rintro e w' ⟨rfl, rfl⟩)
        | (go_at_call 22; refine (Q5.out).mono ?_; rintro e w5 ⟨rfl, hb⟩; have HB5 := Lib.hid (HBW.out.trans (hb.mono HBW.out.size)); clear hb)
        | (go_at_call 21; refine (SM.out _).mono ?_; rintro e w6 ⟨rfl, hb⟩; have HB6 := Lib.hid (HB5.out.trans (hb.mono HB5.out.size)); clear hb))
      go_roundw
      case rel => exact ⟨.inr (.inl rfl), HB6.out⟩
      case measure => simp [intOf]
    · have nn : NoStore (wr.alloc (.cells #[.pointer none] 70)) (ptr wr.heap.size) := .inr ⟨_, rfl, Blk.new wr _ _⟩
      have q1 := sDo_none _ _ none 0 0 nn
      have q2 := sTurn_none _ _ nn
      have q3 := sGen_none _ _ nn
      have q4 := sBroken_none _ _ nn
      have q5 := sState_none _ _ nn
      simp only [stV, zeroS] at q5
      have Q1 := Lib.hid q1; clear q1
      have Q2 := Lib.hid q2; clear q2
      have Q3 := Lib.hid q3; clear q3
      have Q4 := Lib.hid q4; clear q4
      have Q5 := Lib.hid q5; clear q5
      clear nn
      go_wp2_with (first
        | (go_at_call 14; refine (Q1.out).mono ?_; rintro e w' ⟨rfl, rfl⟩)
        | (go_at_call 16; refine (Q2.out).mono ?_; rintro e w' ⟨rfl, rfl⟩)
        | (go_at_call 23; refine (Q3.out).mono ?_; rintro e w' ⟨rfl, rfl⟩)
        | (go_at_call 24; refine (Q4.out).mono ?_; rintro e w' ⟨rfl, rfl⟩)
        | (go_at_call 22; refine (Q5.out).mono ?_; rintro e w5 ⟨rfl, hb⟩; have HB5 := Lib.hid ((Chg.low1 HBW.out (.cells #[.pointer none] 70)).trans (hb.mono (Chg.low1 HBW.out (.cells #[.pointer none] 70)).size)); clear hb)
        | (go_at_call 21; refine (SM.out _).mono ?_; rintro e w6 ⟨rfl, hb⟩; have HB6 := Lib.hid (HB5.out.trans (hb.mono HB5.out.size)); clear hb))
      go_roundw
      case rel => exact ⟨.inr (.inr rfl), HB6.out⟩
      case measure => simp [intOf]
    · go_wp2_with (go_at_call 7; refine (AW.out _).mono ?_; rintro e w2 ⟨rfl, hb⟩; have HB2 := Lib.hid (HBW.out.trans (hb.mono HBW.out.size)); clear hb)
      go_ret
      exact ⟨rfl, HB2.out⟩
theorem walk (a0 : Int) (w : World) (w0 : (Lit.int .i64 a0).wf = true) :
    Calls Tryz.prog 5 #[.int .i64 a0] w fun e w' => e = .returned (.bool true) ∧ Below w.heap.size w w' := by
  by_cases h1 : a0 < 1
  · exact walk_low a0 w h1
  by_cases h2 : 1024 < a0
  · exact walk_high a0 w h2
  by_cases h3 : 60 < a0
  · exact walk_mid a0 w h3 (by omega)
  obtain ⟨n, rfl⟩ : ∃ n : Nat, a0 = n := ⟨a0.toNat, by omega⟩
  by_cases h4 : n < 6
  · exact walk_small n w (by omega) h4
  · exact walk_yes n w (by omega) (by omega)
open Go.ChangeShapes Go.WideShapes Go.ChangeAt Go.RowKit
theorem own : ownKnob Tryz.prog.godebug = none := by kernel_rfl
/-! the step from the walk to the row -/
set_option maxRecDepth 100000 in
theorem lifted (os : Os) (started : os.Started) (H : Type) (enc : TypeId × Value → H) :
    ReturnsInHanded {} Tryz.checked os 5 .any (Rows.storeNobodySpec.pre6 enc Tryz.prog Tryz.f5 Rows.storeNobodyRow.domain false) (Rows.storeNobodySpec.post enc Tryz.prog Tryz.f5 false true false false) := by
  refine returnsInHanded_of_change (C := Tryz.checked) own started (by kernel_rfl) Tryz.func5
    (ChangeSpec.witness6 (enc := enc) (C := Tryz.checked) false ⟨#[], #[.int .i64 0], []⟩ 8 (by kernel_rfl) (by kernel_rfl) (by kernel_rfl) (by kernel_rfl)) ?_
  intro W base args ds gs before hval0 hW hcnd _
  have hval : ∀ (j : Nat) t v, Tryz.f5.params[j]? = some t → args[j]? = some v → Value.okWide Tryz.prog W .any base t v := hval0
  have hW' := hW
  obtain ⟨p, q, hA0, hV, rfl, hfz, hnd⟩ := hW
  have hA : DataW.TrodAll enc Tryz.prog W 0 (fun _ => true) true Tryz.f5.params.toList args.toList ds p := hA0
  rw [Tryz.params5] at hA hval
  obtain ⟨v0, vs0, d0, ds0, p0, q0, hargs, rfl, rfl, h0, r0⟩ := trodAll_cons hA
  obtain ⟨rfl, rfl, rfl⟩ := trodAll_nil r0
  obtain rfl : args = #[v0] := by cases args; simp_all
  obtain ⟨rfl, rfl⟩ := trodVars_none hV
  obtain ⟨a0, rfl, rfl, rfl, w0⟩ := open_int Tryz.underlying3 (hval 0 3 v0 rfl rfl) h0
  clear hA0 hval0
  refine (walk a0 W w0).mono fun e W' ⟨he, bel⟩ => ?_
  subst he
  exact ⟨_, rfl, _, _, _, [], _, [], hW', trodAll_mk1 (shut_bool Tryz.underlying4 _), (trodAll_cons_mk (shut_int Tryz.underlying3 w0) trodAll_mk0), rfl, bel.frame _, fun h => by cases h⟩

theorem over : Rows.storeNobodyRow.holds Tryz.pinned (OpenSpec.ofChange Rows.storeNobodySpec) :=
  OpenClaim.holds_of_wide 5 Tryz.f5 rfl rfl rfl rfl rfl rfl rfl ⟨rfl, rfl, rfl, rfl, rfl⟩ rfl rfl rfl rfl rfl (by kernel_rfl) Tryz.func5 (by kernel_rfl)
    (of_decide_eq_true (by kernel_rfl)) (by unfold Func.isWrapper; first | (rw [if_pos (by decide +kernel)]; kernel_rfl) | (rw [if_neg (by decide +kernel)]; exact ⟨rfl, rfl⟩))
    (fun os started H enc _ => lifted os started H enc)

/-- the statement -/
theorem proved : Rows.StoreNobodySaid := over
end Go.Proofs.YtplpmemlaohlaaaGreat.storeNobody
