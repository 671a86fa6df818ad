/- The law's own helper of layer 3: Like. -/
import Derived.Test.YtpmkacpdmjnbjaaDoW
import Derived.Test.YtpmkacpdmjnbjaaSame
namespace Go.Proofs.Ytpmkacpdmjnbjaa.Dsk
open Go.RowKit Go.Maps Go.Shelf Go.Proofs.Ytpmkacpdmjnbjaa.Mem
set_option linter.unusedVariables false
set_option linter.unusedSimpArgs false
set_option maxRecDepth 20000 in
set_option maxHeartbeats 4000000 in
theorem like_any (g bs bw : Nat) (S : List Nat) (s : St) (v : Value) (w : World) (hd : DiskAt w g bs bw s) (hr : RefAt w S v s) :
    Calls Try.prog 15 #[ptr g, v] w fun e w' => e = .returned (.bool true) ∧ Below w.heap.size w w' := by
  obtain ⟨A1, A2, c1, c2, rfl⟩ := ref_form hr
  have hg := hd.good
  have hn1 := hg.2.1
  have cD := fun (W : World) (hW : Below w.heap.size w W) => dead_any g bs bw s W (hd.below hW)
  have cS := fun (W : World) (hW : Below w.heap.size w W) => size_any g bs bw s W (hd.below hW)
  have cW := fun (W : World) (hW : Below w.heap.size w W) => waits_any g bs bw s W (hd.below hW)
  have cV := fun (W : World) (hW : Below w.heap.size w W) => ref_waiting S _ s W hg (hr.below hW)
  have cR := fun (W : World) (i : Nat) (hi : i < s.n) (hW : Below w.heap.size w W) => read_any g bs bw s i W (hd.below hW)
  have cG := fun (W : World) (i : Nat) (hi : i < s.n) (hW : Below w.heap.size w W) => ref_get S _ s i W hg (hr.below hW) hi
  have hrd : ∀ i : Nat, i < s.n → s.read i = if s.dead = true then ([], 7) else (s.get i, 0) := by
    intro i hi
    unfold St.read
    split
    · rfl
    · rw [if_pos ⟨by omega, by omega⟩, Int.toNat_natCast]
  obtain ⟨m, hm⟩ : ∃ m, m = s.waiting.length := ⟨_, rfl⟩
  rw [← hm] at cW cV
  have hm1 : m ≤ 1024 := by
    have h1 := wt_le s s.n
    have h3 : (wt s s.n).length = s.waiting.length := rfl
    omega
  have CD := Lib.hid cD; clear cD
  have CS := Lib.hid cS; clear cS
  have CW := Lib.hid cW; clear cW
  have CR := Lib.hid cR; clear cR
  have HRD := Lib.hid hrd; clear hrd
  have HM := Lib.hid hm; clear hm
  have CV := Lib.hid cV; clear cV
  have CG := Lib.hid cG; clear cG
  clear hd hr hg
  unfold refV at CV CG ⊢
  generalize s.n = n at *
  generalize armedOf s.left = ar at *
  have hbb : (s.dead != s.dead) = false := by simp
  have hnn : ((n : Int) != (n : Int)) = false := by simp
  have hmm : ((m : Int) != (m : Int)) = false := by simp
  generalize hdd : s.dead = dd at *
  clear hdd
  have hb0 : Below w.heap.size w (w.alloc (dcells A1 A2 n n c1 c2 ar dd)) := (Below.refl _ w).alloc (Nat.le_refl _) _
  have k0 : Blk (w.alloc (dcells A1 A2 n n c1 c2 ar dd)) w.heap.size 31 #[.slice A1 n c1, .slice A2 n c2, .int .i64 ar, .bool dd] := Blk.new _ _ _
  have HB0 := Lib.hid hb0; clear hb0
  have K0 := Lib.hid k0; clear k0
  go_enter Try.func15, Try.ntmps15
  go_wp2
  generalize w.alloc (dcells A1 A2 n n c1 c2 ar dd) = w1 at *
  have a0 := K0.out.cell 0
  have a1 := K0.out.cell 1
  have a2 := K0.out.cell 2
  have a3 := K0.out.cell 3
  have l0 := K0.out.lt
  simp at a0 a1 a2 a3
  go_quiet (first
    | (go_at_call 24; exact quiet_left (CD.out _ (below_drewN HB0.out _)))
    | (go_at_call 27; exact quiet_left (CS.out _ (below_drewN HB0.out _))))
  go_wp2
  generalize hq : World.drewN w1 _ = w2
  have HB2 := Lib.hid (show Below w.heap.size w w2 by rw [← hq]; exact below_drewN HB0.out _)
  have K2 := Lib.hid (show Blk w2 w.heap.size 31 #[.slice A1 n c1, .slice A2 n c2, .int .i64 ar, .bool dd] by rw [← hq]; exact K0.out.drewN _)
  clear hq a0 a1 a2 a3 l0
  have a0 := K2.out.cell 0
  have a1 := K2.out.cell 1
  have a2 := K2.out.cell 2
  have a3 := K2.out.cell 3
  have l0 := K2.out.lt
  simp at a0 a1 a2 a3
  go_region_held3 (fun W => W.cell? ⟨w.heap.size, 0, none⟩ = some (.slice A1 n c1) ∧ W.cell? ⟨w.heap.size, 1, none⟩ = some (.slice A2 n c2) ∧ W.cell? ⟨w.heap.size, 2, none⟩ = some (.int .i64 ar) ∧ W.cell? ⟨w.heap.size, 3, none⟩ = some (.bool dd))
    (first
      | with_reducible exact ⟨a0, a1, a2, a3⟩
      | with_reducible exact ⟨e0, e1, e2, e3⟩
      | with_reducible exact ⟨f0, f1, f2, f3⟩
      | go_keep)
    (first
      | (go_at_call 23; refine (CW.out _ (by exact HB2.out.drew)).mono ?_; rintro e w3 ⟨v3, rfl, hrow, hb⟩; have hb : Below w2.heap.size w2 w3 := ⟨hb.os, hb.tape, hb.output, hb.size, hb.block⟩; obtain ⟨A3, c3, rfl, h3⟩ := own_ints hrow HM.out.symm; have k3 := K2.out.below hb l0; have e0 := k3.cell 0; have e1 := k3.cell 1; have e2 := k3.cell 2; have e3 := k3.cell 3; have e4 := k3.lt; simp at e0 e1 e2 e3; have K3 := Lib.hid k3; clear k3; have HB3 := Lib.hid (HB2.out.trans (hb.mono HB2.out.size)); have H3 := Lib.hid h3; clear h3 hrow hb)
      | (go_at_call 40; refine (CV.out _ HB3.out).mono ?_; rintro e w4 ⟨v4, rfl, hrow, hb⟩; obtain ⟨A4, c4, rfl, h4⟩ := own_ints hrow HM.out.symm; have k4 := K3.out.below hb e4; have f0 := k4.cell 0; have f1 := k4.cell 1; have f2 := k4.cell 2; have f3 := k4.cell 3; have f4 := k4.lt; simp at f0 f1 f2 f3; have K4 := Lib.hid k4; clear k4; have HB4 := Lib.hid (HB3.out.trans (hb.mono HB3.out.size)); have H4 := Lib.hid h4; have HB34 := Lib.hid hb; clear h4 hrow hb))
  go_wp2
  go_loopw [7] (fun i wr => (∃ k : Nat, k ≤ m ∧ i = .int .i64 k) ∧ ∃ q, wr = w4.drewN q) (fun i _ => m - (intOf i).toNat)
  case atStart => exact ⟨⟨0, Nat.zero_le _, rfl⟩, 0, rfl⟩
  case round =>
    obtain ⟨⟨k, hk, rfl⟩, q, rfl⟩ := hrel
    by_cases hlt : k < m
    · obtain ⟨b3, rfl, _, hb3, hc3⟩ := H3.out (by omega)
      obtain ⟨b4, rfl, _, hb4, hc4⟩ := H4.out (by omega)
      have g3 := (HB34.out.cell (p := ⟨b3, k, none⟩) hb3).trans (hc3 k hlt)
      have g4 := hc4 k hlt
      have hb3' : b3 < w4.heap.size := Nat.lt_of_lt_of_le hb3 HB34.out.size
      clear hc3 hc4
      generalize s.waiting.getD k 0 = x at g3 g4
      have hxx : ((x : Int) != (x : Int)) = false := by simp
      go_wp2
      go_quiet (fail)
      go_wp2
      go_roundw
      case rel => exact ⟨⟨k + 1, by omega, by go_num⟩, _, rfl⟩
      case measure => simp [intOf]; omega
    · have hkm : k = m := by omega
      subst hkm
      clear hlt hk
      generalize hq : World.drewN w4 q = w5
      have HB5 := Lib.hid (show Below w.heap.size w w5 by rw [← hq]; exact below_drewN HB4.out _)
      have K5 := Lib.hid (show Blk w5 w.heap.size 31 #[.slice A1 n c1, .slice A2 n c2, .int .i64 ar, .bool dd] by rw [← hq]; exact K4.out.drewN _)
      clear hq a0 a1 a2 a3 l0 e0 e1 e2 e3 e4 f0 f1 f2 f3 f4
      go_wp2
      go_loopw [8] (fun i wr => ∃ k : Nat, k ≤ n ∧ i = .int .i64 k ∧ Below w5.heap.size w5 wr) (fun i _ => n - (intOf i).toNat)
      case atStart => exact ⟨0, Nat.zero_le _, rfl, Below.refl _ _⟩
      case round =>
        obtain ⟨j, hj, rfl, hbel⟩ := hrel
        have k6 := K5.out.below hbel K5.out.lt
        have a0 := k6.cell 0
        have a1 := k6.cell 1
        have a2 := k6.cell 2
        have a3 := k6.cell 3
        have l0 := k6.lt
        simp at a0 a1 a2 a3
        have K6 := Lib.hid k6; clear k6
        have HB6 := Lib.hid (HB5.out.trans (hbel.mono HB5.out.size))
        have HBL := Lib.hid hbel; clear hbel
        by_cases hlt : j < n
        · have cr := CR.out wr j hlt HB6.out
          have hr := HRD.out j hlt
          rw [hr] at cr
          clear hr
          cases dd with
          | true =>
            rw [if_pos rfl] at cr
            have RR := Lib.hid cr; clear cr
            go_wp2_with (go_at_call 16; refine (RR.out).mono ?_; rintro e w7 ⟨v7, rfl, hs, hb⟩; obtain ⟨A7, c7, rfl, _⟩ := hs.len; have k7 := K6.out.below hb l0; have b0 := k7.cell 0; have b1 := k7.cell 1; have b2 := k7.cell 2; have b3 := k7.cell 3; have b4 := k7.lt; simp at b0 b1 b2 b3; clear k7 hs; have HB7 := Lib.hid (HBL.out.trans (hb.mono HBL.out.size)); clear hb)
            go_roundw
            case rel => exact ⟨j + 1, by omega, by go_num, HB7.out⟩
            case measure => simp [intOf]; omega
          | false =>
            rw [if_neg (by simp)] at cr
            have RR := Lib.hid cr; clear cr
            go_wp2_with (first
              | (go_at_call 16; refine (RR.out).mono ?_; rintro e w7 ⟨v7, rfl, hs, hb⟩; obtain ⟨A7, n7, c7, rfl, hbt, _⟩ := hs; have k7 := K6.out.below hb l0; have b0 := k7.cell 0; have b1 := k7.cell 1; have b2 := k7.cell 2; have b3 := k7.cell 3; have b4 := k7.lt; simp at b0 b1 b2 b3; clear k7; have HBT := Lib.hid hbt; clear hbt; have GG := Lib.hid (CG.out w7 j hlt (HB6.out.trans (hb.mono HB6.out.size))); have HB7 := Lib.hid (HBL.out.trans (hb.mono HBL.out.size)); clear hb)
              | (go_at_call 41; refine (GG.out).mono ?_; rintro e w8 ⟨u8, rfl, hs, hb⟩; obtain ⟨A8, n8, c8, rfl, hbt8, _⟩ := (hs.sl.below hb (Nat.le_refl _)); have sm := rsame_any A7 A8 n7 n8 c7 c8 _ _ _ _ w8 (HBT.out.below hb (Nat.le_refl _)) hbt8; rw [decide_eq_true rfl] at sm; have SM := Lib.hid sm; clear sm hbt8 hs; have HB8 := Lib.hid (HB7.out.trans (hb.mono HB7.out.size)); clear hb)
              | (go_at_call 21; refine (SM.out).mono ?_; rintro e w9 ⟨rfl, q9, rfl⟩; have HB9 := Lib.hid (below_drewN HB8.out q9)))
            go_roundw
            case rel => exact ⟨j + 1, by omega, by go_num, HB9.out⟩
            case measure => simp [intOf]; omega
        · have hjn : j = n := by omega
          subst hjn
          go_wp2
          go_ret
          exact ⟨rfl, HB6.out⟩
end Go.Proofs.Ytpmkacpdmjnbjaa.Dsk
