/- WalKeeps: behind a crash at any act whose tears the check tells, all that was committed is there, and its base; and what was refused is there in whole, or not at all. For every acts. -/
import Derived.Test.YtkchocafnidfiaaGreatWalAllC
import Derived.Below
import Derived.ChangeOld
import Derived.Deep.Cut
import Derived.Deep.CutBlock
import Derived.Deep.CutRange
import Derived.IntWalk
import Derived.OpenShut
import Derived.ProofKit
import Derived.ShutString
import Derived.WalkKit
namespace Go.Proofs.YtkchocafnidfiaaGreat.walKeeps
open Go.RowKit Go.Maps Go.Proofs.YtkchocafnidfiaaGreat.Mem Go.Proofs.YtkchocafnidfiaaGreat.Pg Go.Proofs.YtkchocafnidfiaaGreat.Rcd Go.Proofs.YtkchocafnidfiaaGreat.Slt Go.Proofs.YtkchocafnidfiaaGreat.Wl
open Go.Proofs.YtkchocafnidfiaaGreat.Dsk (KeptBut SMap DiskAt St ptr kept_of_below kept_of_grown kept_drew IsSec NoneAt TearsAt TearR TearsR)
open Go.Proofs.YtkchocafnidfiaaGreat.Plt (sl)
set_option linter.unusedVariables false
set_option linter.unusedSimpArgs false
theorem tmod9 (n : Int) : -9 < Int.tmod n 9 ∧ Int.tmod n 9 < 9 := by
  rcases Int.le_total 0 n with h | h
  · rw [Int.tmod_eq_emod_of_nonneg h]; omega
  · have := Int.neg_tmod n 9
    have e := Int.tmod_eq_emod_of_nonneg (a := -n) (b := 9) (by omega)
    omega
theorem infoS : (Tryz.prog.info? 31).map (fun i => (i.zero, i.size, i.bytes)) = some (some (.slice none 0 0), 1, 24) := by kernel_rfl
theorem low_drewN {w w' : World} {m : Nat} (h : w' = w.drewN m) : Below w.heap.size w w' := h ▸ below_drewN (Below.refl _ _) m
theorem meas {k n : Nat} (h : k < n) : n - (intOf (Value.int IntKind.i64 ((k : Int) + 1))).toNat < n - (intOf (Value.int IntKind.i64 (k : Int))).toNat := by
  simp [intOf]
  omega
theorem kp_calm {k : Nat} {s s' : St} {G mk : Int} {e : Nat} {base : List Nat} {recs : List (List Nat)} (h : KP k s G mk e base recs) (hc : Crashed s s') : (∃ (G' : Int) (e' : Nat), Ready s' (sl 30) (lg 30) G' (openMark s') e' base recs) ∧ openMark s' ≤ ((k + 1 : Nat) : Int) + 1 := by
  obtain ⟨h1, h2⟩ := crash_calm h.ready hc h.m0
  have := h.m1
  exact ⟨⟨_, _, h1⟩, by omega⟩
theorem om_cast {k : Nat} {z : Int} (h : z ≤ (k : Int) + 2) : z ≤ ((k + 1 : Nat) : Int) + 1 := by omega
theorem om_le {k n : Nat} {z : Int} (h1 : n ≤ 25) (h2 : k < n) (h : z ≤ ((k + 1 : Nat) : Int) + 1) : z ≤ 2147483648 := by omega
theorem app_ne (l : List (List Nat)) (b : List Nat) : ¬ l ++ [b] = l := fun e => by
  have := congrArg List.length e
  simp at this
theorem below_drew2 {w w' : World} {a b : Nat} (h : Below ((w.drewN a).drewN b).drew.heap.size ((w.drewN a).drewN b).drew w') : Below w.heap.size w w' := ⟨h.os, h.tape, h.output, h.size, h.block⟩
theorem below_drew1 {w w' : World} {a : Nat} (h : Below (w.drewN a).drew.heap.size (w.drewN a).drew w') : Below w.heap.size w w' := ⟨h.os, h.tape, h.output, h.size, h.block⟩
theorem few3 {l : List (List Nat)} (h : l.length ≤ 1000) : ([] : List (List Nat)).length + l.length ≤ 3000 := by simp; omega
theorem few4 {l : List (List Nat)} {b : List Nat} (h : l.length ≤ 1000) : l.length + [b].length ≤ 3000 := by simp; omega
theorem form_n {w : World} {base n : Nat} {v : Value} {ss : List (List Nat)} (hn : n = ss.length) (h : SlRow w base v ss) : ∃ A c, v = .slice A n c := by
  obtain ⟨A, c, e⟩ := slRow_form h
  exact ⟨A, c, by rw [e, hn]⟩
theorem low_drewN_at {w w' : World} {B m : Nat} (h : w' = w.drewN m) : Below B w w' := h ▸ below_drewN (Below.refl _ _) m
theorem om0 (s : St) : 0 ≤ openMark s := by
  have := mark_bounds ((List.range s.n).map s.get)
  unfold openMark
  omega
set_option maxRecDepth 20000 in
set_option maxHeartbeats 32000000 in
theorem walk (a0 : Option Addr) (len1 cap1 : Nat) (w : World) (w1 : IsRecs w a0 len1 cap1 4 (Act8R w)) :
    Calls Tryz.prog 4 #[.slice a0 len1 cap1] w fun e w' => e = .returned (.bool true) ∧ Below w.heap.size w w' := by
  have h := light8_any a0 len1 cap1 w w1
  have W1 := Lib.hid w1; clear w1
  have nw := fun (W : World) => Dsk.new_ok 30 W (by omega) (by omega)
  have e30' : ((30 : Nat) : Int) = 30 := rfl
  rewrite [e30'] at nw
  have NW := Lib.hid nw; clear nw
  have H := Lib.hid h; clear h
  have AW := Lib.hid (fun (W : World) => awake8_any W)
  obtain ⟨i0, hi, hz0, hz1, hz2⟩ := info_parts infoS
  have HI := Lib.hid hi; clear hi
  have HZ0 := Lib.hid hz0; clear hz0
  have HZ1 := Lib.hid hz1; clear hz1
  have HZ2 := Lib.hid hz2; clear hz2
  go_enter Tryz.func4, Tryz.ntmps4
  go_wp2_with (go_at_call 6; refine (H.out).mono ?_; rintro e w1 ⟨t, rfl, hb, ht⟩; have HB1 := Lib.hid hb; have HFT := Lib.hid ht; clear hb ht; cases t)
  · go_wp2_with (go_at_call 7; refine (AW.out _).mono ?_; rintro e w2 ⟨rfl, hb⟩; have HB2 := Lib.hid (HB1.out.trans (hb.mono HB1.out.size)); clear hb)
    go_ret
    exact ⟨rfl, HB2.out⟩
  have hfit : len1 ≤ 25 ∧ Fits8 w a0 len1 := by first | exact HFT.out rfl | exact HFT.out trivial
  obtain ⟨hl25, hf8⟩ := hfit
  obtain ⟨l, hA⟩ := acts8_of W1.out hf8
  have HA := Lib.hid hA; clear hA hf8
  go_wp2_with (first
    | (go_at_call 8; refine (NW.out _).mono ?_; rintro e w2 ⟨g, bs, bw, rfl, hd, hb, hge⟩; have HD2 := Lib.hid hd; have HB2 := Lib.hid (HB1.out.trans (hb.mono HB1.out.size)); have HGE := Lib.hid (show ∀ y ∈ [g, bs, bw], w.heap.size ≤ y from (fun y hy => Nat.le_trans HB1.out.size (hge y hy))); clear hd hb hge)
    | (go_at_call 10; refine (fresh_km HB2.out HD2.out HGE.out).mono ?_; rintro e w3 ⟨x, A, n, c, A2, n2, c2, s1, rfl, hkm, hkp⟩; have HK3 := Lib.hid hkm; have HP3 := Lib.hid hkp; clear hkm hkp))
  go_loopw [5, 9, 10, 11] (fun z5 z9 z10 i wr => ∃ k : Nat, k ≤ len1 ∧ i = .int .i64 k ∧ Holds w wr g bs bw k z5 z9 z10) (fun _ _ _ i _ => len1 - (intOf i).toNat)
  case atStart => exact ⟨0, Nat.zero_le _, rfl, x, _, _, _, s1, 1, 1, 0, [], [], rfl, rfl, HK3.out.fresh, HP3.out⟩
  case round =>
    obtain ⟨k, hk, rfl, x, A, n, c, s, G, mk, e, base, recs, rfl, rfl, hkm, hkp⟩ := hrel
    have HKM := Lib.hid hkm; clear hkm
    have HP := Lib.hid hkp; clear hkp
    obtain ⟨Az, nz, cz, rfl, hzl, _⟩ := id (slRow_sls HKM.out.2.2.2.2.1)
    have HZL := Lib.hid hzl; clear hzl
    by_cases hlt : k < len1
    · obtain ⟨b, off, ac, At, nt, ct, e0, hb, hac, c0, c1, c2, c3, ht, hb256, hn0, hn1⟩ := acts8_at HA.out (Below.refl w.heap.size w) hlt
      subst e0
      have hlow := HKM.out.1
      replace c0 := (hlow.cell (p := ⟨b, off + k * 4, none⟩) hb).trans c0
      replace c1 := (hlow.cell (p := ⟨b, off + k * 4 + 1, none⟩) hb).trans c1
      replace c2 := (hlow.cell (p := ⟨b, off + k * 4 + 2, none⟩) hb).trans c2
      replace c3 := (hlow.cell (p := ⟨b, off + k * 4 + 3, none⟩) hb).trans c3
      have hbz : b < wr.heap.size := Nat.lt_of_lt_of_le hb hlow.size
      have HTT := Lib.hid ht; clear ht hac hlow
      obtain ⟨wh, nn, bb, ts⟩ := ac
      simp only at c0 c1 c2 c3 HTT hb256 hn0 hn1
      have HY0 := Lib.hid (HKM.out.made #[.int .i64 wh, .int .i64 nn, .int .u8 (bb : Nat), .slice At nt ct])
      obtain ⟨y0, y1, y2, y3, yz⟩ := HY0.out.cells
      have hlen := bytesOf_len nn bb
      have hm3 := bytesN_lt nn
      have BY := Lib.hid (fun (W : World) => bytes_any wh nn bb At nt ct W hb256)
      obtain ⟨nn1, nn2⟩ := tmod9 nn
      have hok := HP.out.ok (by omega : k ≤ 25)
      have HOK := Lib.hid hok; clear hok
      have hs30 := HP.out.n
      generalize bytesOf nn bb = L at *
      generalize bytesN nn = m at *
      go_upto_block 2 with fail
      go_cut [9, 10, 13, 14, 15, 16] from 51 to 180 (fun z9 z10 z13 z14 z15 z16 wx => Mid w wx g bs bw x wr.heap.size k wh #[.int .i64 wh, .int .i64 nn, .int .u8 (bb : Nat), .slice At nt ct] L z9 z10 z13 z14)
      case first =>
        by_cases w0 : wh = 0
        · subst w0
          have cr := commit_ready (b := L) HP.out.ready (by omega) HP.out.m0 (by have := HP.out.m1; omega) (by unfold lg; omega)
          obtain ⟨y, hy⟩ : ∃ y, y = wr.heap.size := ⟨_, rfl⟩
          obtain ⟨cs, hcs⟩ : ∃ cs : Array Value, cs = #[.int .i64 0, .int .i64 nn, .int .u8 (bb : Nat), .slice At nt ct] := ⟨_, rfl⟩
          rcases cr with ⟨_, q1⟩ | ⟨s1, q1, q2, q3, _⟩ | ⟨s1, q1, q2, q3, _, q4⟩
          · as_aux_lemma =>
              have CM := Lib.hid (fun (W : World) (A1 : Option Addr) (c1 : Nat) (hY : KY w W g bs bw s x ⟨G, mk, e, false⟩ A n base (.slice Az nz cz) recs y cs) (hS : Sl W W.heap.size (.slice A1 m c1) L) => by have h := ky_commit HGE.out hY hs30 HOK.out hS hlen (by omega); rewrite [q1] at h; simp only at h; exact h); clear q1; rewrite [hy, hcs] at CM; clear hy hcs
              go_wp2_with (first
                | (go_at_call 14; refine (BY.out _).mono ?_; rintro e w5 ⟨A5, c5, rfl, hs, hb⟩; have HS5 := Lib.hid hs; have HY5 := Lib.hid (HY0.out.up hb); clear hs hb; obtain ⟨y0, y1, y2, y3, yz⟩ := HY5.out.cells)
                | (go_at_call 15; refine (CM.out _ A5 c5 HY5.out HS5.out).mono ?_; rintro e w6 ⟨rfl, h⟩; have HY6 := Lib.hid h; clear h; clear y0 y1 y2 y3 yz; obtain ⟨y0, y1, y2, y3, yz⟩ := HY6.out.cells))
              go_meet
              case rel => exact mid_calm HY6.out HP.out
          · as_aux_lemma =>
              have CM := Lib.hid (fun (W : World) (A1 : Option Addr) (c1 : Nat) (hY : KY w W g bs bw s x ⟨G, mk, e, false⟩ A n base (.slice Az nz cz) recs y cs) (hS : Sl W W.heap.size (.slice A1 m c1) L) => by have h := ky_commit HGE.out hY hs30 HOK.out hS hlen (by omega); rewrite [q1] at h; simp only at h; exact h); clear q1; rewrite [hy, hcs] at CM; clear hy hcs
              have HFW := HP.out.few
              go_wp2_with (first
                | (at_builtin; refine wpList_append_n _ rfl (.tmp 71) (.tmp 74) 32 rfl w.heap.size 31 i0 (.slice none 0 0) 1 24 Tryz.underlying32 HI.out HZ0.out HZ1.out HZ2.out rfl (by decide) zSl_nob (.slice Az nz cz) recs.length vs rfl ?own (w7.heap.size + 1) (some ⟨w7.heap.size, 0, none⟩) 1 1 [.slice A7 m c7] ?hx ?hr (by simp [Value.oneCell']) (by intro u hu; rw [List.mem_singleton.1 hu]; rfl) ?h63 ?hby ?hbase ?_; (case own => exact HOW.out.below (palloc (Below.refl _ _) _)); (case hx => first | rfl | simp [Act.eval]); (case hr => exact reads_slice _ _ _ rfl); (case h63 => (unfold maxLen; omega)); (case hby => omega); (case hbase => (have := HY7.out.low.size; simp; omega)); intro v8 w8 hown8 hg8 _; have HY8 := Lib.hid (ky_push HY7.out HS7.out HVL.out HOW.out HVS.out hown8 hg8); clear hown8 hg8; clear y0 y1 y2 y3 yz; obtain ⟨y0, y1, y2, y3, yz⟩ := HY8.out.cells)
                | (go_at_call 14; refine (BY.out _).mono ?_; rintro e w7 ⟨A7, c7, rfl, hs, hb⟩; have HS7 := Lib.hid hs; have HY7 := Lib.hid (HY6.out.up hb); clear hs hb; obtain ⟨y0, y1, y2, y3, yz⟩ := HY7.out.cells; obtain ⟨vs, hvl, hown, hvs⟩ := HY7.out.row; have HVL := Lib.hid hvl; have HOW := Lib.hid hown; have HVS := Lib.hid hvs; clear hvl hown hvs)
                | (go_at_call 15; refine (CM.out _ A5 c5 HY5.out HS5.out).mono ?_; rintro e w6 ⟨rfl, h⟩; have HY6 := Lib.hid h; clear h; clear y0 y1 y2 y3 yz; obtain ⟨y0, y1, y2, y3, yz⟩ := HY6.out.cells)
                | (go_at_call 14; refine (BY.out _).mono ?_; rintro e w5 ⟨A5, c5, rfl, hs, hb⟩; have HS5 := Lib.hid hs; have HY5 := Lib.hid (HY0.out.up hb); clear hs hb; obtain ⟨y0, y1, y2, y3, yz⟩ := HY5.out.cells))
              go_meet
              case rel => exact mid_calm HY8.out ⟨q3.trans HP.out.n, HP.out.m0, HP.out.m1, q2⟩
          · as_aux_lemma =>
              have CM := Lib.hid (fun (W : World) (A1 : Option Addr) (c1 : Nat) (hY : KY w W g bs bw s x ⟨G, mk, e, false⟩ A n base (.slice Az nz cz) recs y cs) (hS : Sl W W.heap.size (.slice A1 m c1) L) => by have h := ky_commit HGE.out hY hs30 HOK.out hS hlen (by omega); rewrite [q1] at h; simp only at h; exact h); clear q1; rewrite [hy, hcs] at CM; clear hy hcs
              go_wp2_with (first
                | (go_at_call 14; refine (BY.out _).mono ?_; rintro e w5 ⟨A5, c5, rfl, hs, hb⟩; have HS5 := Lib.hid hs; have HY5 := Lib.hid (HY0.out.up hb); clear hs hb; obtain ⟨y0, y1, y2, y3, yz⟩ := HY5.out.cells)
                | (go_at_call 15; refine (CM.out _ A5 c5 HY5.out HS5.out).mono ?_; rintro e w6 ⟨rfl, h⟩; have HY6 := Lib.hid h; clear h; clear y0 y1 y2 y3 yz; obtain ⟨y0, y1, y2, y3, yz⟩ := HY6.out.cells))
              go_meet
              case rel => exact mid_commit HY6.out HP.out rfl q2 q3 q4
        have b0 : (wh == 0) = false := beq_false_of_ne w0
        by_cases w1 : wh = 1
        · subst w1
          have cr := turn_ready (b := L) HP.out.ready (by omega) HP.out.m0 (by have := HP.out.m1; omega)
          obtain ⟨y, hy⟩ : ∃ y, y = wr.heap.size := ⟨_, rfl⟩
          obtain ⟨cs, hcs⟩ : ∃ cs : Array Value, cs = #[.int .i64 1, .int .i64 nn, .int .u8 (bb : Nat), .slice At nt ct] := ⟨_, rfl⟩
          rcases cr with ⟨er, hq, q1⟩ | ⟨s1, q1, q2, q3, _⟩ | ⟨s1, q1, q2, q3, _, q4⟩
          · rcases hq with rfl | rfl
            · as_aux_lemma =>
                have CM := Lib.hid (fun (W : World) (A1 : Option Addr) (c1 : Nat) (hY : KY w W g bs bw s x ⟨G, mk, e, false⟩ A n base (.slice Az nz cz) recs y cs) (hS : Sl W W.heap.size (.slice A1 m c1) L) => by have h := ky_turn HGE.out hY hs30 HOK.out hS hlen (by omega); rewrite [q1] at h; simp only at h; exact h); clear q1; rewrite [hy, hcs] at CM; clear hy hcs
                go_wp2_with (first
                  | (go_at_call 14; refine (BY.out _).mono ?_; rintro e w5 ⟨A5, c5, rfl, hs, hb⟩; have HS5 := Lib.hid hs; have HY5 := Lib.hid (HY0.out.up hb); clear hs hb; obtain ⟨y0, y1, y2, y3, yz⟩ := HY5.out.cells)
                  | (go_at_call 17; refine (CM.out _ A5 c5 HY5.out HS5.out).mono ?_; rintro e w6 ⟨rfl, h⟩; have HY6 := Lib.hid h; clear h; clear y0 y1 y2 y3 yz; obtain ⟨y0, y1, y2, y3, yz⟩ := HY6.out.cells))
                go_meet
                case rel => exact mid_calm HY6.out HP.out
            · as_aux_lemma =>
                have CM := Lib.hid (fun (W : World) (A1 : Option Addr) (c1 : Nat) (hY : KY w W g bs bw s x ⟨G, mk, e, false⟩ A n base (.slice Az nz cz) recs y cs) (hS : Sl W W.heap.size (.slice A1 m c1) L) => by have h := ky_turn HGE.out hY hs30 HOK.out hS hlen (by omega); rewrite [q1] at h; simp only at h; exact h); clear q1; rewrite [hy, hcs] at CM; clear hy hcs
                go_wp2_with (first
                  | (go_at_call 14; refine (BY.out _).mono ?_; rintro e w5 ⟨A5, c5, rfl, hs, hb⟩; have HS5 := Lib.hid hs; have HY5 := Lib.hid (HY0.out.up hb); clear hs hb; obtain ⟨y0, y1, y2, y3, yz⟩ := HY5.out.cells)
                  | (go_at_call 17; refine (CM.out _ A5 c5 HY5.out HS5.out).mono ?_; rintro e w6 ⟨rfl, h⟩; have HY6 := Lib.hid h; clear h; clear y0 y1 y2 y3 yz; obtain ⟨y0, y1, y2, y3, yz⟩ := HY6.out.cells))
                go_meet
                case rel => exact mid_calm HY6.out HP.out
          · as_aux_lemma =>
              have CM := Lib.hid (fun (W : World) (A1 : Option Addr) (c1 : Nat) (hY : KY w W g bs bw s x ⟨G, mk, e, false⟩ A n base (.slice Az nz cz) recs y cs) (hS : Sl W W.heap.size (.slice A1 m c1) L) => by have h := ky_turn HGE.out hY hs30 HOK.out hS hlen (by omega); rewrite [q1] at h; simp only at h; exact h); clear q1; rewrite [hy, hcs] at CM; clear hy hcs
              go_wp2_with (first
                | (go_at_call 14; refine (BY.out _).mono ?_; rintro e w7 ⟨A7, c7, rfl, hs, hb⟩; have HS7 := Lib.hid hs; have HY7 := Lib.hid (HY6.out.up hb); clear hs hb; obtain ⟨y0, y1, y2, y3, yz⟩ := HY7.out.cells)
                | (go_at_call 17; refine (CM.out _ A5 c5 HY5.out HS5.out).mono ?_; rintro e w6 ⟨rfl, h⟩; have HY6 := Lib.hid h; clear h; clear y0 y1 y2 y3 yz; obtain ⟨y0, y1, y2, y3, yz⟩ := HY6.out.cells)
                | (go_at_call 14; refine (BY.out _).mono ?_; rintro e w5 ⟨A5, c5, rfl, hs, hb⟩; have HS5 := Lib.hid hs; have HY5 := Lib.hid (HY0.out.up hb); clear hs hb; obtain ⟨y0, y1, y2, y3, yz⟩ := HY5.out.cells))
              go_meet
              case rel => exact mid_calm (KY.emptied (HY7.out.rebase (sl_bts HS7.out))) ⟨q3.trans HP.out.n, HP.out.m0, HP.out.m1, q2⟩
          · as_aux_lemma =>
              have CM := Lib.hid (fun (W : World) (A1 : Option Addr) (c1 : Nat) (hY : KY w W g bs bw s x ⟨G, mk, e, false⟩ A n base (.slice Az nz cz) recs y cs) (hS : Sl W W.heap.size (.slice A1 m c1) L) => by have h := ky_turn HGE.out hY hs30 HOK.out hS hlen (by omega); rewrite [q1] at h; simp only at h; exact h); clear q1; rewrite [hy, hcs] at CM; clear hy hcs
              go_wp2_with (first
                | (go_at_call 14; refine (BY.out _).mono ?_; rintro e w5 ⟨A5, c5, rfl, hs, hb⟩; have HS5 := Lib.hid hs; have HY5 := Lib.hid (HY0.out.up hb); clear hs hb; obtain ⟨y0, y1, y2, y3, yz⟩ := HY5.out.cells)
                | (go_at_call 17; refine (CM.out _ A5 c5 HY5.out HS5.out).mono ?_; rintro e w6 ⟨rfl, h⟩; have HY6 := Lib.hid h; clear h; clear y0 y1 y2 y3 yz; obtain ⟨y0, y1, y2, y3, yz⟩ := HY6.out.cells))
              go_meet
              case rel => exact mid_turn HY6.out HP.out rfl q2 q3 q4
        have b1 : (wh == 1) = false := beq_false_of_ne w1
        by_cases w2 : wh = 2
        · subst w2
          clear w0 w1
          go_wp2_with (go_at_call 18; refine (ky_arm HGE.out HY0.out (by omega) (by omega)).mono ?_; rintro e w6 ⟨rfl, h⟩; have HY6 := Lib.hid h; clear h)
          go_meet
          case rel => exact mid_calm HY6.out ⟨HP.out.n, HP.out.m0, HP.out.m1, ready_left HP.out.ready _⟩
        have b2 : (wh == 2) = false := beq_false_of_ne w2
        clear w0 w1 w2
        go_wp2
        go_meet
        case rel => exact mid_calm HY0.out HP.out
      case rest =>
        obtain ⟨s1, v1, Ao, no, co, base1, Azo, nzo, czo, recs1, td, my, rfl, rfl, rfl, rfl, hky, hs1, hfew, hnz, hleft⟩ := hcut
        clear y0 y1 y2 y3 yz c0 c1 c2 c3 HY0 HKM HZL HOK hs30
        have HY := Lib.hid hky; clear hky
        obtain ⟨y0, y1, y2, y3, yz⟩ := HY.out.cells
        have HNZ := Lib.hid hnz; clear hnz
        rcases hleft with ⟨rfl, rfl, G1, mk1, e1, rfl, hkp⟩ | ⟨rfl, b3, hdead, hall⟩
        · have HP1 := Lib.hid hkp; clear hkp
          by_cases w3 : wh = 3
          · subst w3
            go_wp2_with (go_at_call 29; refine (ky_told HY.out HTT.out).mono ?_; rintro e w7 ⟨t, rfl, ht, h⟩; have HY7 := Lib.hid h; have HTO := Lib.hid ht; clear h ht; clear y0 y1 y2 y3 yz; obtain ⟨y0, y1, y2, y3, yz⟩ := HY7.out.cells; cases t)
            · as_aux_lemma =>
                go_wp2_with (go_at_call 7; refine (AW.out _).mono ?_; rintro e wz ⟨rfl, hb⟩; have HBZ := Lib.hid (HY7.out.low.trans (hb.mono HY7.out.low.size)); clear hb)
                go_ret
                exact ⟨rfl, HBZ.out⟩
            · have hc : Crashed s1 (s1.crash ts) := by first | exact HTO.out rfl | exact HTO.out trivial
              obtain ⟨hR, hom⟩ := kp_calm HP1.out hc
              have hs3 : (s1.crash ts).n = 30 := (crash_n _ _).trans hs1
              have hom2 := om_le hl25 hlt hom
              obtain ⟨G2, e2, hR⟩ := hR
              as_aux_lemma =>
                obtain ⟨nb, hnb⟩ : ∃ nb, nb = (base1).length := ⟨_, rfl⟩
                obtain ⟨nr, hnr⟩ : ∃ nr, nr = (recs1).length := ⟨_, rfl⟩
                have HKP := Lib.hid (show KP (k + 1) (s1.crash ts) G2 _ e2 (base1) (recs1) from ⟨hs3, om0 _, hom, hR⟩)
                have hn1000 : nr ≤ 1000 := hnr ▸ HKP.out.few
                have OP := Lib.hid (fun (W : World) (hY : KY w W g bs bw (s1.crash ts) x ⟨G1, mk1, e1, false⟩ Ao no base1 (.slice Azo nzo czo) recs1 wr.heap.size #[.int .i64 3, .int .i64 nn, .int .u8 (bb : Nat), .slice At nt ct]) => ky_open HGE.out hY hs3 hR hom2 hnb hnr)
                have SM := Lib.hid (fun (A' : Option Addr) (c' : Nat) (W : World) (hA : Bts W W.heap.size A' nb (base1)) (hB : Bts W W.heap.size Ao no base1) => rsame_any A' Ao nb no c' co _ _ (base1) base1 W hA hB)
                have TX := Lib.hid (fun (A' : Option Addr) (c' : Nat) (W : World) (hA : Sls W W.heap.size (.slice A' nr c') (recs1)) (hB : Sls W W.heap.size (.slice Azo nzo czo) recs1) => texts_any A' Azo nr nzo c' czo (recs1) recs1 W hA hB hn1000)
                clear hnb hnr hn1000 hs3 hom hom2 hR
                rewrite [decide_eq_true (rfl : base1 = base1)] at SM
                rewrite [decide_eq_true (rfl : recs1 = recs1)] at TX
                go_wp2_with (first
                  | (go_at_call 19; refine (ky_crash HGE.out HY7.out HTT.out).mono ?_; rintro e w8 ⟨rfl, h⟩; have HY8 := Lib.hid h; clear h; clear y0 y1 y2 y3 yz; obtain ⟨y0, y1, y2, y3, yz⟩ := HY8.out.cells)
                  | (go_at_call 10; refine (OP.out _ HY8.out).mono ?_; rintro e w9 ⟨x9, A9, c9, B9, d9, rfl, ht9, hs9, h⟩; have HT9 := Lib.hid ht9; have HS9 := Lib.hid hs9; have HY9 := Lib.hid h; clear h ht9 hs9; have HM0 := Lib.hid (rfl : (0 : Nat) = 0); clear y0 y1 y2 y3 yz; obtain ⟨y0, y1, y2, y3, yz⟩ := HY9.out.cells)
                  | (have HM1 := HM0; go_at_call 21; refine (SM.out A9 c9 _ HT9.out HY9.out.bts).mono ?_; rintro e w10 ⟨rfl, m10, rfl⟩; clear HM0 HM1; have HM2 := Lib.hid (rfl : (0 : Nat) = 0); have HY10 := Lib.hid (HY9.out.drewN m10))
                  | (have HM3 := HM2; go_at_call 22; refine (TX.out B9 d9 _ (slRow_sls (HS9.out.below (low_drewN rfl))) HY10.out.sls).mono ?_; rintro e w11 ⟨rfl, m11, rfl⟩; clear HM2 HM3; have HY11 := Lib.hid (HY10.out.drewN m11)))
                go_roundw
                case rel => exact ⟨k + 1, hlt, by go_num, x9, Ao, no, co, s1.crash ts, _, _, _, base1, recs1, rfl, rfl, HY9.out.1.up (low_drewN rfl), HKP.out⟩
                case measure => exact meas hlt
          · have b3 : (wh == 3) = false := beq_false_of_ne w3
            have b3n : (wh != 3) = true := by simp [bne, b3]
            clear w3
            have DE := Lib.hid (fun (W : World) (hY : KY w W g bs bw s1 x ⟨G1, mk1, e1, false⟩ Ao no base1 (.slice Azo nzo czo) recs1 wr.heap.size #[.int .i64 wh, .int .i64 nn, .int .u8 (bb : Nat), .slice At nt ct]) => by have h := Dsk.dead_any g bs bw s1 W hY.1.2.1; rewrite [HP1.out.ready.live] at h; exact h)
            as_aux_lemma =>
              go_wp2_with (go_at_call 28; refine (DE.out _ HY.out).mono ?_; rintro e w' ⟨rfl, rfl⟩)
              go_roundw
              case rel => exact ⟨k + 1, hlt, by go_num, x, Ao, no, co, s1, G1, mk1, e1, base1, recs1, rfl, rfl, HY.out.1, HP1.out.next⟩
              case measure => exact meas hlt
        · have DE := Lib.hid (fun (W : World) (hY : KY w W g bs bw s1 x v1 Ao no base1 (.slice Azo nzo czo) recs1 wr.heap.size #[.int .i64 wh, .int .i64 nn, .int .u8 (bb : Nat), .slice At nt ct]) => by have h := Dsk.dead_any g bs bw s1 W hY.1.2.1; rewrite [hdead] at h; exact h)
          have HALL := Lib.hid hall; clear hall hdead
          have b3n : (wh != 3) = true := by simp [bne, b3]
          go_wp2_with (first
            | (go_at_call 28; refine (DE.out _ HY.out).mono ?_; rintro e w' ⟨rfl, rfl⟩)
            | (go_at_call 29; refine (ky_told HY.out HTT.out).mono ?_; rintro e w7 ⟨t, rfl, ht, h⟩; have HY7 := Lib.hid h; have HTO := Lib.hid ht; clear h ht; clear y0 y1 y2 y3 yz; obtain ⟨y0, y1, y2, y3, yz⟩ := HY7.out.cells; cases t))
          · as_aux_lemma =>
              go_wp2_with (go_at_call 7; refine (AW.out _).mono ?_; rintro e wz ⟨rfl, hb⟩; have HBZ := Lib.hid (HY7.out.low.trans (hb.mono HY7.out.low.size)); clear hb)
              go_ret
              exact ⟨rfl, HBZ.out⟩
          · have hc : Crashed s1 (s1.crash ts) := by first | exact HTO.out rfl | exact HTO.out trivial
            obtain ⟨hom, hR⟩ := HALL.out _ hc
            have hom := om_cast hom
            have hs3 : (s1.crash ts).n = 30 := (crash_n _ _).trans hs1
            have hom2 := om_le hl25 hlt hom
            rcases hR with ⟨G2, e2, hR⟩ | ⟨rfl, G2, e2, hR⟩ | ⟨rfl, G2, e2, hR⟩
            · as_aux_lemma =>
                obtain ⟨nb, hnb⟩ : ∃ nb, nb = (base1).length := ⟨_, rfl⟩
                obtain ⟨nr, hnr⟩ : ∃ nr, nr = (recs1).length := ⟨_, rfl⟩
                have HKP := Lib.hid (show KP (k + 1) (s1.crash ts) G2 _ e2 (base1) (recs1) from ⟨hs3, om0 _, hom, hR⟩)
                have hn1000 : nr ≤ 1000 := hnr ▸ HKP.out.few
                have OP := Lib.hid (fun (W : World) (hY : KY w W g bs bw (s1.crash ts) x v1 Ao no base1 (.slice Azo nzo czo) recs1 wr.heap.size #[.int .i64 wh, .int .i64 nn, .int .u8 (bb : Nat), .slice At nt ct]) => ky_open HGE.out hY hs3 hR hom2 hnb hnr)
                have SM := Lib.hid (fun (A' : Option Addr) (c' : Nat) (W : World) (hA : Bts W W.heap.size A' nb (base1)) (hB : Bts W W.heap.size Ao no base1) => rsame_any A' Ao nb no c' co _ _ (base1) base1 W hA hB)
                have TX := Lib.hid (fun (A' : Option Addr) (c' : Nat) (W : World) (hA : Sls W W.heap.size (.slice A' nr c') (recs1)) (hB : Sls W W.heap.size (.slice Azo nzo czo) recs1) => texts_any A' Azo nr nzo c' czo (recs1) recs1 W hA hB hn1000)
                clear hnb hnr hn1000 hs3 hom hom2 hR
                rewrite [decide_eq_true (rfl : base1 = base1)] at SM
                rewrite [decide_eq_true (rfl : recs1 = recs1)] at TX
                go_wp2_with (first
                  | (go_at_call 19; refine (ky_crash HGE.out HY7.out HTT.out).mono ?_; rintro e w8 ⟨rfl, h⟩; have HY8 := Lib.hid h; clear h; clear y0 y1 y2 y3 yz; obtain ⟨y0, y1, y2, y3, yz⟩ := HY8.out.cells)
                  | (go_at_call 10; refine (OP.out _ HY8.out).mono ?_; rintro e w9 ⟨x9, A9, c9, B9, d9, rfl, ht9, hs9, h⟩; have HT9 := Lib.hid ht9; have HS9 := Lib.hid hs9; have HY9 := Lib.hid h; clear h ht9 hs9; have HM0 := Lib.hid (rfl : (0 : Nat) = 0); clear y0 y1 y2 y3 yz; obtain ⟨y0, y1, y2, y3, yz⟩ := HY9.out.cells)
                  | (have HM1 := HM0; go_at_call 21; refine (SM.out A9 c9 _ HT9.out HY9.out.bts).mono ?_; rintro e w10 ⟨rfl, m10, rfl⟩; clear HM0 HM1; have HM2 := Lib.hid (rfl : (0 : Nat) = 0); have HY10 := Lib.hid (HY9.out.drewN m10))
                  | (have HM3 := HM2; go_at_call 22; refine (TX.out B9 d9 _ (slRow_sls (HS9.out.below (low_drewN rfl))) HY10.out.sls).mono ?_; rintro e w11 ⟨rfl, m11, rfl⟩; clear HM2 HM3; have HY11 := Lib.hid (HY10.out.drewN m11)))
                go_roundw
                case rel => exact ⟨k + 1, hlt, by go_num, x9, Ao, no, co, s1.crash ts, _, _, _, base1, recs1, rfl, rfl, HY9.out.1.up (low_drewN rfl), HKP.out⟩
                case measure => exact meas hlt
            · obtain ⟨nb, hnb⟩ : ∃ nb, nb = (L).length := ⟨_, rfl⟩
              obtain ⟨nr, hnr⟩ : ∃ nr, nr = ([] : List (List Nat)).length := ⟨_, rfl⟩
              obtain rfl : nr = 0 := hnr
              have hnr : 0 = ([] : List (List Nat)).length := rfl
              have HKP := Lib.hid (show KP (k + 1) (s1.crash ts) G2 _ e2 (L) ([]) from ⟨hs3, om0 _, hom, hR⟩)
              have hn1000 : 0 ≤ 1000 := hnr ▸ HKP.out.few
              have OP := Lib.hid (fun (W : World) (hY : KY w W g bs bw (s1.crash ts) x v1 Ao no base1 (.slice Azo nzo czo) recs1 wr.heap.size #[.int .i64 wh, .int .i64 nn, .int .u8 (bb : Nat), .slice At nt ct]) => ky_open HGE.out hY hs3 hR hom2 hnb hnr)
              have SM := Lib.hid (fun (A' : Option Addr) (c' : Nat) (W : World) (hA : Bts W W.heap.size A' nb (L)) (hB : Bts W W.heap.size Ao no base1) => rsame_any A' Ao nb no c' co _ _ (L) base1 W hA hB)
              have TX := Lib.hid (fun (A' : Option Addr) (c' : Nat) (W : World) (hA : Sls W W.heap.size (.slice A' 0 c') ([])) (hB : Sls W W.heap.size (.slice Azo nzo czo) recs1) => texts_any A' Azo 0 nzo c' czo ([]) recs1 W hA hB hn1000)
              clear hnb hnr hn1000 hs3 hom hom2 hR
              by_cases h1 : L = base1
              · by_cases h2 : ([] : List (List Nat)) = recs1
                · as_aux_lemma =>
                    rewrite [decide_eq_true h1] at SM
                    rewrite [decide_eq_true h2] at TX
                    go_wp2_with (first
                      | (go_at_call 19; refine (ky_crash HGE.out HY7.out HTT.out).mono ?_; rintro e w8 ⟨rfl, h⟩; have HY8 := Lib.hid h; clear h; clear y0 y1 y2 y3 yz; obtain ⟨y0, y1, y2, y3, yz⟩ := HY8.out.cells)
                      | (go_at_call 10; refine (OP.out _ HY8.out).mono ?_; rintro e w9 ⟨x9, A9, c9, B9, d9, rfl, ht9, hs9, h⟩; have HT9 := Lib.hid ht9; have HS9 := Lib.hid hs9; have HY9 := Lib.hid h; clear h ht9 hs9; have HM0 := Lib.hid (rfl : (0 : Nat) = 0); clear y0 y1 y2 y3 yz; obtain ⟨y0, y1, y2, y3, yz⟩ := HY9.out.cells)
                      | (have HM1 := HM0; go_at_call 21; refine (SM.out A9 c9 _ HT9.out HY9.out.bts).mono ?_; rintro e w10 ⟨rfl, m10, rfl⟩; clear HM0 HM1; have HM2 := Lib.hid (rfl : (0 : Nat) = 0); have HY10 := Lib.hid (HY9.out.drewN m10))
                      | (have HM3 := HM2; go_at_call 22; refine (TX.out B9 d9 _ (slRow_sls (HS9.out.below (low_drewN rfl))) HY10.out.sls).mono ?_; rintro e w11 ⟨rfl, m11, rfl⟩; clear HM2 HM3; have HY11 := Lib.hid (HY10.out.drewN m11)))
                    go_roundw
                    case rel => exact ⟨k + 1, hlt, by go_num, x9, Ao, no, co, s1.crash ts, _, _, _, base1, recs1, rfl, rfl, HY9.out.1.up (low_drewN rfl), h2 ▸ h1 ▸ HKP.out⟩
                    case measure => exact meas hlt
                · as_aux_lemma =>
                    rewrite [decide_eq_true h1] at SM
                    rewrite [decide_eq_false h2] at TX
                    go_wp2_with (first
                      | (go_at_call 19; refine (ky_crash HGE.out HY7.out HTT.out).mono ?_; rintro e w8 ⟨rfl, h⟩; have HY8 := Lib.hid h; clear h; clear y0 y1 y2 y3 yz; obtain ⟨y0, y1, y2, y3, yz⟩ := HY8.out.cells)
                      | (go_at_call 10; refine (OP.out _ HY8.out).mono ?_; rintro e w9 ⟨x9, A9, c9, B9, d9, rfl, ht9, hs9, h⟩; have HT9 := Lib.hid ht9; have HS9 := Lib.hid hs9; have HY9 := Lib.hid h; clear h ht9 hs9; have HM0 := Lib.hid (rfl : (0 : Nat) = 0); clear y0 y1 y2 y3 yz; obtain ⟨y0, y1, y2, y3, yz⟩ := HY9.out.cells)
                      | (have HM1 := HM0; go_at_call 21; refine (SM.out A9 c9 _ HT9.out HY9.out.bts).mono ?_; rintro e w10 ⟨rfl, m10, rfl⟩; clear HM0 HM1; have HM2 := Lib.hid (rfl : (0 : Nat) = 0); have HY10 := Lib.hid (HY9.out.drewN m10))
                      | (have HM3 := HM2; go_at_call 22; refine (TX.out B9 d9 _ (slRow_sls (HS9.out.below (low_drewN rfl))) HY10.out.sls).mono ?_; rintro e w11 ⟨rfl, m11, rfl⟩; clear HM2 HM3; have HY11 := Lib.hid (HY10.out.drewN m11)))
                    have SL := Lib.hid (fun (A' : Option Addr) (c' : Nat) (W : World) (hA : Bts W W.heap.size A9 nb L) (hB : Bts W W.heap.size A' m L) => rsame_any A9 A' nb m c9 c' _ _ L L W hA hB)
                    rewrite [decide_eq_true (rfl : L = L)] at SL
                    refine wp_region_held_drew (S := fun W => W.cell? ⟨wr.heap.size, 0, none⟩ = some (.int .i64 wh) ∧ W.cell? ⟨wr.heap.size, 1, none⟩ = some (.int .i64 nn) ∧ W.cell? ⟨wr.heap.size, 2, none⟩ = some (.int .u8 (bb : Nat)) ∧ W.cell? ⟨wr.heap.size, 3, none⟩ = some (.slice At nt ct)) (by kernel_rfl) ?_ (fun hHeld => ?_)
                    · exact ⟨y0, y1, y2, y3⟩
                    refine wpAnyH_take (i := 0) (oi := ⟨some 140, _, _, _, _, _⟩) (v := ?_) rfl (by kernel_rfl) (by kernel_rfl) (by kernel_rfl) (fun _ _ _ h => h) (Or.inl ⟨by rfl, ?_⟩) (by assumption) ?_
                    rotate_left
                    · (intro w hSw; (try dsimp only at hSw); go_simp; try with_reducible rfl)
                    try simp only [Act.put, List.setIfInBounds_toArray, List.set_cons_zero, List.set_cons_succ]
                    refine wpAnyH_take (i := 1) (oi := ⟨some 141, _, _, _, _, _⟩) (v := ?_) rfl (by kernel_rfl) (by kernel_rfl) (by kernel_rfl) (fun _ _ _ h => h) (Or.inl ⟨by rfl, ?_⟩) (by assumption) ?_
                    rotate_left
                    · (intro w hSw; (try dsimp only at hSw); go_simp; try with_reducible rfl)
                    try simp only [Act.put, List.setIfInBounds_toArray, List.set_cons_zero, List.set_cons_succ]
                    refine wpAnyH_take (i := 2) (oi := ⟨some 142, _, _, _, _, _⟩) (v := ?_) rfl (by kernel_rfl) (by kernel_rfl) (by kernel_rfl) (fun _ _ _ h => h) (Or.inl ⟨by rfl, ?_⟩) (by assumption) ?_
                    rotate_left
                    · (intro w hSw; (try dsimp only at hSw); go_simp; try with_reducible rfl)
                    try simp only [Act.put, List.setIfInBounds_toArray, List.set_cons_zero, List.set_cons_succ]
                    refine wpAnyH_take (i := 3) (oi := ⟨some 143, _, _, _, _, _⟩) (v := ?_) rfl (by kernel_rfl) (by kernel_rfl) (by kernel_rfl) (fun _ _ _ h => h) (Or.inl ⟨by rfl, ?_⟩) (by assumption) ?_
                    rotate_left
                    · (intro w hSw; (try dsimp only at hSw); go_simp; try with_reducible rfl)
                    try simp only [Act.put, List.setIfInBounds_toArray, List.set_cons_zero, List.set_cons_succ]
                    refine wpAnyH_take (i := 4) (oi := ⟨some 144, _, _, _, _, _⟩) (v := ?_) rfl (by kernel_rfl) (by kernel_rfl) (by kernel_rfl) (fun _ _ _ h => h) (Or.inl ⟨by rfl, ?_⟩) (by assumption) ?_
                    rotate_left
                    · (intro w hSw; (try dsimp only at hSw); go_simp; try with_reducible rfl)
                    try simp only [Act.put, List.setIfInBounds_toArray, List.set_cons_zero, List.set_cons_succ]
                    refine wpAnyH_take (i := 5) (oi := ⟨some 145, _, _, _, _, _⟩) (v := ?_) rfl (by kernel_rfl) (by kernel_rfl) (by kernel_rfl) (fun _ _ _ h => h) (Or.inl ⟨by rfl, ?_⟩) (by assumption) ?_
                    rotate_left
                    · (intro w hSw; (try dsimp only at hSw); go_simp; try with_reducible rfl)
                    try simp only [Act.put, List.setIfInBounds_toArray, List.set_cons_zero, List.set_cons_succ]
                    refine wpAnyH_take (i := 6) (oi := ⟨some 146, _, _, _, _, _⟩) (v := ?_) rfl (by kernel_rfl) (by kernel_rfl) (by kernel_rfl) (fun _ _ _ h => h) (Or.inl ⟨by rfl, ?_⟩) (by assumption) ?_
                    rotate_left
                    · (intro w hSw; (try dsimp only at hSw); go_simp; try with_reducible rfl)
                    try simp only [Act.put, List.setIfInBounds_toArray, List.set_cons_zero, List.set_cons_succ]
                    refine wpAnyH_ready (rs := [7]) (by kernel_rfl) (by simp) (AllReadyH.cons (o := ⟨some 147, _, _, _, _, _⟩) rfl (fun K hK => ?_) AllReadyH.nil)
                    go_simp
                    (go_at_call 14; refine (BY.out _).mono ?_; rintro e w12 ⟨A12, c12, rfl, hs, hb⟩; have hb : Below w9.heap.size w9 w12 := (by first | exact below_drew2 hb | exact below_drew1 hb); have HY12 := Lib.hid (HY9.out.up hb); have HS12 := Lib.hid hs; have HT12 := Lib.hid (bts_up HT9.out hb); have HR12 := Lib.hid (HS9.out.below hb); clear hs hb; obtain ⟨z0, z1, z2, z3, zz⟩ := HY12.out.cells)
                    refine hK.out _ _ ?_ (fun hHeld => ?_)
                    · exact ⟨z0, z1, z2, z3⟩
                    clear hK K
                    try simp only [Act.put, List.setIfInBounds_toArray, List.set_cons_zero, List.set_cons_succ]
                    refine wpAnyH_ready (rs := [8]) (by kernel_rfl) (by simp) (AllReadyH.cons (o := ⟨some 148, _, _, _, _, _⟩) rfl (fun K hK => ?_) AllReadyH.nil)
                    go_simp
                    (go_at_call 21; refine (SL.out A12 c12 _ HT12.out (sl_bts HS12.out)).mono ?_; rintro e w13 ⟨rfl, m13, rfl⟩)
                    refine hK.out _ _ ?_ (fun hHeld => ?_)
                    · exact ⟨z0, z1, z2, z3⟩
                    clear hK K
                    try simp only [Act.put, List.setIfInBounds_toArray, List.set_cons_zero, List.set_cons_succ]
                    refine wpAnyH_take (i := 9) (oi := ⟨some 149, _, _, _, _, _⟩) (v := ?_) rfl (by kernel_rfl) (by kernel_rfl) (by kernel_rfl) (fun _ _ _ h => h) (Or.inl ⟨by rfl, ?_⟩) (by assumption) ?_
                    rotate_left
                    · (intro w hSw; (try dsimp only at hSw); go_simp; try with_reducible rfl)
                    try simp only [Act.put, List.setIfInBounds_toArray, List.set_cons_zero, List.set_cons_succ]
                    refine wpAnyH_take (i := 10) (oi := ⟨some 150, _, _, _, _, _⟩) (v := ?_) rfl (by kernel_rfl) (by kernel_rfl) (by kernel_rfl) (fun _ _ _ h => h) (Or.inl ⟨by rfl, ?_⟩) (by assumption) ?_
                    rotate_left
                    · (intro w hSw; (try dsimp only at hSw); go_simp; try with_reducible rfl)
                    try simp only [Act.put, List.setIfInBounds_toArray, List.set_cons_zero, List.set_cons_succ]
                    refine wpAnyH_take (i := 11) (oi := ⟨some 151, _, _, _, _, _⟩) (v := ?_) rfl (by kernel_rfl) (by kernel_rfl) (by kernel_rfl) (fun _ _ _ h => h) (Or.inl ⟨by rfl, ?_⟩) (by assumption) ?_
                    rotate_left
                    · (intro w hSw; (try dsimp only at hSw); go_simp; try with_reducible rfl)
                    try simp only [Act.put, List.setIfInBounds_toArray, List.set_cons_zero, List.set_cons_succ]
                    refine wpAnyH_take (i := 12) (oi := ⟨some 152, _, _, _, _, _⟩) (v := ?_) rfl (by kernel_rfl) (by kernel_rfl) (by kernel_rfl) (fun _ _ _ h => h) (Or.inl ⟨by rfl, ?_⟩) (by assumption) ?_
                    rotate_left
                    · (intro w hSw; (try dsimp only at hSw); go_simp; try with_reducible rfl)
                    try simp only [Act.put, List.setIfInBounds_toArray, List.set_cons_zero, List.set_cons_succ]
                    refine wpAnyH_take (i := 13) (oi := ⟨some 153, _, _, _, _, _⟩) (v := ?_) rfl (by kernel_rfl) (by kernel_rfl) (by kernel_rfl) (fun _ _ _ h => h) (Or.inl ⟨by rfl, ?_⟩) (by assumption) ?_
                    rotate_left
                    · (intro w hSw; (try dsimp only at hSw); go_simp; try with_reducible rfl)
                    try simp only [Act.put, List.setIfInBounds_toArray, List.set_cons_zero, List.set_cons_succ]
                    refine wpAnyH_take (i := 14) (oi := ⟨some 154, _, _, _, _, _⟩) (v := ?_) rfl (by kernel_rfl) (by kernel_rfl) (by kernel_rfl) (fun _ _ _ h => h) (Or.inl ⟨by rfl, ?_⟩) (by assumption) ?_
                    rotate_left
                    · (intro w hSw; (try dsimp only at hSw); go_simp; try with_reducible rfl)
                    try simp only [Act.put, List.setIfInBounds_toArray, List.set_cons_zero, List.set_cons_succ]
                    refine wpAnyH_take (i := 15) (oi := ⟨some 155, _, _, _, _, _⟩) (v := ?_) rfl (by kernel_rfl) (by kernel_rfl) (by kernel_rfl) (fun _ _ _ h => h) (Or.inl ⟨by rfl, ?_⟩) (by assumption) ?_
                    rotate_left
                    · (intro w hSw; (try dsimp only at hSw); go_simp; try with_reducible rfl)
                    try simp only [Act.put, List.setIfInBounds_toArray, List.set_cons_zero, List.set_cons_succ]
                    refine wpAnyH_take (i := 16) (oi := ⟨some 156, _, _, _, _, _⟩) (v := ?_) rfl (by kernel_rfl) (by kernel_rfl) (by kernel_rfl) (fun _ _ _ h => h) (Or.inl ⟨by rfl, ?_⟩) (by assumption) ?_
                    rotate_left
                    · (intro w hSw; (try dsimp only at hSw); go_simp; try with_reducible rfl)
                    try simp only [Act.put, List.setIfInBounds_toArray, List.set_cons_zero, List.set_cons_succ]
                    refine wpAnyH_take (i := 17) (oi := ⟨some 157, _, _, _, _, _⟩) (v := ?_) rfl (by kernel_rfl) (by kernel_rfl) (by kernel_rfl) (fun _ _ _ h => h) (Or.inl ⟨by rfl, ?_⟩) (by assumption) ?_
                    rotate_left
                    · (intro w hSw; (try dsimp only at hSw); go_simp; try with_reducible rfl)
                    try simp only [Act.put, List.setIfInBounds_toArray, List.set_cons_zero, List.set_cons_succ]
                    refine wpAnyH_take (i := 18) (oi := ⟨some 158, _, _, _, _, _⟩) (v := ?_) rfl (by kernel_rfl) (by kernel_rfl) (by kernel_rfl) (fun _ _ _ h => h) (Or.inl ⟨by rfl, ?_⟩) (by assumption) ?_
                    rotate_left
                    · (intro w hSw; (try dsimp only at hSw); go_simp; try with_reducible rfl)
                    try simp only [Act.put, List.setIfInBounds_toArray, List.set_cons_zero, List.set_cons_succ]
                    refine wpAnyH_take (i := 19) (oi := ⟨some 159, _, _, _, _, _⟩) (v := ?_) rfl (by kernel_rfl) (by kernel_rfl) (by kernel_rfl) (fun _ _ _ h => h) (Or.inl ⟨by rfl, ?_⟩) (by assumption) ?_
                    rotate_left
                    · (intro w hSw; (try dsimp only at hSw); go_simp; try with_reducible rfl)
                    try simp only [Act.put, List.setIfInBounds_toArray, List.set_cons_zero, List.set_cons_succ]
                    refine wpAnyH_take (i := 20) (oi := ⟨some 160, _, _, _, _, _⟩) (v := ?_) rfl (by kernel_rfl) (by kernel_rfl) (by kernel_rfl) (fun _ _ _ h => h) (Or.inl ⟨by rfl, ?_⟩) (by assumption) ?_
                    rotate_left
                    · (intro w hSw; (try dsimp only at hSw); go_simp; try with_reducible rfl)
                    try simp only [Act.put, List.setIfInBounds_toArray, List.set_cons_zero, List.set_cons_succ]
                    refine wpAnyH_take (i := 21) (oi := ⟨some 161, _, _, _, _, _⟩) (v := undef) rfl (by kernel_rfl) (by kernel_rfl) (by kernel_rfl) (fun _ _ _ h => h) (Or.inr ⟨by rfl, rfl⟩) (by assumption) ?_
                    try simp only [Act.put, List.setIfInBounds_toArray, List.set_cons_zero, List.set_cons_succ]
                    refine wpAnyH_take (i := 22) (oi := ⟨some 162, _, _, _, _, _⟩) (v := undef) rfl (by kernel_rfl) (by kernel_rfl) (by kernel_rfl) (fun _ _ _ h => h) (Or.inr ⟨by rfl, rfl⟩) (by assumption) ?_
                    try simp only [Act.put, List.setIfInBounds_toArray, List.set_cons_zero, List.set_cons_succ]
                    refine wpAnyH_take (i := 23) (oi := ⟨some 163, _, _, _, _, _⟩) (v := undef) rfl (by kernel_rfl) (by kernel_rfl) (by kernel_rfl) (fun _ _ _ h => h) (Or.inr ⟨by rfl, rfl⟩) (by assumption) ?_
                    try simp only [Act.put, List.setIfInBounds_toArray, List.set_cons_zero, List.set_cons_succ]
                    refine wpAnyH_take (i := 24) (oi := ⟨some 164, _, _, _, _, _⟩) (v := undef) rfl (by kernel_rfl) (by kernel_rfl) (by kernel_rfl) (fun _ _ _ h => h) (Or.inr ⟨by rfl, rfl⟩) (by assumption) ?_
                    try simp only [Act.put, List.setIfInBounds_toArray, List.set_cons_zero, List.set_cons_succ]
                    refine wpAnyH_take (i := 25) (oi := ⟨some 165, _, _, _, _, _⟩) (v := undef) rfl (by kernel_rfl) (by kernel_rfl) (by kernel_rfl) (fun _ _ _ h => h) (Or.inr ⟨by rfl, rfl⟩) (by assumption) ?_
                    try simp only [Act.put, List.setIfInBounds_toArray, List.set_cons_zero, List.set_cons_succ]
                    refine wpAnyH_take (i := 26) (oi := ⟨some 166, _, _, _, _, _⟩) (v := undef) rfl (by kernel_rfl) (by kernel_rfl) (by kernel_rfl) (fun _ _ _ h => h) (Or.inr ⟨by rfl, rfl⟩) (by assumption) ?_
                    try simp only [Act.put, List.setIfInBounds_toArray, List.set_cons_zero, List.set_cons_succ]
                    refine wpAnyH_take (i := 27) (oi := ⟨some 167, _, _, _, _, _⟩) (v := undef) rfl (by kernel_rfl) (by kernel_rfl) (by kernel_rfl) (fun _ _ _ h => h) (Or.inr ⟨by rfl, rfl⟩) (by assumption) ?_
                    try simp only [Act.put, List.setIfInBounds_toArray, List.set_cons_zero, List.set_cons_succ]
                    refine wpAnyH_take (i := 28) (oi := ⟨some 168, _, _, _, _, _⟩) (v := undef) rfl (by kernel_rfl) (by kernel_rfl) (by kernel_rfl) (fun _ _ _ h => h) (Or.inr ⟨by rfl, rfl⟩) (by assumption) ?_
                    try simp only [Act.put, List.setIfInBounds_toArray, List.set_cons_zero, List.set_cons_succ]
                    refine wpAnyH_take (i := 29) (oi := ⟨some 169, _, _, _, _, _⟩) (v := undef) rfl (by kernel_rfl) (by kernel_rfl) (by kernel_rfl) (fun _ _ _ h => h) (Or.inr ⟨by rfl, rfl⟩) (by assumption) ?_
                    try simp only [Act.put, List.setIfInBounds_toArray, List.set_cons_zero, List.set_cons_succ]
                    refine wpAnyH_take (i := 30) (oi := ⟨some 170, _, _, _, _, _⟩) (v := undef) rfl (by kernel_rfl) (by kernel_rfl) (by kernel_rfl) (fun _ _ _ h => h) (Or.inr ⟨by rfl, rfl⟩) (by assumption) ?_
                    try simp only [Act.put, List.setIfInBounds_toArray, List.set_cons_zero, List.set_cons_succ]
                    refine wpAnyH_take (i := 31) (oi := ⟨some 171, _, _, _, _, _⟩) (v := undef) rfl (by kernel_rfl) (by kernel_rfl) (by kernel_rfl) (fun _ _ _ h => h) (Or.inr ⟨by rfl, rfl⟩) (by assumption) ?_
                    try simp only [Act.put, List.setIfInBounds_toArray, List.set_cons_zero, List.set_cons_succ]
                    refine wpAnyH_take (i := 32) (oi := ⟨some 172, _, _, _, _, _⟩) (v := undef) rfl (by kernel_rfl) (by kernel_rfl) (by kernel_rfl) (fun _ _ _ h => h) (Or.inr ⟨by rfl, rfl⟩) (by assumption) ?_
                    try simp only [Act.put, List.setIfInBounds_toArray, List.set_cons_zero, List.set_cons_succ]
                    refine wpAnyH_take (i := 33) (oi := ⟨some 173, _, _, _, _, _⟩) (v := undef) rfl (by kernel_rfl) (by kernel_rfl) (by kernel_rfl) (fun _ _ _ h => h) (Or.inr ⟨by rfl, rfl⟩) (by assumption) ?_
                    try simp only [Act.put, List.setIfInBounds_toArray, List.set_cons_zero, List.set_cons_succ]
                    refine wpAnyH_take (i := 34) (oi := ⟨some 174, _, _, _, _, _⟩) (v := undef) rfl (by kernel_rfl) (by kernel_rfl) (by kernel_rfl) (fun _ _ _ h => h) (Or.inr ⟨by rfl, rfl⟩) (by assumption) ?_
                    try simp only [Act.put, List.setIfInBounds_toArray, List.set_cons_zero, List.set_cons_succ]
                    refine wpAnyH_take (i := 35) (oi := ⟨some 175, _, _, _, _, _⟩) (v := undef) rfl (by kernel_rfl) (by kernel_rfl) (by kernel_rfl) (fun _ _ _ h => h) (Or.inr ⟨by rfl, rfl⟩) (by assumption) ?_
                    try simp only [Act.put, List.setIfInBounds_toArray, List.set_cons_zero, List.set_cons_succ]
                    refine wpAnyH_take (i := 36) (oi := ⟨some 176, _, _, _, _, _⟩) (v := undef) rfl (by kernel_rfl) (by kernel_rfl) (by kernel_rfl) (fun _ _ _ h => h) (Or.inr ⟨by rfl, rfl⟩) (by assumption) ?_
                    try simp only [Act.put, List.setIfInBounds_toArray, List.set_cons_zero, List.set_cons_succ]
                    refine wpAnyH_take (i := 37) (oi := ⟨some 177, _, _, _, _, _⟩) (v := ?_) rfl (by kernel_rfl) (by kernel_rfl) (by kernel_rfl) (fun _ _ _ h => h) (Or.inl ⟨by rfl, ?_⟩) (by assumption) ?_
                    rotate_left
                    · (intro w hSw; (try dsimp only at hSw); go_simp; try with_reducible rfl)
                    try simp only [Act.put, List.setIfInBounds_toArray, List.set_cons_zero, List.set_cons_succ]
                    refine wpAnyH_take (i := 38) (oi := ⟨some 178, _, _, _, _, _⟩) (v := ?_) rfl (by kernel_rfl) (by kernel_rfl) (by kernel_rfl) (fun _ _ _ h => h) (Or.inl ⟨by rfl, ?_⟩) (by assumption) ?_
                    rotate_left
                    · (intro w hSw; (try dsimp only at hSw); go_simp; try with_reducible rfl)
                    try simp only [Act.put, List.setIfInBounds_toArray, List.set_cons_zero, List.set_cons_succ]
                    refine wpAnyH_done (by kernel_rfl) ?_ _
                    go_wp2
                    go_roundw
                    case rel => exact ⟨k + 1, hlt, by go_num, x9, A9, nb, c9, s1.crash ts, _, _, _, L, [], rfl, rfl, ((HY12.out.rebase HT12.out).rerow HR12.out).1.up (low_drewN rfl), HKP.out⟩
                    case measure => exact meas hlt
              · as_aux_lemma =>
                  rewrite [decide_eq_false h1] at SM
                  go_wp2_with (first
                    | (go_at_call 19; refine (ky_crash HGE.out HY7.out HTT.out).mono ?_; rintro e w8 ⟨rfl, h⟩; have HY8 := Lib.hid h; clear h; clear y0 y1 y2 y3 yz; obtain ⟨y0, y1, y2, y3, yz⟩ := HY8.out.cells)
                    | (go_at_call 10; refine (OP.out _ HY8.out).mono ?_; rintro e w9 ⟨x9, A9, c9, B9, d9, rfl, ht9, hs9, h⟩; have HT9 := Lib.hid ht9; have HS9 := Lib.hid hs9; have HY9 := Lib.hid h; clear h ht9 hs9; have HM0 := Lib.hid (rfl : (0 : Nat) = 0); clear y0 y1 y2 y3 yz; obtain ⟨y0, y1, y2, y3, yz⟩ := HY9.out.cells)
                    | (have HM1 := HM0; go_at_call 21; refine (SM.out A9 c9 _ HT9.out HY9.out.bts).mono ?_; rintro e w10 ⟨rfl, m10, rfl⟩; clear HM0 HM1; have HM2 := Lib.hid (rfl : (0 : Nat) = 0); have HY10 := Lib.hid (HY9.out.drewN m10)))
                  have SL := Lib.hid (fun (A' : Option Addr) (c' : Nat) (W : World) (hA : Bts W W.heap.size A9 nb L) (hB : Bts W W.heap.size A' m L) => rsame_any A9 A' nb m c9 c' _ _ L L W hA hB)
                  rewrite [decide_eq_true (rfl : L = L)] at SL
                  refine wp_region_held_drew (S := fun W => W.cell? ⟨wr.heap.size, 0, none⟩ = some (.int .i64 wh) ∧ W.cell? ⟨wr.heap.size, 1, none⟩ = some (.int .i64 nn) ∧ W.cell? ⟨wr.heap.size, 2, none⟩ = some (.int .u8 (bb : Nat)) ∧ W.cell? ⟨wr.heap.size, 3, none⟩ = some (.slice At nt ct)) (by kernel_rfl) ?_ (fun hHeld => ?_)
                  · exact ⟨y0, y1, y2, y3⟩
                  refine wpAnyH_take (i := 0) (oi := ⟨some 140, _, _, _, _, _⟩) (v := ?_) rfl (by kernel_rfl) (by kernel_rfl) (by kernel_rfl) (fun _ _ _ h => h) (Or.inl ⟨by rfl, ?_⟩) (by assumption) ?_
                  rotate_left
                  · (intro w hSw; (try dsimp only at hSw); go_simp; try with_reducible rfl)
                  try simp only [Act.put, List.setIfInBounds_toArray, List.set_cons_zero, List.set_cons_succ]
                  refine wpAnyH_take (i := 1) (oi := ⟨some 141, _, _, _, _, _⟩) (v := ?_) rfl (by kernel_rfl) (by kernel_rfl) (by kernel_rfl) (fun _ _ _ h => h) (Or.inl ⟨by rfl, ?_⟩) (by assumption) ?_
                  rotate_left
                  · (intro w hSw; (try dsimp only at hSw); go_simp; try with_reducible rfl)
                  try simp only [Act.put, List.setIfInBounds_toArray, List.set_cons_zero, List.set_cons_succ]
                  refine wpAnyH_take (i := 2) (oi := ⟨some 142, _, _, _, _, _⟩) (v := ?_) rfl (by kernel_rfl) (by kernel_rfl) (by kernel_rfl) (fun _ _ _ h => h) (Or.inl ⟨by rfl, ?_⟩) (by assumption) ?_
                  rotate_left
                  · (intro w hSw; (try dsimp only at hSw); go_simp; try with_reducible rfl)
                  try simp only [Act.put, List.setIfInBounds_toArray, List.set_cons_zero, List.set_cons_succ]
                  refine wpAnyH_take (i := 3) (oi := ⟨some 143, _, _, _, _, _⟩) (v := ?_) rfl (by kernel_rfl) (by kernel_rfl) (by kernel_rfl) (fun _ _ _ h => h) (Or.inl ⟨by rfl, ?_⟩) (by assumption) ?_
                  rotate_left
                  · (intro w hSw; (try dsimp only at hSw); go_simp; try with_reducible rfl)
                  try simp only [Act.put, List.setIfInBounds_toArray, List.set_cons_zero, List.set_cons_succ]
                  refine wpAnyH_take (i := 4) (oi := ⟨some 144, _, _, _, _, _⟩) (v := ?_) rfl (by kernel_rfl) (by kernel_rfl) (by kernel_rfl) (fun _ _ _ h => h) (Or.inl ⟨by rfl, ?_⟩) (by assumption) ?_
                  rotate_left
                  · (intro w hSw; (try dsimp only at hSw); go_simp; try with_reducible rfl)
                  try simp only [Act.put, List.setIfInBounds_toArray, List.set_cons_zero, List.set_cons_succ]
                  refine wpAnyH_take (i := 5) (oi := ⟨some 145, _, _, _, _, _⟩) (v := ?_) rfl (by kernel_rfl) (by kernel_rfl) (by kernel_rfl) (fun _ _ _ h => h) (Or.inl ⟨by rfl, ?_⟩) (by assumption) ?_
                  rotate_left
                  · (intro w hSw; (try dsimp only at hSw); go_simp; try with_reducible rfl)
                  try simp only [Act.put, List.setIfInBounds_toArray, List.set_cons_zero, List.set_cons_succ]
                  refine wpAnyH_take (i := 6) (oi := ⟨some 146, _, _, _, _, _⟩) (v := ?_) rfl (by kernel_rfl) (by kernel_rfl) (by kernel_rfl) (fun _ _ _ h => h) (Or.inl ⟨by rfl, ?_⟩) (by assumption) ?_
                  rotate_left
                  · (intro w hSw; (try dsimp only at hSw); go_simp; try with_reducible rfl)
                  try simp only [Act.put, List.setIfInBounds_toArray, List.set_cons_zero, List.set_cons_succ]
                  refine wpAnyH_ready (rs := [7]) (by kernel_rfl) (by simp) (AllReadyH.cons (o := ⟨some 147, _, _, _, _, _⟩) rfl (fun K hK => ?_) AllReadyH.nil)
                  go_simp
                  (go_at_call 14; refine (BY.out _).mono ?_; rintro e w12 ⟨A12, c12, rfl, hs, hb⟩; have hb : Below w9.heap.size w9 w12 := (by first | exact below_drew2 hb | exact below_drew1 hb); have HY12 := Lib.hid (HY9.out.up hb); have HS12 := Lib.hid hs; have HT12 := Lib.hid (bts_up HT9.out hb); have HR12 := Lib.hid (HS9.out.below hb); clear hs hb; obtain ⟨z0, z1, z2, z3, zz⟩ := HY12.out.cells)
                  refine hK.out _ _ ?_ (fun hHeld => ?_)
                  · exact ⟨z0, z1, z2, z3⟩
                  clear hK K
                  try simp only [Act.put, List.setIfInBounds_toArray, List.set_cons_zero, List.set_cons_succ]
                  refine wpAnyH_ready (rs := [8]) (by kernel_rfl) (by simp) (AllReadyH.cons (o := ⟨some 148, _, _, _, _, _⟩) rfl (fun K hK => ?_) AllReadyH.nil)
                  go_simp
                  (go_at_call 21; refine (SL.out A12 c12 _ HT12.out (sl_bts HS12.out)).mono ?_; rintro e w13 ⟨rfl, m13, rfl⟩)
                  refine hK.out _ _ ?_ (fun hHeld => ?_)
                  · exact ⟨z0, z1, z2, z3⟩
                  clear hK K
                  try simp only [Act.put, List.setIfInBounds_toArray, List.set_cons_zero, List.set_cons_succ]
                  refine wpAnyH_take (i := 9) (oi := ⟨some 149, _, _, _, _, _⟩) (v := ?_) rfl (by kernel_rfl) (by kernel_rfl) (by kernel_rfl) (fun _ _ _ h => h) (Or.inl ⟨by rfl, ?_⟩) (by assumption) ?_
                  rotate_left
                  · (intro w hSw; (try dsimp only at hSw); go_simp; try with_reducible rfl)
                  try simp only [Act.put, List.setIfInBounds_toArray, List.set_cons_zero, List.set_cons_succ]
                  refine wpAnyH_take (i := 10) (oi := ⟨some 150, _, _, _, _, _⟩) (v := ?_) rfl (by kernel_rfl) (by kernel_rfl) (by kernel_rfl) (fun _ _ _ h => h) (Or.inl ⟨by rfl, ?_⟩) (by assumption) ?_
                  rotate_left
                  · (intro w hSw; (try dsimp only at hSw); go_simp; try with_reducible rfl)
                  try simp only [Act.put, List.setIfInBounds_toArray, List.set_cons_zero, List.set_cons_succ]
                  refine wpAnyH_take (i := 11) (oi := ⟨some 151, _, _, _, _, _⟩) (v := ?_) rfl (by kernel_rfl) (by kernel_rfl) (by kernel_rfl) (fun _ _ _ h => h) (Or.inl ⟨by rfl, ?_⟩) (by assumption) ?_
                  rotate_left
                  · (intro w hSw; (try dsimp only at hSw); go_simp; try with_reducible rfl)
                  try simp only [Act.put, List.setIfInBounds_toArray, List.set_cons_zero, List.set_cons_succ]
                  refine wpAnyH_take (i := 12) (oi := ⟨some 152, _, _, _, _, _⟩) (v := ?_) rfl (by kernel_rfl) (by kernel_rfl) (by kernel_rfl) (fun _ _ _ h => h) (Or.inl ⟨by rfl, ?_⟩) (by assumption) ?_
                  rotate_left
                  · (intro w hSw; (try dsimp only at hSw); go_simp; try with_reducible rfl)
                  try simp only [Act.put, List.setIfInBounds_toArray, List.set_cons_zero, List.set_cons_succ]
                  refine wpAnyH_take (i := 13) (oi := ⟨some 153, _, _, _, _, _⟩) (v := ?_) rfl (by kernel_rfl) (by kernel_rfl) (by kernel_rfl) (fun _ _ _ h => h) (Or.inl ⟨by rfl, ?_⟩) (by assumption) ?_
                  rotate_left
                  · (intro w hSw; (try dsimp only at hSw); go_simp; try with_reducible rfl)
                  try simp only [Act.put, List.setIfInBounds_toArray, List.set_cons_zero, List.set_cons_succ]
                  refine wpAnyH_take (i := 14) (oi := ⟨some 154, _, _, _, _, _⟩) (v := ?_) rfl (by kernel_rfl) (by kernel_rfl) (by kernel_rfl) (fun _ _ _ h => h) (Or.inl ⟨by rfl, ?_⟩) (by assumption) ?_
                  rotate_left
                  · (intro w hSw; (try dsimp only at hSw); go_simp; try with_reducible rfl)
                  try simp only [Act.put, List.setIfInBounds_toArray, List.set_cons_zero, List.set_cons_succ]
                  refine wpAnyH_take (i := 15) (oi := ⟨some 155, _, _, _, _, _⟩) (v := ?_) rfl (by kernel_rfl) (by kernel_rfl) (by kernel_rfl) (fun _ _ _ h => h) (Or.inl ⟨by rfl, ?_⟩) (by assumption) ?_
                  rotate_left
                  · (intro w hSw; (try dsimp only at hSw); go_simp; try with_reducible rfl)
                  try simp only [Act.put, List.setIfInBounds_toArray, List.set_cons_zero, List.set_cons_succ]
                  refine wpAnyH_take (i := 16) (oi := ⟨some 156, _, _, _, _, _⟩) (v := ?_) rfl (by kernel_rfl) (by kernel_rfl) (by kernel_rfl) (fun _ _ _ h => h) (Or.inl ⟨by rfl, ?_⟩) (by assumption) ?_
                  rotate_left
                  · (intro w hSw; (try dsimp only at hSw); go_simp; try with_reducible rfl)
                  try simp only [Act.put, List.setIfInBounds_toArray, List.set_cons_zero, List.set_cons_succ]
                  refine wpAnyH_take (i := 17) (oi := ⟨some 157, _, _, _, _, _⟩) (v := ?_) rfl (by kernel_rfl) (by kernel_rfl) (by kernel_rfl) (fun _ _ _ h => h) (Or.inl ⟨by rfl, ?_⟩) (by assumption) ?_
                  rotate_left
                  · (intro w hSw; (try dsimp only at hSw); go_simp; try with_reducible rfl)
                  try simp only [Act.put, List.setIfInBounds_toArray, List.set_cons_zero, List.set_cons_succ]
                  refine wpAnyH_take (i := 18) (oi := ⟨some 158, _, _, _, _, _⟩) (v := ?_) rfl (by kernel_rfl) (by kernel_rfl) (by kernel_rfl) (fun _ _ _ h => h) (Or.inl ⟨by rfl, ?_⟩) (by assumption) ?_
                  rotate_left
                  · (intro w hSw; (try dsimp only at hSw); go_simp; try with_reducible rfl)
                  try simp only [Act.put, List.setIfInBounds_toArray, List.set_cons_zero, List.set_cons_succ]
                  refine wpAnyH_take (i := 19) (oi := ⟨some 159, _, _, _, _, _⟩) (v := ?_) rfl (by kernel_rfl) (by kernel_rfl) (by kernel_rfl) (fun _ _ _ h => h) (Or.inl ⟨by rfl, ?_⟩) (by assumption) ?_
                  rotate_left
                  · (intro w hSw; (try dsimp only at hSw); go_simp; try with_reducible rfl)
                  try simp only [Act.put, List.setIfInBounds_toArray, List.set_cons_zero, List.set_cons_succ]
                  refine wpAnyH_take (i := 20) (oi := ⟨some 160, _, _, _, _, _⟩) (v := ?_) rfl (by kernel_rfl) (by kernel_rfl) (by kernel_rfl) (fun _ _ _ h => h) (Or.inl ⟨by rfl, ?_⟩) (by assumption) ?_
                  rotate_left
                  · (intro w hSw; (try dsimp only at hSw); go_simp; try with_reducible rfl)
                  try simp only [Act.put, List.setIfInBounds_toArray, List.set_cons_zero, List.set_cons_succ]
                  refine wpAnyH_take (i := 21) (oi := ⟨some 161, _, _, _, _, _⟩) (v := undef) rfl (by kernel_rfl) (by kernel_rfl) (by kernel_rfl) (fun _ _ _ h => h) (Or.inr ⟨by rfl, rfl⟩) (by assumption) ?_
                  try simp only [Act.put, List.setIfInBounds_toArray, List.set_cons_zero, List.set_cons_succ]
                  refine wpAnyH_take (i := 22) (oi := ⟨some 162, _, _, _, _, _⟩) (v := undef) rfl (by kernel_rfl) (by kernel_rfl) (by kernel_rfl) (fun _ _ _ h => h) (Or.inr ⟨by rfl, rfl⟩) (by assumption) ?_
                  try simp only [Act.put, List.setIfInBounds_toArray, List.set_cons_zero, List.set_cons_succ]
                  refine wpAnyH_take (i := 23) (oi := ⟨some 163, _, _, _, _, _⟩) (v := undef) rfl (by kernel_rfl) (by kernel_rfl) (by kernel_rfl) (fun _ _ _ h => h) (Or.inr ⟨by rfl, rfl⟩) (by assumption) ?_
                  try simp only [Act.put, List.setIfInBounds_toArray, List.set_cons_zero, List.set_cons_succ]
                  refine wpAnyH_take (i := 24) (oi := ⟨some 164, _, _, _, _, _⟩) (v := undef) rfl (by kernel_rfl) (by kernel_rfl) (by kernel_rfl) (fun _ _ _ h => h) (Or.inr ⟨by rfl, rfl⟩) (by assumption) ?_
                  try simp only [Act.put, List.setIfInBounds_toArray, List.set_cons_zero, List.set_cons_succ]
                  refine wpAnyH_take (i := 25) (oi := ⟨some 165, _, _, _, _, _⟩) (v := undef) rfl (by kernel_rfl) (by kernel_rfl) (by kernel_rfl) (fun _ _ _ h => h) (Or.inr ⟨by rfl, rfl⟩) (by assumption) ?_
                  try simp only [Act.put, List.setIfInBounds_toArray, List.set_cons_zero, List.set_cons_succ]
                  refine wpAnyH_take (i := 26) (oi := ⟨some 166, _, _, _, _, _⟩) (v := undef) rfl (by kernel_rfl) (by kernel_rfl) (by kernel_rfl) (fun _ _ _ h => h) (Or.inr ⟨by rfl, rfl⟩) (by assumption) ?_
                  try simp only [Act.put, List.setIfInBounds_toArray, List.set_cons_zero, List.set_cons_succ]
                  refine wpAnyH_take (i := 27) (oi := ⟨some 167, _, _, _, _, _⟩) (v := undef) rfl (by kernel_rfl) (by kernel_rfl) (by kernel_rfl) (fun _ _ _ h => h) (Or.inr ⟨by rfl, rfl⟩) (by assumption) ?_
                  try simp only [Act.put, List.setIfInBounds_toArray, List.set_cons_zero, List.set_cons_succ]
                  refine wpAnyH_take (i := 28) (oi := ⟨some 168, _, _, _, _, _⟩) (v := undef) rfl (by kernel_rfl) (by kernel_rfl) (by kernel_rfl) (fun _ _ _ h => h) (Or.inr ⟨by rfl, rfl⟩) (by assumption) ?_
                  try simp only [Act.put, List.setIfInBounds_toArray, List.set_cons_zero, List.set_cons_succ]
                  refine wpAnyH_take (i := 29) (oi := ⟨some 169, _, _, _, _, _⟩) (v := undef) rfl (by kernel_rfl) (by kernel_rfl) (by kernel_rfl) (fun _ _ _ h => h) (Or.inr ⟨by rfl, rfl⟩) (by assumption) ?_
                  try simp only [Act.put, List.setIfInBounds_toArray, List.set_cons_zero, List.set_cons_succ]
                  refine wpAnyH_take (i := 30) (oi := ⟨some 170, _, _, _, _, _⟩) (v := undef) rfl (by kernel_rfl) (by kernel_rfl) (by kernel_rfl) (fun _ _ _ h => h) (Or.inr ⟨by rfl, rfl⟩) (by assumption) ?_
                  try simp only [Act.put, List.setIfInBounds_toArray, List.set_cons_zero, List.set_cons_succ]
                  refine wpAnyH_take (i := 31) (oi := ⟨some 171, _, _, _, _, _⟩) (v := undef) rfl (by kernel_rfl) (by kernel_rfl) (by kernel_rfl) (fun _ _ _ h => h) (Or.inr ⟨by rfl, rfl⟩) (by assumption) ?_
                  try simp only [Act.put, List.setIfInBounds_toArray, List.set_cons_zero, List.set_cons_succ]
                  refine wpAnyH_take (i := 32) (oi := ⟨some 172, _, _, _, _, _⟩) (v := undef) rfl (by kernel_rfl) (by kernel_rfl) (by kernel_rfl) (fun _ _ _ h => h) (Or.inr ⟨by rfl, rfl⟩) (by assumption) ?_
                  try simp only [Act.put, List.setIfInBounds_toArray, List.set_cons_zero, List.set_cons_succ]
                  refine wpAnyH_take (i := 33) (oi := ⟨some 173, _, _, _, _, _⟩) (v := undef) rfl (by kernel_rfl) (by kernel_rfl) (by kernel_rfl) (fun _ _ _ h => h) (Or.inr ⟨by rfl, rfl⟩) (by assumption) ?_
                  try simp only [Act.put, List.setIfInBounds_toArray, List.set_cons_zero, List.set_cons_succ]
                  refine wpAnyH_take (i := 34) (oi := ⟨some 174, _, _, _, _, _⟩) (v := undef) rfl (by kernel_rfl) (by kernel_rfl) (by kernel_rfl) (fun _ _ _ h => h) (Or.inr ⟨by rfl, rfl⟩) (by assumption) ?_
                  try simp only [Act.put, List.setIfInBounds_toArray, List.set_cons_zero, List.set_cons_succ]
                  refine wpAnyH_take (i := 35) (oi := ⟨some 175, _, _, _, _, _⟩) (v := undef) rfl (by kernel_rfl) (by kernel_rfl) (by kernel_rfl) (fun _ _ _ h => h) (Or.inr ⟨by rfl, rfl⟩) (by assumption) ?_
                  try simp only [Act.put, List.setIfInBounds_toArray, List.set_cons_zero, List.set_cons_succ]
                  refine wpAnyH_take (i := 36) (oi := ⟨some 176, _, _, _, _, _⟩) (v := undef) rfl (by kernel_rfl) (by kernel_rfl) (by kernel_rfl) (fun _ _ _ h => h) (Or.inr ⟨by rfl, rfl⟩) (by assumption) ?_
                  try simp only [Act.put, List.setIfInBounds_toArray, List.set_cons_zero, List.set_cons_succ]
                  refine wpAnyH_take (i := 37) (oi := ⟨some 177, _, _, _, _, _⟩) (v := ?_) rfl (by kernel_rfl) (by kernel_rfl) (by kernel_rfl) (fun _ _ _ h => h) (Or.inl ⟨by rfl, ?_⟩) (by assumption) ?_
                  rotate_left
                  · (intro w hSw; (try dsimp only at hSw); go_simp; try with_reducible rfl)
                  try simp only [Act.put, List.setIfInBounds_toArray, List.set_cons_zero, List.set_cons_succ]
                  refine wpAnyH_take (i := 38) (oi := ⟨some 178, _, _, _, _, _⟩) (v := ?_) rfl (by kernel_rfl) (by kernel_rfl) (by kernel_rfl) (fun _ _ _ h => h) (Or.inl ⟨by rfl, ?_⟩) (by assumption) ?_
                  rotate_left
                  · (intro w hSw; (try dsimp only at hSw); go_simp; try with_reducible rfl)
                  try simp only [Act.put, List.setIfInBounds_toArray, List.set_cons_zero, List.set_cons_succ]
                  refine wpAnyH_done (by kernel_rfl) ?_ _
                  go_wp2
                  go_roundw
                  case rel => exact ⟨k + 1, hlt, by go_num, x9, A9, nb, c9, s1.crash ts, _, _, _, L, [], rfl, rfl, ((HY12.out.rebase HT12.out).rerow HR12.out).1.up (low_drewN rfl), HKP.out⟩
                  case measure => exact meas hlt
            · as_aux_lemma =>
                have hne : ¬ recs1 ++ [L] = recs1 := app_ne recs1 L
                obtain ⟨nb, hnb⟩ : ∃ nb, nb = (base1).length := ⟨_, rfl⟩
                obtain ⟨nr, hnr⟩ : ∃ nr, nr = (recs1 ++ [L]).length := ⟨_, rfl⟩
                have HKP := Lib.hid (show KP (k + 1) (s1.crash ts) G2 _ e2 (base1) (recs1 ++ [L]) from ⟨hs3, om0 _, hom, hR⟩)
                have hn1000 : nr ≤ 1000 := hnr ▸ HKP.out.few
                have OP := Lib.hid (fun (W : World) (hY : KY w W g bs bw (s1.crash ts) x v1 Ao no base1 (.slice Azo nzo czo) recs1 wr.heap.size #[.int .i64 wh, .int .i64 nn, .int .u8 (bb : Nat), .slice At nt ct]) => ky_open HGE.out hY hs3 hR hom2 hnb hnr)
                have SM := Lib.hid (fun (A' : Option Addr) (c' : Nat) (W : World) (hA : Bts W W.heap.size A' nb (base1)) (hB : Bts W W.heap.size Ao no base1) => rsame_any A' Ao nb no c' co _ _ (base1) base1 W hA hB)
                have TX := Lib.hid (fun (A' : Option Addr) (c' : Nat) (W : World) (hA : Sls W W.heap.size (.slice A' nr c') (recs1 ++ [L])) (hB : Sls W W.heap.size (.slice Azo nzo czo) recs1) => texts_any A' Azo nr nzo c' czo (recs1 ++ [L]) recs1 W hA hB hn1000)
                have HN1000 := Lib.hid hn1000; have HNR := Lib.hid hnr
                clear hnb hnr hn1000 hs3 hom hom2 hR
                rewrite [decide_eq_true (rfl : base1 = base1)] at SM
                rewrite [decide_eq_false hne] at TX
                go_wp2_with (first
                  | (go_at_call 19; refine (ky_crash HGE.out HY7.out HTT.out).mono ?_; rintro e w8 ⟨rfl, h⟩; have HY8 := Lib.hid h; clear h; clear y0 y1 y2 y3 yz; obtain ⟨y0, y1, y2, y3, yz⟩ := HY8.out.cells)
                  | (go_at_call 10; refine (OP.out _ HY8.out).mono ?_; rintro e w9 ⟨x9, A9, c9, B9, d9, rfl, ht9, hs9, h⟩; have HT9 := Lib.hid ht9; have HS9 := Lib.hid hs9; have HY9 := Lib.hid h; clear h ht9 hs9; have HM0 := Lib.hid (rfl : (0 : Nat) = 0); clear y0 y1 y2 y3 yz; obtain ⟨y0, y1, y2, y3, yz⟩ := HY9.out.cells)
                  | (have HM1 := HM0; go_at_call 21; refine (SM.out A9 c9 _ HT9.out HY9.out.bts).mono ?_; rintro e w10 ⟨rfl, m10, rfl⟩; clear HM0 HM1; have HM2 := Lib.hid (rfl : (0 : Nat) = 0); have HY10 := Lib.hid (HY9.out.drewN m10))
                  | (have HM3 := HM2; go_at_call 22; refine (TX.out B9 d9 _ (slRow_sls (HS9.out.below (low_drewN rfl))) HY10.out.sls).mono ?_; rintro e w11 ⟨rfl, m11, rfl⟩; clear HM2 HM3; have HY11 := Lib.hid (HY10.out.drewN m11)))
                refine wp_region_held_drew (S := fun W => W.cell? ⟨wr.heap.size, 0, none⟩ = some (.int .i64 wh) ∧ W.cell? ⟨wr.heap.size, 1, none⟩ = some (.int .i64 nn) ∧ W.cell? ⟨wr.heap.size, 2, none⟩ = some (.int .u8 (bb : Nat)) ∧ W.cell? ⟨wr.heap.size, 3, none⟩ = some (.slice At nt ct)) (by kernel_rfl) ?_ (fun hHeld => ?_)
                · exact ⟨y0, y1, y2, y3⟩
                refine wpAnyH_take (i := 0) (oi := ⟨some 140, _, _, _, _, _⟩) (v := ?_) rfl (by kernel_rfl) (by kernel_rfl) (by kernel_rfl) (fun _ _ _ h => h) (Or.inl ⟨by rfl, ?_⟩) (by assumption) ?_
                rotate_left
                · (intro w hSw; (try dsimp only at hSw); go_simp; try with_reducible rfl)
                try simp only [Act.put, List.setIfInBounds_toArray, List.set_cons_zero, List.set_cons_succ]
                refine wpAnyH_take (i := 1) (oi := ⟨some 141, _, _, _, _, _⟩) (v := ?_) rfl (by kernel_rfl) (by kernel_rfl) (by kernel_rfl) (fun _ _ _ h => h) (Or.inl ⟨by rfl, ?_⟩) (by assumption) ?_
                rotate_left
                · (intro w hSw; (try dsimp only at hSw); go_simp; try with_reducible rfl)
                try simp only [Act.put, List.setIfInBounds_toArray, List.set_cons_zero, List.set_cons_succ]
                refine wpAnyH_take (i := 2) (oi := ⟨some 142, _, _, _, _, _⟩) (v := ?_) rfl (by kernel_rfl) (by kernel_rfl) (by kernel_rfl) (fun _ _ _ h => h) (Or.inl ⟨by rfl, ?_⟩) (by assumption) ?_
                rotate_left
                · (intro w hSw; (try dsimp only at hSw); go_simp; try with_reducible rfl)
                try simp only [Act.put, List.setIfInBounds_toArray, List.set_cons_zero, List.set_cons_succ]
                refine wpAnyH_take (i := 3) (oi := ⟨some 143, _, _, _, _, _⟩) (v := ?_) rfl (by kernel_rfl) (by kernel_rfl) (by kernel_rfl) (fun _ _ _ h => h) (Or.inl ⟨by rfl, ?_⟩) (by assumption) ?_
                rotate_left
                · (intro w hSw; (try dsimp only at hSw); go_simp; try with_reducible rfl)
                try simp only [Act.put, List.setIfInBounds_toArray, List.set_cons_zero, List.set_cons_succ]
                refine wpAnyH_take (i := 4) (oi := ⟨some 144, _, _, _, _, _⟩) (v := ?_) rfl (by kernel_rfl) (by kernel_rfl) (by kernel_rfl) (fun _ _ _ h => h) (Or.inl ⟨by rfl, ?_⟩) (by assumption) ?_
                rotate_left
                · (intro w hSw; (try dsimp only at hSw); go_simp; try with_reducible rfl)
                try simp only [Act.put, List.setIfInBounds_toArray, List.set_cons_zero, List.set_cons_succ]
                refine wpAnyH_take (i := 5) (oi := ⟨some 145, _, _, _, _, _⟩) (v := undef) rfl (by kernel_rfl) (by kernel_rfl) (by kernel_rfl) (fun _ _ _ h => h) (Or.inr ⟨by rfl, rfl⟩) (by assumption) ?_
                try simp only [Act.put, List.setIfInBounds_toArray, List.set_cons_zero, List.set_cons_succ]
                refine wpAnyH_take (i := 6) (oi := ⟨some 146, _, _, _, _, _⟩) (v := undef) rfl (by kernel_rfl) (by kernel_rfl) (by kernel_rfl) (fun _ _ _ h => h) (Or.inr ⟨by rfl, rfl⟩) (by assumption) ?_
                try simp only [Act.put, List.setIfInBounds_toArray, List.set_cons_zero, List.set_cons_succ]
                refine wpAnyH_take (i := 7) (oi := ⟨some 147, _, _, _, _, _⟩) (v := undef) rfl (by kernel_rfl) (by kernel_rfl) (by kernel_rfl) (fun _ _ _ h => h) (Or.inr ⟨by rfl, rfl⟩) (by assumption) ?_
                try simp only [Act.put, List.setIfInBounds_toArray, List.set_cons_zero, List.set_cons_succ]
                refine wpAnyH_take (i := 8) (oi := ⟨some 148, _, _, _, _, _⟩) (v := undef) rfl (by kernel_rfl) (by kernel_rfl) (by kernel_rfl) (fun _ _ _ h => h) (Or.inr ⟨by rfl, rfl⟩) (by assumption) ?_
                try simp only [Act.put, List.setIfInBounds_toArray, List.set_cons_zero, List.set_cons_succ]
                refine wpAnyH_take (i := 9) (oi := ⟨some 149, _, _, _, _, _⟩) (v := undef) rfl (by kernel_rfl) (by kernel_rfl) (by kernel_rfl) (fun _ _ _ h => h) (Or.inr ⟨by rfl, rfl⟩) (by assumption) ?_
                try simp only [Act.put, List.setIfInBounds_toArray, List.set_cons_zero, List.set_cons_succ]
                refine wpAnyH_take (i := 10) (oi := ⟨some 150, _, _, _, _, _⟩) (v := undef) rfl (by kernel_rfl) (by kernel_rfl) (by kernel_rfl) (fun _ _ _ h => h) (Or.inr ⟨by rfl, rfl⟩) (by assumption) ?_
                try simp only [Act.put, List.setIfInBounds_toArray, List.set_cons_zero, List.set_cons_succ]
                refine wpAnyH_take (i := 11) (oi := ⟨some 151, _, _, _, _, _⟩) (v := undef) rfl (by kernel_rfl) (by kernel_rfl) (by kernel_rfl) (fun _ _ _ h => h) (Or.inr ⟨by rfl, rfl⟩) (by assumption) ?_
                try simp only [Act.put, List.setIfInBounds_toArray, List.set_cons_zero, List.set_cons_succ]
                refine wpAnyH_take (i := 12) (oi := ⟨some 152, _, _, _, _, _⟩) (v := undef) rfl (by kernel_rfl) (by kernel_rfl) (by kernel_rfl) (fun _ _ _ h => h) (Or.inr ⟨by rfl, rfl⟩) (by assumption) ?_
                try simp only [Act.put, List.setIfInBounds_toArray, List.set_cons_zero, List.set_cons_succ]
                refine wpAnyH_take (i := 13) (oi := ⟨some 153, _, _, _, _, _⟩) (v := undef) rfl (by kernel_rfl) (by kernel_rfl) (by kernel_rfl) (fun _ _ _ h => h) (Or.inr ⟨by rfl, rfl⟩) (by assumption) ?_
                try simp only [Act.put, List.setIfInBounds_toArray, List.set_cons_zero, List.set_cons_succ]
                refine wpAnyH_take (i := 14) (oi := ⟨some 154, _, _, _, _, _⟩) (v := undef) rfl (by kernel_rfl) (by kernel_rfl) (by kernel_rfl) (fun _ _ _ h => h) (Or.inr ⟨by rfl, rfl⟩) (by assumption) ?_
                try simp only [Act.put, List.setIfInBounds_toArray, List.set_cons_zero, List.set_cons_succ]
                refine wpAnyH_take (i := 15) (oi := ⟨some 155, _, _, _, _, _⟩) (v := ?_) rfl (by kernel_rfl) (by kernel_rfl) (by kernel_rfl) (fun _ _ _ h => h) (Or.inl ⟨by rfl, ?_⟩) (by assumption) ?_
                rotate_left
                · (intro w hSw; (try dsimp only at hSw); go_simp; try with_reducible rfl)
                try simp only [Act.put, List.setIfInBounds_toArray, List.set_cons_zero, List.set_cons_succ]
                refine wpAnyH_take (i := 16) (oi := ⟨some 156, _, _, _, _, _⟩) (v := ?_) rfl (by kernel_rfl) (by kernel_rfl) (by kernel_rfl) (fun _ _ _ h => h) (Or.inl ⟨by rfl, ?_⟩) (by assumption) ?_
                rotate_left
                · (intro w hSw; (try dsimp only at hSw); go_simp; try with_reducible rfl)
                try simp only [Act.put, List.setIfInBounds_toArray, List.set_cons_zero, List.set_cons_succ]
                refine wpAnyH_take (i := 17) (oi := ⟨some 157, _, _, _, _, _⟩) (v := ?_) rfl (by kernel_rfl) (by kernel_rfl) (by kernel_rfl) (fun _ _ _ h => h) (Or.inl ⟨by rfl, ?_⟩) (by assumption) ?_
                rotate_left
                · (intro w hSw; (try dsimp only at hSw); go_simp; try with_reducible rfl)
                try simp only [Act.put, List.setIfInBounds_toArray, List.set_cons_zero, List.set_cons_succ]
                refine wpAnyH_take (i := 18) (oi := ⟨some 158, _, _, _, _, _⟩) (v := ?_) rfl (by kernel_rfl) (by kernel_rfl) (by kernel_rfl) (fun _ _ _ h => h) (Or.inl ⟨by rfl, ?_⟩) (by assumption) ?_
                rotate_left
                · (intro w hSw; (try dsimp only at hSw); go_simp; try with_reducible rfl)
                try simp only [Act.put, List.setIfInBounds_toArray, List.set_cons_zero, List.set_cons_succ]
                refine wpAnyH_take (i := 19) (oi := ⟨some 159, _, _, _, _, _⟩) (v := ?_) rfl (by kernel_rfl) (by kernel_rfl) (by kernel_rfl) (fun _ _ _ h => h) (Or.inl ⟨by rfl, ?_⟩) (by assumption) ?_
                rotate_left
                · (intro w hSw; (try dsimp only at hSw); go_simp; try with_reducible rfl)
                try simp only [Act.put, List.setIfInBounds_toArray, List.set_cons_zero, List.set_cons_succ]
                refine wpAnyH_take (i := 20) (oi := ⟨some 160, _, _, _, _, _⟩) (v := ?_) rfl (by kernel_rfl) (by kernel_rfl) (by kernel_rfl) (fun _ _ _ h => h) (Or.inl ⟨by rfl, ?_⟩) (by assumption) ?_
                rotate_left
                · (intro w hSw; (try dsimp only at hSw); go_simp; try with_reducible rfl)
                try simp only [Act.put, List.setIfInBounds_toArray, List.set_cons_zero, List.set_cons_succ]
                refine wpAnyH_take (i := 21) (oi := ⟨some 161, _, _, _, _, _⟩) (v := ?_) rfl (by kernel_rfl) (by kernel_rfl) (by kernel_rfl) (fun _ _ _ h => h) (Or.inl ⟨by rfl, ?_⟩) (by assumption) ?_
                rotate_left
                · (intro w hSw; (try dsimp only at hSw); go_simp; try with_reducible rfl)
                try simp only [Act.put, List.setIfInBounds_toArray, List.set_cons_zero, List.set_cons_succ]
                refine wpAnyH_take (i := 22) (oi := ⟨some 162, _, _, _, _, _⟩) (v := ?_) rfl (by kernel_rfl) (by kernel_rfl) (by kernel_rfl) (fun _ _ _ h => h) (Or.inl ⟨by rfl, ?_⟩) (by assumption) ?_
                rotate_left
                · (intro w hSw; (try dsimp only at hSw); go_simp; try with_reducible rfl)
                try simp only [Act.put, List.setIfInBounds_toArray, List.set_cons_zero, List.set_cons_succ]
                refine wpAnyH_ready (rs := [23]) (by kernel_rfl) (by simp) (AllReadyH.cons (o := ⟨some 163, _, _, _, _, _⟩) rfl (fun K hK => ?_) AllReadyH.nil)
                go_simp
                (go_at_call 21; refine (SM.out A9 c9 _ (bts_up HT9.out (low_drewN rfl)) (HY9.out.drewN _).bts).mono ?_; rintro e w13 ⟨rfl, m13, rfl⟩)
                refine hK.out _ _ ?_ (fun hHeld => ?_)
                · exact ⟨y0, y1, y2, y3⟩
                clear hK K
                try simp only [Act.put, List.setIfInBounds_toArray, List.set_cons_zero, List.set_cons_succ]
                refine wpAnyH_take (i := 24) (oi := ⟨some 164, _, _, _, _, _⟩) (v := ?_) rfl (by kernel_rfl) (by kernel_rfl) (by kernel_rfl) (fun _ _ _ h => h) (Or.inl ⟨by rfl, ?_⟩) (by assumption) ?_
                rotate_left
                · (intro w hSw; (try dsimp only at hSw); go_simp; try with_reducible rfl)
                try simp only [Act.put, List.setIfInBounds_toArray, List.set_cons_zero, List.set_cons_succ]
                refine wpAnyH_take (i := 25) (oi := ⟨some 165, _, _, _, _, _⟩) (v := ?_) rfl (by kernel_rfl) (by kernel_rfl) (by kernel_rfl) (fun _ _ _ h => h) (Or.inl ⟨by rfl, ?_⟩) (by assumption) ?_
                rotate_left
                · (intro w hSw; (try dsimp only at hSw); go_simp; try with_reducible rfl)
                try simp only [Act.put, List.setIfInBounds_toArray, List.set_cons_zero, List.set_cons_succ]
                refine wpAnyH_take (i := 26) (oi := ⟨some 166, _, _, _, _, _⟩) (v := ?_) rfl (by kernel_rfl) (by kernel_rfl) (by kernel_rfl) (fun _ _ _ h => h) (Or.inl ⟨by rfl, ?_⟩) (by assumption) ?_
                rotate_left
                · (intro w hSw; (try dsimp only at hSw); go_simp; try with_reducible rfl)
                try simp only [Act.put, List.setIfInBounds_toArray, List.set_cons_zero, List.set_cons_succ]
                refine wpAnyH_take (i := 28) (oi := ⟨some 168, _, _, _, _, _⟩) (v := ?_) rfl (by kernel_rfl) (by kernel_rfl) (by kernel_rfl) (fun _ _ _ h => h) (Or.inl ⟨by rfl, ?_⟩) (by assumption) ?_
                rotate_left
                · (intro w hSw; (try dsimp only at hSw); go_simp; try with_reducible rfl)
                try simp only [Act.put, List.setIfInBounds_toArray, List.set_cons_zero, List.set_cons_succ]
                refine wpAnyH_take (i := 30) (oi := ⟨some 170, _, _, _, _, _⟩) (v := ?_) rfl (by kernel_rfl) (by kernel_rfl) (by kernel_rfl) (fun _ _ _ h => h) (Or.inl ⟨by rfl, ?_⟩) (by assumption) ?_
                rotate_left
                · (intro w hSw; (try dsimp only at hSw); go_simp; try with_reducible rfl)
                try simp only [Act.put, List.setIfInBounds_toArray, List.set_cons_zero, List.set_cons_succ]
                have hbq : Below w9.heap.size w9 (w9.drewN (m10 + m11 + 1 + m13)) := low_drewN rfl
                have HBQ := Lib.hid (palloc hbq (.cells #[] 31)); clear hbq
                have hlit : SlRow ((w9.drewN (m10 + m11 + 1 + m13)).alloc (.cells #[] 31)) w9.heap.size (.slice (some ⟨w9.heap.size, 0, none⟩) 0 0) [] := slRow_lit _ _ _ rfl (Nat.le_refl _)
                have HLIT := Lib.hid hlit; clear hlit
                refine wpAnyH_ready (rs := [27]) (by kernel_rfl) (by simp) (AllReadyH.cons (o := ⟨some 167, _, _, _, _, _⟩) rfl (fun K hK => ?_) AllReadyH.nil)
                go_simp
                refine hK.out _ _ ?_ (fun hHeld => ?_)
                · exact ky_S (HY9.out.up HBQ.out)
                clear hK K
                try simp only [Act.put, List.setIfInBounds_toArray, List.set_cons_zero, List.set_cons_succ]
                refine wpAnyH_ready (rs := [29]) (by kernel_rfl) (by simp) (AllReadyH.cons (o := ⟨some 169, _, _, _, _, _⟩) rfl (fun K hK => ?_) AllReadyH.nil)
                refine step_row (by rfl) (.tmp 167) (.tmp 168) rfl w9.heap.size (.slice (some ⟨w9.heap.size, 0, none⟩) 0 0) [] rfl HLIT.out Azo nzo czo recs1 rfl (HY9.out.up HBQ.out).sls (few3 hfew) HBQ.out.size ?_
                intro v20 w20 hr20 hg20
                have HB20 := Lib.hid (low_grown HBQ.out HLIT.out hg20)
                rewrite [List.nil_append] at hr20
                have HR20 := Lib.hid hr20; clear hr20 hg20
                refine hK.out _ _ ?_ (fun hHeld => ?_)
                · exact ky_S (HY9.out.up HB20.out)
                clear hK K
                try simp only [Act.put, List.setIfInBounds_toArray, List.set_cons_zero, List.set_cons_succ]
                refine wpAnyH_ready (rs := [31]) (by kernel_rfl) (by simp) (AllReadyH.cons (o := ⟨some 171, _, _, _, _, _⟩) rfl (fun K hK => ?_) AllReadyH.nil)
                go_simp
                (go_at_call 14; refine (BY.out _).mono ?_; rintro e w21 ⟨A21, c21, rfl, hs, hb⟩; have HS21 := Lib.hid hs; have HR21 := Lib.hid (HR20.out.below hb); have HB21 := Lib.hid (HB20.out.trans (hb.mono HB20.out.size)); clear hs hb)
                refine hK.out _ _ ?_ (fun hHeld => ?_)
                · exact ky_S (HY9.out.up HB21.out)
                clear hK K
                try simp only [Act.put, List.setIfInBounds_toArray, List.set_cons_zero, List.set_cons_succ]
                have HB22 := Lib.hid (palloc HB21.out (.cells #[.slice A21 m c21] 31))
                refine wpAnyH_ready (rs := [32]) (by kernel_rfl) (by simp) (AllReadyH.cons (o := ⟨some 172, _, _, _, _, _⟩) rfl (fun K hK => ?_) AllReadyH.nil)
                go_simp
                refine hK.out _ _ ?_ (fun hHeld => ?_)
                · exact ky_S (HY9.out.up HB22.out)
                clear hK K
                try simp only [Act.put, List.setIfInBounds_toArray, List.set_cons_zero, List.set_cons_succ]
                have HP22 := Lib.hid (palloc (Below.refl w21.heap.size w21) (.cells #[.slice A21 m c21] 31))
                have HR22 := Lib.hid (HR21.out.below HP22.out)
                have HS22 := Lib.hid (sls_one (Blk.new w21 31 #[.slice A21 m c21]) (sl_up HS21.out HP22.out))
                refine wpAnyH_ready (rs := [33]) (by kernel_rfl) (by simp) (AllReadyH.cons (o := ⟨some 173, _, _, _, _, _⟩) rfl (fun K hK => ?_) AllReadyH.nil)
                refine step_row (by rfl) (.tmp 169) (.tmp 172) rfl w9.heap.size v20 recs1 rfl HR22.out (some ⟨w21.heap.size, 0, none⟩) 1 1 [L] rfl HS22.out (few4 hfew) HB22.out.size ?_
                intro v23 w23 hr23 hg23
                have HB23 := Lib.hid (low_grown HB22.out HR22.out hg23)
                obtain ⟨A23, c23, rfl⟩ := form_n HNR.out hr23
                have HR23 := Lib.hid (slRow_sls hr23); clear hr23 hg23
                refine hK.out _ _ ?_ (fun hHeld => ?_)
                · exact ky_S (HY9.out.up HB23.out)
                clear hK K
                try simp only [Act.put, List.setIfInBounds_toArray, List.set_cons_zero, List.set_cons_succ]
                have TXX := Lib.hid (fun (A' : Option Addr) (c' : Nat) (W : World) (hA : Sls W W.heap.size (.slice B9 nr d9) (recs1 ++ [L])) (hB : Sls W W.heap.size (.slice A' nr c') (recs1 ++ [L])) => texts_any B9 A' nr nr d9 c' (recs1 ++ [L]) (recs1 ++ [L]) W hA hB HN1000.out)
                rewrite [decide_eq_true (rfl : recs1 ++ [L] = recs1 ++ [L])] at TXX
                refine wpAnyH_ready (rs := [34]) (by kernel_rfl) (by simp) (AllReadyH.cons (o := ⟨some 174, _, _, _, _, _⟩) rfl (fun K hK => ?_) AllReadyH.nil)
                go_simp
                (go_at_call 22; refine (TXX.out A23 c23 _ (slRow_sls (HS9.out.below HB23.out)) HR23.out).mono ?_; rintro e w24 ⟨rfl, m24, rfl⟩)
                refine hK.out _ _ ?_ (fun hHeld => ?_)
                · exact ky_S (HY9.out.up (HB23.out.trans (low_drewN_at rfl)))
                clear hK K
                try simp only [Act.put, List.setIfInBounds_toArray, List.set_cons_zero, List.set_cons_succ]
                refine wpAnyH_take (i := 35) (oi := ⟨some 175, _, _, _, _, _⟩) (v := ?_) rfl (by kernel_rfl) (by kernel_rfl) (by kernel_rfl) (fun _ _ _ h => h) (Or.inl ⟨by rfl, ?_⟩) (by assumption) ?_
                rotate_left
                · (intro w hSw; (try dsimp only at hSw); go_simp; try with_reducible rfl)
                try simp only [Act.put, List.setIfInBounds_toArray, List.set_cons_zero, List.set_cons_succ]
                refine wpAnyH_take (i := 36) (oi := ⟨some 176, _, _, _, _, _⟩) (v := ?_) rfl (by kernel_rfl) (by kernel_rfl) (by kernel_rfl) (fun _ _ _ h => h) (Or.inl ⟨by rfl, ?_⟩) (by assumption) ?_
                rotate_left
                · (intro w hSw; (try dsimp only at hSw); go_simp; try with_reducible rfl)
                try simp only [Act.put, List.setIfInBounds_toArray, List.set_cons_zero, List.set_cons_succ]
                refine wpAnyH_take (i := 37) (oi := ⟨some 177, _, _, _, _, _⟩) (v := ?_) rfl (by kernel_rfl) (by kernel_rfl) (by kernel_rfl) (fun _ _ _ h => h) (Or.inl ⟨by rfl, ?_⟩) (by assumption) ?_
                rotate_left
                · (intro w hSw; (try dsimp only at hSw); go_simp; try with_reducible rfl)
                try simp only [Act.put, List.setIfInBounds_toArray, List.set_cons_zero, List.set_cons_succ]
                refine wpAnyH_take (i := 38) (oi := ⟨some 178, _, _, _, _, _⟩) (v := ?_) rfl (by kernel_rfl) (by kernel_rfl) (by kernel_rfl) (fun _ _ _ h => h) (Or.inl ⟨by rfl, ?_⟩) (by assumption) ?_
                rotate_left
                · (intro w hSw; (try dsimp only at hSw); go_simp; try with_reducible rfl)
                try simp only [Act.put, List.setIfInBounds_toArray, List.set_cons_zero, List.set_cons_succ]
                refine wpAnyH_done (by kernel_rfl) ?_ _
                go_wp2
                go_roundw
                case rel => exact ⟨k + 1, hlt, by go_num, x9, A9, nb, c9, s1.crash ts, _, _, _, base1, recs1 ++ [L], rfl, rfl, (((HY9.out.up HB23.out).rebase (bts_up HT9.out HB23.out)).rerow (HS9.out.below HB23.out)).1.up (low_drewN rfl), HKP.out⟩
                case measure => exact meas hlt
    · obtain rfl : k = len1 := by omega
      go_wp2_with (go_at_call 7; refine (AW.out _).mono ?_; rintro e wz ⟨rfl, hb⟩; have HBZ := Lib.hid (HKM.out.1.trans (hb.mono HKM.out.1.size)); clear hb)
      go_ret
      exact ⟨rfl, HBZ.out⟩
open Go.ChangeShapes Go.WideShapes Go.ChangeAt Go.RowKit
theorem own : ownKnob Tryz.prog.godebug = none := by kernel_rfl
theorem laidOut : laidOutB Tryz.prog = true := by kernel_rfl
/-! the step from the walk to the row -/
set_option maxRecDepth 100000 in
theorem lifted (os : Os) (started : os.Started) (H : Type) (enc : TypeId × Value → H) :
    ReturnsInHanded {} Tryz.checked os 4 .any (Rows.walKeepsSpec.pre6 enc Tryz.prog Tryz.f4 Rows.walKeepsRow.domain false) (Rows.walKeepsSpec.post enc Tryz.prog Tryz.f4 false true false false) := by
  refine returnsInHanded_of_change (C := Tryz.checked) own started (by kernel_rfl) Tryz.func4
    (ChangeSpec.witness6 (enc := enc) (C := Tryz.checked) false ⟨#[], #[.slice none 0 0], []⟩ 8 (by kernel_rfl) (by kernel_rfl) (by kernel_rfl) (by kernel_rfl)) ?_
  intro W base args ds gs before hval0 hW hcnd _
  have hval : ∀ (j : Nat) t v, Tryz.f4.params[j]? = some t → args[j]? = some v → Value.okWide Tryz.prog W .any base t v := hval0
  have hW' := hW
  obtain ⟨p, q, hA0, hV, rfl, hfz, hnd⟩ := hW
  have hA : DataW.TrodAll enc Tryz.prog W 0 (fun _ => true) true Tryz.f4.params.toList args.toList ds p := hA0
  rw [Tryz.params4] at hA hval
  obtain ⟨v0, vs0, d0, ds0, p0, q0, hargs, rfl, rfl, h0, r0⟩ := trodAll_cons hA
  obtain ⟨rfl, rfl, rfl⟩ := trodAll_nil r0
  obtain rfl : args = #[v0] := by cases args; simp_all
  obtain ⟨rfl, rfl⟩ := trodVars_none hV
  obtain ⟨a0, len0, cap0, rfl⟩ := okWide_slice Tryz.underlying22 (hval 0 22 v0 rfl rfl)
  have k0 := h0
  have lt0 : ∀ x ∈ p0, x.block < W.heap.size := by obtain ⟨m, hm⟩ := k0; exact DataW.trod_lt m _ _ _ hm
  have w0 : IsRecs W a0 len0 cap0 4 (Act8R W) := by
    obtain ⟨fuel, hf⟩ := h0
    rcases open_slice_fields Tryz.underlying22 Tryz.underlying46 (by kernel_rfl) (by kernel_rfl) hf with ⟨hcs, _⟩ | ⟨x, l, c, m, D, Pl, hcs, _, hl, hm, hmm, _, hh⟩
    · simp [Value.cells] at hcs
      obtain ⟨rfl, rfl, rfl⟩ := hcs
      exact .inl ⟨rfl, rfl, rfl⟩
    · simp [Value.cells] at hcs
      obtain ⟨rfl, rfl, rfl⟩ := hcs
      refine .inr ⟨_, rfl, hl, hm, fun i hi j hj => ?_⟩
      obtain ⟨ys, n, _, _, _, hg⟩ := hh i (by rw [hmm, if_pos rfl]; exact hi)
      match j, hj with
      | 0, _ =>
        obtain ⟨v, y, hc, _, ht⟩ := hg 0 _ rfl
        exact ⟨v, hc, open_num_at Tryz.underlying3 ht⟩
      | 1, _ =>
        obtain ⟨v, y, hc, _, ht⟩ := hg 1 _ rfl
        exact ⟨v, hc, open_num_at Tryz.underlying3 ht⟩
      | 2, _ =>
        obtain ⟨v, y, hc, _, ht⟩ := hg 2 _ rfl
        exact ⟨v, hc, open_num_at Tryz.underlying5 ht⟩
      | 3, _ =>
        obtain ⟨v, y, hc, _, ht⟩ := hg 3 _ rfl
        refine ⟨v, hc, ?_⟩
        rcases open_slice_fields Tryz.underlying44 Tryz.underlying106 (by kernel_rfl) (by kernel_rfl) ht with ⟨hcs', _⟩ | ⟨x', l', c', m', D', Pl', hcs', _, hl', hm', hmm', _, hh'⟩
        · obtain rfl : v = .slice none 0 0 := by simpa using hcs'
          exact ⟨_, _, _, rfl, .inl ⟨rfl, rfl, rfl⟩⟩
        · obtain rfl : v = .slice (some x') l' c' := by simpa using hcs'
          refine ⟨_, _, _, rfl, ?_⟩
          refine .inr ⟨_, rfl, hl', hm', fun i' hi' j' hj' => ?_⟩
          obtain ⟨ys', n', _, _, _, hg'⟩ := hh' i' (by rw [hmm', if_pos rfl]; exact hi')
          match j', hj' with
          | 0, _ =>
            obtain ⟨v, y, hc, _, ht⟩ := hg' 0 _ rfl
            exact ⟨v, hc, open_num_at Tryz.underlying3 ht⟩
          | 1, _ =>
            obtain ⟨v, y, hc, _, ht⟩ := hg' 1 _ rfl
            exact ⟨v, hc, open_row_at Tryz.underlying31 Tryz.underlying5 (by kernel_rfl) ht⟩
  clear hA0 hval0
  refine (walk a0 len0 cap0 W w0).mono fun e W' ⟨he, bel⟩ => ?_
  subst he
  exact ⟨_, rfl, _, _, _, [], _, [], hW', trodAll_mk1 (shut_bool Tryz.underlying4 _), (trodAll_cons_mk (Below.trod laidOut (by kernel_rfl) (of_decide_eq_true (by kernel_rfl)) k0 bel lt0) trodAll_mk0), rfl, bel.frame _, fun h => by cases h⟩

theorem over : Rows.walKeepsRow.holds Tryz.pinned (OpenSpec.ofChange Rows.walKeepsSpec) :=
  OpenClaim.holds_of_wide 4 Tryz.f4 rfl rfl rfl rfl rfl rfl rfl ⟨rfl, rfl, rfl, rfl, rfl⟩ rfl rfl rfl rfl rfl (by kernel_rfl) Tryz.func4 (by kernel_rfl)
    (of_decide_eq_true (by kernel_rfl)) (by unfold Func.isWrapper; first | (rw [if_pos (by decide +kernel)]; kernel_rfl) | (rw [if_neg (by decide +kernel)]; exact ⟨rfl, rfl⟩))
    (fun os started H enc _ => lifted os started H enc)

/-- the statement -/
theorem proved : Rows.WalKeepsSaid := over
end Go.Proofs.YtkchocafnidfiaaGreat.walKeeps
