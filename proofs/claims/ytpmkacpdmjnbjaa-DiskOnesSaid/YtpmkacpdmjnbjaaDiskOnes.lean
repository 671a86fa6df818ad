/- DiskOnes: what a crash leaves of each sector that waited: the walk, and the law. -/
import Derived.Test.YtpmkacpdmjnbjaaOnes
import Derived.Test.YtpmkacpdmjnbjaaArgs
import Derived.IntWalk
import Derived.WalkKit
import Derived.ProofKit
import Derived.OpenShut
import Derived.ShutString
import Derived.ChangeOld
import Derived.Below
namespace Go.Proofs.Ytpmkacpdmjnbjaa.Dsk
open Go.RowKit Go.Maps Go.Shelf Go.Proofs.Ytpmkacpdmjnbjaa.Mem
set_option linter.unusedVariables false
set_option linter.unusedSimpArgs false
/-- the rows of a reference's disk, element by element -/
theorem ref_rows {w : World} {S : List Nat} {s : St} {n : Nat} {B1 B2 : Option Addr} {d1 d2 : Nat} {x3 x4 : Value} (h : RefAt w S (.agg #[.slice B1 n d1, .slice B2 n d2, x3, x4]) s) (hn : s.n = n) (i : Nat) (hi : i < n) :
    ∃ (b1 o1 b2 o2 : Nat) (As : Option Addr) (ns cs : Nat) (Aw : Option Addr) (nw cw : Nat), B1 = some ⟨b1, o1, none⟩ ∧ b1 < w.heap.size ∧ w.cell? ⟨b1, o1 + i, none⟩ = some (.slice As ns cs) ∧ Sl w w.heap.size (.slice As ns cs) ((s.fs i).getD noughts) ∧
      B2 = some ⟨b2, o2, none⟩ ∧ b2 < w.heap.size ∧ w.cell? ⟨b2, o2 + i, none⟩ = some (.slice Aw nw cw) ∧ Sl w w.heap.size (.slice Aw nw cw) ((s.fw i).getD []) ∧ nw = ((s.fw i).getD []).length := by
  obtain ⟨v1, v2, us1, us2, hv, h1, h2, h3, h4⟩ := h
  unfold refV at hv
  injection hv with hv
  have e1 : Value.slice B1 n d1 = v1 := by
    have := congrArg (fun (x : Array Value) => x[0]!) hv
    simpa using this
  have e2 : Value.slice B2 n d2 = v2 := by
    have := congrArg (fun (x : Array Value) => x[1]!) hv
    simpa using this
  subst e1 e2
  obtain ⟨b1, o1, c1, f1, hb1, _, g1⟩ := h1.at_ (i := i) (by omega)
  obtain ⟨b2, o2, c2, f2, hb2, _, g2⟩ := h2.at_ (i := i) (by omega)
  injection f1 with f1
  injection f2 with f2
  have k1 := (h3 i (by omega)).sl
  have k2 := (h4 i (by omega)).sl
  obtain ⟨As, ns, cs, e3, _⟩ := id k1
  obtain ⟨Aw, cw, e4, _⟩ := k2.len
  rw [e3] at g1 k1
  rw [e4] at g2 k2
  exact ⟨b1, o1, b2, o2, As, ns, cs, Aw, _, cw, f1, hb1, g1, k1, f2, hb2, g2, k2, rfl⟩
theorem tears_cell {w : World} {B : Nat} {A : Option Addr} {n c : Nat} {l : List (Int × List Nat)} (h : TearsAt w B (.slice A n c) l) (q : Nat) (hq : q < n) :
    ∃ (b o : Nat) (kd : Int) (xs : List Nat) (Au : Option Addr) (nu cu : Nat), A = some ⟨b, o, none⟩ ∧ b < B ∧ l[q]? = some (kd, xs) ∧ w.cell? ⟨b, o + q * 2, none⟩ = some (.int .i64 kd) ∧ w.cell? ⟨b, o + q * 2 + 1, none⟩ = some (.slice Au nu cu) ∧ Sl w B (.slice Au nu cu) xs := by
  obtain ⟨A', n', c', e, hl, _, hc⟩ := h
  injection e with e1 e2 e3
  subst e1 e2 e3
  obtain ⟨b, o, e, hb, hh⟩ := hc (by omega)
  obtain ⟨k, u, xs, h1, h2, h3, h4, _⟩ := hh q hq
  obtain ⟨Au, nu, cu, rfl, _⟩ := id h4
  exact ⟨b, o, k, xs, Au, nu, cu, e, hb, h1, h2, h3, h4⟩
theorem sl_bts {w : World} {B n c : Nat} {A : Option Addr} {xs : List Nat} (h : Sl w B (.slice A n c) xs) : Bts w B A n xs := by
  obtain ⟨A', n', c', e, hb, _⟩ := h
  injection e with e1 e2 e3
  subst e1 e2 e3
  exact hb
set_option maxRecDepth 20000 in
set_option maxHeartbeats 32000000 in
theorem ones_true (A0 A9 : Option Addr) (len0 cap0 len1 cap1 : Nat) (l : List Ac) (ts : List (Int × List Nat)) (w : World) (h40 : len0 ≤ 40) (h41 : len1 ≤ 40) (hL : Calls Try.prog 10 #[.slice A0 len0 cap0] w fun e w' => e = .returned (.bool true) ∧ w = w')
    (hM : Calls Try.prog 10 #[.slice (some ⟨w.heap.size, 0, none⟩) 1 1] (w.alloc (.cells #[.int .i64 0, .int .i64 0, .slice none 0 0, .bool false, .slice A9 len1 cap1] 38)) fun e w' => e = .returned (.bool true) ∧ w.alloc (.cells #[.int .i64 0, .int .i64 0, .slice none 0 0, .bool false, .slice A9 len1 cap1] 38) = w') (hA : ActsAt w w.heap.size A0 len0 l) (hT : TearsAt w w.heap.size (.slice A9 len1 cap1) ts) :
    Calls Try.prog 5 #[.slice A0 len0 cap0, .slice A9 len1 cap1] w fun e w' => e = .returned (.bool true) ∧ Below w.heap.size w w' := by
  have LT := Lib.hid hL; clear hL
  have MT := Lib.hid hM; clear hM
  have HA := Lib.hid hA; clear hA
  have HT := Lib.hid hT; clear hT
  have HEN := Lib.hid (enters_of Try.func14 (by kernel_rfl) rfl)
  obtain ⟨n, hn5⟩ : ∃ n : Nat, n = 6 := ⟨_, rfl⟩
  have hne : ((n : Nat) : Int) = 6 := by omega
  have cN := new_ok n (w.alloc (.cells #[.int .i64 0, .int .i64 0, .slice none 0 0, .bool false, .slice A9 len1 cap1] 38)) (by omega) (by omega)
  rw [hne] at cN
  have CN := Lib.hid cN; clear cN
  have HNE := Lib.hid hne; clear hne
  have HN5 := Lib.hid hn5; clear hn5
  have HW0 := Lib.hid ((Below.refl w.heap.size w).alloc (Nat.le_refl _) (.cells #[.int .i64 0, .int .i64 0, .slice none 0 0, .bool false, .slice A9 len1 cap1] 38))
  go_enter Try.func5, Try.ntmps5
  go_wp2_with (first
    | (go_at_call 10; first | (have L2 := L1; clear L1; refine (MT.out).mono ?_; rintro e w' ⟨rfl, rfl⟩) | (refine (LT.out).mono ?_; rintro e w' ⟨rfl, rfl⟩; have L1 := Lib.hid trivial))
    | (go_at_call 12; refine (CN.out).mono ?_; rintro e w1 ⟨g, bs, bw, rfl, hD, hb, hS⟩; have hlt := hD.lt; have rn := ref_new [g, bs, bw] n w1 (by have := HN5.out; omega) (by have := HN5.out; omega) (by simp; omega); rw [HNE.out] at rn; have RN := Lib.hid rn; clear rn; have HD1 := Lib.hid hD; clear hD; have HB1 := Lib.hid (HW0.out.trans (hb.mono HW0.out.size)); clear hb; have HS : Hid (∀ x ∈ [g, bs, bw], w.heap.size ≤ x) := fun x hx => Nat.le_trans HW0.out.size (hS x hx); clear hS)
    | (go_at_call 13; refine (RN.out).mono ?_; rintro e w2 ⟨v2, rfl, hR, hb⟩; obtain ⟨A1, A2, c1, c2, hv2⟩ := ref_form hR; subst hv2; have HR2 := Lib.hid hR; clear hR; have HD2 := Lib.hid (HD1.out.below hb); have HB2 := Lib.hid (HB1.out.trans (hb.mono HB1.out.size)); have hz2 := hb.size; clear hb; unfold refV at HR2; unfold refV))
  have hk7 := Blk.new w2 31 #[.slice A1 (St.new n).n c1, .slice A2 (St.new n).n c2, .int .i64 (armedOf (St.new n).left), .bool (St.new n).dead]
  have hal := (Below.refl w2.heap.size w2).alloc (Nat.le_refl _) (Obj.cells #[.slice A1 (St.new n).n c1, .slice A2 (St.new n).n c2, .int .i64 (armedOf (St.new n).left), .bool (St.new n).dead] 31)
  have HD3 := Lib.hid (HD2.out.below hal)
  have HR3 := Lib.hid ((HR2.out.raise (raise_cons (x := w2.heap.size) (Nat.le_refl _))).below hal)
  have HB3 := Lib.hid (HB2.out.trans (hal.mono HB2.out.size))
  have HK3 := Lib.hid hk7; clear hk7 hal
  have hlt3 := HD2.out.lt
  have hx7l := HK3.out.lt
  generalize w2.alloc (Obj.cells #[.slice A1 (St.new n).n c1, .slice A2 (St.new n).n c2, .int .i64 (armedOf (St.new n).left), .bool (St.new n).dead] 31) = w3 at *
  generalize hx7 : w2.heap.size = x7 at *
  have hxw : w.heap.size ≤ x7 := by have := HB2.out.size; omega
  clear hx7 hlt
  go_wp2
  go_loopw [8] (fun i wr => ∃ (k : Nat) (B1 B2 : Option Addr) (d1 d2 : Nat), k ≤ len0 ∧ i = .int .i64 k ∧ Blk wr x7 31 #[.slice B1 n d1, .slice B2 n d2, .int .i64 (armedOf ((St.new n).run (l.take k)).left), .bool ((St.new n).run (l.take k)).dead] ∧ DiskAt wr g bs bw ((St.new n).run (l.take k)) ∧ RefAt wr (x7 :: [g, bs, bw]) (.agg #[.slice B1 n d1, .slice B2 n d2, .int .i64 (armedOf ((St.new n).run (l.take k)).left), .bool ((St.new n).run (l.take k)).dead]) ((St.new n).run (l.take k)) ∧ Below w.heap.size w wr) (fun i _ => len0 - (intOf i).toNat)
  case atStart => exact ⟨0, A1, A2, c1, c2, Nat.zero_le _, rfl, HK3.out, HD3.out, HR3.out, HB3.out⟩
  case round =>
    obtain ⟨k, B1, B2, d1, d2, hk, rfl, hk7, hd, hr, hb⟩ := hrel
    have a0 := hk7.cell 0
    have a1 := hk7.cell 1
    have a2 := hk7.cell 2
    have a3 := hk7.cell 3
    have a4 := hk7.lt
    simp at a0 a1 a2 a3
    have hn' : ((St.new n).run (l.take k)).n = n := run_n _ _
    generalize hs : ((St.new n).run (l.take k)) = s at *
    have HK := Lib.hid hk7; clear hk7
    have HD := Lib.hid hd; clear hd
    have HR := Lib.hid hr; clear hr
    have HB := Lib.hid hb; clear hb
    have HN := Lib.hid hn'; clear hn'
    have HSE := Lib.hid hs; clear hs
    by_cases hlt : k < len0
    · obtain ⟨b, off, a, Ab, At, nb, cb, nt, ct, rfl, hbB, hlk, g0, g1, g2, g3, g4, hact⟩ := acts_at HA.out HB.out hlt
      have hbw : b < wr.heap.size := by have := HB.out.size; omega
      have hdo := fun (W : World) (hW : Below wr.heap.size wr W) => do_any (x7 :: [g, bs, bw]) g bs bw w.heap.size s (refV (.slice B1 s.n d1) (.slice B2 s.n d2) s) _ a W (HD.out.below hW) (by have h := HR.out.below hW; rw [← HN.out] at h; exact h) (by simp) (by have h1 := hW.size; have h2 := HD.out.lt; intro y hy; simp at hy; omega) (by obtain ⟨vb, vt, e, q1, q2, q3⟩ := hact; exact ⟨vb, vt, e, q1.below hW (by have := HB.out.size; omega), q2.below hW (by have := HB.out.size; omega), q3⟩) HS.out
      have DO := Lib.hid hdo; clear hdo
      have HST := Lib.hid (run_step (St.new n) l k a hlk); clear hlk hact
      unfold refV at DO
      rw [HN.out] at DO
      have hgl := HD.out.lt
      go_wp2
      go_region_law (refine step_calls rfl 14 _ _ rfl #[ptr g, .agg #[.slice B1 n d1, .slice B2 n d2, .int .i64 (armedOf s.left), .bool s.dead], .agg #[.int .i64 a.what, .int .i64 a.n, .slice Ab nb cb, .bool a.short, .slice At nt ct]] (by simp [Act.eval]) HEN.out (by exact DO.out wr.drew (by exact (Below.refl wr.heap.size wr).drew)) ?_; rintro e w4 ⟨v4, rfl, hD, hR, hK⟩; refine ⟨_, rfl, ?_⟩; obtain ⟨E1, E2, e1, e2, hv4⟩ := ref_form hR; subst hv4; have hn4 : (s.step a).n = n := (step_n s a).trans HN.out; rw [hn4] at hR; have x7k := hK.blk HK.out.drew (by simp; omega); have m0 := x7k.cell 0; have m1 := x7k.cell 1; have m2 := x7k.cell 2; have m3 := x7k.cell 3; have mf0 := x7k.frozen 0; have mf1 := x7k.frozen 1; have mf2 := x7k.frozen 2; have mf3 := x7k.frozen 3; have ml := x7k.lt; simp at m0 m1 m2 m3; have hbl4 : Below w.heap.size wr w4 := (Below.mono (Below.refl wr.heap.size wr).drew (by have := HB.out.size; omega)).trans (hK.below HS.out (by have := HB.out.size; simp; omega)); have m4 := (hbl4.cell (p := ⟨b, off + k * 5, none⟩) hbB).trans g0; have m5 := (hbl4.cell (p := ⟨b, off + k * 5 + 1, none⟩) hbB).trans g1; have m6 := (hbl4.cell (p := ⟨b, off + k * 5 + 2, none⟩) hbB).trans g2; have m7 := (hbl4.cell (p := ⟨b, off + k * 5 + 3, none⟩) hbB).trans g3; have m8 := (hbl4.cell (p := ⟨b, off + k * 5 + 4, none⟩) hbB).trans g4; have HX4 := Lib.hid x7k; clear x7k; have HD4 := Lib.hid hD; clear hD; have HR4 := Lib.hid hR; clear hR; have HB4 := Lib.hid (HB.out.trans hbl4); clear hbl4; have HK4 : Hid (KeptBut wr w4 [g, bs, bw]) := kept_drew.trans hK; clear hK; unfold refV at HR4; unfold refV; try rw [hn4])
      all_goals
        (have gX := set4_blk (a' := .slice E1 n e1) (b' := .slice E2 n e2) (c' := .int .i64 (armedOf (s.step a).left)) (d' := .bool (s.step a).dead) HX4.out
         have gk := set4_kept (g := x7) (S := [x7]) (a := .slice E1 n e1) (b := .slice E2 n e2) (c := .int .i64 (armedOf (s.step a).left)) (d := .bool (s.step a).dead) (KeptBut.refl w4 [x7]) (by simp)
         have gD := HD4.out.kept gk (by simp; omega) (by simp; omega) (by simp; omega)
         have gR := HR4.out.kept (gk.more (S' := x7 :: [g, bs, bw]) (by simp))
         have gB := set4_below (a := .slice E1 n e1) (b := .slice E2 n e2) (c := .int .i64 (armedOf (s.step a).left)) (d := .bool (s.step a).dead) HB4.out hxw
         go_wp2
         go_roundw
         case rel =>
           refine ⟨k + 1, E1, E2, e1, e2, by omega, by go_num, ?_, ?_, ?_, ?_⟩
           · rw [HST.out, HSE.out]; exact gX
           · rw [HST.out, HSE.out]; exact gD
           · rw [HST.out, HSE.out]; exact gR
           · exact gB
         case measure => simp [intOf]; omega)
    · obtain rfl : k = len0 := by omega
      have hfull : l.take k = l := List.take_of_length_le (by have := HA.out.1; omega)
      rw [hfull] at HSE
      have hfine := HD.out.fine
      have CR := Lib.hid (crash_any g bs bw w.heap.size s (.slice A9 len1 cap1) ts wr HD.out (HT.out.below HB.out (Nat.le_refl _)) HS.out)
      go_wp2_with (go_at_call 17; refine (CR.out).mono ?_; rintro e w5 ⟨rfl, hD, hK⟩; have HD5 := Lib.hid hD; clear hD; have HK5 := Lib.hid hK; clear hK)
      have hgl := HD5.out.lt
      have K5 := Lib.hid (HK5.out.blk HK.out (by simp; omega))
      have R5 := Lib.hid (HR.out.kept (HK5.out.more (by simp)))
      have B5 := Lib.hid (HB.out.trans (HK5.out.below HS.out HB.out.size))
      clear HK HR HD HK5
      clear a0 a1 a2 a3 a4
      have a0 := K5.out.cell 0
      have a1 := K5.out.cell 1
      have a4 := K5.out.lt
      simp at a0 a1
      generalize k = len0 at *
      have ht5 : TearsAt w5 w.heap.size (.slice A9 len1 cap1) ts := HT.out.below B5.out (Nat.le_refl _)
      have htl : ts.length = len1 := by obtain ⟨A', n', c', e, hl, _⟩ := ht5; injection e with e1 e2 e3; omega
      have HTL := Lib.hid htl; clear htl
      have HFN := Lib.hid hfine; clear hfine
      have HT5 := Lib.hid ht5; clear ht5
      have hzw := B5.out.size
      go_loopw [9, 10] (fun q i wr => ∃ k : Nat, k ≤ 6 ∧ i = .int .i64 k ∧ q = .int .i64 ((wt s k).length : Nat) ∧ Below w5.heap.size w5 wr) (fun _ i _ => 6 - (intOf i).toNat)
      case atStart => exact ⟨0, by omega, rfl, rfl, Below.refl _ _⟩
      case round =>
        obtain ⟨k, hk, rfl, rfl, hbl⟩ := hrel
        have HL := Lib.hid hbl; clear hbl
        by_cases hk6 : k < 6
        · obtain ⟨b1, o1, b2, o2, As, ns, cs, Aw, nw, cw, e1, hb1, g1, hs1, e2, hb2, g2, hs2, hnw⟩ := ref_rows R5.out HN.out k (by rw [HN5.out]; exact hk6)
          subst e1 e2
          have HS1 := Lib.hid hs1; clear hs1
          have HS2 := Lib.hid hs2; clear hs2
          have rd := read_any g bs bw (s.crash ts) (k : Nat) wr (HD5.out.below HL.out)
          have hrd : (s.crash ts).read (k : Nat) = (((s.crash ts).fs k).getD noughts, 0) := by
            unfold St.read
            rw [if_neg (by simp [St.crash]), if_pos ⟨by omega, by have h1 := HN.out; have h2 := HN5.out; have h3 : (s.crash ts).n = s.n := (tears_same (s.waiting.zip ts) s).1; omega⟩]
            simp [St.get, St.crash]
          rw [hrd] at rd
          clear hrd
          have hsn : k < s.n := by have h1 := HN.out; have h2 := HN5.out; omega
          have hkn : k < n := by have := HN5.out; omega
          obtain ⟨q, hq⟩ : ∃ q, q = (wt s k).length := ⟨_, rfl⟩
          have hq40 : q ≤ 6 := by have := wt_le s k; omega
          rw [← hq]
          generalize hys : ((s.crash ts).fs k).getD noughts = ys at *
          generalize hxs : (s.fs k).getD noughts = xs at *
          have RD := Lib.hid rd; clear rd
          have HQ := Lib.hid hq; clear hq
          have HYS := Lib.hid hys; clear hys
          have HXS := Lib.hid hxs; clear hxs
          have HNW := Lib.hid hnw; clear hnw
          obtain ⟨ow, how⟩ : ∃ ow, ow = s.fw k := ⟨_, rfl⟩
          rw [← how] at HS2 HNW
          rcases ow with _ | x
          · have hfw := Lib.hid how.symm
            have hn0 : nw = 0 := HNW.out
            subst hn0
            have HE := Lib.hid (show ys = xs by rw [← HYS.out, ← HXS.out, crash_no hfw.out ts])
            clear how
            go_wp2_with (first
              | (go_at_call 16; refine (RD.out).mono ?_; rintro e w6 ⟨v6, rfl, hs, hb⟩; obtain ⟨Ar, nr, cr, rfl, hbt', _⟩ := hs; have hb6 := HL.out.trans (hb.mono HL.out.size); have y0 := (hb6.cell (p := ⟨x7, 0, none⟩) a4).trans a0; have y1 := (hb6.cell (p := ⟨x7, 1, none⟩) a4).trans a1; have y2 := (hb6.cell (p := ⟨b1, o1 + k, none⟩) hb1).trans g1; have y3 := (hb6.cell (p := ⟨b2, o2 + k, none⟩) hb2).trans g2; have y4 := Nat.lt_of_lt_of_le a4 hb6.size; have sm := rsame_any Ar As nr ns cr cs _ _ ys xs w6 hbt' (sl_bts (HS1.out.below hb6 (Nat.le_refl _))); rw [decide_eq_true HE.out] at sm; have SM := Lib.hid sm; have HBT := Lib.hid hbt'; have HB6 := Lib.hid hb6; clear sm hbt' hb6 hb)
              | (go_at_call 21; refine (SM.out).mono ?_; rintro e w7 ⟨rfl, q7, hq7⟩; have hb7 : Below w5.heap.size w5 w7 := hq7 ▸ below_drewN HB6.out q7; have v0 := (hb7.cell (p := ⟨x7, 0, none⟩) a4).trans a0; have v1 := (hb7.cell (p := ⟨x7, 1, none⟩) a4).trans a1; have v2 := (hb7.cell (p := ⟨b1, o1 + k, none⟩) hb1).trans g1; have v3 := (hb7.cell (p := ⟨b2, o2 + k, none⟩) hb2).trans g2; have v4 := Nat.lt_of_lt_of_le a4 hb7.size; have HB7 := Lib.hid hb7; clear hb7 hq7))
            all_goals go_roundw
            all_goals first
              | (refine ⟨k + 1, by omega, by go_num, ?_, HB7.out⟩; rw [wt_no hfw.out, ← HQ.out])
              | (simp [intOf]; omega)
          · have hfw := Lib.hid how.symm
            have hsec := HFN.out.1.2.2.2.1 k x how.symm
            have hn0 : nw = 512 := HNW.out.trans hsec.1
            have hnp : 0 < nw := by omega
            have hdn : decide (0 < (nw : Int)) = true := by simp; omega
            have HSX : Hid (s.fw k = some x) := how.symm
            have hsome : (s.fw k).isSome = true := by rw [← how]; rfl
            have HSM := Lib.hid hsome
            have hs2 : Sl w5 w5.heap.size (.slice Aw nw cw) x := HS2.out
            have HS2 := Lib.hid hs2
            clear how hsec hn0 hsome hs2
            by_cases hq1 : q < len1
            · obtain ⟨bt, ot, kd, tb, Au, nu, cu, rfl, hbtw, hlt, gt0, gt1, htb⟩ := tears_cell HT5.out q hq1
              have hbt5 : bt < w5.heap.size := by omega
              have HTB := Lib.hid (htb.more hzw)
              have HLT := Lib.hid hlt
              clear htb hlt
              have z := crash_at HSM.out hsn ts (kd, tb) (by rw [← HQ.out]; exact HLT.out)
              by_cases h1 : kd = 1
              · subst h1
                have HE := Lib.hid (show ys = x by rw [← HYS.out, z]; simp only; rw [tear_one, Option.getD_some, HSX.out, Option.getD_some])
                clear z
                go_wp2_with (first
                  | (go_at_call 16; refine (RD.out).mono ?_; rintro e w6 ⟨v6, rfl, hs, hb⟩; obtain ⟨Ar, nr, cr, rfl, hbt', _⟩ := hs; have hb6 := HL.out.trans (hb.mono HL.out.size); have y0 := (hb6.cell (p := ⟨x7, 0, none⟩) a4).trans a0; have y1 := (hb6.cell (p := ⟨x7, 1, none⟩) a4).trans a1; have y2 := (hb6.cell (p := ⟨b1, o1 + k, none⟩) hb1).trans g1; have y3 := (hb6.cell (p := ⟨b2, o2 + k, none⟩) hb2).trans g2; have y4 := Nat.lt_of_lt_of_le a4 hb6.size; have y5 := (hb6.cell (p := ⟨bt, ot + q * 2, none⟩) hbt5).trans gt0; have y6 := (hb6.cell (p := ⟨bt, ot + q * 2 + 1, none⟩) hbt5).trans gt1; have y7 := Nat.lt_of_lt_of_le hbt5 hb6.size; have sm := rsame_any Ar As nr ns cr cs _ _ ys xs w6 hbt' (sl_bts (HS1.out.below hb6 (Nat.le_refl _))); generalize decide (ys = xs) = t1 at sm; have SM := Lib.hid sm; have HBT := Lib.hid hbt'; have HB6 := Lib.hid hb6; clear sm hbt' hb6 hb)
                  | (go_at_call 21; first | (refine (SM2.out).mono ?_; rintro e w8 ⟨rfl, q8, hq8⟩; have hb8 : Below w5.heap.size w5 w8 := hq8 ▸ below_drewN HB7.out q8; have u0 := (hb8.cell (p := ⟨x7, 0, none⟩) a4).trans a0; have u1 := (hb8.cell (p := ⟨x7, 1, none⟩) a4).trans a1; have u2 := (hb8.cell (p := ⟨b1, o1 + k, none⟩) hb1).trans g1; have u3 := (hb8.cell (p := ⟨b2, o2 + k, none⟩) hb2).trans g2; have u4 := Nat.lt_of_lt_of_le a4 hb8.size; have u5 := (hb8.cell (p := ⟨bt, ot + q * 2, none⟩) hbt5).trans gt0; have u6 := (hb8.cell (p := ⟨bt, ot + q * 2 + 1, none⟩) hbt5).trans gt1; have u7 := Nat.lt_of_lt_of_le hbt5 hb8.size; have HB8 := Lib.hid hb8; clear hb8 hq8) | (refine (SM.out).mono ?_; rintro e w7 ⟨rfl, q7, hq7⟩; have hb7 : Below w5.heap.size w5 w7 := hq7 ▸ below_drewN HB6.out q7; have v0 := (hb7.cell (p := ⟨x7, 0, none⟩) a4).trans a0; have v1 := (hb7.cell (p := ⟨x7, 1, none⟩) a4).trans a1; have v2 := (hb7.cell (p := ⟨b1, o1 + k, none⟩) hb1).trans g1; have v3 := (hb7.cell (p := ⟨b2, o2 + k, none⟩) hb2).trans g2; have v4 := Nat.lt_of_lt_of_le a4 hb7.size; have v5 := (hb7.cell (p := ⟨bt, ot + q * 2, none⟩) hbt5).trans gt0; have v6 := (hb7.cell (p := ⟨bt, ot + q * 2 + 1, none⟩) hbt5).trans gt1; have v7 := Nat.lt_of_lt_of_le hbt5 hb7.size; have SM2 := Lib.hid (by have h := rsame_any Ar Aw nr nw cr cw _ _ ys x w7 (hq7 ▸ HBT.out.drewN q7) (sl_bts (HS2.out.below hb7 (Nat.le_refl _))); rw [decide_eq_true HE.out] at h; exact h); have HB7 := Lib.hid hb7; clear hb7 hq7)))
                all_goals go_roundw
                all_goals first
                  | (refine ⟨k + 1, by omega, by go_num, ?_, HB8.out⟩; rw [wt_yes (by rw [hfw.out]; rfl), List.length_append, ← HQ.out]; first | rfl | go_num | (simp; try go_num))
                  | (simp [intOf]; omega)
              · by_cases h2 : kd = 2
                · subst h2
                  have HE := Lib.hid (show ys = torn tb xs by rw [← HYS.out, z]; simp only; rw [tear_two, Option.getD_some, HXS.out])
                  have hse : IsSec xs := by rw [← HXS.out]; exact secD HFN.out.1.2.2.1 k
                  have HSEC := Lib.hid hse
                  have HLT8 := Lib.hid (torn_sec HTB.out.lt hse).2
                  clear z hse
                  go_wp2_with (first
                    | (go_at_call 16; refine (RD.out).mono ?_; rintro e w6 ⟨v6, rfl, hs, hb⟩; obtain ⟨Ar, nr, cr, rfl, hbt', _⟩ := hs; have hb6 := HL.out.trans (hb.mono HL.out.size); have y0 := (hb6.cell (p := ⟨x7, 0, none⟩) a4).trans a0; have y1 := (hb6.cell (p := ⟨x7, 1, none⟩) a4).trans a1; have y2 := (hb6.cell (p := ⟨b1, o1 + k, none⟩) hb1).trans g1; have y3 := (hb6.cell (p := ⟨b2, o2 + k, none⟩) hb2).trans g2; have y4 := Nat.lt_of_lt_of_le a4 hb6.size; have y5 := (hb6.cell (p := ⟨bt, ot + q * 2, none⟩) hbt5).trans gt0; have y6 := (hb6.cell (p := ⟨bt, ot + q * 2 + 1, none⟩) hbt5).trans gt1; have y7 := Nat.lt_of_lt_of_le hbt5 hb6.size; have sm := rsame_any Ar As nr ns cr cs _ _ ys xs w6 hbt' (sl_bts (HS1.out.below hb6 (Nat.le_refl _))); generalize decide (ys = xs) = t1 at sm; have SM := Lib.hid sm; have HBT := Lib.hid hbt'; have HB6 := Lib.hid hb6; clear sm hbt' hb6 hb)
                    | (go_at_call 21; refine (SM.out).mono ?_; rintro e w7 ⟨rfl, q7, hq7⟩; have hb7 : Below w5.heap.size w5 w7 := hq7 ▸ below_drewN HB6.out q7; have v0 := (hb7.cell (p := ⟨x7, 0, none⟩) a4).trans a0; have v1 := (hb7.cell (p := ⟨x7, 1, none⟩) a4).trans a1; have v2 := (hb7.cell (p := ⟨b1, o1 + k, none⟩) hb1).trans g1; have v3 := (hb7.cell (p := ⟨b2, o2 + k, none⟩) hb2).trans g2; have v4 := Nat.lt_of_lt_of_le a4 hb7.size; have v5 := (hb7.cell (p := ⟨bt, ot + q * 2, none⟩) hbt5).trans gt0; have v6 := (hb7.cell (p := ⟨bt, ot + q * 2 + 1, none⟩) hbt5).trans gt1; have v7 := Nat.lt_of_lt_of_le hbt5 hb7.size; have hbt7 : Bts w7 w6.heap.size Ar nr ys := hq7 ▸ HBT.out.drewN q7; have HBT7 := Lib.hid hbt7; clear hbt7; have hs67 : w6.heap.size ≤ w7.heap.size := hq7 ▸ Nat.le_refl _; have HB7 := Lib.hid hb7; clear hb7 hq7))
                  go_region_held3 (fun W => W.cell? ⟨x7, 0, none⟩ = some (.slice (some ⟨b1, o1, none⟩) n d1) ∧ W.cell? ⟨b1, o1 + k, none⟩ = some (.slice As ns cs) ∧ W.cell? ⟨bt, ot + q * 2 + 1, none⟩ = some (.slice Au nu cu))
                    (first
                      | with_reducible exact ⟨v0, v2, v6⟩
                      | with_reducible exact ⟨u0, u2, u6⟩
                      | with_reducible exact ⟨p0, p2, p6⟩
                      | go_keep)
                    (first
                      | (go_at_call 22; refine (ref_torn (.slice Au nu cu) (.slice As ns cs) tb xs _ (by exact (HTB.out.below HB7.out.drew (Nat.le_refl _)).more HB7.out.size) (by exact (HS1.out.below HB7.out.drew (Nat.le_refl _)).more HB7.out.size) HSEC.out).mono ?_; rintro e w8 ⟨v8, rfl, hown, hb⟩; have hb : Below w7.heap.size w7 w8 := ⟨hb.os, hb.tape, hb.output, hb.size, hb.block⟩; have hb8 := HB7.out.trans (hb.mono HB7.out.size); have u0 := (hb8.cell (p := ⟨x7, 0, none⟩) a4).trans a0; have u1 := (hb8.cell (p := ⟨x7, 1, none⟩) a4).trans a1; have u2 := (hb8.cell (p := ⟨b1, o1 + k, none⟩) hb1).trans g1; have u3 := (hb8.cell (p := ⟨b2, o2 + k, none⟩) hb2).trans g2; have u4 := Nat.lt_of_lt_of_le a4 hb8.size; have u5 := (hb8.cell (p := ⟨bt, ot + q * 2, none⟩) hbt5).trans gt0; have u6 := (hb8.cell (p := ⟨bt, ot + q * 2 + 1, none⟩) hbt5).trans gt1; have u7 := Nat.lt_of_lt_of_le hbt5 hb8.size; obtain ⟨A8, n8, c8, rfl, hbt8, _⟩ := sl_own hown HLT8.out (by omega); have sm := rsame_any Ar A8 nr n8 cr c8 _ _ ys _ w8 (HBT7.out.below hb hs67) hbt8; rw [decide_eq_true HE.out] at sm; have SM8 := Lib.hid sm; have HB8 := Lib.hid hb8; clear sm hbt8 hown hb hb8)
                      | (go_at_call 21; refine (SM8.out).mono ?_; rintro e w9 ⟨rfl, q9, hq9⟩; have hb9 : Below w5.heap.size w5 w9 := hq9 ▸ below_drewN HB8.out q9; have p0 := (hb9.cell (p := ⟨x7, 0, none⟩) a4).trans a0; have p1 := (hb9.cell (p := ⟨x7, 1, none⟩) a4).trans a1; have p2 := (hb9.cell (p := ⟨b1, o1 + k, none⟩) hb1).trans g1; have p3 := (hb9.cell (p := ⟨b2, o2 + k, none⟩) hb2).trans g2; have p4 := Nat.lt_of_lt_of_le a4 hb9.size; have p5 := (hb9.cell (p := ⟨bt, ot + q * 2, none⟩) hbt5).trans gt0; have p6 := (hb9.cell (p := ⟨bt, ot + q * 2 + 1, none⟩) hbt5).trans gt1; have p7 := Nat.lt_of_lt_of_le hbt5 hb9.size; have HB9 := Lib.hid hb9; clear hb9 hq9))
                  all_goals go_wp2
                  all_goals go_roundw
                  all_goals first
                    | (refine ⟨k + 1, by omega, by go_num, ?_, HB9.out⟩; rw [wt_yes (by rw [hfw.out]; rfl), List.length_append, ← HQ.out]; first | rfl | go_num | (simp; try go_num))
                    | (simp [intOf]; omega)
                · have k1 : (kd == 1) = false := beq_false_of_ne h1
                  have k2 : (kd == 2) = false := beq_false_of_ne h2
                  have HE := Lib.hid (show ys = xs by rw [← HYS.out, z]; simp only; rw [tear_else s k kd tb h1 h2, HXS.out])
                  clear z
                  go_wp2_with (first
                    | (go_at_call 16; refine (RD.out).mono ?_; rintro e w6 ⟨v6, rfl, hs, hb⟩; obtain ⟨Ar, nr, cr, rfl, hbt', _⟩ := hs; have hb6 := HL.out.trans (hb.mono HL.out.size); have y0 := (hb6.cell (p := ⟨x7, 0, none⟩) a4).trans a0; have y1 := (hb6.cell (p := ⟨x7, 1, none⟩) a4).trans a1; have y2 := (hb6.cell (p := ⟨b1, o1 + k, none⟩) hb1).trans g1; have y3 := (hb6.cell (p := ⟨b2, o2 + k, none⟩) hb2).trans g2; have y4 := Nat.lt_of_lt_of_le a4 hb6.size; have y5 := (hb6.cell (p := ⟨bt, ot + q * 2, none⟩) hbt5).trans gt0; have y6 := (hb6.cell (p := ⟨bt, ot + q * 2 + 1, none⟩) hbt5).trans gt1; have y7 := Nat.lt_of_lt_of_le hbt5 hb6.size; have sm := rsame_any Ar As nr ns cr cs _ _ ys xs w6 hbt' (sl_bts (HS1.out.below hb6 (Nat.le_refl _))); rw [decide_eq_true HE.out] at sm; have SM := Lib.hid sm; have HBT := Lib.hid hbt'; have HB6 := Lib.hid hb6; clear sm hbt' hb6 hb)
                    | (go_at_call 21; refine (SM.out).mono ?_; rintro e w7 ⟨rfl, q7, hq7⟩; have hb7 : Below w5.heap.size w5 w7 := hq7 ▸ below_drewN HB6.out q7; have v0 := (hb7.cell (p := ⟨x7, 0, none⟩) a4).trans a0; have v1 := (hb7.cell (p := ⟨x7, 1, none⟩) a4).trans a1; have v2 := (hb7.cell (p := ⟨b1, o1 + k, none⟩) hb1).trans g1; have v3 := (hb7.cell (p := ⟨b2, o2 + k, none⟩) hb2).trans g2; have v4 := Nat.lt_of_lt_of_le a4 hb7.size; have v5 := (hb7.cell (p := ⟨bt, ot + q * 2, none⟩) hbt5).trans gt0; have v6 := (hb7.cell (p := ⟨bt, ot + q * 2 + 1, none⟩) hbt5).trans gt1; have v7 := Nat.lt_of_lt_of_le hbt5 hb7.size; have HB7 := Lib.hid hb7; clear hb7 hq7))
                  all_goals go_roundw
                  all_goals first
                    | (refine ⟨k + 1, by omega, by go_num, ?_, HB7.out⟩; rw [wt_yes (by rw [hfw.out]; rfl), List.length_append, ← HQ.out]; first | rfl | go_num | (simp; try go_num))
                    | (simp [intOf]; omega)
            · have HE := Lib.hid (show ys = xs by rw [← HYS.out, crash_end HSM.out hsn ts (by rw [← HQ.out, HTL.out]; omega), HXS.out])
              have hdq : decide ((q : Int) < (len1 : Int)) = false := by simp; omega
              go_wp2_with (first
                | (go_at_call 16; refine (RD.out).mono ?_; rintro e w6 ⟨v6, rfl, hs, hb⟩; obtain ⟨Ar, nr, cr, rfl, hbt', _⟩ := hs; have hb6 := HL.out.trans (hb.mono HL.out.size); have y0 := (hb6.cell (p := ⟨x7, 0, none⟩) a4).trans a0; have y1 := (hb6.cell (p := ⟨x7, 1, none⟩) a4).trans a1; have y2 := (hb6.cell (p := ⟨b1, o1 + k, none⟩) hb1).trans g1; have y3 := (hb6.cell (p := ⟨b2, o2 + k, none⟩) hb2).trans g2; have y4 := Nat.lt_of_lt_of_le a4 hb6.size; have sm := rsame_any Ar As nr ns cr cs _ _ ys xs w6 hbt' (sl_bts (HS1.out.below hb6 (Nat.le_refl _))); rw [decide_eq_true HE.out] at sm; have SM := Lib.hid sm; have HBT := Lib.hid hbt'; have HB6 := Lib.hid hb6; clear sm hbt' hb6 hb)
                | (go_at_call 21; refine (SM.out).mono ?_; rintro e w7 ⟨rfl, q7, hq7⟩; have hb7 : Below w5.heap.size w5 w7 := hq7 ▸ below_drewN HB6.out q7; have v0 := (hb7.cell (p := ⟨x7, 0, none⟩) a4).trans a0; have v1 := (hb7.cell (p := ⟨x7, 1, none⟩) a4).trans a1; have v2 := (hb7.cell (p := ⟨b1, o1 + k, none⟩) hb1).trans g1; have v3 := (hb7.cell (p := ⟨b2, o2 + k, none⟩) hb2).trans g2; have v4 := Nat.lt_of_lt_of_le a4 hb7.size; have HB7 := Lib.hid hb7; clear hb7 hq7))
              all_goals go_roundw
              all_goals first
                | (refine ⟨k + 1, by omega, by go_num, ?_, HB7.out⟩; rw [wt_yes (by rw [hfw.out]; rfl), List.length_append, ← HQ.out]; first | rfl | go_num | (simp; try go_num))
                | (simp [intOf]; omega)
        · obtain rfl : k = 6 := by omega
          have wt := waits_any g bs bw (s.crash ts) wr (HD5.out.below HL.out)
          have hwn : (s.crash ts).waiting = [] := by
            unfold St.waiting
            rw [List.filter_eq_nil_iff]
            intro a _
            simp [St.crash]
          rw [hwn] at wt
          have dd := fun (W : World) (hW : Below wr.heap.size wr W) => dead_any g bs bw (s.crash ts) W ((HD5.out.below HL.out).below hW)
          have hdd : (s.crash ts).dead = false := rfl
          rw [hdd] at dd
          have WT := Lib.hid wt; clear wt
          have DD := Lib.hid dd; clear dd
          go_wp2_with (first
            | (go_at_call 23; refine (WT.out).mono ?_; rintro e w6 ⟨v6, rfl, hown, hb⟩; obtain ⟨A6, c6, rfl, _⟩ := own_ints hown rfl; have HB6 := Lib.hid hb; clear hb hown)
            | (go_at_call 24; refine (DD.out _ HB6.out).mono ?_; rintro e w7 ⟨rfl, rfl⟩)
            | (go_at_call 11; refine (awake_any _).mono ?_; rintro e w8 ⟨rfl, hb8⟩))
          go_ret
          exact ⟨rfl, (B5.out.trans ((HL.out.trans (HB6.out.mono HL.out.size)).mono hzw)).trans (hb8.mono (by have := HL.out.size; have := HB6.out.size; omega))⟩
set_option maxHeartbeats 1000000 in
theorem ones_awake0 (A0 A9 : Option Addr) (len0 cap0 len1 cap1 : Nat) (w : World) (hL : Calls Try.prog 10 #[.slice A0 len0 cap0] w fun e w' => e = .returned (.bool false) ∧ w = w') :
    Calls Try.prog 5 #[.slice A0 len0 cap0, .slice A9 len1 cap1] w fun e w' => e = .returned (.bool true) ∧ Below w.heap.size w w' := by
  have LT := Lib.hid hL; clear hL
  go_enter Try.func5, Try.ntmps5
  go_wp2_with (first
    | (go_at_call 10; refine (LT.out).mono ?_; rintro e w' ⟨rfl, rfl⟩)
    | (go_at_call 11; refine (awake_any _).mono ?_; rintro e w8 ⟨rfl, hb8⟩))
  go_ret
  exact ⟨rfl, hb8⟩
set_option maxHeartbeats 1000000 in
theorem ones_awake1 (A0 A9 : Option Addr) (len0 cap0 len1 cap1 : Nat) (w : World) (hL : Calls Try.prog 10 #[.slice A0 len0 cap0] w fun e w' => e = .returned (.bool true) ∧ w = w') (hM : Calls Try.prog 10 #[.slice (some ⟨w.heap.size, 0, none⟩) 1 1] (w.alloc (.cells #[.int .i64 0, .int .i64 0, .slice none 0 0, .bool false, .slice A9 len1 cap1] 38)) fun e w' => e = .returned (.bool false) ∧ w.alloc (.cells #[.int .i64 0, .int .i64 0, .slice none 0 0, .bool false, .slice A9 len1 cap1] 38) = w') :
    Calls Try.prog 5 #[.slice A0 len0 cap0, .slice A9 len1 cap1] w fun e w' => e = .returned (.bool true) ∧ Below w.heap.size w w' := by
  have LT := Lib.hid hL; clear hL
  have MT := Lib.hid hM; clear hM
  go_enter Try.func5, Try.ntmps5
  go_wp2_with (first
    | (go_at_call 10; first | (have L2 := L1; clear L1; refine (MT.out).mono ?_; rintro e w' ⟨rfl, rfl⟩) | (refine (LT.out).mono ?_; rintro e w' ⟨rfl, rfl⟩; have L1 := Lib.hid trivial))
    | (go_at_call 11; refine (awake_any _).mono ?_; rintro e w8 ⟨rfl, hb8⟩))
  go_ret
  exact ⟨rfl, ((Below.refl w.heap.size w).alloc (Nat.le_refl _) _).trans (hb8.mono (by simp))⟩
/-- Light of one act that holds just the tears -/
theorem lit_light {A9 : Option Addr} {len1 cap1 : Nat} {w : World} (h : IsRecs w A9 len1 cap1 2 (TearR w)) :
    Calls Try.prog 10 #[.slice (some ⟨w.heap.size, 0, none⟩) 1 1] (w.alloc (.cells #[.int .i64 0, .int .i64 0, .slice none 0 0, .bool false, .slice A9 len1 cap1] 38)) fun e w' => ∃ t, e = .returned (.bool t) ∧ w.alloc (.cells #[.int .i64 0, .int .i64 0, .slice none 0 0, .bool false, .slice A9 len1 cap1] 38) = w' ∧
      (t = true ↔ len1 ≤ 40 ∧ ∀ bt ot, A9 = some ⟨bt, ot, none⟩ → ∀ k, k < len1 → ∀ (Au : Option Addr) (nu cu : Nat), w.cell? ⟨bt, ot + k * 2 + 1, none⟩ = some (.slice Au nu cu) → nu ≤ 600) := by
  have hB := Blk.new w 38 #[.int .i64 0, .int .i64 0, .slice none 0 0, .bool false, .slice A9 len1 cap1]
  have hb : Below w.heap.size w (w.alloc (.cells #[.int .i64 0, .int .i64 0, .slice none 0 0, .bool false, .slice A9 len1 cap1] 38)) := (Below.refl w.heap.size w).alloc (Nat.le_refl _) _
  have k2 := hB.cell 2
  have k4 := hB.cell 4
  have hcell : 0 < len1 → ∃ bt ot, A9 = some ⟨bt, ot, none⟩ ∧ bt < w.heap.size ∧ ∀ k, k < len1 → ∃ (Au : Option Addr) (nu cu : Nat), w.cell? ⟨bt, ot + k * 2 + 1, none⟩ = some (.slice Au nu cu) := fun h0 => by
    obtain ⟨bt, ot, rfl, hbt, hc⟩ := rec_at h (by omega) h0
    refine ⟨bt, ot, rfl, hbt, fun k hk => ?_⟩
    obtain ⟨v1, c1, A1, l1, c1', zs, rfl, _⟩ := hc k hk 1 (by omega)
    exact ⟨A1, l1, c1', c1⟩
  have hl := light_any (some ⟨w.heap.size, 0, none⟩) 1 1 (w.alloc (.cells #[.int .i64 0, .int .i64 0, .slice none 0 0, .bool false, .slice A9 len1 cap1] 38)) (by omega) (fun _ => ⟨w.heap.size, 0, rfl, hB.lt, fun i hi => by
    obtain rfl : i = 0 := by omega
    refine ⟨none, 0, 0, A9, len1, cap1, k2, k4, fun h0 => ?_⟩
    obtain ⟨bt, ot, e, hbt, hc⟩ := hcell h0
    refine ⟨bt, ot, e, by have := hB.lt; omega, fun k hk => ?_⟩
    obtain ⟨Au, nu, cu, h1⟩ := hc k hk
    exact ⟨Au, nu, cu, (hb.cell (p := ⟨bt, ot + k * 2 + 1, none⟩) hbt).trans h1⟩⟩)
  refine hl.mono fun e w' ⟨t, h1, h2, h3⟩ => ⟨t, h1, h2, h3.trans ⟨fun ⟨_, hf⟩ => ?_, fun ⟨f1, f2⟩ => ⟨by omega, fun b off e i hi => ?_⟩⟩⟩
  · obtain ⟨_, f2, f3⟩ := hf w.heap.size 0 rfl 0 (by omega) none 0 0 A9 len1 cap1 k2 k4
    refine ⟨f2, fun bt ot e k hk Au nu cu hc => f3 bt ot e k hk Au nu cu ?_⟩
    obtain ⟨bt', ot', e', hbt, _⟩ := hcell (by omega)
    rw [e'] at e
    injection e with e
    injection e with e1 e2 _
    subst e1 e2
    exact (hb.cell (p := ⟨bt', ot' + k * 2 + 1, none⟩) hbt).trans hc
  · injection e with e
    injection e with e1 e2 _
    subst e1 e2
    obtain rfl : i = 0 := by omega
    intro Ab nb cb At nt ct c2 c4
    have q2 := c2.symm.trans k2
    have q4 := c4.symm.trans k4
    simp at q2 q4
    obtain ⟨rfl, rfl, rfl⟩ := q2
    obtain ⟨rfl, rfl, rfl⟩ := q4
    refine ⟨by omega, f1, fun bt ot e k hk Au nu cu hc => f2 bt ot e k hk Au nu cu ?_⟩
    obtain ⟨bt', ot', e', hbt, _⟩ := hcell (by omega)
    rw [e'] at e
    injection e with e
    injection e with e1 e2 _
    subst e1 e2
    exact (hb.cell (p := ⟨bt', ot' + k * 2 + 1, none⟩) hbt).symm.trans hc
end Go.Proofs.Ytpmkacpdmjnbjaa.Dsk
namespace Go.Proofs.Ytpmkacpdmjnbjaa.diskOnes
open Go.Proofs.Ytpmkacpdmjnbjaa.Mem Go.Proofs.Ytpmkacpdmjnbjaa.Dsk
open Go.ChangeShapes Go.WideShapes Go.ChangeAt Go.RowKit
set_option linter.unusedVariables false
theorem own : ownKnob Try.prog.godebug = none := by kernel_rfl
theorem laidOut : laidOutB Try.prog = true := by kernel_rfl
theorem walk (a0 : Option Addr) (len0 cap0 : Nat) (a1 : Option Addr) (len1 cap1 : Nat) (w : World) (w0 : IsRecs w a0 len0 cap0 5 (ActR w)) (w1 : IsRecs w a1 len1 cap1 2 (TearR w)) :
    Calls Try.prog 5 #[.slice a0 len0 cap0, .slice a1 len1 cap1] w fun e w' => e = .returned (.bool true) ∧ Below w.heap.size w w' := by
  by_cases hf : len0 ≤ 40 ∧ ∀ b off, a0 = some ⟨b, off, none⟩ → ∀ i, i < len0 → ActFits w b off i
  · have hl := lit_light w1
    by_cases hg : len1 ≤ 40 ∧ ∀ bt ot, a1 = some ⟨bt, ot, none⟩ → ∀ k, k < len1 → ∀ (Au : Option Addr) (nu cu : Nat), w.cell? ⟨bt, ot + k * 2 + 1, none⟩ = some (.slice Au nu cu) → nu ≤ 600
    · obtain ⟨l, hA⟩ := acts_of w0 hf.2
      obtain ⟨ts, hT⟩ := tears_of w1 hg.1 hg.2
      exact ones_true a0 a1 len0 cap0 len1 cap1 l ts w hf.1 hg.1 (light_yes w0 hf) (hl.mono fun e w' ⟨t, h1, h2, h3⟩ => by obtain rfl := h3.2 hg; exact ⟨h1, h2⟩) hA hT
    · exact ones_awake1 a0 a1 len0 cap0 len1 cap1 w (light_yes w0 hf) (hl.mono fun e w' ⟨t, h1, h2, h3⟩ => by
        cases t
        · exact ⟨h1, h2⟩
        · exact absurd (h3.1 rfl) hg)
  · exact ones_awake0 a0 a1 len0 cap0 len1 cap1 w (light_not w0 hf)
/-! the step from the walk to the row -/
set_option maxRecDepth 100000 in
theorem lifted (os : Os) (started : os.Started) (H : Type) (enc : TypeId × Value → H) :
    ReturnsInHanded {} Try.checked os 5 .any (Rows.diskOnesSpec.pre6 enc Try.prog Try.f5 Rows.diskOnesRow.domain false) (Rows.diskOnesSpec.post enc Try.prog Try.f5 false true false false) := by
  refine returnsInHanded_of_change (C := Try.checked) own started (by kernel_rfl) Try.func5
    (ChangeSpec.witness6 (enc := enc) (C := Try.checked) false ⟨#[], #[.slice none 0 0, .slice none 0 0], []⟩ 8 (by kernel_rfl) (by kernel_rfl) (by kernel_rfl) (by kernel_rfl)) ?_
  intro W base args ds gs before hval0 hW hcnd _
  have hval : ∀ (j : Nat) t v, Try.f5.params[j]? = some t → args[j]? = some v → Value.okWide Try.prog W .any base t v := hval0
  have hW' := hW
  obtain ⟨p, q, hA0, hV, rfl, hfz, hnd⟩ := hW
  have hA : DataW.TrodAll enc Try.prog W 0 (fun _ => true) true Try.f5.params.toList args.toList ds p := hA0
  rw [Try.params5] at hA hval
  obtain ⟨v0, vs0, d0, ds0, p0, q0, hargs, rfl, rfl, h0, r0⟩ := trodAll_cons hA
  obtain ⟨v1, vs1, d1, ds1, p1, q1, rfl, rfl, rfl, h1, r1⟩ := trodAll_cons r0
  obtain ⟨rfl, rfl, rfl⟩ := trodAll_nil r1
  obtain rfl : args = #[v0, v1] := by cases args; simp_all
  obtain ⟨rfl, rfl⟩ := trodVars_none hV
  obtain ⟨a0, len0, cap0, rfl⟩ := okWide_slice Try.underlying22 (hval 0 22 v0 rfl rfl)
  have k0 := h0
  have lt0 : ∀ x ∈ p0, x.block < W.heap.size := by obtain ⟨m, hm⟩ := k0; exact DataW.trod_lt m _ _ _ hm
  have w0 : IsRecs W a0 len0 cap0 5 (ActR W) := by
    obtain ⟨fuel, hf⟩ := h0
    rcases open_slice_fields Try.underlying22 Try.underlying38 (by kernel_rfl) (by kernel_rfl) hf with ⟨hcs, _⟩ | ⟨x, l, c, m, D, Pl, hcs, _, hl, hm, hmm, _, hh⟩
    · simp [Value.cells] at hcs
      obtain ⟨rfl, rfl, rfl⟩ := hcs
      exact .inl ⟨rfl, rfl, rfl⟩
    · simp [Value.cells] at hcs
      obtain ⟨rfl, rfl, rfl⟩ := hcs
      refine .inr ⟨_, rfl, hl, hm, fun i hi j hj => ?_⟩
      obtain ⟨ys, n, _, _, _, hg⟩ := hh i (by rw [hmm, if_pos rfl]; exact hi)
      match j, hj with
      | 0, _ =>
        obtain ⟨v, y, hc, _, ht⟩ := hg 0 _ rfl
        exact ⟨v, hc, open_num_at Try.underlying3 ht⟩
      | 1, _ =>
        obtain ⟨v, y, hc, _, ht⟩ := hg 1 _ rfl
        exact ⟨v, hc, open_num_at Try.underlying3 ht⟩
      | 2, _ =>
        obtain ⟨v, y, hc, _, ht⟩ := hg 2 _ rfl
        exact ⟨v, hc, open_row_at Try.underlying35 Try.underlying5 (by kernel_rfl) ht⟩
      | 3, _ =>
        obtain ⟨v, y, hc, _, ht⟩ := hg 3 _ rfl
        exact ⟨v, hc, open_bool_at Try.underlying4 ht⟩
      | 4, _ =>
        obtain ⟨v, y, hc, _, ht⟩ := hg 4 _ rfl
        refine ⟨v, hc, ?_⟩
        rcases open_slice_fields Try.underlying36 Try.underlying52 (by kernel_rfl) (by kernel_rfl) ht with ⟨hcs', _⟩ | ⟨x', l', c', m', D', Pl', hcs', _, hl', hm', hmm', _, hh'⟩
        · obtain rfl : v = .slice none 0 0 := by simpa using hcs'
          exact ⟨_, _, _, rfl, .inl ⟨rfl, rfl, rfl⟩⟩
        · obtain rfl : v = .slice (some x') l' c' := by simpa using hcs'
          refine ⟨_, _, _, rfl, ?_⟩
          refine .inr ⟨_, rfl, hl', hm', fun i' hi' j' hj' => ?_⟩
          obtain ⟨ys', n', _, _, _, hg'⟩ := hh' i' (by rw [hmm', if_pos rfl]; exact hi')
          match j', hj' with
          | 0, _ =>
            obtain ⟨v, y, hc, _, ht⟩ := hg' 0 _ rfl
            exact ⟨v, hc, open_num_at Try.underlying3 ht⟩
          | 1, _ =>
            obtain ⟨v, y, hc, _, ht⟩ := hg' 1 _ rfl
            exact ⟨v, hc, open_row_at Try.underlying35 Try.underlying5 (by kernel_rfl) ht⟩
  obtain ⟨a1, len1, cap1, rfl⟩ := okWide_slice Try.underlying36 (hval 1 36 v1 rfl rfl)
  have k1 := h1
  have lt1 : ∀ x ∈ p1, x.block < W.heap.size := by obtain ⟨m, hm⟩ := k1; exact DataW.trod_lt m _ _ _ hm
  have w1 : IsRecs W a1 len1 cap1 2 (TearR W) := by
    obtain ⟨fuel, hf⟩ := h1
    rcases open_slice_fields Try.underlying36 Try.underlying52 (by kernel_rfl) (by kernel_rfl) hf with ⟨hcs, _⟩ | ⟨x, l, c, m, D, Pl, hcs, _, hl, hm, hmm, _, hh⟩
    · simp [Value.cells] at hcs
      obtain ⟨rfl, rfl, rfl⟩ := hcs
      exact .inl ⟨rfl, rfl, rfl⟩
    · simp [Value.cells] at hcs
      obtain ⟨rfl, rfl, rfl⟩ := hcs
      refine .inr ⟨_, rfl, hl, hm, fun i hi j hj => ?_⟩
      obtain ⟨ys, n, _, _, _, hg⟩ := hh i (by rw [hmm, if_pos rfl]; exact hi)
      match j, hj with
      | 0, _ =>
        obtain ⟨v, y, hc, _, ht⟩ := hg 0 _ rfl
        exact ⟨v, hc, open_num_at Try.underlying3 ht⟩
      | 1, _ =>
        obtain ⟨v, y, hc, _, ht⟩ := hg 1 _ rfl
        exact ⟨v, hc, open_row_at Try.underlying35 Try.underlying5 (by kernel_rfl) ht⟩
  clear hA0 hval0
  refine (walk a0 len0 cap0 a1 len1 cap1 W w0 w1).mono fun e W' ⟨he, bel⟩ => ?_
  subst he
  exact ⟨_, rfl, _, _, _, [], _, [], hW', trodAll_mk1 (shut_bool Try.underlying4 _), (trodAll_cons_mk (Below.trod laidOut (by kernel_rfl) (of_decide_eq_true (by kernel_rfl)) k0 bel lt0) (trodAll_cons_mk (Below.trod laidOut (by kernel_rfl) (of_decide_eq_true (by kernel_rfl)) k1 bel lt1) trodAll_mk0)), rfl, bel.frame _, fun h => by cases h⟩

theorem over : Rows.diskOnesRow.holds Try.pinned (OpenSpec.ofChange Rows.diskOnesSpec) :=
  OpenClaim.holds_of_wide 5 Try.f5 rfl rfl rfl rfl rfl rfl rfl ⟨rfl, rfl, rfl, rfl, rfl⟩ rfl rfl rfl rfl rfl (by kernel_rfl) Try.func5 (by kernel_rfl)
    (of_decide_eq_true (by kernel_rfl)) (by unfold Func.isWrapper; first | (rw [if_pos (by decide +kernel)]; kernel_rfl) | (rw [if_neg (by decide +kernel)]; exact ⟨rfl, rfl⟩))
    (fun os started H enc _ => lifted os started H enc)

/-- the statement -/
theorem proved : Rows.DiskOnesSaid := over
end Go.Proofs.Ytpmkacpdmjnbjaa.diskOnes
