/- The law's own helper of layer 3: Do, for writes; and for every act. -/
import Derived.Test.YtpmkacpdmjnbjaaDo
namespace Go.Proofs.Ytpmkacpdmjnbjaa.Dsk
open Go.RowKit Go.Maps Go.Shelf Go.Proofs.Ytpmkacpdmjnbjaa.Mem
set_option linter.unusedVariables false
set_option linter.unusedSimpArgs false
theorem own_sl {w : World} {base n : Nat} {A : Option Addr} {c : Nat} {xs : List Nat} (h : w.ownsRow base 5 1 (.slice A n c) n (vals xs)) (hx : ∀ x ∈ xs, x < 256) (hn : n ≤ 1000000) : Bts w w.heap.size A n xs := by
  obtain ⟨A', n', c', e, hb, _⟩ := sl_own h hx hn
  injection e with e1 e2 e3
  subst e1 e2 e3
  exact hb
set_option maxRecDepth 20000 in
set_option maxHeartbeats 8000000 in
theorem do_write_short (S : List Nat) (g bs bw B : Nat) (A1 A2 A3 A4 : Option Addr) (n3 n4 c1 c2 c3 c4 : Nat) (s s' : St) (n : Int) (xs : List Nat) (w : World) (hd : DiskAt w g bs bw s) (hr : RefAt w S (refV (.slice A1 s'.n c1) (.slice A2 s'.n c2) s') s') (hf : Fine s') (hsub : ∀ x ∈ [g, bs, bw], x ∈ S) (hS : ∀ x ∈ S, x < w.heap.size) (hv : Sl w B (.slice A3 n3 c3) xs) (hB : ∀ x ∈ [g, bs, bw], B ≤ x) :
    Calls Try.prog 14 #[ptr g, refV (.slice A1 s'.n c1) (.slice A2 s'.n c2) s', .agg #[.int .i64 0, .int .i64 n, .slice A3 n3 c3, .bool true, .slice A4 n4 c4]] w fun e w' => ∃ v', e = .returned (.tuple #[v', .bool ((s.write n xs).2 == (s'.write n xs).2)]) ∧ DiskAt w' g bs bw (s.write n xs).1 ∧ RefAt w' S v' (s'.write n xs).1 ∧ KeptBut w w' [g, bs, bw] := by
  have hg := hf.1
  have hlt := hd.lt
  have hBw : B ≤ w.heap.size := by have := hB g (by simp); omega
  obtain ⟨i1, hi, hz0, hz1, hz2⟩ := info_parts Try.info5
  have HJ := Lib.hid hi; clear hi
  have HY0 := Lib.hid hz0; clear hz0
  have HY1 := Lib.hid hz1; clear hz1
  have HY2 := Lib.hid hz2; clear hz2
  obtain ⟨ys, hys⟩ : ∃ ys, ys = xs := ⟨_, rfl⟩
  rw [← hys]
  have hlt256 : ∀ x ∈ ys, x < 256 := by
    have h1 := hv.lt
    rw [hys]
    exact h1
  have H256 := Lib.hid hlt256; clear hlt256
  have c := fun (W : World) (A : Option Addr) (m cc : Nat) (hW : DiskAt W g bs bw s) (hl : ys.length = m) (hx : ∀ w1, W.grownBy w1 (some g) → Bts w1 w1.heap.size A m ys) => write_any g bs bw s n A m cc ys W hW hl H256.out hx
  have r := fun (W : World) (vb : Value) (hW : KeptBut w W [g, bs, bw]) (hx : w.heap.size + 1 + 1 < W.heap.size) (hb : Sl W W.heap.size vb ys) => ref_write ((w.heap.size + 1 + 1) :: S) (refV (.slice A1 s'.n c1) (.slice A2 s'.n c2) s') vb s' n ys W hg ((raise4 hr (by omega)).kept (hW.more (fun y hy => List.mem_cons_of_mem _ (hsub y hy)))) (by have h1 := hW.size; intro y hy; rcases List.mem_cons.1 hy with rfl | hy; exact hx; have := hS y hy; omega) hb
  have C := Lib.hid c; clear c
  have R := Lib.hid r; clear r
  have HLT := Lib.hid hlt; clear hlt
  have HSUB := Lib.hid hsub
  have HD := Lib.hid hd
  have HV := Lib.hid hv; clear hv
  clear hg hr hd hsub hS
  unfold refV at R ⊢
  generalize hn1 : s'.n = n1 at *
  clear hn1
  generalize armedOf s'.left = ar at *
  generalize s'.dead = dd at *
  have hb0 : Below w.heap.size w (((w.alloc (dcells A1 A2 n1 n1 c1 c2 ar dd)).alloc (acells 0 n (.slice A3 n3 c3) true (.slice A4 n4 c4))).alloc zero31) := (((Below.refl _ w).alloc (Nat.le_refl _) _).alloc (by simp) _).alloc (by simp; omega) _
  have k0 : Blk (((w.alloc (dcells A1 A2 n1 n1 c1 c2 ar dd)).alloc (acells 0 n (.slice A3 n3 c3) true (.slice A4 n4 c4))).alloc zero31) w.heap.size 31 #[.slice A1 n1 c1, .slice A2 n1 c2, .int .i64 ar, .bool dd] := ((Blk.new _ _ _).alloc _).alloc _
  have k1 : Blk (((w.alloc (dcells A1 A2 n1 n1 c1 c2 ar dd)).alloc (acells 0 n (.slice A3 n3 c3) true (.slice A4 n4 c4))).alloc zero31) (w.heap.size + 1) 38 #[.int .i64 0, .int .i64 n, .slice A3 n3 c3, .bool true, .slice A4 n4 c4] := (blk_last (by simp)).alloc _
  have k2 : Blk (((w.alloc (dcells A1 A2 n1 n1 c1 c2 ar dd)).alloc (acells 0 n (.slice A3 n3 c3) true (.slice A4 n4 c4))).alloc zero31) (w.heap.size + 1 + 1) 31 #[nilS, nilS, .int .i64 0, .bool false] := blk_last (by simp)
  have HB0 := Lib.hid hb0; clear hb0
  have K0 := Lib.hid k0; clear k0
  have K1 := Lib.hid k1; clear k1
  have K2 := Lib.hid k2; clear k2
  have hlm : ys.length = n3 := by
    obtain ⟨A', n', c', e, hb, _⟩ := HV.out
    injection e with e1 e2 e3
    rw [hys, e2]
    exact hb.1
  obtain ⟨w1, hw1⟩ : ∃ w1, w1 = (((w.alloc (dcells A1 A2 n1 n1 c1 c2 ar dd)).alloc (acells 0 n (.slice A3 n3 c3) true (.slice A4 n4 c4))).alloc zero31) := ⟨_, rfl⟩
  have hsl : Sl w1 w1.heap.size (.slice A3 n3 c3) ys := by
    rw [hys, hw1]
    exact (HV.out.below HB0.out hBw).more (by have := HB0.out.size; omega)
  have hm6 : n3 ≤ 1000000 := by
    obtain ⟨A', c', e, hh⟩ := hsl.len
    omega
  rw [← hw1] at HB0 K0 K1 K2
  have HSL := Lib.hid hsl; clear hsl
  have HLM := Lib.hid hlm; clear hlm
  have HM6 := Lib.hid hm6
  clear hys
  have r := R.out w1 (.slice A3 n3 c3) (kept_of_below HB0.out (Nat.le_refl _)) K2.out.lt HSL.out
  rw [hw1] at r
  have RR := Lib.hid r; clear r
  rw [hw1] at HB0 K0 K1 K2 HSL
  clear hw1 R
  go_enter Try.func14, Try.ntmps14
  go_wp2_with (first
    | (go_at_call 37; refine (RR.out).mono ?_; rintro e w2 ⟨v2, rfl, hR, hb⟩; obtain ⟨B1, B2, d1, d2, hv2⟩ := ref_form hR; subst hv2; have J2 := Lib.hid (K2.out.below hb K2.out.lt); have I2 := Lib.hid (K1.out.below hb K1.out.lt); have HR2 := Lib.hid hR; clear hR; have HSL2 := Lib.hid ((HSL.out.below hb (Nat.le_refl _)).more hb.size); have HB2 := Lib.hid (HB0.out.trans (hb.mono HB0.out.size)); clear hb; unfold refV at HR2; unfold refV))
  generalize (s'.write n ys).1.n = n2 at *
  generalize armedOf (s'.write n ys).1.left = ar2 at *
  generalize (s'.write n ys).1.dead = dd2 at *
  have X3 := Lib.hid (Blk.new w2 31 #[.slice B1 n2 d1, .slice B2 n2 d2, .int .i64 ar2, .bool dd2])
  have hal := (Below.refl w2.heap.size w2).alloc (Nat.le_refl _) (Obj.cells #[.slice B1 n2 d1, .slice B2 n2 d2, .int .i64 ar2, .bool dd2] 31)
  have J3 := Lib.hid (J2.out.alloc (Obj.cells #[.slice B1 n2 d1, .slice B2 n2 d2, .int .i64 ar2, .bool dd2] 31))
  have I3 := Lib.hid (I2.out.alloc (Obj.cells #[.slice B1 n2 d1, .slice B2 n2 d2, .int .i64 ar2, .bool dd2] 31))
  have HR3 := Lib.hid (HR2.out.below hal)
  have HSL3 := Lib.hid (HSL2.out.below hal (Nat.le_refl _))
  have HB3 := Lib.hid (HB2.out.alloc HB2.out.size (Obj.cells #[.slice B1 n2 d1, .slice B2 n2 d2, .int .i64 ar2, .bool dd2] 31))
  have hj2 := J2.out.lt
  have hs3 : w2.heap.size < (w2.alloc (Obj.cells #[.slice B1 n2 d1, .slice B2 n2 d2, .int .i64 ar2, .bool dd2] 31)).heap.size := by simp
  clear hal
  generalize w2.alloc (Obj.cells #[.slice B1 n2 d1, .slice B2 n2 d2, .int .i64 ar2, .bool dd2] 31) = w3 at *
  have HD3 := Lib.hid (HD.out.below HB3.out)
  have a0 := X3.out.cell 0
  have a1 := X3.out.cell 1
  have a2 := X3.out.cell 2
  have a3 := X3.out.cell 3
  have a4 := I3.out.cell 1
  have e0 := (X3.out.alloc (.cells #[] 5)).cell 0
  have e1 := (X3.out.alloc (.cells #[] 5)).cell 1
  have e2 := (X3.out.alloc (.cells #[] 5)).cell 2
  have e3 := (X3.out.alloc (.cells #[] 5)).cell 3
  have e4 := (I3.out.alloc (.cells #[] 5)).cell 1
  have l1 := X3.out.lt
  have l2 := J3.out.lt
  have l3 := I3.out.lt
  simp at a0 a1 a2 a3 a4 e0 e1 e2 e3 e4
  obtain ⟨As, ms, cs, hsv, hsb, _⟩ := HSL3.out
  injection hsv with hs1 hs2 hs3'
  subst hs1 hs2 hs3'
  have HRD := Lib.hid hsb.reads; clear hsb
  have hown0 : ((w3.alloc (.cells #[] 5)).drew).ownsRow w3.heap.size 5 1 (.slice (some ⟨w3.heap.size, 0, none⟩) 0 0) 0 [] := (World.ownsRow_lit w3 #[] 0 (Nat.le_refl _) (by unfold maxLen; omega) rfl).drew
  have HO0 := Lib.hid hown0; clear hown0
  have HK3 := Lib.hid (kept_of_below (S := [g, bs, bw]) HB3.out (Nat.le_refl _))
  have h63 : 0 + n3 ≤ maxLen := by unfold maxLen; omega
  have H63 := Lib.hid h63; clear h63
  have hnb : (0 + n3) * 1 ≤ 140737488355328 := by omega
  have HNB := Lib.hid hnb; clear hnb
  have hz3 : w.heap.size ≤ w3.heap.size := HB3.out.size
  have hne : ¬ w.heap.size + 1 + 1 = w2.heap.size := by omega
  go_region_held3 (fun W => W.cell? ⟨w2.heap.size, 0, none⟩ = some (.slice B1 n2 d1) ∧ W.cell? ⟨w2.heap.size, 1, none⟩ = some (.slice B2 n2 d2) ∧ W.cell? ⟨w2.heap.size, 2, none⟩ = some (.int .i64 ar2) ∧ W.cell? ⟨w2.heap.size, 3, none⟩ = some (.bool dd2) ∧ W.cell? ⟨w.heap.size + 1, 1, none⟩ = some (.int .i64 n))
    (first
      | with_reducible exact ⟨a0, a1, a2, a3, a4⟩
      | with_reducible exact ⟨e0, e1, e2, e3, e4⟩
      | with_reducible exact ⟨m0, m1, m2, m3, m4⟩
      | with_reducible exact ⟨q0, q1, q2, q3, q4⟩
      | go_keep)
    (first
      | (refine step_append_any _ rfl (.tmp 37) (.tmp 38) 35 rfl w3.heap.size 5 i1 (.int .u8 0) 1 1 Try.underlying35 HJ.out HY0.out HY1.out HY2.out rfl (by decide) (.slice (some ⟨w3.heap.size, 0, none⟩) 0 0) 0 [] rfl HO0.out w2.heap.size A3 n3 c3 (vals ys) rfl ((HRD.out.alloc (by omega) _).drew) (vals_one _) H63.out HNB.out (by simp) ?_; intro v5 w5 hown5 hg5 _; rw [Nat.zero_add, List.nil_append] at hown5; obtain ⟨A5, c5, rfl⟩ := own_form hown5; have mk := ((X3.out.alloc (.cells #[] 5)).drew).grown hg5 (by simp [Value.ownBlock]; omega); have m0 := mk.cell 0; have m1 := mk.cell 1; have m2 := mk.cell 2; have m3 := mk.cell 3; have mi := ((I3.out.alloc (.cells #[] 5)).drew).grown hg5 (by simp [Value.ownBlock]; omega); have m4 := mi.cell 1; have m5 := mk.lt; have m6 := mi.lt; simp at m0 m1 m2 m3 m4; have X5 := Lib.hid mk; clear mk; have I5 := Lib.hid mi; clear mi; have J5 := Lib.hid (((J3.out.alloc (.cells #[] 5)).drew).grown hg5 (by simp [Value.ownBlock]; omega)); have hb5 : Below w3.heap.size w3 w5 := ((((Below.refl _ w3).alloc (Nat.le_refl _) _).drew).grown hg5 (by simp) (fun q hq => by simp [Value.ownBlock] at hq; omega)); have HD5 := Lib.hid (HD3.out.below hb5); have HB5 := Lib.hid hb5; have CC := Lib.hid (C.out w5 A5 n3 c5 HD5.out HLM.out (fun w1 hg1 => own_sl (own_grown hown5 hg1 (by have := HLT.out; omega)) H256.out HM6.out)); clear hb5 hg5 hown5)
      | (go_at_call 18; refine (CC.out).mono ?_; rintro e w6 ⟨rfl, hD, hK⟩; have xk := hK.blk X5.out (by have := HLT.out; simp; omega); have jk := hK.blk J5.out (by have := HLT.out; simp; omega); have ik := hK.blk I5.out (by have := HLT.out; simp; omega); have q0 := xk.cell 0; have q1 := xk.cell 1; have q2 := xk.cell 2; have q3 := xk.cell 3; have q4 := ik.cell 1; have y0 := jk.cell 0; have y1 := jk.cell 1; have y2 := jk.cell 2; have y3 := jk.cell 3; have z0 := jk.frozen 0; have z1 := jk.frozen 1; have z2 := jk.frozen 2; have z3 := jk.frozen 3; have z4 := jk.lt; have z5 := xk.lt; simp at q0 q1 q2 q3 q4 y0 y1 y2 y3; clear xk jk ik; have HD6 := Lib.hid hD; clear hD; have HK6 := Lib.hid hK; clear hK))
  go_wp2
  obtain ⟨r1, r2, r3⟩ := close4 (a := .slice B1 n2 d1) (b := .slice B2 n2 d2) (c := .int .i64 ar2) (d := .bool dd2) HD6.out ((HR3.out.below HB5.out).kept (HK6.out.more (fun y hy => List.mem_cons_of_mem _ (HSUB.out y hy)))) ((HK3.out.trans (kept_of_below HB5.out (Nat.le_refl _))).trans HK6.out) HLT.out (by omega)
  exact bodyPost_ret (v := .tuple #[.agg #[.slice B1 n2 d1, .slice B2 n2 d2, .int .i64 ar2, .bool dd2], .bool ((s.write n ys).2 == (s'.write n ys).2)]) (by simp [results, Try.results14, go_sem, y0, y1, y2, y3, z4]) rfl ⟨_, rfl, r1, r2, r3⟩
set_option maxRecDepth 20000 in
set_option maxHeartbeats 8000000 in
theorem do_write_full (S : List Nat) (g bs bw B : Nat) (A1 A2 A3 A4 : Option Addr) (n3 n4 c1 c2 c3 c4 : Nat) (s s' : St) (n : Int) (xs : List Nat) (w : World) (hd : DiskAt w g bs bw s) (hr : RefAt w S (refV (.slice A1 s'.n c1) (.slice A2 s'.n c2) s') s') (hf : Fine s') (hsub : ∀ x ∈ [g, bs, bw], x ∈ S) (hS : ∀ x ∈ S, x < w.heap.size) (hv : Sl w B (.slice A3 n3 c3) xs) (hB : ∀ x ∈ [g, bs, bw], B ≤ x) :
    Calls Try.prog 14 #[ptr g, refV (.slice A1 s'.n c1) (.slice A2 s'.n c2) s', .agg #[.int .i64 0, .int .i64 n, .slice A3 n3 c3, .bool false, .slice A4 n4 c4]] w fun e w' => ∃ v', e = .returned (.tuple #[v', .bool ((s.write n (torn xs noughts)).2 == (s'.write n (torn xs noughts)).2)]) ∧ DiskAt w' g bs bw (s.write n (torn xs noughts)).1 ∧ RefAt w' S v' (s'.write n (torn xs noughts)).1 ∧ KeptBut w w' [g, bs, bw] := by
  have hg := hf.1
  have hlt := hd.lt
  have hBw : B ≤ w.heap.size := by have := hB g (by simp); omega
  obtain ⟨i1, hi, hz0, hz1, hz2⟩ := info_parts Try.info5
  have HJ := Lib.hid hi; clear hi
  have HY0 := Lib.hid hz0; clear hz0
  have HY1 := Lib.hid hz1; clear hz1
  have HY2 := Lib.hid hz2; clear hz2
  obtain ⟨ys, hys⟩ : ∃ ys, ys = (torn xs noughts) := ⟨_, rfl⟩
  rw [← hys]
  have hlt256 : ∀ x ∈ ys, x < 256 := by
    have h1 := hv.lt
    rw [hys]
    exact (torn_sec h1 isSec_noughts).2
  have H256 := Lib.hid hlt256; clear hlt256
  have c := fun (W : World) (A : Option Addr) (m cc : Nat) (hW : DiskAt W g bs bw s) (hl : ys.length = m) (hx : ∀ w1, W.grownBy w1 (some g) → Bts w1 w1.heap.size A m ys) => write_any g bs bw s n A m cc ys W hW hl H256.out hx
  have r := fun (W : World) (vb : Value) (hW : KeptBut w W [g, bs, bw]) (hx : w.heap.size + 1 + 1 < W.heap.size) (hb : Sl W W.heap.size vb ys) => ref_write ((w.heap.size + 1 + 1) :: S) (refV (.slice A1 s'.n c1) (.slice A2 s'.n c2) s') vb s' n ys W hg ((raise4 hr (by omega)).kept (hW.more (fun y hy => List.mem_cons_of_mem _ (hsub y hy)))) (by have h1 := hW.size; intro y hy; rcases List.mem_cons.1 hy with rfl | hy; exact hx; have := hS y hy; omega) hb
  have C := Lib.hid c; clear c
  have R := Lib.hid r; clear r
  have HLT := Lib.hid hlt; clear hlt
  have HSUB := Lib.hid hsub
  have HD := Lib.hid hd
  have HV := Lib.hid hv; clear hv
  clear hg hr hd hsub hS
  unfold refV at R ⊢
  generalize hn1 : s'.n = n1 at *
  clear hn1
  generalize armedOf s'.left = ar at *
  generalize s'.dead = dd at *
  have hb0 : Below w.heap.size w (((w.alloc (dcells A1 A2 n1 n1 c1 c2 ar dd)).alloc (acells 0 n (.slice A3 n3 c3) false (.slice A4 n4 c4))).alloc zero31) := (((Below.refl _ w).alloc (Nat.le_refl _) _).alloc (by simp) _).alloc (by simp; omega) _
  have k0 : Blk (((w.alloc (dcells A1 A2 n1 n1 c1 c2 ar dd)).alloc (acells 0 n (.slice A3 n3 c3) false (.slice A4 n4 c4))).alloc zero31) w.heap.size 31 #[.slice A1 n1 c1, .slice A2 n1 c2, .int .i64 ar, .bool dd] := ((Blk.new _ _ _).alloc _).alloc _
  have k1 : Blk (((w.alloc (dcells A1 A2 n1 n1 c1 c2 ar dd)).alloc (acells 0 n (.slice A3 n3 c3) false (.slice A4 n4 c4))).alloc zero31) (w.heap.size + 1) 38 #[.int .i64 0, .int .i64 n, .slice A3 n3 c3, .bool false, .slice A4 n4 c4] := (blk_last (by simp)).alloc _
  have k2 : Blk (((w.alloc (dcells A1 A2 n1 n1 c1 c2 ar dd)).alloc (acells 0 n (.slice A3 n3 c3) false (.slice A4 n4 c4))).alloc zero31) (w.heap.size + 1 + 1) 31 #[nilS, nilS, .int .i64 0, .bool false] := blk_last (by simp)
  have HB0 := Lib.hid hb0; clear hb0
  have K0 := Lib.hid k0; clear k0
  have K1 := Lib.hid k1; clear k1
  have K2 := Lib.hid k2; clear k2
  have hlm : ys.length = 512 := by
    rw [hys]
    exact (torn_sec HV.out.lt isSec_noughts).1
  have f := fun (W : World) (hW : Below w.heap.size w W) => fill_any (.slice A3 n3 c3) xs W ((HV.out.below hW hBw).more (by have := hW.size; omega))
  rw [← hys] at f
  obtain ⟨N, hN⟩ : ∃ N, N = 512 := ⟨_, rfl⟩
  rw [show (512 : Nat) = N from hN.symm] at f hlm
  have hm6 : N ≤ 1000000 := by omega
  have hsec : IsSec ys := by rw [hys]; exact torn_sec HV.out.lt isSec_noughts
  have F := Lib.hid f; clear f
  have HSEC := Lib.hid hsec; clear hsec
  have HNN := Lib.hid hN; clear hN
  have HLM := Lib.hid hlm; clear hlm
  have HM6 := Lib.hid hm6
  clear hys
  go_enter Try.func14, Try.ntmps14
  go_wp2_with (first
    | (go_at_call 19; (refine (F.out _ HB0.out).mono ?_; rintro e wF ⟨rfl, hF, hb⟩; have k0 := K0.out.below hb K0.out.lt; have k1 := K1.out.below hb K1.out.lt; have u0 := k0.cell 0; have u1 := k0.cell 1; have u2 := k0.cell 2; have u3 := k0.cell 3; have u4 := k1.cell 1; have u5 := k0.lt; have u6 := k1.lt; simp at u0 u1 u2 u3 u4; have K0 := Lib.hid k0; clear k0; have K1 := Lib.hid k1; clear k1; have K2 := Lib.hid (K2.out.below hb K2.out.lt); have HB0 := Lib.hid (HB0.out.trans (hb.mono HB0.out.size)); have HSL : Hid (Sl wF wF.heap.size (.slice (some ⟨w.heap.size + 1 + 1 + 1, 0, none⟩) N N) ys) := (by have h := row_sl hF HSEC.out; rw [show (512 : Nat) = N from HNN.out.symm] at h; simp at h; exact h); clear hb hF))
    | (go_at_call 37; refine (R.out wF (.slice (some ⟨w.heap.size + 1 + 1 + 1, 0, none⟩) N N) (kept_of_below HB0.out (Nat.le_refl _)) K2.out.lt HSL.out).mono ?_; rintro e w2 ⟨v2, rfl, hR, hb⟩; obtain ⟨B1, B2, d1, d2, hv2⟩ := ref_form hR; subst hv2; have J2 := Lib.hid (K2.out.below hb K2.out.lt); have I2 := Lib.hid (K1.out.below hb K1.out.lt); have HR2 := Lib.hid hR; clear hR; have HSL2 := Lib.hid ((HSL.out.below hb (Nat.le_refl _)).more hb.size); have HB2 := Lib.hid (HB0.out.trans (hb.mono HB0.out.size)); clear hb; unfold refV at HR2; unfold refV))
  generalize (s'.write n ys).1.n = n2 at *
  generalize armedOf (s'.write n ys).1.left = ar2 at *
  generalize (s'.write n ys).1.dead = dd2 at *
  have X3 := Lib.hid (Blk.new w2 31 #[.slice B1 n2 d1, .slice B2 n2 d2, .int .i64 ar2, .bool dd2])
  have hal := (Below.refl w2.heap.size w2).alloc (Nat.le_refl _) (Obj.cells #[.slice B1 n2 d1, .slice B2 n2 d2, .int .i64 ar2, .bool dd2] 31)
  have J3 := Lib.hid (J2.out.alloc (Obj.cells #[.slice B1 n2 d1, .slice B2 n2 d2, .int .i64 ar2, .bool dd2] 31))
  have I3 := Lib.hid (I2.out.alloc (Obj.cells #[.slice B1 n2 d1, .slice B2 n2 d2, .int .i64 ar2, .bool dd2] 31))
  have HR3 := Lib.hid (HR2.out.below hal)
  have HSL3 := Lib.hid (HSL2.out.below hal (Nat.le_refl _))
  have HB3 := Lib.hid (HB2.out.alloc HB2.out.size (Obj.cells #[.slice B1 n2 d1, .slice B2 n2 d2, .int .i64 ar2, .bool dd2] 31))
  have hj2 := J2.out.lt
  have hs3 : w2.heap.size < (w2.alloc (Obj.cells #[.slice B1 n2 d1, .slice B2 n2 d2, .int .i64 ar2, .bool dd2] 31)).heap.size := by simp
  clear hal
  generalize w2.alloc (Obj.cells #[.slice B1 n2 d1, .slice B2 n2 d2, .int .i64 ar2, .bool dd2] 31) = w3 at *
  have HD3 := Lib.hid (HD.out.below HB3.out)
  have a0 := X3.out.cell 0
  have a1 := X3.out.cell 1
  have a2 := X3.out.cell 2
  have a3 := X3.out.cell 3
  have a4 := I3.out.cell 1
  have e0 := (X3.out.alloc (.cells #[] 5)).cell 0
  have e1 := (X3.out.alloc (.cells #[] 5)).cell 1
  have e2 := (X3.out.alloc (.cells #[] 5)).cell 2
  have e3 := (X3.out.alloc (.cells #[] 5)).cell 3
  have e4 := (I3.out.alloc (.cells #[] 5)).cell 1
  have l1 := X3.out.lt
  have l2 := J3.out.lt
  have l3 := I3.out.lt
  simp at a0 a1 a2 a3 a4 e0 e1 e2 e3 e4
  obtain ⟨As, ms, cs, hsv, hsb, _⟩ := HSL3.out
  injection hsv with hs1 hs2 hs3'
  subst hs1 hs2 hs3'
  have HRD := Lib.hid hsb.reads; clear hsb
  have hown0 : ((w3.alloc (.cells #[] 5)).drew).ownsRow w3.heap.size 5 1 (.slice (some ⟨w3.heap.size, 0, none⟩) 0 0) 0 [] := (World.ownsRow_lit w3 #[] 0 (Nat.le_refl _) (by unfold maxLen; omega) rfl).drew
  have HO0 := Lib.hid hown0; clear hown0
  have HK3 := Lib.hid (kept_of_below (S := [g, bs, bw]) HB3.out (Nat.le_refl _))
  have h63 : 0 + N ≤ maxLen := by unfold maxLen; omega
  have H63 := Lib.hid h63; clear h63
  have hnb : (0 + N) * 1 ≤ 140737488355328 := by omega
  have HNB := Lib.hid hnb; clear hnb
  have hz3 : w.heap.size ≤ w3.heap.size := HB3.out.size
  have hne : ¬ w.heap.size + 1 + 1 = w2.heap.size := by omega
  go_region_held3 (fun W => W.cell? ⟨w2.heap.size, 0, none⟩ = some (.slice B1 n2 d1) ∧ W.cell? ⟨w2.heap.size, 1, none⟩ = some (.slice B2 n2 d2) ∧ W.cell? ⟨w2.heap.size, 2, none⟩ = some (.int .i64 ar2) ∧ W.cell? ⟨w2.heap.size, 3, none⟩ = some (.bool dd2) ∧ W.cell? ⟨w.heap.size + 1, 1, none⟩ = some (.int .i64 n))
    (first
      | with_reducible exact ⟨a0, a1, a2, a3, a4⟩
      | with_reducible exact ⟨e0, e1, e2, e3, e4⟩
      | with_reducible exact ⟨m0, m1, m2, m3, m4⟩
      | with_reducible exact ⟨q0, q1, q2, q3, q4⟩
      | go_keep)
    (first
      | (refine step_append_any _ rfl (.tmp 37) (.tmp 38) 35 rfl w3.heap.size 5 i1 (.int .u8 0) 1 1 Try.underlying35 HJ.out HY0.out HY1.out HY2.out rfl (by decide) (.slice (some ⟨w3.heap.size, 0, none⟩) 0 0) 0 [] rfl HO0.out w2.heap.size (some ⟨w.heap.size + 1 + 1 + 1, 0, none⟩) N N (vals ys) rfl ((HRD.out.alloc (by omega) _).drew) (vals_one _) H63.out HNB.out (by simp) ?_; intro v5 w5 hown5 hg5 _; rw [Nat.zero_add, List.nil_append] at hown5; obtain ⟨A5, c5, rfl⟩ := own_form hown5; have mk := ((X3.out.alloc (.cells #[] 5)).drew).grown hg5 (by simp [Value.ownBlock]; omega); have m0 := mk.cell 0; have m1 := mk.cell 1; have m2 := mk.cell 2; have m3 := mk.cell 3; have mi := ((I3.out.alloc (.cells #[] 5)).drew).grown hg5 (by simp [Value.ownBlock]; omega); have m4 := mi.cell 1; have m5 := mk.lt; have m6 := mi.lt; simp at m0 m1 m2 m3 m4; have X5 := Lib.hid mk; clear mk; have I5 := Lib.hid mi; clear mi; have J5 := Lib.hid (((J3.out.alloc (.cells #[] 5)).drew).grown hg5 (by simp [Value.ownBlock]; omega)); have hb5 : Below w3.heap.size w3 w5 := ((((Below.refl _ w3).alloc (Nat.le_refl _) _).drew).grown hg5 (by simp) (fun q hq => by simp [Value.ownBlock] at hq; omega)); have HD5 := Lib.hid (HD3.out.below hb5); have HB5 := Lib.hid hb5; have CC := Lib.hid (C.out w5 A5 N c5 HD5.out HLM.out (fun w1 hg1 => own_sl (own_grown hown5 hg1 (by have := HLT.out; omega)) H256.out HM6.out)); clear hb5 hg5 hown5)
      | (go_at_call 18; refine (CC.out).mono ?_; rintro e w6 ⟨rfl, hD, hK⟩; have xk := hK.blk X5.out (by have := HLT.out; simp; omega); have jk := hK.blk J5.out (by have := HLT.out; simp; omega); have ik := hK.blk I5.out (by have := HLT.out; simp; omega); have q0 := xk.cell 0; have q1 := xk.cell 1; have q2 := xk.cell 2; have q3 := xk.cell 3; have q4 := ik.cell 1; have y0 := jk.cell 0; have y1 := jk.cell 1; have y2 := jk.cell 2; have y3 := jk.cell 3; have z0 := jk.frozen 0; have z1 := jk.frozen 1; have z2 := jk.frozen 2; have z3 := jk.frozen 3; have z4 := jk.lt; have z5 := xk.lt; simp at q0 q1 q2 q3 q4 y0 y1 y2 y3; clear xk jk ik; have HD6 := Lib.hid hD; clear hD; have HK6 := Lib.hid hK; clear hK))
  go_wp2
  obtain ⟨r1, r2, r3⟩ := close4 (a := .slice B1 n2 d1) (b := .slice B2 n2 d2) (c := .int .i64 ar2) (d := .bool dd2) HD6.out ((HR3.out.below HB5.out).kept (HK6.out.more (fun y hy => List.mem_cons_of_mem _ (HSUB.out y hy)))) ((HK3.out.trans (kept_of_below HB5.out (Nat.le_refl _))).trans HK6.out) HLT.out (by omega)
  exact bodyPost_ret (v := .tuple #[.agg #[.slice B1 n2 d1, .slice B2 n2 d2, .int .i64 ar2, .bool dd2], .bool ((s.write n ys).2 == (s'.write n ys).2)]) (by simp [results, Try.results14, go_sem, y0, y1, y2, y3, z4]) rfl ⟨_, rfl, r1, r2, r3⟩
theorem fine_step {w : World} {B : Nat} {va : Value} {s : St} {a : Ac} (h : Fine s) (ha : ActAt w B va a) : Fine (s.step a) := by
  obtain ⟨vb, vt, _, hb, ht, h1, h2⟩ := ha
  unfold St.step
  split
  · refine fine_write h _ _ ?_
    unfold Ac.bytes
    split
    · exact hb.lt
    · exact (torn_sec hb.lt isSec_noughts).2
  · split
    · exact fine_flush h
    · split
      · obtain ⟨⟨g1, g2, g3, g4, g5, g6⟩, g7⟩ := h
        exact ⟨⟨g1, g2, g3, g4, h1, h2⟩, g7⟩
      · split
        · exact fine_crash h _ (tears_lt ht)
        · exact h
/-- Do, at a disk and a reference's disk of any two states -/
theorem do_two (S : List Nat) (g bs bw B : Nat) (s s' : St) (v va : Value) (a : Ac) (w : World) (hd : DiskAt w g bs bw s) (hr : RefAt w S v s') (hf : Fine s') (hsub : ∀ x ∈ [g, bs, bw], x ∈ S) (hS : ∀ x ∈ S, x < w.heap.size) (ha : ActAt w B va a) (hB : ∀ x ∈ [g, bs, bw], B ≤ x) :
    Calls Try.prog 14 #[ptr g, v, va] w fun e w' => ∃ v' t, e = .returned (.tuple #[v', .bool t]) ∧ DiskAt w' g bs bw (s.step a) ∧ RefAt w' S v' (s'.step a) ∧ KeptBut w w' [g, bs, bw] ∧ (s = s' → t = true) := by
  obtain ⟨A1, A2, c1, c2, rfl⟩ := ref_form hr
  obtain ⟨vb, vt, rfl, hb, ht, h1, h2⟩ := ha
  obtain ⟨A3, n3, c3, rfl, _⟩ := id hb
  obtain ⟨A4, n4, c4, rfl, _⟩ := id ht
  obtain ⟨k, n, xs, sh, l⟩ := a
  simp only at hb ht h1 h2 ⊢
  by_cases h0 : k = 0
  · subst h0
    cases sh with
    | true =>
      have e : ∀ s : St, s.step ⟨0, n, xs, true, l⟩ = (s.write n xs).1 := fun s => by simp [St.step, Ac.bytes]
      rw [e, e]
      exact (do_write_short S g bs bw B A1 A2 A3 A4 n3 n4 c1 c2 c3 c4 s s' n xs w hd hr hf hsub hS hb hB).mono fun e w' ⟨v', q, q1, q2, q3⟩ => ⟨v', _, q, q1, q2, q3, fun hs => by simp [hs]⟩
    | false =>
      have e : ∀ s : St, s.step ⟨0, n, xs, false, l⟩ = (s.write n (torn xs noughts)).1 := fun s => by simp [St.step, Ac.bytes]
      rw [e, e]
      exact (do_write_full S g bs bw B A1 A2 A3 A4 n3 n4 c1 c2 c3 c4 s s' n xs w hd hr hf hsub hS hb hB).mono fun e w' ⟨v', q, q1, q2, q3⟩ => ⟨v', _, q, q1, q2, q3, fun hs => by simp [hs]⟩
  · by_cases h1' : k = 1
    · subst h1'
      have e : ∀ s : St, s.step ⟨1, n, xs, sh, l⟩ = s.flush.1 := fun s => by simp [St.step]
      rw [e, e]
      exact (do_flush S g bs bw A1 A2 A3 A4 n3 n4 c1 c2 c3 c4 s s' n sh w hd hr hf hsub hS).mono fun e w' ⟨v', q, q1, q2, q3⟩ => ⟨v', _, q, q1, q2, q3, fun hs => by simp [hs]⟩
    · by_cases h2' : k = 2
      · subst h2'
        have e : ∀ s : St, s.step ⟨2, n, xs, sh, l⟩ = { s with left := n } := fun s => by simp [St.step]
        rw [e, e]
        exact (do_arm S g bs bw A1 A2 A3 A4 n3 n4 c1 c2 c3 c4 s s' n sh w hd hr hf hsub hS h1 h2).mono fun e w' ⟨v', q, q1, q2, q3⟩ => ⟨v', _, q, q1, q2, q3, fun _ => rfl⟩
      · by_cases h3' : k = 3
        · subst h3'
          have e : ∀ s : St, s.step ⟨3, n, xs, sh, l⟩ = s.crash l := fun s => by simp [St.step]
          rw [e, e]
          exact (do_crash S g bs bw B A1 A2 A3 A4 n3 n4 c1 c2 c3 c4 s s' l n sh w hd hr hf hsub hS ht hB).mono fun e w' ⟨v', q, q1, q2, q3⟩ => ⟨v', _, q, q1, q2, q3, fun _ => rfl⟩
        · have e : ∀ s : St, s.step ⟨k, n, xs, sh, l⟩ = s := fun s => step_other h0 h1' h2' h3'
          rw [e, e]
          refine (do_other g A1 A2 A3 A4 s'.n s'.n n3 n4 c1 c2 c3 c4 s' k n sh w h0 h1' h2' h3').mono ?_
          rintro e w' ⟨rfl, hbel⟩
          exact ⟨_, _, rfl, hd.below hbel, hr.below hbel, kept_of_below hbel (Nat.le_refl _), fun _ => rfl⟩
theorem do_any (S : List Nat) (g bs bw B : Nat) (s : St) (v va : Value) (a : Ac) (w : World) (hd : DiskAt w g bs bw s) (hr : RefAt w S v s) (hsub : ∀ x ∈ [g, bs, bw], x ∈ S) (hS : ∀ x ∈ S, x < w.heap.size) (ha : ActAt w B va a) (hB : ∀ x ∈ [g, bs, bw], B ≤ x) :
    Calls Try.prog 14 #[ptr g, v, va] w fun e w' => ∃ v', e = .returned (.tuple #[v', .bool true]) ∧ DiskAt w' g bs bw (s.step a) ∧ RefAt w' S v' (s.step a) ∧ KeptBut w w' [g, bs, bw] := by
  refine (do_two S g bs bw B s s v va a w hd hr hd.fine hsub hS ha hB).mono fun e w' ⟨v', t, q, q1, q2, q3, q4⟩ => ?_
  obtain rfl := q4 rfl
  exact ⟨v', q, q1, q2, q3⟩
end Go.Proofs.Ytpmkacpdmjnbjaa.Dsk
