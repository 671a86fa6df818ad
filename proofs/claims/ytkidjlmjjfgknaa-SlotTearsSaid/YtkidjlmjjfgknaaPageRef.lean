/- The reference's sector of a page (layer 4). -/
import Derived.Test.YtkidjlmjjfgknaaPagePut
import Derived.Test.YtkidjlmjjfgknaaRef
namespace Go.Proofs.Ytkidjlmjjfgknaa.Pg
open Go.RowKit Go.Proofs.Ytkidjlmjjfgknaa.Mem Go.Proofs.Ytkidjlmjjfgknaa.Oct
set_option linter.unusedVariables false
set_option linter.unusedSimpArgs false
theorem own_four (w : World) (base g : Nat) (hg : g = w.heap.size) (hB : base ≤ w.heap.size) (x : Nat) : (w.alloc (.cells #[.int .u8 87, .int .u8 65, .int .u8 89, .int .u8 (x : Nat)] 5)).ownsRow base 5 1 (.slice (some ⟨g, 0, none⟩) 4 4) 4 (vals [87, 65, 89, x]) := by
  subst hg
  exact World.ownsRow_lit w #[.int .u8 87, .int .u8 65, .int .u8 89, .int .u8 (x : Nat)] 4 hB (by unfold maxLen; omega) rfl
theorem be_one {n : Nat} (h : n < 256) : be 1 n = [n] := by simp [be]; omega
theorem text_of (K G M I T S : Nat) (b : List Nat) (hK : K ≤ 9) (hT : T < 16) (hS : S ≤ 16) : ((((([87, 65, 89, K] ++ be 4 G) ++ be 4 M) ++ be 4 I) ++ [T, S]) ++ (be 2 b.length ++ b)) = P.text ⟨K, G, M, I, T, S, b⟩ := by
  unfold P.text P.head
  simp only [Int.toNat_natCast]
  rw [be_one (by omega), be_one (n := T) (by omega), be_one (n := S) (by omega)]
  simp [List.append_assoc]
set_option maxRecDepth 20000 in
set_option maxHeartbeats 16000000 in
theorem ref_put (p : P) (v : Value) (w : World) (hm : p.May) (hv : Sl w w.heap.size v p.b) :
    Calls Try.prog 30 #[pgV p v] w fun e w' => ∃ v', e = .returned v' ∧ Sl w' w'.heap.size v' p.sector ∧ Below w.heap.size w w' := by
  have hl := hm.l
  obtain ⟨K, G, M, I, T, S, hp, hK, hG, hM, hI, hT, hS⟩ := nat_of hm
  have hblt := hv.lt
  obtain ⟨b, hb⟩ : ∃ b, b = p.b := ⟨_, rfl⟩
  rw [← hb] at hl hp hblt hv
  subst hp
  clear hb
  obtain ⟨Ab, nb, cb, rfl, _⟩ := id hv
  have hnb := (sl_bts hv).1
  have HM := Lib.hid hm; clear hm
  have HBL := Lib.hid hblt; clear hblt
  have HV := Lib.hid hv; clear hv
  have hl2 : nb ≤ 488 := by omega
  have HNB := Lib.hid hnb; clear hnb
  have HL := Lib.hid hl; clear hl
  have hsec : P.sector ⟨K, G, M, I, T, S, b⟩ = Crc.sealed (P.body ⟨K, G, M, I, T, S, b⟩) := rfl
  rw [hsec]
  clear hsec
  obtain ⟨sec, hsec⟩ : ∃ sec, sec = Crc.sealed (P.body ⟨K, G, M, I, T, S, b⟩) := ⟨_, rfl⟩
  rw [← hsec]
  have HSEC := Lib.hid hsec; clear hsec
  unfold pgV
  simp only
  have kp := Blk.new w 43 #[.int .i64 (K : Nat), .int .i64 (G : Nat), .int .i64 (M : Nat), .int .i64 (I : Nat), .int .i64 (T : Nat), .int .i64 (S : Nat), .slice Ab nb cb]
  have KP1 := Lib.hid kp
  have z0 := KP1.out.cell 0; have z1 := KP1.out.cell 1; have z2 := KP1.out.cell 2; have z3 := KP1.out.cell 3; have z4 := KP1.out.cell 4; have z5 := KP1.out.cell 5; have z6 := KP1.out.cell 6; simp at z0 z1 z2 z3 z4 z5 z6
  have hzl := kp.lt
  have KP := Lib.hid (kp.alloc (.cells #[.int .u8 87, .int .u8 65, .int .u8 89, .int .u8 (K : Nat)] 5)); clear kp
  have HB := Lib.hid (((Below.refl w.heap.size w).alloc (Nat.le_refl _) (Obj.cells #[.int .i64 (K : Nat), .int .i64 (G : Nat), .int .i64 (M : Nat), .int .i64 (I : Nat), .int .i64 (T : Nat), .int .i64 (S : Nat), .slice Ab nb cb] 43)).alloc (by simp) (.cells #[.int .u8 87, .int .u8 65, .int .u8 89, .int .u8 (K : Nat)] 5))
  have OW := Lib.hid (own_four (w.alloc (Obj.cells #[.int .i64 (K : Nat), .int .i64 (G : Nat), .int .i64 (M : Nat), .int .i64 (I : Nat), .int .i64 (T : Nat), .int .i64 (S : Nat), .slice Ab nb cb] 43)) (w.heap.size + 1) (w.heap.size + 1) (by simp) (by simp) K)
  have a0 := KP.out.cell 0; have a1 := KP.out.cell 1; have a2 := KP.out.cell 2; have a3 := KP.out.cell 3; have a4 := KP.out.cell 4; have a5 := KP.out.cell 5; have a6 := KP.out.cell 6; simp at a0 a1 a2 a3 a4 a5 a6
  have hal := KP.out.lt
  obtain ⟨i1, hi, hz0, hz1, hz2⟩ := info_parts Try.info5
  have HJ := Lib.hid hi; clear hi
  have HY0 := Lib.hid hz0; clear hz0
  have HY1 := Lib.hid hz1; clear hz1
  have HY2 := Lib.hid hz2; clear hz2
  go_enter Try.func30, Try.ntmps30
  go_wp2_with (first
    | (go_at_call 44; refine (ref_num 4 _ _ (by decide) (by omega)).mono ?_; rintro e w2 ⟨u2, rfl, hnum, hb⟩; obtain ⟨An, cn, rfl, hrd⟩ := own_slice hnum; clear hnum; have OWn := Lib.hid (own_below OW.out hb); clear OW; have OW := OWn; clear OWn; have KPn := Lib.hid (KP.out.below hb KP.out.lt); clear KP a0 a1 a2 a3 a4 a5 a6 hal; have KP := KPn; clear KPn; have a0 := KP.out.cell 0; have a1 := KP.out.cell 1; have a2 := KP.out.cell 2; have a3 := KP.out.cell 3; have a4 := KP.out.cell 4; have a5 := KP.out.cell 5; have a6 := KP.out.cell 6; simp at a0 a1 a2 a3 a4 a5 a6; have hal := KP.out.lt; have HBn := Lib.hid (HB.out.trans (hb.mono HB.out.size)); clear HB; have HB := HBn; clear HBn; have RD := Lib.hid hrd; clear hrd hb)
    | (at_builtin; refine wpList_append_any _ rfl (.tmp 8) (.tmp 12) 25 rfl (w.heap.size + 1) 5 i1 (.int .u8 0) 1 1 Try.underlying25 HJ.out HY0.out HY1.out HY2.out rfl (by decide) _ _ _ rfl OW.out _ _ _ _ _ rfl (RD.out) (vals_one _) (by unfold maxLen; omega) (by omega) (by omega) ?_; intro v5 w5 hown5 hg5 _; rw [← vals_append] at hown5; obtain ⟨A5, c5, rfl⟩ := own_form hown5; have KPn := Lib.hid (KP.out.grown hg5 (fun e => own_blk_ne OW.out KP.out (by decide) e.symm)); clear KP a0 a1 a2 a3 a4 a5 a6 hal; have KP := KPn; clear KPn; have a0 := KP.out.cell 0; have a1 := KP.out.cell 1; have a2 := KP.out.cell 2; have a3 := KP.out.cell 3; have a4 := KP.out.cell 4; have a5 := KP.out.cell 5; have a6 := KP.out.cell 6; simp at a0 a1 a2 a3 a4 a5 a6; have hal := KP.out.lt; have HBn := Lib.hid (HB.out.grown hg5 HB.out.size (fun q hq => Nat.le_trans (Nat.le_succ _) (OW.out.lt q hq).1)); clear HB; have HB := HBn; clear HBn OW RD; have OW := Lib.hid hown5; clear hown5 hg5)
    | (at_builtin; refine wpList_append_any _ rfl (.tmp 14) (.tmp 18) 25 rfl (w.heap.size + 1) 5 i1 (.int .u8 0) 1 1 Try.underlying25 HJ.out HY0.out HY1.out HY2.out rfl (by decide) _ _ _ rfl OW.out _ _ _ _ _ rfl (RD.out) (vals_one _) (by unfold maxLen; omega) (by omega) (by omega) ?_; intro v5 w5 hown5 hg5 _; rw [← vals_append] at hown5; obtain ⟨A5, c5, rfl⟩ := own_form hown5; have KPn := Lib.hid (KP.out.grown hg5 (fun e => own_blk_ne OW.out KP.out (by decide) e.symm)); clear KP a0 a1 a2 a3 a4 a5 a6 hal; have KP := KPn; clear KPn; have a0 := KP.out.cell 0; have a1 := KP.out.cell 1; have a2 := KP.out.cell 2; have a3 := KP.out.cell 3; have a4 := KP.out.cell 4; have a5 := KP.out.cell 5; have a6 := KP.out.cell 6; simp at a0 a1 a2 a3 a4 a5 a6; have hal := KP.out.lt; have HBn := Lib.hid (HB.out.grown hg5 HB.out.size (fun q hq => Nat.le_trans (Nat.le_succ _) (OW.out.lt q hq).1)); clear HB; have HB := HBn; clear HBn OW RD; have OW := Lib.hid hown5; clear hown5 hg5)
    | (at_builtin; refine wpList_append_any _ rfl (.tmp 20) (.tmp 24) 25 rfl (w.heap.size + 1) 5 i1 (.int .u8 0) 1 1 Try.underlying25 HJ.out HY0.out HY1.out HY2.out rfl (by decide) _ _ _ rfl OW.out _ _ _ _ _ rfl (RD.out) (vals_one _) (by unfold maxLen; omega) (by omega) (by omega) ?_; intro v5 w5 hown5 hg5 _; rw [← vals_append] at hown5; obtain ⟨A5, c5, rfl⟩ := own_form hown5; have KPn := Lib.hid (KP.out.grown hg5 (fun e => own_blk_ne OW.out KP.out (by decide) e.symm)); clear KP a0 a1 a2 a3 a4 a5 a6 hal; have KP := KPn; clear KPn; have a0 := KP.out.cell 0; have a1 := KP.out.cell 1; have a2 := KP.out.cell 2; have a3 := KP.out.cell 3; have a4 := KP.out.cell 4; have a5 := KP.out.cell 5; have a6 := KP.out.cell 6; simp at a0 a1 a2 a3 a4 a5 a6; have hal := KP.out.lt; have HBn := Lib.hid (HB.out.grown hg5 HB.out.size (fun q hq => Nat.le_trans (Nat.le_succ _) (OW.out.lt q hq).1)); clear HB; have HB := HBn; clear HBn OW RD; have OW := Lib.hid hown5; clear hown5 hg5)
    | (at_builtin; have OWA := Lib.hid (OW.out.alloc (Obj.cells #[.int .u8 (T : Nat), .int .u8 (S : Nat)] 5)); have KPA := Lib.hid (KP.out.alloc (Obj.cells #[.int .u8 (T : Nat), .int .u8 (S : Nat)] 5)); have HBA := Lib.hid (HB.out.alloc HB.out.size (Obj.cells #[.int .u8 (T : Nat), .int .u8 (S : Nat)] 5)); have hal2 := KPA.out.lt; refine wpList_append_any _ rfl (.tmp 26) (.tmp 33) 25 rfl (w.heap.size + 1) 5 i1 (.int .u8 0) 1 1 Try.underlying25 HJ.out HY0.out HY1.out HY2.out rfl (by decide) _ _ _ rfl OWA.out _ _ _ _ _ rfl (reads_two _ _ rfl _ _ T S rfl rfl) (vals_one _) (by unfold maxLen; omega) (by omega) (by omega) ?_; intro v5 w5 hown5 hg5 _; rw [← vals_append] at hown5; obtain ⟨A5, c5, rfl⟩ := own_form hown5; have KPn := Lib.hid (KPA.out.grown hg5 (fun e => own_blk_ne OWA.out KPA.out (by decide) e.symm)); clear KP a0 a1 a2 a3 a4 a5 a6 hal; have KP := KPn; clear KPn; have a0 := KP.out.cell 0; have a1 := KP.out.cell 1; have a2 := KP.out.cell 2; have a3 := KP.out.cell 3; have a4 := KP.out.cell 4; have a5 := KP.out.cell 5; have a6 := KP.out.cell 6; simp at a0 a1 a2 a3 a4 a5 a6; have hal := KP.out.lt; have HBn := Lib.hid (HBA.out.grown hg5 HBA.out.size (fun q hq => Nat.le_trans (Nat.le_succ _) (OWA.out.lt q hq).1)); clear HB; have HB := HBn; clear HBn OW OWA KPA HBA hal2; have OW := Lib.hid hown5; clear hown5 hg5)
    | (go_at_call 45; refine (ref_text (.slice Ab nb cb) b _ ((HV.out.below HB.out (Nat.le_refl _)).more HB.out.size) (by have := HL.out; omega)).mono ?_; rintro e w2 ⟨u2, rfl, hnum, hb⟩; rw [HNB.out] at hnum; obtain ⟨An, cn, rfl, hrd⟩ := own_slice hnum; clear hnum; have OWn := Lib.hid (own_below OW.out hb); clear OW; have OW := OWn; clear OWn; have KPn := Lib.hid (KP.out.below hb KP.out.lt); clear KP a0 a1 a2 a3 a4 a5 a6 hal; have KP := KPn; clear KPn; have a0 := KP.out.cell 0; have a1 := KP.out.cell 1; have a2 := KP.out.cell 2; have a3 := KP.out.cell 3; have a4 := KP.out.cell 4; have a5 := KP.out.cell 5; have a6 := KP.out.cell 6; simp at a0 a1 a2 a3 a4 a5 a6; have hal := KP.out.lt; have HBn := Lib.hid (HB.out.trans (hb.mono HB.out.size)); clear HB; have HB := HBn; clear HBn; have RD := Lib.hid hrd; clear hrd hb)
    | (at_builtin; refine wpList_append_any _ rfl (.tmp 35) (.tmp 38) 25 rfl (w.heap.size + 1) 5 i1 (.int .u8 0) 1 1 Try.underlying25 HJ.out HY0.out HY1.out HY2.out rfl (by decide) _ _ _ rfl OW.out _ _ _ _ _ rfl (RD.out) (vals_one _) (by unfold maxLen; omega) (by omega) (by omega) ?_; intro v5 w5 hown5 hg5 _; rw [← vals_append] at hown5; obtain ⟨A5, c5, rfl⟩ := own_form hown5; have KPn := Lib.hid (KP.out.grown hg5 (fun e => own_blk_ne OW.out KP.out (by decide) e.symm)); clear KP a0 a1 a2 a3 a4 a5 a6 hal; have KP := KPn; clear KPn; have a0 := KP.out.cell 0; have a1 := KP.out.cell 1; have a2 := KP.out.cell 2; have a3 := KP.out.cell 3; have a4 := KP.out.cell 4; have a5 := KP.out.cell 5; have a6 := KP.out.cell 6; simp at a0 a1 a2 a3 a4 a5 a6; have hal := KP.out.lt; have HBn := Lib.hid (HB.out.grown hg5 HB.out.size (fun q hq => Nat.le_trans (Nat.le_succ _) (OW.out.lt q hq).1)); clear HB; have HB := HBn; clear HBn OW RD; have OW := Lib.hid hown5; clear hown5 hg5))
  have hlt := body_lt (p := ⟨K, G, M, I, T, S, b⟩) HBL.out
  have hltt := text_lt (p := ⟨K, G, M, I, T, S, b⟩) HBL.out
  have htx := text_length ⟨K, G, M, I, T, S, b⟩
  simp only at htx
  have hn1 := HNB.out
  have how := OW.out
  have e0 : 4 + 4 + 4 + 4 + 2 + (2 + nb) = (P.text ⟨K, G, M, I, T, S, b⟩).length := by omega
  rw [e0] at how ⊢
  rw [← hn1, text_of K G M I T S b hK hT hS] at how
  have OWT := Lib.hid how; clear how OW
  have htl : (P.text ⟨K, G, M, I, T, S, b⟩).length ≤ 508 := by omega
  clear e0 hn1
  have hbd : P.body ⟨K, G, M, I, T, S, b⟩ = P.text ⟨K, G, M, I, T, S, b⟩ ++ List.replicate (508 - (P.text ⟨K, G, M, I, T, S, b⟩).length) 0 := rfl
  generalize P.body ⟨K, G, M, I, T, S, b⟩ = bd at *
  generalize P.text ⟨K, G, M, I, T, S, b⟩ = tx at *
  have HBD := Lib.hid hbd; clear hbd
  have HLT := Lib.hid hlt; clear hlt
  have HLTT := Lib.hid hltt; clear hltt
  clear htx
  generalize htl' : tx.length = tl at *
  have HTL := Lib.hid htl'; clear htl'
  have hz5 : w.heap.size + 1 ≤ w5.heap.size := hal
  clear a0 a1 a2 a3 a4 a5 a6 z0 z1 z2 z3 z4 z5 z6 hal hzl KP KP1
  have h0w := HB.out.size
  go_loopw [3] (fun v wr => ∃ (j : Nat) (A : Option Addr) (n c : Nat), v = .slice A n c ∧ n = tl + j ∧ n ≤ 508 ∧ wr.ownsRow (w.heap.size + 1) 5 1 (.slice A n c) n (vals (tx ++ List.replicate j 0)) ∧ Below w.heap.size w wr ∧ w.heap.size + 1 ≤ wr.heap.size) (fun v _ => match v with | .slice _ n _ => 508 - n | _ => 0)
  case atStart => exact ⟨0, A5, tl, c5, rfl, by omega, htl, by simpa using OWT.out, HB.out, hz5⟩
  case round =>
    obtain ⟨j, A, n, c, rfl, hn, hn8, hown, hbel, hsz⟩ := hrel
    have HN := Lib.hid hn; clear hn
    have OW := Lib.hid hown; clear hown
    have HL2 := Lib.hid hbel; clear hbel
    by_cases hlt : n < 508
    · have OWA := Lib.hid (OW.out.alloc (.cells #[.int .u8 0] 5))
      have hsz2 : w.heap.size + 1 ≤ (wr.alloc (.cells #[.int .u8 0] 5)).heap.size := by simp; omega
      go_wp2_with (at_builtin; refine wpList_append_any _ rfl (.tmp 43) (.tmp 44) 25 rfl (w.heap.size + 1) 5 i1 (.int .u8 0) 1 1 Try.underlying25 HJ.out HY0.out HY1.out HY2.out rfl (by decide) _ _ _ rfl OWA.out _ _ _ _ _ rfl (reads_byte wr wr.heap.size rfl 0 0 rfl) (vals_one _) (by unfold maxLen; omega) (by omega) hsz2 ?_; intro v5 w5 hown5 hg5 _; rw [← vals_append] at hown5; obtain ⟨A6, c6, rfl⟩ := own_form hown5; have HB6 := Lib.hid ((HL2.out.alloc HL2.out.size (.cells #[.int .u8 0] 5)).grown hg5 (by simp; omega) (fun q hq => Nat.le_trans (Nat.le_succ _) (OWA.out.lt q hq).1)); have hsz6 := Nat.le_trans hsz2 hg5.size; have OW6 := Lib.hid hown5; clear hown5 hg5)
      go_roundw
      case rel =>
        refine ⟨j + 1, A6, n + 1, c6, rfl, by have := HN.out; omega, by omega, ?_, HB6.out, hsz6⟩
        have h := OW6.out
        rw [List.append_assoc] at h
        rw [List.replicate_succ']
        exact h
      case measure => simp; omega
    · have hd : decide ((n : Int) < 508) = false := by simp; omega
      have hj : 508 - tl = j := by have := HN.out; omega
      have hn2 : n ≤ 2000 := by omega
      clear hlt
      have hb := HBD.out
      rw [hj] at hb
      have how := OW.out
      rw [← hb] at how
      have hs := sl_own how HLT.out (by omega)
      obtain ⟨A', n', c', e', hbt4, _, _, hA4⟩ := id hs
      injection e' with q1 q2 q3
      subst q1 q2 q3
      have SE := Lib.hid (Crc.rseal_any A n c bd wr hn2 hA4 hbt4)
      have hlt5 := Crc.sealed_lt HLT.out
      have HL5 := Lib.hid hlt5; clear hlt5 hs hbt4 hA4 how hb
      go_wp2_with (go_at_call 46; refine (SE.out).mono ?_; rintro e w6 ⟨v6, rfl, hown6, hb6⟩; obtain ⟨A6, c6, rfl⟩ := own_form hown6; have OW6 := Lib.hid hown6; have HB6 := Lib.hid hb6; clear hown6 hb6)
      go_ret
      exact ⟨_, rfl, by rw [HSEC.out]; exact sl_own OW6.out HL5.out (by omega), HL2.out.trans (HB6.out.mono HL2.out.size)⟩
end Go.Proofs.Ytkidjlmjjfgknaa.Pg
