/- PageTurns: a sector some of whose bits are turned, all within 32 in a row, is none's: the walk, and the law. -/
import Derived.Test.YtpmkacpdmjnbjaaPageAwake
import Derived.Test.YtpmkacpdmjnbjaaPageFlip
import Derived.Test.YtpmkacpdmjnbjaaAgg
import Derived.Lib.SlBytesConst
import Derived.IntWalk
import Derived.WalkKit
import Derived.ProofKit
import Derived.OpenShut
import Derived.ShutString
import Derived.ChangeOld
import Derived.Below
namespace Go.Proofs.Ytpmkacpdmjnbjaa.Pg
open Go.RowKit Go.Proofs.Ytpmkacpdmjnbjaa.Mem Go.Proofs.Ytpmkacpdmjnbjaa.Oct
open Go.Proofs.Ytpmkacpdmjnbjaa.Crc (turned flipTo flipTo_length flipTo_lt turned_succ)
set_option linter.unusedVariables false
set_option linter.unusedSimpArgs false
set_option maxRecDepth 20000 in
set_option maxHeartbeats 16000000 in
theorem put_own (p : P) (v : Value) (w : World) (hm : p.May) (hv : Sb w w.heap.size v p.b) :
    Calls Try.prog 29 #[pgV p v] w fun e w' => ∃ (A : Option Addr) (n c : Nat), e = .returned (.tuple #[.slice A n c, .int .i64 0]) ∧ n = 512 ∧ w'.ownsRow w.heap.size 5 1 (.slice A n c) n (vals p.sector) ∧ Below w.heap.size w w' := by
  have hl := hm.l
  obtain ⟨K, G, M, I, T, S, hp, hK, hG, hM, hI, hT, hS⟩ := nat_of hm
  have mb := mayBe_any p v (w.alloc (.cells (pgC p v) 65)) ((hv.alloc (Nat.le_refl _) _).more (by simp))
  rw [(may_iff p).2 hm] at mb
  have hblt := hv.lt
  obtain ⟨b, hb⟩ : ∃ b, b = p.b := ⟨_, rfl⟩
  rw [← hb] at hl hp hblt hv
  subst hp
  clear hb
  obtain ⟨Ab, nb, cb, rfl, _⟩ := id hv
  have hnb := (sb_bts hv).1
  have hk : ∃ k : Nat, (508 : Int) - ((20 + nb : Nat) : Int) = (k : Nat) ∧ k = 488 - nb := ⟨488 - nb, by omega, rfl⟩
  obtain ⟨k, hk1, hk2⟩ := hk
  generalize htl : 20 + nb = tl at hk1
  have hkb : k ≤ 488 := by omega
  have htb : tl ≤ 508 := by omega
  have HTL := Lib.hid htl; clear htl
  have HK2 := Lib.hid hk2; clear hk2
  have MB := Lib.hid mb; clear mb
  have HM := Lib.hid hm; clear hm
  have HBL := Lib.hid hblt; clear hblt
  have HV := Lib.hid hv; clear hv
  have HNB := Lib.hid hnb; clear hnb
  unfold pgV at MB ⊢
  unfold pgC at MB
  simp only at MB ⊢
  have KP0 := Lib.hid (Blk.new w 65 #[.int .i64 (K : Nat), .int .i64 (G : Nat), .int .i64 (M : Nat), .int .i64 (I : Nat), .int .i64 (T : Nat), .int .i64 (S : Nat), .slice Ab nb cb])
  have HB0 := Lib.hid ((Below.refl w.heap.size w).alloc (Nat.le_refl _) (Obj.cells #[.int .i64 (K : Nat), .int .i64 (G : Nat), .int .i64 (M : Nat), .int .i64 (I : Nat), .int .i64 (T : Nat), .int .i64 (S : Nat), .slice Ab nb cb] 65))
  obtain ⟨i1, hi, hz0, hz1, hz2⟩ := info_parts Try.info5
  have HJ := Lib.hid hi; clear hi
  have HY0 := Lib.hid hz0; clear hz0
  have HY1 := Lib.hid hz1; clear hz1
  have HY2 := Lib.hid hz2; clear hz2
  have kc := fun (w : World) (C : Array Value) (n c : Nat) => Lib.run_convert_bytes_const (P := Try.prog) w 35 5 C n c Try.underlying35 Try.underlying5
  go_enter Try.func29, Try.ntmps29
  go_wp2_with (first
    | (go_at_call 50; refine (MB.out).mono ?_; rintro e w1 ⟨rfl, hb⟩; have kp1 := KP0.out.below hb (by simp); have KP1 := Lib.hid kp1; have z0 := KP1.out.cell 0; have z1 := KP1.out.cell 1; have z2 := KP1.out.cell 2; have z3 := KP1.out.cell 3; have z4 := KP1.out.cell 4; have z5 := KP1.out.cell 5; have z6 := KP1.out.cell 6; simp at z0 z1 z2 z3 z4 z5 z6; have KP := Lib.hid (kp1.alloc (.cells #[.int .u8 87, .int .u8 65, .int .u8 89] 5 (3, 4))); have a0 := KP.out.cell 0; have a1 := KP.out.cell 1; have a2 := KP.out.cell 2; have a3 := KP.out.cell 3; have a4 := KP.out.cell 4; have a5 := KP.out.cell 5; have a6 := KP.out.cell 6; simp at a0 a1 a2 a3 a4 a5 a6; have HB := Lib.hid ((HB0.out.trans (hb.mono (by simp))).alloc (by have := hb.size; simp at this; omega) (.cells #[.int .u8 87, .int .u8 65, .int .u8 89] 5 (3, 4))); have SL := Lib.hid (lit_way w1); have LN : Hid (([87, 65, 89] : List Nat).length ≤ 3) := Nat.le_refl _; have nu := fun (k : Int) (N : Nat) (hN : N < 18446744073709551616) => put_num _ k N _ _ SL.out (Nat.le_trans LN.out (by decide)) hN; have NU := Lib.hid nu; clear nu; have hzl := kp1.lt; have hal := KP.out.lt; clear kp1 hb KP1)
    | (go_at_call 51; refine (NU.out _ _ (by omega)).mono ?_; rintro e w2 ⟨v2, rfl, hs, hb⟩; obtain ⟨A2, n2, c2, rfl, _⟩ := id hs; have KP2 := Lib.hid (KP.out.below hb KP.out.lt); clear a0 a1 a2 a3 a4 a5 a6 KP hal; have KP := KP2; clear KP2; have a0 := KP.out.cell 0; have a1 := KP.out.cell 1; have a2 := KP.out.cell 2; have a3 := KP.out.cell 3; have a4 := KP.out.cell 4; have a5 := KP.out.cell 5; have a6 := KP.out.cell 6; simp at a0 a1 a2 a3 a4 a5 a6; have hal := KP.out.lt; have HB2 := Lib.hid (HB.out.trans (hb.mono HB.out.size)); clear HB; have HB := HB2; clear HB2; clear SL; have SL := Lib.hid hs; have LN2 := Lib.hid (len_put SL.out LN.out); clear LN; have LN := LN2; clear LN2 hb hs NU; have nu := fun (k : Int) (N : Nat) (hN : N < 18446744073709551616) => put_num _ k N _ _ SL.out (Nat.le_trans LN.out (by decide)) hN; have NU := Lib.hid nu; clear nu))
  have hsl : Sl w2 w2.heap.size (.slice A2 n2 c2) (P.head ⟨K, G, M, I, T, S, b⟩) := SL.out
  have h18 : n2 = 18 := by have := (sl_bts hsl).1; rw [head_length] at this; omega
  subst h18
  clear SL LN NU
  refine (text_ok A2 Ab 18 nb c2 cb _ b w2 (by omega) (by have := HNB.out; omega) (sl_bts hsl) (sb_bts ((HV.out.below HB.out (Nat.le_refl _)).more HB.out.size))).mono ?_
  rintro e w3 ⟨v3, rfl, hown, hb3⟩
  obtain ⟨A3, c3, rfl⟩ := own_form hown
  have e18 : 18 + 2 + nb = tl := by have := HTL.out; omega
  have hnn := HNB.out
  rw [e18] at hown ⊢
  rw [← hnn] at hown
  have htext : P.head ⟨K, G, M, I, T, S, b⟩ ++ (be 2 b.length ++ b) = P.text ⟨K, G, M, I, T, S, b⟩ := rfl
  rw [htext] at hown
  have OW := Lib.hid hown; clear hown htext hsl
  have HB3 := Lib.hid (HB.out.trans (hb3.mono HB.out.size))
  have hz23 : w2.heap.size ≤ w3.heap.size := hb3.size
  clear hb3 a0 a1 a2 a3 a4 a5 a6 hnn
  have HE18 := Lib.hid e18; clear e18
  have htl0 : 0 < tl := by have := HTL.out; omega
  go_wp2_with (first
    | (at_builtin; refine wpList_append_zeros w3 rfl (.tmp 46) (.tmp 49) 35 3 rfl w2.heap.size 5 i1 (.int .u8 0) .i64 Try.underlying35 Try.underlying3 HJ.out HY0.out HY1.out HY2.out rfl rfl (.slice A3 tl c3) tl k _ rfl rfl OW.out htl0 (by omega) (by omega) hz23 ?_; intro v4 w4 hown4 hg4; obtain ⟨A4, c4, rfl⟩ := own_form hown4))
  have hbody : vals (P.text ⟨K, G, M, I, T, S, b⟩) ++ List.replicate k (.int .u8 0) = vals (P.body ⟨K, G, M, I, T, S, b⟩) := by
    have e1 := text_length ⟨K, G, M, I, T, S, b⟩
    have e2 := HK2.out
    have e3 := HNB.out
    have e4 := HTL.out
    have e5 : 508 - (P.text ⟨K, G, M, I, T, S, b⟩).length = k := by simp only at e1; omega
    unfold P.body
    rw [e5, vals_append]
    simp [vals]
  rw [hbody] at hown4
  have hlt4 := body_lt (p := ⟨K, G, M, I, T, S, b⟩) HBL.out
  have hs4 := sl_own hown4 hlt4 (by omega)
  have HO3 := OW.out
  have hb4 : Below w.heap.size w w4 := HB3.out.grown hg4 HB3.out.size (fun q hq => Nat.le_trans HB.out.size (HO3.lt q hq).1)
  obtain ⟨A', n', c', e', hbt4, _, _, hA4⟩ := id hs4
  injection e' with q1 q2 q3
  subst q1 q2 q3
  refine (Crc.seal_any A4 (tl + k) c4 _ w4 (by omega) hA4 hbt4).mono ?_
  rintro e w5 ⟨v5, rfl, hown5, hb5⟩
  obtain ⟨A5, c5, rfl⟩ := own_form hown5
  have hlt5 := Crc.sealed_lt hlt4
  go_wp2
  go_ret2
  exact ⟨A5, _, c5, rfl, by have := HTL.out; have := HK2.out; omega, own_mono hown5 hb4.size, hb4.trans (hb5.mono hb4.size)⟩
set_option maxRecDepth 20000 in
set_option maxHeartbeats 32000000 in
theorem turns_true (p : P) (Ap : Option Addr) (np cp x Q : Nat) (w : World) (hp : Sl w w.heap.size (.slice Ap np cp) p.b) (hm : p.May) (hx : x < 65536) (hQ : Q < 4294967296) :
    Calls Try.prog 9 #[pgV p (.slice Ap np cp), .int .u16 (x : Int), .int .u32 (Q : Int)] w fun e w' => e = .returned (.bool true) ∧ Below w.heap.size w w' := by
  have sp := fun (W : World) (hW : Below w.heap.size w W) => (hp.below hW (Nat.le_refl _)).more hW.size
  have hnp : np ≤ 488 := by have h1 := (sl_bts hp).1; have h2 := hm.l; omega
  have hd1 : decide (488 < (np : Int)) = false := by simp; omega
  have hmay := fun (W : World) (hW : Below w.heap.size w W) => may_any p (.slice Ap np cp) W (sb_of (sp W hW))
  simp only [(may_iff p).2 hm] at hmay
  have hput := fun (W : World) (hW : Below w.heap.size w W) => put_own p (.slice Ap np cp) W hm (sb_of (sp W hW))
  have hsl := sector_length hm.l
  have hgt := fun (f k : Nat) (h32 : k ≤ 32) (hf : f + k ≤ 4064) => got_turned hm hp.lt f Q k h32 hf
  have hlt := sector_lt hp.lt
  generalize p.sector = sec at *
  have HSL := Lib.hid hsl; clear hsl
  have HGT := Lib.hid hgt; clear hgt
  have HLT := Lib.hid hlt; clear hlt
  unfold pgV at hmay hput ⊢
  have MAY := Lib.hid hmay; clear hmay
  have PUT := Lib.hid hput; clear hput
  have HM := Lib.hid hm; clear hm hp sp
  have HB := Lib.hid ((Below.refl w.heap.size w).alloc (Nat.le_refl _) (Obj.cells #[.int .i64 p.kind, .int .i64 p.gen, .int .i64 p.mark, .int .i64 p.index, .int .i64 p.part, .int .i64 p.parts, .slice Ap np cp] 65))
  have KP := Lib.hid (Blk.new w 65 #[.int .i64 p.kind, .int .i64 p.gen, .int .i64 p.mark, .int .i64 p.index, .int .i64 p.part, .int .i64 p.parts, .slice Ap np cp])
  have z_0 := KP.out.cell 0; have z_1 := KP.out.cell 1; have z_2 := KP.out.cell 2; have z_3 := KP.out.cell 3; have z_4 := KP.out.cell 4; have z_5 := KP.out.cell 5; have z_6 := KP.out.cell 6; simp at z_0 z_1 z_2 z_3 z_4 z_5 z_6
  obtain ⟨f, hf⟩ : ∃ f, f = x % 4064 := ⟨_, rfl⟩
  have htm : ((x : Nat) : Int).tmod 4064 = ((f : Nat) : Int) := by rw [hf]; exact (Int.ofNat_tmod x 4064).symm
  have hmod : ((x : Nat) : Int) % 4064 = ((f : Nat) : Int) := by omega
  have hf1 : f < 4064 := by omega
  have HFX := Lib.hid hf; clear hf
  go_enter Try.func9, Try.ntmps9
  go_wp2_with (first
    | (go_at_call 32; refine (MAY.out _ HB.out).mono ?_; rintro e w1 ⟨rfl, hb⟩; have HBn := Lib.hid (HB.out.trans (hb.mono HB.out.size)); have KPn := Lib.hid (KP.out.below hb KP.out.lt); clear HB KP; have HB := HBn; have KP := KPn; clear HBn KPn; have y_0 := KP.out.cell 0; have y_1 := KP.out.cell 1; have y_2 := KP.out.cell 2; have y_3 := KP.out.cell 3; have y_4 := KP.out.cell 4; have y_5 := KP.out.cell 5; have y_6 := KP.out.cell 6; simp at y_0 y_1 y_2 y_3 y_4 y_5 y_6; have y_l := KP.out.lt; clear hb)
    | (go_at_call 29; refine (PUT.out _ HB.out).mono ?_; rintro e w2 ⟨A2, n2, c2, rfl, hn2, hown, hb⟩; have hd2 : ((n2 : Int) != 512) = false := (by rw [hn2]; rfl); have OW := Lib.hid (own_mono hown HB.out.size); have HB2 := Lib.hid (HB.out.trans (hb.mono HB.out.size)); have HN2 := Lib.hid hn2; have hn2b : n2 ≤ 512 := Nat.le_of_eq hn2; have hn2c : 512 ≤ n2 := Nat.le_of_eq hn2.symm; clear hb hown hn2))
  obtain ⟨g, rfl⟩ : ∃ g, A2 = some ⟨g, 0, none⟩ := by
    rcases OW.out.2 with ⟨e, _⟩ | ⟨g, cap, cur, e, _⟩
    · injection e with e1 e2 e3
      omega
    · injection e with e1 e2 e3
      exact ⟨g, e1⟩
  clear z_0 z_1 z_2 z_3 z_4 z_5 z_6 y_0 y_1 y_2 y_3 y_4 y_5 y_6 y_l KP HB MAY PUT
  go_loopw [10, 11, 12] (fun t i kk wr => ∃ k : Nat, k ≤ 32 ∧ f + k ≤ 4064 ∧ i = .int .i64 k ∧ t = .bool (turned Q k) ∧ wr.ownsRow w.heap.size 5 1 (.slice (some ⟨g, 0, none⟩) n2 c2) n2 (vals (flipTo sec f Q k)) ∧ Below w.heap.size w wr) (fun _ i _ _ => 32 - (intOf i).toNat)
  case atStart => exact ⟨0, by omega, by omega, rfl, by simp [turned, Nat.mod_one], OW.out, HB2.out⟩
  case round =>
    obtain ⟨k, hk, hfk, rfl, rfl, hown, hbel⟩ := hrel
    have hl := flipTo_length sec f Q k
    have HOWN := Lib.hid hown; clear hown
    have BEL := Lib.hid hbel; clear hbel
    by_cases hlt : k < 32
    · by_cases hlt2 : f + k < 4064
      · obtain ⟨j, hj⟩ : ∃ j, j = (f + k) / 8 := ⟨_, rfl⟩
        obtain ⟨r, hr⟩ : ∃ r, r = (f + k) % 8 := ⟨_, rfl⟩
        have hjj : ((f : Int) + (k : Int)) / 8 = (j : Int) := by omega
        have hrr : ((f : Int) + (k : Int)) % 8 = (r : Int) := by omega
        have hjn : j < n2 := by omega
        have hr8 : r < 8 := by omega
        have HJ := Lib.hid hj; clear hj
        have HR := Lib.hid hr; clear hr
        have hc := (HOWN.out.cellAt j (by omega)).trans (vals_get _ j (by have := HSL.out; omega))
        have hfz := HOWN.out.frozenAt j
        clear hl
        obtain ⟨q, hq⟩ : ∃ q, q = (flipTo sec f Q k).getD j 0 := ⟨_, rfl⟩
        rw [← hq] at hc
        have HQQ := Lib.hid hq; clear hq
        generalize hT : turned Q k = t0 at *
        have HT := Lib.hid hT; clear hT
        go_wp2
        · have hbit : (((Q : Int) / 2 ^ k).tmod 2 == 1) = true := by assumption
          go_roundw
          case rel => exact ⟨k + 1, by omega, by omega, by go_num, turned_yes hbit, flip_yes hbit HJ.out HR.out HQQ.out HLT.out HOWN.out, BEL.out.setCell (HOWN.out.lt g rfl).1 _⟩
          case measure => simp [intOf]; omega
        · have hbit : (((Q : Int) / 2 ^ k).tmod 2 == 1) = false := by assumption
          go_roundw
          case rel => exact ⟨k + 1, by omega, by omega, by go_num, by rw [← HT.out]; exact turned_no hbit, by rw [flip_no hbit]; exact HOWN.out, BEL.out⟩
          case measure => simp [intOf]; omega
      · have hgt := HGT.out f k hk hfk
        have gt := get_any (.slice (some ⟨g, 0, none⟩) n2 c2) (flipTo sec f Q k) wr (sl_own HOWN.out (flipTo_lt HLT.out f Q k) (by omega)) (by have := HSL.out; omega)
        rw [hgt] at gt
        generalize (got (flipTo sec f Q k)).getD zeroP = rp at gt
        clear hgt hl
        generalize turned Q k = t0 at *
        cases t0 <;> simp only [Bool.not_true, Bool.not_false, if_true, Bool.false_eq_true, if_false] at gt
        · have GT := Lib.hid gt; clear gt
          go_wp2_with (first
            | (go_at_call 33; refine (GT.out).mono ?_; rintro e w6 ⟨v6, rfl, ⟨vb, rfl, A6, n6, c6, rfl, _⟩, hb⟩; have HB6 := Lib.hid (BEL.out.trans (hb.mono BEL.out.size)); clear hb; unfold pgV)
            | (go_at_call 28; refine (awake_any _).mono ?_; rintro e w8 ⟨rfl, hb8⟩))
          go_ret
          exact ⟨rfl, (HB6.out.alloc HB6.out.size _).trans (hb8.mono (by have := HB6.out.size; simp; omega))⟩
        · have GT := Lib.hid gt; clear gt
          go_wp2_with (first
            | (go_at_call 33; refine (GT.out).mono ?_; rintro e w6 ⟨v6, rfl, ⟨vb, rfl, A6, n6, c6, rfl, _⟩, hb⟩; have HB6 := Lib.hid (BEL.out.trans (hb.mono BEL.out.size)); clear hb; unfold pgV)
            | (go_at_call 28; refine (awake_any _).mono ?_; rintro e w8 ⟨rfl, hb8⟩))
          go_ret
          exact ⟨rfl, (HB6.out.alloc HB6.out.size _).trans (hb8.mono (by have := HB6.out.size; simp; omega))⟩
    · have hgt := HGT.out f k hk hfk
      have gt := get_any (.slice (some ⟨g, 0, none⟩) n2 c2) (flipTo sec f Q k) wr (sl_own HOWN.out (flipTo_lt HLT.out f Q k) (by omega)) (by have := HSL.out; omega)
      rw [hgt] at gt
      generalize (got (flipTo sec f Q k)).getD zeroP = rp at gt
      clear hgt hl
      generalize turned Q k = t0 at *
      cases t0 <;> simp only [Bool.not_true, Bool.not_false, if_true, Bool.false_eq_true, if_false] at gt
      · have GT := Lib.hid gt; clear gt
        go_wp2_with (first
          | (go_at_call 33; refine (GT.out).mono ?_; rintro e w6 ⟨v6, rfl, ⟨vb, rfl, A6, n6, c6, rfl, _⟩, hb⟩; have HB6 := Lib.hid (BEL.out.trans (hb.mono BEL.out.size)); clear hb; unfold pgV)
          | (go_at_call 28; refine (awake_any _).mono ?_; rintro e w8 ⟨rfl, hb8⟩))
        go_ret
        exact ⟨rfl, (HB6.out.alloc HB6.out.size _).trans (hb8.mono (by have := HB6.out.size; simp; omega))⟩
      · have GT := Lib.hid gt; clear gt
        go_wp2_with (first
          | (go_at_call 33; refine (GT.out).mono ?_; rintro e w6 ⟨v6, rfl, ⟨vb, rfl, A6, n6, c6, rfl, _⟩, hb⟩; have HB6 := Lib.hid (BEL.out.trans (hb.mono BEL.out.size)); clear hb; unfold pgV)
          | (go_at_call 28; refine (awake_any _).mono ?_; rintro e w8 ⟨rfl, hb8⟩))
        go_ret
        exact ⟨rfl, (HB6.out.alloc HB6.out.size _).trans (hb8.mono (by have := HB6.out.size; simp; omega))⟩
set_option maxRecDepth 20000 in
set_option maxHeartbeats 2000000 in
theorem turns_long (ka kb kc kd ke kf : Int) (Ap : Option Addr) (np cp : Nat) (x Q : Int) (w : World) (h : 488 < np) :
    Calls Try.prog 9 #[.agg #[.int .i64 ka, .int .i64 kb, .int .i64 kc, .int .i64 kd, .int .i64 ke, .int .i64 kf, .slice Ap np cp], .int .u16 x, .int .u32 Q] w fun e w' => e = .returned (.bool true) ∧ Below w.heap.size w w' := by
  have hb := (Below.refl w.heap.size w).alloc (Nat.le_refl _) (Obj.cells #[.int .i64 ka, .int .i64 kb, .int .i64 kc, .int .i64 kd, .int .i64 ke, .int .i64 kf, .slice Ap np cp] 65)
  have HB := Lib.hid hb; clear hb
  have hd1 : decide (488 < (np : Int)) = true := by simp; omega
  clear h
  go_enter Try.func9, Try.ntmps9
  go_wp2_with (go_at_call 28; refine (awake_any _).mono ?_; rintro e w8 ⟨rfl, hb8⟩)
  go_ret
  exact ⟨rfl, HB.out.trans (hb8.mono (by simp))⟩
set_option maxRecDepth 20000 in
set_option maxHeartbeats 2000000 in
theorem turns_not (p : P) (Ap : Option Addr) (np cp : Nat) (x Q : Int) (w : World) (hp : Sl w w.heap.size (.slice Ap np cp) p.b) (h : np ≤ 488) (hm : p.may = false) :
    Calls Try.prog 9 #[pgV p (.slice Ap np cp), .int .u16 x, .int .u32 Q] w fun e w' => e = .returned (.bool true) ∧ Below w.heap.size w w' := by
  have hb := (Below.refl w.heap.size w).alloc (Nat.le_refl _) (Obj.cells #[.int .i64 p.kind, .int .i64 p.gen, .int .i64 p.mark, .int .i64 p.index, .int .i64 p.part, .int .i64 p.parts, .slice Ap np cp] 65)
  have hmay := may_any p (.slice Ap np cp) (w.alloc (Obj.cells #[.int .i64 p.kind, .int .i64 p.gen, .int .i64 p.mark, .int .i64 p.index, .int .i64 p.part, .int .i64 p.parts, .slice Ap np cp] 65)) (sb_of ((hp.below hb (Nat.le_refl _)).more (by simp)))
  rw [hm] at hmay
  unfold pgV at hmay ⊢
  have MAY := Lib.hid hmay; clear hmay
  have HB := Lib.hid hb; clear hb
  have hd1 : decide (488 < (np : Int)) = false := by simp; omega
  clear h hm hp
  go_enter Try.func9, Try.ntmps9
  go_wp2_with (first
    | (go_at_call 32; refine (MAY.out).mono ?_; rintro e w1 ⟨rfl, hb1⟩; have HB1 := Lib.hid (HB.out.trans (hb1.mono HB.out.size)); clear hb1)
    | (go_at_call 28; refine (awake_any _).mono ?_; rintro e w8 ⟨rfl, hb8⟩))
  go_ret
  exact ⟨rfl, HB1.out.trans (hb8.mono HB1.out.size)⟩
end Go.Proofs.Ytpmkacpdmjnbjaa.Pg
namespace Go.Proofs.Ytpmkacpdmjnbjaa.pageTurns
open Go.Proofs.Ytpmkacpdmjnbjaa.Mem Go.Proofs.Ytpmkacpdmjnbjaa.Pg
open Go.ChangeShapes Go.WideShapes Go.ChangeAt Go.RowKit
set_option linter.unusedVariables false
theorem own : ownKnob Try.prog.godebug = none := by kernel_rfl
theorem laidOut : laidOutB Try.prog = true := by kernel_rfl
theorem walk (a0a a0b a0c a0d a0e a0f : Int) (a0g : Option Addr) (len0g cap0g : Nat) (z0g : List Int) (a1 a2 : Int) (w : World)
    (w0a : (Lit.int .i64 a0a).wf = true) (w0b : (Lit.int .i64 a0b).wf = true) (w0c : (Lit.int .i64 a0c).wf = true) (w0d : (Lit.int .i64 a0d).wf = true) (w0e : (Lit.int .i64 a0e).wf = true) (w0f : (Lit.int .i64 a0f).wf = true) (w0g : IsRow .u8 w a0g len0g cap0g z0g)
    (w1 : (Lit.int .u16 a1).wf = true) (w2 : (Lit.int .u32 a2).wf = true) :
    Calls Try.prog 9 #[.agg #[.int .i64 a0a, .int .i64 a0b, .int .i64 a0c, .int .i64 a0d, .int .i64 a0e, .int .i64 a0f, .slice a0g len0g cap0g], .int .u16 a1, .int .u32 a2] w fun e w' => e = .returned (.bool true) ∧ Below w.heap.size w w' := by
  have b1 := Go.bounds_u16 w1
  have b2 := Go.bounds_u32 w2
  by_cases h1 : len0g ≤ 488
  · obtain ⟨xs, hs, _⟩ := sl_of_row w0g (by omega)
    obtain ⟨x, rfl⟩ : ∃ x : Nat, a1 = x := ⟨a1.toNat, by omega⟩
    obtain ⟨Q, rfl⟩ : ∃ Q : Nat, a2 = Q := ⟨a2.toNat, by omega⟩
    cases hm : (⟨a0a, a0b, a0c, a0d, a0e, a0f, xs⟩ : P).may
    · exact turns_not ⟨a0a, a0b, a0c, a0d, a0e, a0f, xs⟩ a0g len0g cap0g x Q w hs h1 hm
    · exact turns_true ⟨a0a, a0b, a0c, a0d, a0e, a0f, xs⟩ a0g len0g cap0g x Q w hs ((may_iff _).1 hm) (by omega) (by omega)
  · exact turns_long a0a a0b a0c a0d a0e a0f a0g len0g cap0g a1 a2 w (by omega)
/-! the step from the walk to the row -/
set_option maxRecDepth 100000 in
theorem lifted (os : Os) (started : os.Started) (H : Type) (enc : TypeId × Value → H) :
    ReturnsInHanded {} Try.checked os 9 .any (Rows.pageTurnsSpec.pre6 enc Try.prog Try.f9 Rows.pageTurnsRow.domain false) (Rows.pageTurnsSpec.post enc Try.prog Try.f9 false true false false) := by
  refine returnsInHanded_of_change (C := Try.checked) own started (by kernel_rfl) Try.func9
    (ChangeSpec.witness6 (enc := enc) (C := Try.checked) false ⟨#[], #[.agg #[.int .i64 0, .int .i64 0, .int .i64 0, .int .i64 0, .int .i64 0, .int .i64 0, .slice none 0 0], .int .u16 0, .int .u32 0], []⟩ 8 (by kernel_rfl) (by kernel_rfl) (by kernel_rfl) (by kernel_rfl)) ?_
  intro W base args ds gs before hval0 hW hcnd _
  have hval : ∀ (j : Nat) t v, Try.f9.params[j]? = some t → args[j]? = some v → Value.okWide Try.prog W .any base t v := hval0
  have hW' := hW
  obtain ⟨p, q, hA0, hV, rfl, hfz, hnd⟩ := hW
  have hA : DataW.TrodAll enc Try.prog W 0 (fun _ => true) true Try.f9.params.toList args.toList ds p := hA0
  rw [Try.params9] at hA hval
  obtain ⟨v0, vs0, d0, ds0, p0, q0, hargs, rfl, rfl, h0, r0⟩ := trodAll_cons hA
  obtain ⟨v1, vs1, d1, ds1, p1, q1, rfl, rfl, rfl, h1, r1⟩ := trodAll_cons r0
  obtain ⟨v2, vs2, d2, ds2, p2, q2, rfl, rfl, rfl, h2, r2⟩ := trodAll_cons r1
  obtain ⟨rfl, rfl, rfl⟩ := trodAll_nil r2
  obtain rfl : args = #[v0, v1, v2] := by cases args; simp_all
  obtain ⟨rfl, rfl⟩ := trodVars_none hV
  have k0 := h0
  have lt0 : ∀ x ∈ p0, x.block < W.heap.size := by obtain ⟨m, hm⟩ := k0; exact DataW.trod_lt m _ _ _ hm
  obtain ⟨u0a, u0b, u0c, u0d, u0e, u0f, u0g, _, _, _, _, _, _, _, _, rfl, _, _, g0a, g0b, g0c, g0d, g0e, g0f, g0g⟩ := open_agg7 Try.underlying65 (by kernel_rfl) (by kernel_rfl) (hval 0 65 v0 rfl rfl) h0
  obtain ⟨a0a, rfl, w0a⟩ := open_num_at Try.underlying3 g0a
  obtain ⟨a0b, rfl, w0b⟩ := open_num_at Try.underlying3 g0b
  obtain ⟨a0c, rfl, w0c⟩ := open_num_at Try.underlying3 g0c
  obtain ⟨a0d, rfl, w0d⟩ := open_num_at Try.underlying3 g0d
  obtain ⟨a0e, rfl, w0e⟩ := open_num_at Try.underlying3 g0e
  obtain ⟨a0f, rfl, w0f⟩ := open_num_at Try.underlying3 g0f
  obtain ⟨a0g, len0g, cap0g, z0g, rfl, w0g⟩ := open_row_at Try.underlying35 Try.underlying5 (by kernel_rfl) g0g
  obtain ⟨a1, rfl, rfl, rfl, w1⟩ := open_int Try.underlying75 (hval 1 75 v1 rfl rfl) h1
  obtain ⟨a2, rfl, rfl, rfl, w2⟩ := open_int Try.underlying76 (hval 2 76 v2 rfl rfl) h2
  clear hA0 hval0
  refine (walk a0a a0b a0c a0d a0e a0f a0g len0g cap0g z0g a1 a2 W w0a w0b w0c w0d w0e w0f w0g w1 w2).mono fun e W' ⟨he, bel⟩ => ?_
  subst he
  exact ⟨_, rfl, _, _, _, [], _, [], hW', trodAll_mk1 (shut_bool Try.underlying4 _), (trodAll_cons_mk (Below.trod laidOut (by kernel_rfl) (of_decide_eq_true (by kernel_rfl)) k0 bel lt0) (trodAll_cons_mk (shut_int Try.underlying75 w1) (trodAll_cons_mk (shut_int Try.underlying76 w2) trodAll_mk0))), rfl, bel.frame _, fun h => by cases h⟩

theorem over : Rows.pageTurnsRow.holds Try.pinned (OpenSpec.ofChange Rows.pageTurnsSpec) :=
  OpenClaim.holds_of_wide 9 Try.f9 rfl rfl rfl rfl rfl rfl rfl ⟨rfl, rfl, rfl, rfl, rfl⟩ rfl rfl rfl rfl rfl (by kernel_rfl) Try.func9 (by kernel_rfl)
    (of_decide_eq_true (by kernel_rfl)) (by unfold Func.isWrapper; first | (rw [if_pos (by decide +kernel)]; kernel_rfl) | (rw [if_neg (by decide +kernel)]; exact ⟨rfl, rfl⟩))
    (fun os started H enc _ => lifted os started H enc)

/-- the statement -/
theorem proved : Rows.PageTurnsSaid := over
end Go.Proofs.Ytpmkacpdmjnbjaa.pageTurns
