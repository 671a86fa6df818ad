/- The contract of page.Put (layer 4). -/
import Derived.Test.YtkidjlmjjfgknaaPage
import Derived.Test.YtkidjlmjjfgknaaZeros
import Derived.Lib.SlBytesConst
namespace Go.Proofs.Ytkidjlmjjfgknaa.Pg
open Go.RowKit Go.Proofs.Ytkidjlmjjfgknaa.Mem Go.Proofs.Ytkidjlmjjfgknaa.Oct
set_option linter.unusedVariables false
set_option linter.unusedSimpArgs false
theorem sl_bts {w : World} {B n c : Nat} {A : Option Addr} {xs : List Nat} (h : Sl w B (.slice A n c) xs) : Bts w B A n xs := by
  obtain ⟨A', n', c', e, hb, _⟩ := h
  injection e with e1 e2 e3
  subst e1 e2 e3
  exact hb
theorem lit_way (W : World) : Sl (W.alloc (.cells #[.int .u8 87, .int .u8 65, .int .u8 89] 5 (3, 4))) (W.alloc (.cells #[.int .u8 87, .int .u8 65, .int .u8 89] 5 (3, 4))).heap.size (.slice (some ⟨W.heap.size, 0, none⟩) 3 3) [87, 65, 89] := by
  refine ⟨_, 3, 3, rfl, ⟨rfl, by decide, by omega, fun _ => ⟨W.heap.size, 0, rfl, by simp, fun i hi => ?_⟩⟩, by omega, by unfold maxLen; omega, fun e => by cases e⟩
  have hB := fun j => cell_of_row (W.alloc (.cells #[.int .u8 87, .int .u8 65, .int .u8 89] 5 (3, 4))) W.heap.size j #[.int .u8 87, .int .u8 65, .int .u8 89] 5 (3, 4) (heap_alloc_new W _)
  match i, hi with
  | 0, _ => exact hB 0
  | 1, _ => exact hB 1
  | 2, _ => exact hB 2
theorem nat_of {p : P} (h : p.May) : ∃ K G M I T S : Nat, p = ⟨K, G, M, I, T, S, p.b⟩ ∧ K ≤ 9 ∧ G ≤ 2147483648 ∧ M ≤ 2147483648 ∧ I ≤ 2147483648 ∧ T < 16 ∧ S ≤ 16 := by
  obtain ⟨kind, gen, mark, index, part, parts, b⟩ := p
  obtain ⟨h1, h2, h3, h4, h5, h6, _⟩ := h
  have k1 := win_yes h1
  have k2 := win_yes h2
  have k3 := win_yes h3
  have k4 := win_yes h4
  have k5 := win_yes h5
  have k6 := win_yes h6
  simp only at k1 k2 k3 k4 k5 k6
  refine ⟨kind.toNat, gen.toNat, mark.toNat, index.toNat, part.toNat, parts.toNat, ?_, by omega, by omega, by omega, by omega, by omega, by omega⟩
  congr 1 <;> omega
theorem own_form {w : World} {base n size : Nat} {e : TypeId} {v : Value} {xs : List Value} (h : w.ownsRow base e size v n xs) : ∃ A c, v = .slice A n c := by
  rcases h.2 with ⟨rfl, rfl⟩ | ⟨g, cap, cur, rfl, _⟩
  · exact ⟨none, 0, rfl⟩
  · exact ⟨_, _, rfl⟩
theorem len_put {W : World} {B c N : Nat} {k : Int} {v : Value} {xs : List Nat} (h : Sl W B v (putNum xs k N)) (hl : xs.length ≤ c) : (putNum xs k N).length ≤ c + 8 := Nat.le_trans (putNum_length xs k N) (Nat.add_le_add_right hl 8)
theorem head_put (K G M I T S : Nat) (b : List Nat) : putNum (putNum (putNum (putNum (putNum (putNum [87, 65, 89] 1 K) 4 G) 4 M) 4 I) 1 T) 1 S = (⟨K, G, M, I, T, S, b⟩ : P).head := rfl
set_option maxRecDepth 20000 in
set_option maxHeartbeats 8000000 in
theorem put_no (p : P) (v : Value) (w : World) (hm : p.may = false) (hv : Sb w w.heap.size v p.b) :
    Calls Try.prog 26 #[pgV p v] w fun e w' => e = .returned (.tuple #[.slice none 0 0, .int .i64 1]) ∧ Below w.heap.size w w' := by
  have mb := mayBe_any p v (w.alloc (.cells (pgC p v) 43)) ((hv.alloc (Nat.le_refl _) _).more (by simp))
  rw [hm] at mb
  have MB := Lib.hid mb; clear mb hm
  obtain ⟨A, n, c, rfl, _⟩ := id hv
  unfold pgV at MB ⊢
  obtain ⟨kind, gen, mark, index, part, parts, b⟩ := p
  simp only at MB ⊢
  go_enter Try.func26, Try.ntmps26
  go_wp2_with (go_at_call 40; refine (MB.out).mono ?_; rintro e w' ⟨rfl, hb⟩)
  go_ret2
  exact ⟨rfl, ((Below.refl w.heap.size w).alloc (Nat.le_refl _) _).trans (hb.mono (by simp))⟩
set_option maxRecDepth 20000 in
set_option maxHeartbeats 16000000 in
theorem put_ok (p : P) (v : Value) (w : World) (hm : p.May) (hv : Sb w w.heap.size v p.b) :
    Calls Try.prog 26 #[pgV p v] w fun e w' => ∃ v', e = .returned (.tuple #[v', .int .i64 0]) ∧ Sl w' w'.heap.size v' p.sector ∧ Below w.heap.size w w' := by
  have hl := hm.l
  obtain ⟨K, G, M, I, T, S, hp, hK, hG, hM, hI, hT, hS⟩ := nat_of hm
  have mb := mayBe_any p v (w.alloc (.cells (pgC p v) 43)) ((hv.alloc (Nat.le_refl _) _).more (by simp))
  rw [(may_iff p).2 hm] at mb
  have hblt := hv.lt
  obtain ⟨b, hb⟩ : ∃ b, b = p.b := ⟨_, rfl⟩
  rw [← hb] at hl hp hblt hv
  subst hp
  clear hb
  obtain ⟨Ab, nb, cb, rfl, _⟩ := id hv
  have hnb := (sb_bts hv).1
  have hk : ∃ k : Nat, (508 : Int) - ((20 + nb : Nat) : Int) = (k : Nat) ∧ k = 488 - nb := ⟨488 - nb, by omega, rfl⟩
  obtain ⟨k, hk1, hk2⟩ := hk
  generalize htl : 20 + nb = tl at hk1
  have hkb : k ≤ 488 := by omega
  have htb : tl ≤ 508 := by omega
  have HTL := Lib.hid htl; clear htl
  have HK2 := Lib.hid hk2; clear hk2
  have MB := Lib.hid mb; clear mb
  have HM := Lib.hid hm; clear hm
  have HBL := Lib.hid hblt; clear hblt
  have HV := Lib.hid hv; clear hv
  have HNB := Lib.hid hnb; clear hnb
  unfold pgV at MB ⊢
  unfold pgC at MB
  simp only at MB ⊢
  have KP0 := Lib.hid (Blk.new w 43 #[.int .i64 (K : Nat), .int .i64 (G : Nat), .int .i64 (M : Nat), .int .i64 (I : Nat), .int .i64 (T : Nat), .int .i64 (S : Nat), .slice Ab nb cb])
  have HB0 := Lib.hid ((Below.refl w.heap.size w).alloc (Nat.le_refl _) (Obj.cells #[.int .i64 (K : Nat), .int .i64 (G : Nat), .int .i64 (M : Nat), .int .i64 (I : Nat), .int .i64 (T : Nat), .int .i64 (S : Nat), .slice Ab nb cb] 43))
  obtain ⟨i1, hi, hz0, hz1, hz2⟩ := info_parts Try.info5
  have HJ := Lib.hid hi; clear hi
  have HY0 := Lib.hid hz0; clear hz0
  have HY1 := Lib.hid hz1; clear hz1
  have HY2 := Lib.hid hz2; clear hz2
  have kc := fun (w : World) (C : Array Value) (n c : Nat) => Lib.run_convert_bytes_const (P := Try.prog) w 25 5 C n c Try.underlying25 Try.underlying5
  go_enter Try.func26, Try.ntmps26
  go_wp2_with (first
    | (go_at_call 40; refine (MB.out).mono ?_; rintro e w1 ⟨rfl, hb⟩; have kp1 := KP0.out.below hb (by simp); have KP1 := Lib.hid kp1; have z0 := KP1.out.cell 0; have z1 := KP1.out.cell 1; have z2 := KP1.out.cell 2; have z3 := KP1.out.cell 3; have z4 := KP1.out.cell 4; have z5 := KP1.out.cell 5; have z6 := KP1.out.cell 6; simp at z0 z1 z2 z3 z4 z5 z6; have KP := Lib.hid (kp1.alloc (.cells #[.int .u8 87, .int .u8 65, .int .u8 89] 5 (3, 4))); have a0 := KP.out.cell 0; have a1 := KP.out.cell 1; have a2 := KP.out.cell 2; have a3 := KP.out.cell 3; have a4 := KP.out.cell 4; have a5 := KP.out.cell 5; have a6 := KP.out.cell 6; simp at a0 a1 a2 a3 a4 a5 a6; have HB := Lib.hid ((HB0.out.trans (hb.mono (by simp))).alloc (by have := hb.size; simp at this; omega) (.cells #[.int .u8 87, .int .u8 65, .int .u8 89] 5 (3, 4))); have SL := Lib.hid (lit_way w1); have LN : Hid (([87, 65, 89] : List Nat).length ≤ 3) := Nat.le_refl _; have nu := fun (k : Int) (N : Nat) (hN : N < 18446744073709551616) => put_num _ k N _ _ SL.out (Nat.le_trans LN.out (by decide)) hN; have NU := Lib.hid nu; clear nu; have hzl := kp1.lt; have hal := KP.out.lt; clear kp1 hb KP1)
    | (go_at_call 41; refine (NU.out _ _ (by omega)).mono ?_; rintro e w2 ⟨v2, rfl, hs, hb⟩; obtain ⟨A2, n2, c2, rfl, _⟩ := id hs; have KP2 := Lib.hid (KP.out.below hb KP.out.lt); clear a0 a1 a2 a3 a4 a5 a6 KP hal; have KP := KP2; clear KP2; have a0 := KP.out.cell 0; have a1 := KP.out.cell 1; have a2 := KP.out.cell 2; have a3 := KP.out.cell 3; have a4 := KP.out.cell 4; have a5 := KP.out.cell 5; have a6 := KP.out.cell 6; simp at a0 a1 a2 a3 a4 a5 a6; have hal := KP.out.lt; have HB2 := Lib.hid (HB.out.trans (hb.mono HB.out.size)); clear HB; have HB := HB2; clear HB2; clear SL; have SL := Lib.hid hs; have LN2 := Lib.hid (len_put SL.out LN.out); clear LN; have LN := LN2; clear LN2 hb hs NU; have nu := fun (k : Int) (N : Nat) (hN : N < 18446744073709551616) => put_num _ k N _ _ SL.out (Nat.le_trans LN.out (by decide)) hN; have NU := Lib.hid nu; clear nu))
  have hsl : Sl w2 w2.heap.size (.slice A2 n2 c2) (P.head ⟨K, G, M, I, T, S, b⟩) := SL.out
  have h18 : n2 = 18 := by have := (sl_bts hsl).1; rw [head_length] at this; omega
  subst h18
  clear SL LN NU
  refine (text_ok A2 Ab 18 nb c2 cb _ b w2 (by omega) (by have := HNB.out; omega) (sl_bts hsl) (sb_bts ((HV.out.below HB.out (Nat.le_refl _)).more HB.out.size))).mono ?_
  rintro e w3 ⟨v3, rfl, hown, hb3⟩
  obtain ⟨A3, c3, rfl⟩ := own_form hown
  have e18 : 18 + 2 + nb = tl := by have := HTL.out; omega
  have hnn := HNB.out
  rw [e18] at hown ⊢
  rw [← hnn] at hown
  have htext : P.head ⟨K, G, M, I, T, S, b⟩ ++ (be 2 b.length ++ b) = P.text ⟨K, G, M, I, T, S, b⟩ := rfl
  rw [htext] at hown
  have OW := Lib.hid hown; clear hown htext hsl
  have HB3 := Lib.hid (HB.out.trans (hb3.mono HB.out.size))
  have hz23 : w2.heap.size ≤ w3.heap.size := hb3.size
  clear hb3 a0 a1 a2 a3 a4 a5 a6 hnn
  have HE18 := Lib.hid e18; clear e18
  have htl0 : 0 < tl := by have := HTL.out; omega
  go_wp2_with (first
    | (at_builtin; refine wpList_append_zeros w3 rfl (.tmp 46) (.tmp 49) 25 3 rfl w2.heap.size 5 i1 (.int .u8 0) .i64 Try.underlying25 Try.underlying3 HJ.out HY0.out HY1.out HY2.out rfl rfl (.slice A3 tl c3) tl k _ rfl rfl OW.out htl0 (by omega) (by omega) hz23 ?_; intro v4 w4 hown4 hg4; obtain ⟨A4, c4, rfl⟩ := own_form hown4))
  have hbody : vals (P.text ⟨K, G, M, I, T, S, b⟩) ++ List.replicate k (.int .u8 0) = vals (P.body ⟨K, G, M, I, T, S, b⟩) := by
    have e1 := text_length ⟨K, G, M, I, T, S, b⟩
    have e2 := HK2.out
    have e3 := HNB.out
    have e4 := HTL.out
    have e5 : 508 - (P.text ⟨K, G, M, I, T, S, b⟩).length = k := by simp only at e1; omega
    unfold P.body
    rw [e5, vals_append]
    simp [vals]
  rw [hbody] at hown4
  have hlt4 := body_lt (p := ⟨K, G, M, I, T, S, b⟩) HBL.out
  have hs4 := sl_own hown4 hlt4 (by omega)
  have HO3 := OW.out
  have hb4 : Below w.heap.size w w4 := HB3.out.grown hg4 HB3.out.size (fun q hq => Nat.le_trans HB.out.size (HO3.lt q hq).1)
  obtain ⟨A', n', c', e', hbt4, _, _, hA4⟩ := id hs4
  injection e' with q1 q2 q3
  subst q1 q2 q3
  refine (Crc.seal_any A4 (tl + k) c4 _ w4 (by omega) hA4 hbt4).mono ?_
  rintro e w5 ⟨v5, rfl, hown5, hb5⟩
  obtain ⟨A5, c5, rfl⟩ := own_form hown5
  have hlt5 := Crc.sealed_lt hlt4
  go_wp2
  go_ret2
  exact ⟨_, rfl, sl_own hown5 hlt5 (by omega), hb4.trans (hb5.mono hb4.size)⟩
theorem put_any (p : P) (v : Value) (w : World) (hv : Sb w w.heap.size v p.b) :
    Calls Try.prog 26 #[pgV p v] w fun e w' => ∃ v', e = .returned (.tuple #[v', .int .i64 (if p.may = true then 0 else 1)]) ∧ Sl w' w'.heap.size v' (if p.may = true then p.sector else []) ∧ Below w.heap.size w w' := by
  cases h : p.may
  · refine (put_no p v w h hv).mono ?_
    rintro e w' ⟨rfl, hb⟩
    exact ⟨_, rfl, sl_nil _ _, hb⟩
  · exact put_ok p v w ((may_iff p).1 h) hv
end Go.Proofs.Ytkidjlmjjfgknaa.Pg
