/- An Lsa's bytes behind any (layer 9): the contract of lsa.Put. Condition: at most 50000 bytes ahead. -/
import Derived.Test.YtpolpppnajfhdaaPgConcat
import Derived.Test.YtpolpppnajfhdaaPgLsaRead
namespace Go.Proofs.Ytpolpppnajfhdaa.Lsa
open Go.RowKit Go.Proofs.Ytpolpppnajfhdaa.Mem Go.Proofs.Ytpolpppnajfhdaa.Oct
set_option linter.unusedVariables false
set_option linter.unusedSimpArgs false
theorem sls_two {w : World} {g : Nat} {u v : Value} {xs ys : List Nat} (h : Blk w g 29 #[u, v]) (hu : Sl w w.heap.size u xs) (hv : Sl w w.heap.size v ys) : Sls w w.heap.size (.slice (some ⟨g, 0, none⟩) 2 2) [xs, ys] := by
  refine ⟨_, 2, 2, rfl, rfl, Nat.le_refl _, by unfold maxLen; omega, fun _ => ⟨g, 0, rfl, h.lt, fun i hi => ?_⟩⟩
  rcases (by omega : i = 0 ∨ i = 1) with rfl | rfl
  · exact ⟨u, by rw [h.cell]; rfl, hu⟩
  · exact ⟨v, by rw [h.cell]; rfl, hv⟩
theorem sl_up {w w' : World} {v : Value} {xs : List Nat} (h : Sl w w.heap.size v xs) (hb : Below w.heap.size w w') : Sl w' w'.heap.size v xs := (h.below hb (Nat.le_refl _)).more hb.size
theorem up1 {w wr : World} (h : Below w.heap.size w wr) (o : Obj) : Below w.heap.size w (wr.alloc o) := h.alloc h.size o
theorem blk_c0 {w : World} {g : Nat} {t : TypeId} {a b : Value} (h : Blk w g t #[a, b]) : w.cell? ⟨g, 0, none⟩ = some a := by rw [h.cell]; rfl
theorem blk_c1 {w : World} {g : Nat} {t : TypeId} {a b : Value} (h : Blk w g t #[a, b]) : w.cell? ⟨g, 1, none⟩ = some b := by rw [h.cell]; rfl
theorem putNum_1 (xs : List Nat) (n : Nat) : putNum xs 1 n = xs ++ be 1 n := by simp [putNum, isW]
theorem putNum_4 (xs : List Nat) (n : Nat) : putNum xs 4 n = xs ++ be 4 n := by simp [putNum, isW]
theorem putNum_8 (xs : List Nat) (n : Nat) : putNum xs 8 n = xs ++ be 8 n := by simp [putNum, isW]
set_option maxRecDepth 20000 in
set_option maxHeartbeats 8000000 in
theorem lput_yes (o s : Int) (vb : Value) (xs : List Nat) (A : Option Addr) (n c : Nat) (ls : List Lk) (w : World) (hb : Sl w w.heap.size vb xs) (hx : xs.length ≤ 50000) (h : Lks w w.heap.size (.slice A n c) ls) (hm : may o s ls = true) :
    Calls Try.prog 45 #[vb, lsaV o s (.slice A n c)] w fun e w' => ∃ v', e = .returned v' ∧ Sl w' w'.heap.size v' (xs ++ bytesOf o s ls) ∧ Below w.heap.size w w' := by
  obtain ⟨hl, hnc, hcm, _⟩ := lks_len h
  have hb1 := up1 (Below.refl w.heap.size w) (.cells #[.int .i64 o, .int .i64 s, .slice A n c] 49)
  have ck := check_any o s A n c ls _ (h.up hb1)
  rw [hm, errI_t] at ck
  obtain ⟨ho, hs, hn16, hlk⟩ := may_iff.1 hm
  rw [hl] at hn16
  have hall := linksOk_all hlk
  obtain ⟨o', rfl⟩ : ∃ o' : Nat, o = (o' : Int) := ⟨o.toNat, by omega⟩
  obtain ⟨s', rfl⟩ : ∃ s' : Nat, s = (s' : Int) := ⟨s.toNat, by omega⟩
  have k0 := Blk.new w 49 #[.int .i64 (o' : Nat), .int .i64 (s' : Nat), .slice A n c]
  have hend : (headBytes o' s' n ++ linkBytes ls) = bytesOf o' s' ls := by rw [bytesOf, hl]
  have he1 : putNum [] 1 o' = be 1 o' := by rw [putNum_1]; rfl
  have he2 : putNum (be 1 o') 8 s' = be 1 o' ++ be 8 s' := putNum_8 _ _
  have he3 : putNum (be 1 o' ++ be 8 s') 1 n = headBytes o' s' n := by rw [putNum_1]; simp [headBytes]
  have pn := fun (v : Value) (k : Int) (N : Nat) (ys : List Nat) (W : World) (hv : Sl W W.heap.size v ys) (hl : ys.length ≤ 100000) (hN : N < 18446744073709551616) => put_num v k N ys W hv hl hN
  have p1 := fun (W : World) => put_num (.slice none 0 0) 1 o' [] W (sl_nil _ _) (by simp) (by omega)
  rw [he1] at p1
  have p2 := fun (v : Value) (W : World) (hv : Sl W W.heap.size v (be 1 o')) => put_num v 8 s' _ W hv (by simp [be_length]) (by omega)
  rw [he2] at p2
  have p3 := fun (v : Value) (W : World) (hv : Sl W W.heap.size v (be 1 o' ++ be 8 s')) => put_num v 1 n _ W hv (by simp [be_length]) (by omega)
  rw [he3] at p3
  have hhl := headBytes_length o' s' n
  generalize headBytes o' s' n = hd at *
  have CK := Lib.hid ck; clear ck
  have P1 := Lib.hid p1; clear p1
  have P2 := Lib.hid p2; clear p2
  have P3 := Lib.hid p3; clear p3
  have HEND := Lib.hid hend; clear hend
  have HB1 := Lib.hid hb1; clear hb1 hm pn he1 he2 he3 hlk
  have HHL := Lib.hid hhl; clear hhl
  have HALL := Lib.hid hall; clear hall
  have HS := Lib.hid h; clear h
  have HL := Lib.hid hl; clear hl
  have HSB := Lib.hid hb
  obtain ⟨A0, n0, c0, rfl, _⟩ := hb
  have K0 := Lib.hid k0; clear k0
  have HX := Lib.hid hx; clear hx
  go_enter Try.func45, Try.ntmps45
  go_wp2_with (first
    | (go_at_call 63; refine (CK.out).mono ?_; rintro e w1 ⟨rfl, hb⟩; have HB2 := Lib.hid (HB1.out.trans (hb.mono HB1.out.size)); have K1 := Lib.hid (K0.out.below hb K0.out.lt); obtain ⟨x0, x1, x2, x3⟩ := blk_cells3 K1.out; clear hb)
    | (have HM1 := P1; go_at_call 18; refine (P1.out _).mono ?_; rintro e w2 ⟨v2, rfl, hs2, hb⟩; have HS2 := Lib.hid hs2; have HB3 := Lib.hid (HB2.out.trans (hb.mono HB2.out.size)); have K2 := Lib.hid (K1.out.below hb K1.out.lt); obtain ⟨y0, y1, y2, y3⟩ := blk_cells3 K2.out; clear hb hs2 HM1 P1)
    | (have HM2 := P2; go_at_call 18; refine (P2.out _ _ HS2.out).mono ?_; rintro e w3 ⟨v3, rfl, hs3, hb⟩; have HS3 := Lib.hid hs3; have HB4 := Lib.hid (HB3.out.trans (hb.mono HB3.out.size)); have K3 := Lib.hid (K2.out.below hb K2.out.lt); obtain ⟨z0, z1, z2, z3⟩ := blk_cells3 K3.out; clear hb hs3 HM2 P2)
    | (go_at_call 18; refine (P3.out _ _ HS3.out).mono ?_; rintro e w4 ⟨v4, rfl, hs4, hb⟩; have HS4 := Lib.hid hs4; have HB5 := Lib.hid (HB4.out.trans (hb.mono HB4.out.size)); have K4 := Lib.hid (K3.out.below hb K3.out.lt); obtain ⟨u0, u1, u2, u3⟩ := blk_cells3 K4.out; clear hb hs4))
  go_loopw [5, 31] (fun z i wr => ∃ k : Nat, k ≤ n ∧ i = .int .i64 k ∧ Sl wr wr.heap.size z (hd ++ linkBytes (ls.take k)) ∧ Below w.heap.size w wr) (fun _ i _ => n - (intOf i).toNat)
  case atStart => exact ⟨0, Nat.zero_le _, rfl, by simpa [linkBytes] using HS4.out, HB5.out⟩
  case round =>
    obtain ⟨k, hk, rfl, hsl, hbw⟩ := hrel
    obtain ⟨A5, n5, c5, rfl, _⟩ := id hsl
    have hws := hbw.size
    have HBW := Lib.hid hbw; clear hbw
    by_cases hlt : k < n
    · obtain ⟨b, off, rfl, hb, hc⟩ := lks_at HS.out (by omega)
      obtain ⟨c0', c1'⟩ := hc k hlt
      replace c0' := (HBW.out.cell (p := ⟨b, off + k * 2, none⟩) hb).trans c0'
      replace c1' := (HBW.out.cell (p := ⟨b, off + k * 2 + 1, none⟩) hb).trans c1'
      have hsucc := linkBytes_succ ls k (by have := HL.out; omega)
      have hmem : ls.getD k (0, 0) ∈ ls := by
        simp only [List.getD, List.getElem?_eq_getElem (show k < ls.length by have := HL.out; omega), Option.getD_some]
        exact List.getElem_mem _
      have hbd := HALL.out _ hmem
      have hlen0 : (linkBytes (ls.take k)).length ≤ 80 := by rw [linkBytes_length, List.length_take]; omega
      clear hmem hc
      generalize ls.getD k (0, 0) = x at *
      obtain ⟨t, u⟩ := x
      simp only at c0' c1' hbd
      obtain ⟨t', rfl⟩ : ∃ t' : Nat, t = (t' : Int) := ⟨t.toNat, by omega⟩
      obtain ⟨u', rfl⟩ : ∃ u' : Nat, u = (u' : Int) := ⟨u.toNat, by omega⟩
      have hfin : putNum (putNum (hd ++ linkBytes (ls.take k)) 1 t') 4 u' = hd ++ linkBytes (ls.take (k + 1)) := by
        rw [hsucc, putNum_1, putNum_4]
        simp [lkBytes]
      have hlb : (hd ++ linkBytes (ls.take k)).length ≤ 100 := by rw [List.length_append, HHL.out]; omega
      generalize hd ++ linkBytes (ls.take k) = ys at *
      have hlb2 : (putNum ys 1 t').length ≤ 200 := by have := putNum_length ys 1 t'; omega
      have hb2 := up1 HBW.out (.cells #[.int .i64 (t' : Nat), .int .i64 (u' : Nat)] 85)
      have kb := Blk.new wr 85 #[.int .i64 (t' : Nat), .int .i64 (u' : Nat)]
      have q1 := put_num (.slice A5 n5 c5) 1 t' ys _ (sl_up hsl (up1 (Below.refl _ _) (.cells #[.int .i64 (t' : Nat), .int .i64 (u' : Nat)] 85))) (by omega) (by omega)
      have q2 := fun (v : Value) (W : World) (hv : Sl W W.heap.size v (putNum ys 1 t')) => put_num v 4 u' _ W hv (by omega) (by omega)
      rw [hfin] at q2
      have Q1 := Lib.hid q1; clear q1
      have Q2 := Lib.hid q2; clear q2
      have HB2' := Lib.hid hb2; clear hb2
      have KB := Lib.hid kb; clear kb
      clear hfin hsucc hlb hlb2 hlen0 hsl
      go_wp2_with (first
        | (have HM1 := Q1; go_at_call 18; refine (Q1.out).mono ?_; rintro e w6 ⟨v6, rfl, hs6, hb⟩; have HS6 := Lib.hid hs6; have HB6 := Lib.hid (HB2'.out.trans (hb.mono HB2'.out.size)); have kb6 := KB.out.below hb KB.out.lt; have e0 := blk_c0 kb6; have e1 := blk_c1 kb6; clear hb hs6 kb6 HM1 Q1)
        | (go_at_call 18; refine (Q2.out _ _ HS6.out).mono ?_; rintro e w7 ⟨v7, rfl, hs7, hb⟩; have HS7 := Lib.hid hs7; have HB7 := Lib.hid (HB6.out.trans (hb.mono HB6.out.size)); clear hb hs7))
      go_roundw
      case rel => exact ⟨k + 1, by omega, by go_num, HS7.out, HB7.out⟩
      case measure => simp [intOf]; omega
    · obtain rfl : k = n := by omega
      rw [List.take_of_length_le (by have := HL.out; omega), HEND.out] at hsl
      have hsb := sl_up (sl_up HSB.out HBW.out) (up1 (Below.refl wr.heap.size wr) (.cells #[.slice A0 n0 c0, .slice A5 n5 c5] 29))
      have hsl2 := sl_up hsl (up1 (Below.refl wr.heap.size wr) (.cells #[.slice A0 n0 c0, .slice A5 n5 c5] 29))
      have hfl : [xs, bytesOf o' s' ls].flatten = xs ++ bytesOf o' s' ls := by simp
      have hbl : (bytesOf o' s' ls).length ≤ 100 := by rw [bytesOf_length, HL.out]; omega
      have cc := concat_any _ 2 2 _ _ (sls_two (Blk.new wr 29 #[.slice A0 n0 c0, .slice A5 n5 c5]) hsb hsl2) (by omega) (by rw [hfl, List.length_append]; have := HX.out; omega)
      have hlt2 : ∀ x ∈ xs ++ bytesOf o' s' ls, x < 256 := fun x hx => by
        rcases List.mem_append.1 hx with h | h
        · exact HSB.out.lt x h
        · exact bytesOf_lt _ _ _ x h
      have hln : (xs ++ bytesOf o' s' ls).length ≤ 1000000 := by rw [List.length_append]; have := HX.out; omega
      rw [hfl] at cc
      have CC := Lib.hid cc; clear cc
      have HLT2 := Lib.hid hlt2; clear hlt2
      have HLN := Lib.hid hln; clear hln
      have HB9 := Lib.hid (up1 HBW.out (.cells #[.slice A0 n0 c0, .slice A5 n5 c5] 29))
      clear hsb hsl2 hfl hbl hsl
      go_wp2_with (go_at_call 64; refine (CC.out).mono ?_; rintro e w8 ⟨v8, rfl, ho8, hb⟩; have HS8 := Lib.hid (sl_own ho8 HLT2.out HLN.out); have HB8 := Lib.hid (HB9.out.trans (hb.mono HB9.out.size)); clear hb ho8)
      go_ret
      exact ⟨_, rfl, HS8.out, HB8.out⟩
end Go.Proofs.Ytpolpppnajfhdaa.Lsa
