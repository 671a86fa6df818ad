/- A packet's bytes (layer 14): the contract of packet.Put. -/
import Derived.Test.YtpolpppnajfhdaaPgPkParts
namespace Go.Proofs.Ytpolpppnajfhdaa.Pkt
open Go.RowKit Go.Proofs.Ytpolpppnajfhdaa.Mem Go.Proofs.Ytpolpppnajfhdaa.Oct Go.Proofs.Ytpolpppnajfhdaa.Lsa Go.Proofs.Ytpolpppnajfhdaa.Bas
open Go.Proofs.Ytpolpppnajfhdaa.Chg (low1 low_low low2 blk_second)
set_option linter.unusedVariables false
set_option linter.unusedSimpArgs false
/-- what Put answers of a packet that may be: its bytes in a row of the call's own -/
def PPutOut (w : World) (p : Pk) (e : Ending) (w' : World) : Prop :=
  ∃ (A : Option Addr) (n c : Nat), e = .returned (.tuple #[.slice A n c, .int .i64 0]) ∧ n = (putP p).length ∧ w'.ownsRow w.heap.size 5 1 (.slice A n c) n (vals (putP p)) ∧ Below w.heap.size w w'
/-- the seal at the end -/
theorem seal_end {w W : World} {v : Value} {p : Pk} (hW : Below w.heap.size w W) (hs : Sl W W.heap.size v (bodyP p)) (hl : (bodyP p).length ≤ 2000) :
    Calls Try.prog 23 #[v] W fun e w' => ∃ (A : Option Addr) (n c : Nat), e = .returned (.slice A n c) ∧ n = (putP p).length ∧ w'.ownsRow w.heap.size 5 1 (.slice A n c) n (vals (putP p)) ∧ Below w.heap.size w w' := by
  obtain ⟨A, n, c, rfl, hb, h1, h2, h3⟩ := hs
  have hn := hb.1
  refine (Crc.seal_any A n c (bodyP p) W (by omega) h3 hb).mono ?_
  rintro e w' ⟨v, rfl, hown, hbel⟩
  obtain ⟨A', c', rfl⟩ := Lsa.own_form hown
  exact ⟨A', n + 4, c', rfl, by rw [putP_length, hn], own_mono hown hW.size, low_low hW hbel⟩
set_option maxRecDepth 100000 in
set_option maxHeartbeats 16000000 in
theorem pput_one (p : Pk) (A1 A2 A3 : Option Addr) (n1 z1 n2 z2 n3 z3 : Nat) (w : World) (hk : p.k = 1) (h : PkM w w.heap.size (.slice A1 n1 z1) (.slice A2 n2 z2) (.slice A3 n3 z3) p) (hm : mayP p = true) :
    Calls Try.prog 8 #[pkV p (.slice A1 n1 z1) (.slice A2 n2 z2) (.slice A3 n3 z3)] w (PPutOut w p) := by
  have hen := ends_iff.1 (mayP_iff.1 hm).1
  have hok0 := (may_ofKind p).symm.trans hm
  rw [Bool.and_eq_true] at hok0
  have hok := hok0.2
  clear hok0
  rw [ofK1 hk] at hok
  simp only [Bool.and_eq_true, nothing_iff, okHd, okLs, win_iff, decide_eq_true_eq] at hok
  have hil := fun (hi : itOk 0 p.it = true) => itOk_len (l := p.it) (c := 0) (by omega) (by omega) hi
  obtain ⟨h1, h2, h3⟩ := id h
  have hl1 := (lks_len h1).1
  have hl2 := (lks_len h2).1
  have hl3 := (las_len h3).1
  have hbody : bodyP p = headP p ++ (be 1 n1 ++ linkBytes p.hd) := by
    have e1 : p.it = [] := nil_of.1 hok.2.2.2.2.1
    have e2 : p.ls = [] := nil_of.1 hok.2.2.2.2.2
    simp [bodyP, midP, hasE, hk, count, e1, e2, itBytes, lsBytes, hl1]
  have hbl : (bodyP p).length ≤ 2000 := by rw [hbody]; simp [headP_length, be_length, linkBytes_length]; omega
  have hhd : headP p = be 1 1 ++ (be 1 p.f.toNat ++ be 4 p.b.toNat) ++ (be 1 p.t.toNat ++ be 4 p.tb.toNat) := by simp [headP, hk]
  have hhl := headP_length p
  have SE := Lib.hid (fun (v : Value) (W : World) (hW : Below w.heap.size w W) (hs : Sl W W.heap.size v (bodyP p)) => seal_end hW hs hbl)
  have HB := Lib.hid (low1 (Below.refl w.heap.size w) (.cells (pkC p (.slice A1 n1 z1) (.slice A2 n2 z2) (.slice A3 n3 z3)) 26))
  have ck := pcheck_any p A1 A2 A3 n1 z1 n2 z2 n3 z3 _ (h.up HB.out)
  rw [hm, errI_t] at ck
  have K0 := Blk.new w 26 (pkC p (.slice A1 n1 z1) (.slice A2 n2 z2) (.slice A3 n3 z3))
  clear h hm hbl
  unfold PPutOut
  generalize hB : bodyP p = B at *
  generalize hP : putP p = P at *
  generalize hH : headP p = H at *
  clear hB hP hH
  obtain ⟨k, f, b, t, tb, e, te, hd, it, ls⟩ := p
  simp only [pkV, pkC] at *
  subst hk
  obtain ⟨f, rfl⟩ : ∃ q : Nat, f = (q : Int) := ⟨f.toNat, by omega⟩
  obtain ⟨b, rfl⟩ : ∃ q : Nat, b = (q : Int) := ⟨b.toNat, by omega⟩
  obtain ⟨t, rfl⟩ : ∃ q : Nat, t = (q : Int) := ⟨t.toNat, by omega⟩
  obtain ⟨tb, rfl⟩ : ∃ q : Nat, tb = (q : Int) := ⟨tb.toNat, by omega⟩
  simp only [Int.toNat_natCast] at hhd hbody
  have p1 := fun (W : World) => put_num (.slice none 0 0) 1 1 [] W (sl_nil _ _) (by simp) (by omega)
  rw [putNum_1, List.nil_append] at p1
  have p2 := fun (v : Value) (W : World) (hv : Sl W W.heap.size v (be 1 1)) => putWho_any v _ f b W hv (by simp [be_length]) (by omega) (by omega)
  have p3 := fun (v : Value) (W : World) (hv : Sl W W.heap.size v (be 1 1 ++ (be 1 f ++ be 4 b))) => putWho_any v _ t tb W hv (by simp [be_length]) (by omega) (by omega)
  rw [← hhd] at p3
  have p4 := fun (v : Value) (W : World) (hW : Below w.heap.size w W) (hv : Sl W W.heap.size v H) => putHeard_any v H A1 n1 z1 hd W hv (by omega) ((h1.below hW (Nat.le_refl _)).more hW.size) (by omega) hok.1.2
  have P1 := Lib.hid p1; clear p1
  have P2 := Lib.hid p2; clear p2
  have P3 := Lib.hid p3; clear p3
  have P4 := Lib.hid p4; clear p4
  have CK := Lib.hid ck; clear ck
  have K := Lib.hid K0; clear K0
  have HBD := Lib.hid hbody; clear hbody
  have bf : f ≤ 64 := by omega
  have bb : b ≤ 1073741824 := by omega
  have bt : t ≤ 64 := by omega
  have btb : tb ≤ 1073741824 := by omega
  clear hok hen hil h1 h2 h3 hl1 hl2 hl3 hhd hhl
  go_enter Try.func8, Try.ntmps8
  go_wp2_with (first
    | (go_at_call 9; refine (CK.out).mono ?_; rintro e0 w1 ⟨rfl, hb1⟩; have HB1 := Lib.hid (low_low HB.out hb1); have K1 := Lib.hid (K.out.below hb1 K.out.lt); obtain ⟨x0, x1, x2, x3, x4, x5, x6, x7, x8, x9, x10⟩ := blk_cells10 K1.out; clear hb1)
    | (have HM1 := P1; go_at_call 18; refine (P1.out _).mono ?_; rintro e0 w2 ⟨v2, rfl, hs2, hb2⟩; obtain ⟨A_2, n_2, c_2, rfl, _⟩ := id hs2; have HS2 := Lib.hid hs2; have HB2 := Lib.hid (low_low HB1.out hb2); have K2 := Lib.hid (K1.out.below hb2 K1.out.lt); clear x0 x1 x2 x3 x4 x5 x6 x7 x8 x9 x10; obtain ⟨x0, x1, x2, x3, x4, x5, x6, x7, x8, x9, x10⟩ := blk_cells10 K2.out; clear hs2 hb2 HM1 P1)
    | (have HM2 := P2; go_at_call 19; refine (P2.out _ _ HS2.out).mono ?_; rintro e0 w3 ⟨v3, rfl, hs3, hb3⟩; obtain ⟨A_3, n_3, c_3, rfl, _⟩ := id hs3; have HS3 := Lib.hid hs3; have HB3 := Lib.hid (low_low HB2.out hb3); have K3 := Lib.hid (K2.out.below hb3 K2.out.lt); clear x0 x1 x2 x3 x4 x5 x6 x7 x8 x9 x10; obtain ⟨x0, x1, x2, x3, x4, x5, x6, x7, x8, x9, x10⟩ := blk_cells10 K3.out; clear hs3 hb3 HM2 P2)
    | (have HM3 := P3; go_at_call 19; refine (P3.out _ _ HS3.out).mono ?_; rintro e0 w4 ⟨v4, rfl, hs4, hb4⟩; obtain ⟨A_4, n_4, c_4, rfl, _⟩ := id hs4; have HS4 := Lib.hid hs4; have HB4 := Lib.hid (low_low HB3.out hb4); have K4 := Lib.hid (K3.out.below hb4 K3.out.lt); clear x0 x1 x2 x3 x4 x5 x6 x7 x8 x9 x10; obtain ⟨x0, x1, x2, x3, x4, x5, x6, x7, x8, x9, x10⟩ := blk_cells10 K4.out; clear hs4 hb4 HM3 P3)
    | (have HM4 := P4; go_at_call 20; refine (P4.out _ _ HB4.out HS4.out).mono ?_; rintro e0 w5 ⟨v5, rfl, hs5, hb5⟩; obtain ⟨A_5, n_5, c_5, rfl, _⟩ := id hs5; have HS5 := Lib.hid hs5; have HB5 := Lib.hid (low_low HB4.out hb5); have K5 := Lib.hid (K4.out.below hb5 K4.out.lt); clear x0 x1 x2 x3 x4 x5 x6 x7 x8 x9 x10; obtain ⟨x0, x1, x2, x3, x4, x5, x6, x7, x8, x9, x10⟩ := blk_cells10 K5.out; clear hs5 hb5 HM4 P4)
    | (go_at_call 23; refine (SE.out _ _ HB5.out (sl_cast14 HS5.out (by rw [HBD.out]; try simp only [List.append_assoc]))).mono ?_; rintro e0 w9 ⟨A9, n9, c9, rfl, hn9, ho9, hb9⟩; have HN9 := Lib.hid hn9; have HO9 := Lib.hid ho9; have HB9 := Lib.hid hb9; clear hn9 ho9 hb9))
  refine bodyPost_ret (v := .tuple #[.slice A9 n9 c9, .int .i64 0]) ?_ rfl ⟨A9, n9, c9, rfl, HN9.out, HO9.out, HB9.out⟩
  simp [results, Try.results8, go_sem]
set_option maxRecDepth 100000 in
set_option maxHeartbeats 16000000 in
theorem pput_two (p : Pk) (A1 A2 A3 : Option Addr) (n1 z1 n2 z2 n3 z3 : Nat) (w : World) (hk : p.k = 2) (h : PkM w w.heap.size (.slice A1 n1 z1) (.slice A2 n2 z2) (.slice A3 n3 z3) p) (hm : mayP p = true) :
    Calls Try.prog 8 #[pkV p (.slice A1 n1 z1) (.slice A2 n2 z2) (.slice A3 n3 z3)] w (PPutOut w p) := by
  have hen := ends_iff.1 (mayP_iff.1 hm).1
  have hok0 := (may_ofKind p).symm.trans hm
  rw [Bool.and_eq_true] at hok0
  have hok := hok0.2
  clear hok0
  rw [ofK2 hk] at hok
  simp only [Bool.and_eq_true, nothing_iff, okHd, okLs, win_iff, decide_eq_true_eq] at hok
  have hil := fun (hi : itOk 0 p.it = true) => itOk_len (l := p.it) (c := 0) (by omega) (by omega) hi
  obtain ⟨h1, h2, h3⟩ := id h
  have hl1 := (lks_len h1).1
  have hl2 := (lks_len h2).1
  have hl3 := (las_len h3).1
  have hil := hil hok.1.2
  have hbody : bodyP p = headP p ++ (be 4 p.e.toNat ++ (be 1 n2 ++ itBytes p.it)) := by
    have e1 : p.hd = [] := nil_of.1 hok.2.2.2.1
    have e2 : p.ls = [] := nil_of.1 hok.2.2.2.2.2
    simp [bodyP, midP, hasE, hk, count, e1, e2, linkBytes, lsBytes, hl2]
  have hbl : (bodyP p).length ≤ 2000 := by rw [hbody]; simp [headP_length, be_length, itBytes_length]; omega
  have hhd : headP p = be 1 2 ++ (be 1 p.f.toNat ++ be 4 p.b.toNat) ++ (be 1 p.t.toNat ++ be 4 p.tb.toNat) := by simp [headP, hk]
  have hhl := headP_length p
  have SE := Lib.hid (fun (v : Value) (W : World) (hW : Below w.heap.size w W) (hs : Sl W W.heap.size v (bodyP p)) => seal_end hW hs hbl)
  have HB := Lib.hid (low1 (Below.refl w.heap.size w) (.cells (pkC p (.slice A1 n1 z1) (.slice A2 n2 z2) (.slice A3 n3 z3)) 26))
  have ck := pcheck_any p A1 A2 A3 n1 z1 n2 z2 n3 z3 _ (h.up HB.out)
  rw [hm, errI_t] at ck
  have K0 := Blk.new w 26 (pkC p (.slice A1 n1 z1) (.slice A2 n2 z2) (.slice A3 n3 z3))
  clear h hm hbl
  unfold PPutOut
  generalize hB : bodyP p = B at *
  generalize hP : putP p = P at *
  generalize hH : headP p = H at *
  clear hB hP hH
  obtain ⟨k, f, b, t, tb, e, te, hd, it, ls⟩ := p
  simp only [pkV, pkC] at *
  subst hk
  obtain ⟨f, rfl⟩ : ∃ q : Nat, f = (q : Int) := ⟨f.toNat, by omega⟩
  obtain ⟨b, rfl⟩ : ∃ q : Nat, b = (q : Int) := ⟨b.toNat, by omega⟩
  obtain ⟨t, rfl⟩ : ∃ q : Nat, t = (q : Int) := ⟨t.toNat, by omega⟩
  obtain ⟨tb, rfl⟩ : ∃ q : Nat, tb = (q : Int) := ⟨tb.toNat, by omega⟩
  obtain ⟨e, rfl⟩ : ∃ q : Nat, e = (q : Int) := ⟨e.toNat, by omega⟩
  simp only [Int.toNat_natCast] at hhd hbody
  have p1 := fun (W : World) => put_num (.slice none 0 0) 1 2 [] W (sl_nil _ _) (by simp) (by omega)
  rw [putNum_1, List.nil_append] at p1
  have p2 := fun (v : Value) (W : World) (hv : Sl W W.heap.size v (be 1 2)) => putWho_any v _ f b W hv (by simp [be_length]) (by omega) (by omega)
  have p3 := fun (v : Value) (W : World) (hv : Sl W W.heap.size v (be 1 2 ++ (be 1 f ++ be 4 b))) => putWho_any v _ t tb W hv (by simp [be_length]) (by omega) (by omega)
  rw [← hhd] at p3
  have p4 := fun (v : Value) (W : World) (hW : Below w.heap.size w W) (hv : Sl W W.heap.size v H) => put_num v 4 e H W hv (by omega) (by omega)
  rw [putNum_4] at p4
  have p5 := fun (v : Value) (W : World) (hW : Below w.heap.size w W) (hv : Sl W W.heap.size v (H ++ be 4 e)) => putItems_any v (H ++ be 4 e) A2 n2 z2 it W hv (by rw [List.length_append, be_length]; omega) ((h2.below hW (Nat.le_refl _)).more hW.size) (by omega) hok.1.2
  have P1 := Lib.hid p1; clear p1
  have P2 := Lib.hid p2; clear p2
  have P3 := Lib.hid p3; clear p3
  have P4 := Lib.hid p4; clear p4
  have P5 := Lib.hid p5; clear p5
  have CK := Lib.hid ck; clear ck
  have K := Lib.hid K0; clear K0
  have HBD := Lib.hid hbody; clear hbody
  have bf : f ≤ 64 := by omega
  have bb : b ≤ 1073741824 := by omega
  have bt : t ≤ 64 := by omega
  have btb : tb ≤ 1073741824 := by omega
  have be_ : e ≤ 1073741824 := by omega
  clear hok hen hil h1 h2 h3 hl1 hl2 hl3 hhd hhl
  go_enter Try.func8, Try.ntmps8
  go_wp2_with (first
    | (go_at_call 9; refine (CK.out).mono ?_; rintro e0 w1 ⟨rfl, hb1⟩; have HB1 := Lib.hid (low_low HB.out hb1); have K1 := Lib.hid (K.out.below hb1 K.out.lt); obtain ⟨x0, x1, x2, x3, x4, x5, x6, x7, x8, x9, x10⟩ := blk_cells10 K1.out; clear hb1)
    | (have HM1 := P1; go_at_call 18; refine (P1.out _).mono ?_; rintro e0 w2 ⟨v2, rfl, hs2, hb2⟩; obtain ⟨A_2, n_2, c_2, rfl, _⟩ := id hs2; have HS2 := Lib.hid hs2; have HB2 := Lib.hid (low_low HB1.out hb2); have K2 := Lib.hid (K1.out.below hb2 K1.out.lt); clear x0 x1 x2 x3 x4 x5 x6 x7 x8 x9 x10; obtain ⟨x0, x1, x2, x3, x4, x5, x6, x7, x8, x9, x10⟩ := blk_cells10 K2.out; clear hs2 hb2 HM1 P1)
    | (have HM2 := P2; go_at_call 19; refine (P2.out _ _ HS2.out).mono ?_; rintro e0 w3 ⟨v3, rfl, hs3, hb3⟩; obtain ⟨A_3, n_3, c_3, rfl, _⟩ := id hs3; have HS3 := Lib.hid hs3; have HB3 := Lib.hid (low_low HB2.out hb3); have K3 := Lib.hid (K2.out.below hb3 K2.out.lt); clear x0 x1 x2 x3 x4 x5 x6 x7 x8 x9 x10; obtain ⟨x0, x1, x2, x3, x4, x5, x6, x7, x8, x9, x10⟩ := blk_cells10 K3.out; clear hs3 hb3 HM2 P2)
    | (have HM3 := P3; go_at_call 19; refine (P3.out _ _ HS3.out).mono ?_; rintro e0 w4 ⟨v4, rfl, hs4, hb4⟩; obtain ⟨A_4, n_4, c_4, rfl, _⟩ := id hs4; have HS4 := Lib.hid hs4; have HB4 := Lib.hid (low_low HB3.out hb4); have K4 := Lib.hid (K3.out.below hb4 K3.out.lt); clear x0 x1 x2 x3 x4 x5 x6 x7 x8 x9 x10; obtain ⟨x0, x1, x2, x3, x4, x5, x6, x7, x8, x9, x10⟩ := blk_cells10 K4.out; clear hs4 hb4 HM3 P3)
    | (have HM4 := P4; go_at_call 18; refine (P4.out _ _ HB4.out HS4.out).mono ?_; rintro e0 w5 ⟨v5, rfl, hs5, hb5⟩; obtain ⟨A_5, n_5, c_5, rfl, _⟩ := id hs5; have HS5 := Lib.hid hs5; have HB5 := Lib.hid (low_low HB4.out hb5); have K5 := Lib.hid (K4.out.below hb5 K4.out.lt); clear x0 x1 x2 x3 x4 x5 x6 x7 x8 x9 x10; obtain ⟨x0, x1, x2, x3, x4, x5, x6, x7, x8, x9, x10⟩ := blk_cells10 K5.out; clear hs5 hb5 HM4 P4)
    | (have HM5 := P5; go_at_call 21; refine (P5.out _ _ HB5.out HS5.out).mono ?_; rintro e0 w6 ⟨v6, rfl, hs6, hb6⟩; obtain ⟨A_6, n_6, c_6, rfl, _⟩ := id hs6; have HS6 := Lib.hid hs6; have HB6 := Lib.hid (low_low HB5.out hb6); have K6 := Lib.hid (K5.out.below hb6 K5.out.lt); clear x0 x1 x2 x3 x4 x5 x6 x7 x8 x9 x10; obtain ⟨x0, x1, x2, x3, x4, x5, x6, x7, x8, x9, x10⟩ := blk_cells10 K6.out; clear hs6 hb6 HM5 P5)
    | (go_at_call 23; refine (SE.out _ _ HB6.out (sl_cast14 HS6.out (by rw [HBD.out]; try simp only [List.append_assoc]))).mono ?_; rintro e0 w9 ⟨A9, n9, c9, rfl, hn9, ho9, hb9⟩; have HN9 := Lib.hid hn9; have HO9 := Lib.hid ho9; have HB9 := Lib.hid hb9; clear hn9 ho9 hb9))
  refine bodyPost_ret (v := .tuple #[.slice A9 n9 c9, .int .i64 0]) ?_ rfl ⟨A9, n9, c9, rfl, HN9.out, HO9.out, HB9.out⟩
  simp [results, Try.results8, go_sem]
set_option maxRecDepth 100000 in
set_option maxHeartbeats 16000000 in
theorem pput_three (p : Pk) (A1 A2 A3 : Option Addr) (n1 z1 n2 z2 n3 z3 : Nat) (w : World) (hk : p.k = 3) (h : PkM w w.heap.size (.slice A1 n1 z1) (.slice A2 n2 z2) (.slice A3 n3 z3) p) (hm : mayP p = true) :
    Calls Try.prog 8 #[pkV p (.slice A1 n1 z1) (.slice A2 n2 z2) (.slice A3 n3 z3)] w (PPutOut w p) := by
  have hen := ends_iff.1 (mayP_iff.1 hm).1
  have hok0 := (may_ofKind p).symm.trans hm
  rw [Bool.and_eq_true] at hok0
  have hok := hok0.2
  clear hok0
  rw [ofK3 hk] at hok
  simp only [Bool.and_eq_true, nothing_iff, okHd, okLs, win_iff, decide_eq_true_eq] at hok
  have hil := fun (hi : itOk 0 p.it = true) => itOk_len (l := p.it) (c := 0) (by omega) (by omega) hi
  obtain ⟨h1, h2, h3⟩ := id h
  have hl1 := (lks_len h1).1
  have hl2 := (lks_len h2).1
  have hl3 := (las_len h3).1
  have hbody : bodyP p = headP p ++ (be 4 p.e.toNat ++ be 4 p.te.toNat) := by
    have e1 : p.hd = [] := nil_of.1 hok.2.2.2.1
    have e2 : p.it = [] := nil_of.1 hok.2.2.2.2.1
    have e3 : p.ls = [] := nil_of.1 hok.2.2.2.2.2
    simp [bodyP, midP, hasE, hk, e1, e2, e3, linkBytes, itBytes, lsBytes]
  have hbl : (bodyP p).length ≤ 2000 := by rw [hbody]; simp [headP_length, be_length]
  have hhd : headP p = be 1 3 ++ (be 1 p.f.toNat ++ be 4 p.b.toNat) ++ (be 1 p.t.toNat ++ be 4 p.tb.toNat) := by simp [headP, hk]
  have hhl := headP_length p
  have SE := Lib.hid (fun (v : Value) (W : World) (hW : Below w.heap.size w W) (hs : Sl W W.heap.size v (bodyP p)) => seal_end hW hs hbl)
  have HB := Lib.hid (low1 (Below.refl w.heap.size w) (.cells (pkC p (.slice A1 n1 z1) (.slice A2 n2 z2) (.slice A3 n3 z3)) 26))
  have ck := pcheck_any p A1 A2 A3 n1 z1 n2 z2 n3 z3 _ (h.up HB.out)
  rw [hm, errI_t] at ck
  have K0 := Blk.new w 26 (pkC p (.slice A1 n1 z1) (.slice A2 n2 z2) (.slice A3 n3 z3))
  clear h hm hbl
  unfold PPutOut
  generalize hB : bodyP p = B at *
  generalize hP : putP p = P at *
  generalize hH : headP p = H at *
  clear hB hP hH
  obtain ⟨k, f, b, t, tb, e, te, hd, it, ls⟩ := p
  simp only [pkV, pkC] at *
  subst hk
  obtain ⟨f, rfl⟩ : ∃ q : Nat, f = (q : Int) := ⟨f.toNat, by omega⟩
  obtain ⟨b, rfl⟩ : ∃ q : Nat, b = (q : Int) := ⟨b.toNat, by omega⟩
  obtain ⟨t, rfl⟩ : ∃ q : Nat, t = (q : Int) := ⟨t.toNat, by omega⟩
  obtain ⟨tb, rfl⟩ : ∃ q : Nat, tb = (q : Int) := ⟨tb.toNat, by omega⟩
  obtain ⟨e, rfl⟩ : ∃ q : Nat, e = (q : Int) := ⟨e.toNat, by omega⟩
  obtain ⟨te, rfl⟩ : ∃ q : Nat, te = (q : Int) := ⟨te.toNat, by omega⟩
  simp only [Int.toNat_natCast] at hhd hbody
  have p1 := fun (W : World) => put_num (.slice none 0 0) 1 3 [] W (sl_nil _ _) (by simp) (by omega)
  rw [putNum_1, List.nil_append] at p1
  have p2 := fun (v : Value) (W : World) (hv : Sl W W.heap.size v (be 1 3)) => putWho_any v _ f b W hv (by simp [be_length]) (by omega) (by omega)
  have p3 := fun (v : Value) (W : World) (hv : Sl W W.heap.size v (be 1 3 ++ (be 1 f ++ be 4 b))) => putWho_any v _ t tb W hv (by simp [be_length]) (by omega) (by omega)
  rw [← hhd] at p3
  have p4 := fun (v : Value) (W : World) (hW : Below w.heap.size w W) (hv : Sl W W.heap.size v H) => put_num v 4 e H W hv (by omega) (by omega)
  rw [putNum_4] at p4
  have p5 := fun (v : Value) (W : World) (hW : Below w.heap.size w W) (hv : Sl W W.heap.size v (H ++ be 4 e)) => put_num v 4 te (H ++ be 4 e) W hv (by rw [List.length_append, be_length]; omega) (by omega)
  rw [putNum_4] at p5
  have P1 := Lib.hid p1; clear p1
  have P2 := Lib.hid p2; clear p2
  have P3 := Lib.hid p3; clear p3
  have P4 := Lib.hid p4; clear p4
  have P5 := Lib.hid p5; clear p5
  have CK := Lib.hid ck; clear ck
  have K := Lib.hid K0; clear K0
  have HBD := Lib.hid hbody; clear hbody
  have bf : f ≤ 64 := by omega
  have bb : b ≤ 1073741824 := by omega
  have bt : t ≤ 64 := by omega
  have btb : tb ≤ 1073741824 := by omega
  have be_ : e ≤ 1073741824 := by omega
  have bte : te ≤ 1073741824 := by omega
  clear hok hen hil h1 h2 h3 hl1 hl2 hl3 hhd hhl
  go_enter Try.func8, Try.ntmps8
  go_wp2_with (first
    | (go_at_call 9; refine (CK.out).mono ?_; rintro e0 w1 ⟨rfl, hb1⟩; have HB1 := Lib.hid (low_low HB.out hb1); have K1 := Lib.hid (K.out.below hb1 K.out.lt); obtain ⟨x0, x1, x2, x3, x4, x5, x6, x7, x8, x9, x10⟩ := blk_cells10 K1.out; clear hb1)
    | (have HM1 := P1; go_at_call 18; refine (P1.out _).mono ?_; rintro e0 w2 ⟨v2, rfl, hs2, hb2⟩; obtain ⟨A_2, n_2, c_2, rfl, _⟩ := id hs2; have HS2 := Lib.hid hs2; have HB2 := Lib.hid (low_low HB1.out hb2); have K2 := Lib.hid (K1.out.below hb2 K1.out.lt); clear x0 x1 x2 x3 x4 x5 x6 x7 x8 x9 x10; obtain ⟨x0, x1, x2, x3, x4, x5, x6, x7, x8, x9, x10⟩ := blk_cells10 K2.out; clear hs2 hb2 HM1 P1)
    | (have HM2 := P2; go_at_call 19; refine (P2.out _ _ HS2.out).mono ?_; rintro e0 w3 ⟨v3, rfl, hs3, hb3⟩; obtain ⟨A_3, n_3, c_3, rfl, _⟩ := id hs3; have HS3 := Lib.hid hs3; have HB3 := Lib.hid (low_low HB2.out hb3); have K3 := Lib.hid (K2.out.below hb3 K2.out.lt); clear x0 x1 x2 x3 x4 x5 x6 x7 x8 x9 x10; obtain ⟨x0, x1, x2, x3, x4, x5, x6, x7, x8, x9, x10⟩ := blk_cells10 K3.out; clear hs3 hb3 HM2 P2)
    | (have HM3 := P3; go_at_call 19; refine (P3.out _ _ HS3.out).mono ?_; rintro e0 w4 ⟨v4, rfl, hs4, hb4⟩; obtain ⟨A_4, n_4, c_4, rfl, _⟩ := id hs4; have HS4 := Lib.hid hs4; have HB4 := Lib.hid (low_low HB3.out hb4); have K4 := Lib.hid (K3.out.below hb4 K3.out.lt); clear x0 x1 x2 x3 x4 x5 x6 x7 x8 x9 x10; obtain ⟨x0, x1, x2, x3, x4, x5, x6, x7, x8, x9, x10⟩ := blk_cells10 K4.out; clear hs4 hb4 HM3 P3)
    | (have HM4 := P4; go_at_call 18; refine (P4.out _ _ HB4.out HS4.out).mono ?_; rintro e0 w5 ⟨v5, rfl, hs5, hb5⟩; obtain ⟨A_5, n_5, c_5, rfl, _⟩ := id hs5; have HS5 := Lib.hid hs5; have HB5 := Lib.hid (low_low HB4.out hb5); have K5 := Lib.hid (K4.out.below hb5 K4.out.lt); clear x0 x1 x2 x3 x4 x5 x6 x7 x8 x9 x10; obtain ⟨x0, x1, x2, x3, x4, x5, x6, x7, x8, x9, x10⟩ := blk_cells10 K5.out; clear hs5 hb5 HM4 P4)
    | (have HM5 := P5; go_at_call 18; refine (P5.out _ _ HB5.out HS5.out).mono ?_; rintro e0 w6 ⟨v6, rfl, hs6, hb6⟩; obtain ⟨A_6, n_6, c_6, rfl, _⟩ := id hs6; have HS6 := Lib.hid hs6; have HB6 := Lib.hid (low_low HB5.out hb6); have K6 := Lib.hid (K5.out.below hb6 K5.out.lt); clear x0 x1 x2 x3 x4 x5 x6 x7 x8 x9 x10; obtain ⟨x0, x1, x2, x3, x4, x5, x6, x7, x8, x9, x10⟩ := blk_cells10 K6.out; clear hs6 hb6 HM5 P5)
    | (go_at_call 23; refine (SE.out _ _ HB6.out (sl_cast14 HS6.out (by rw [HBD.out]; try simp only [List.append_assoc]))).mono ?_; rintro e0 w9 ⟨A9, n9, c9, rfl, hn9, ho9, hb9⟩; have HN9 := Lib.hid hn9; have HO9 := Lib.hid ho9; have HB9 := Lib.hid hb9; clear hn9 ho9 hb9))
  refine bodyPost_ret (v := .tuple #[.slice A9 n9 c9, .int .i64 0]) ?_ rfl ⟨A9, n9, c9, rfl, HN9.out, HO9.out, HB9.out⟩
  simp [results, Try.results8, go_sem]
set_option maxRecDepth 100000 in
set_option maxHeartbeats 16000000 in
theorem pput_four (p : Pk) (A1 A2 A3 : Option Addr) (n1 z1 n2 z2 n3 z3 : Nat) (w : World) (hk : p.k = 4) (h : PkM w w.heap.size (.slice A1 n1 z1) (.slice A2 n2 z2) (.slice A3 n3 z3) p) (hm : mayP p = true) :
    Calls Try.prog 8 #[pkV p (.slice A1 n1 z1) (.slice A2 n2 z2) (.slice A3 n3 z3)] w (PPutOut w p) := by
  have hen := ends_iff.1 (mayP_iff.1 hm).1
  have hok0 := (may_ofKind p).symm.trans hm
  rw [Bool.and_eq_true] at hok0
  have hok := hok0.2
  clear hok0
  rw [ofK4 hk] at hok
  simp only [Bool.and_eq_true, nothing_iff, okHd, okLs, win_iff, decide_eq_true_eq] at hok
  have hil := fun (hi : itOk 0 p.it = true) => itOk_len (l := p.it) (c := 0) (by omega) (by omega) hi
  obtain ⟨h1, h2, h3⟩ := id h
  have hl1 := (lks_len h1).1
  have hl2 := (lks_len h2).1
  have hl3 := (las_len h3).1
  have hbody : bodyP p = headP p ++ (be 1 n3 ++ lsBytes p.ls) := by
    have e1 : p.hd = [] := nil_of.1 hok.2.2.2.1
    have e2 : p.it = [] := nil_of.1 hok.2.2.2.2.1
    simp [bodyP, midP, hasE, hk, count, e1, e2, linkBytes, itBytes, hl3]
  have hbl : (bodyP p).length ≤ 2000 := by
    have := lsBytes_len p.ls (ls_all14 hok.1.2)
    rw [hbody]
    simp [headP_length, be_length]
    omega
  have hhd : headP p = be 1 4 ++ (be 1 p.f.toNat ++ be 4 p.b.toNat) ++ (be 1 p.t.toNat ++ be 4 p.tb.toNat) := by simp [headP, hk]
  have hhl := headP_length p
  have SE := Lib.hid (fun (v : Value) (W : World) (hW : Below w.heap.size w W) (hs : Sl W W.heap.size v (bodyP p)) => seal_end hW hs hbl)
  have HB := Lib.hid (low1 (Below.refl w.heap.size w) (.cells (pkC p (.slice A1 n1 z1) (.slice A2 n2 z2) (.slice A3 n3 z3)) 26))
  have ck := pcheck_any p A1 A2 A3 n1 z1 n2 z2 n3 z3 _ (h.up HB.out)
  rw [hm, errI_t] at ck
  have K0 := Blk.new w 26 (pkC p (.slice A1 n1 z1) (.slice A2 n2 z2) (.slice A3 n3 z3))
  clear h hm hbl
  unfold PPutOut
  generalize hB : bodyP p = B at *
  generalize hP : putP p = P at *
  generalize hH : headP p = H at *
  clear hB hP hH
  obtain ⟨k, f, b, t, tb, e, te, hd, it, ls⟩ := p
  simp only [pkV, pkC] at *
  subst hk
  obtain ⟨f, rfl⟩ : ∃ q : Nat, f = (q : Int) := ⟨f.toNat, by omega⟩
  obtain ⟨b, rfl⟩ : ∃ q : Nat, b = (q : Int) := ⟨b.toNat, by omega⟩
  obtain ⟨t, rfl⟩ : ∃ q : Nat, t = (q : Int) := ⟨t.toNat, by omega⟩
  obtain ⟨tb, rfl⟩ : ∃ q : Nat, tb = (q : Int) := ⟨tb.toNat, by omega⟩
  simp only [Int.toNat_natCast] at hhd hbody
  have p1 := fun (W : World) => put_num (.slice none 0 0) 1 4 [] W (sl_nil _ _) (by simp) (by omega)
  rw [putNum_1, List.nil_append] at p1
  have p2 := fun (v : Value) (W : World) (hv : Sl W W.heap.size v (be 1 4)) => putWho_any v _ f b W hv (by simp [be_length]) (by omega) (by omega)
  have p3 := fun (v : Value) (W : World) (hv : Sl W W.heap.size v (be 1 4 ++ (be 1 f ++ be 4 b))) => putWho_any v _ t tb W hv (by simp [be_length]) (by omega) (by omega)
  rw [← hhd] at p3
  have p4 := fun (v : Value) (W : World) (hW : Below w.heap.size w W) (hv : Sl W W.heap.size v H) => putLsas_any v H A3 n3 z3 ls W hv (by omega) ((h3.keep hW).more hW.size) (by omega) hok.1.2
  have P1 := Lib.hid p1; clear p1
  have P2 := Lib.hid p2; clear p2
  have P3 := Lib.hid p3; clear p3
  have P4 := Lib.hid p4; clear p4
  have CK := Lib.hid ck; clear ck
  have K := Lib.hid K0; clear K0
  have HBD := Lib.hid hbody; clear hbody
  have bf : f ≤ 64 := by omega
  have bb : b ≤ 1073741824 := by omega
  have bt : t ≤ 64 := by omega
  have btb : tb ≤ 1073741824 := by omega
  clear hok hen hil h1 h2 h3 hl1 hl2 hl3 hhd hhl
  go_enter Try.func8, Try.ntmps8
  go_wp2_with (first
    | (go_at_call 9; refine (CK.out).mono ?_; rintro e0 w1 ⟨rfl, hb1⟩; have HB1 := Lib.hid (low_low HB.out hb1); have K1 := Lib.hid (K.out.below hb1 K.out.lt); obtain ⟨x0, x1, x2, x3, x4, x5, x6, x7, x8, x9, x10⟩ := blk_cells10 K1.out; clear hb1)
    | (have HM1 := P1; go_at_call 18; refine (P1.out _).mono ?_; rintro e0 w2 ⟨v2, rfl, hs2, hb2⟩; obtain ⟨A_2, n_2, c_2, rfl, _⟩ := id hs2; have HS2 := Lib.hid hs2; have HB2 := Lib.hid (low_low HB1.out hb2); have K2 := Lib.hid (K1.out.below hb2 K1.out.lt); clear x0 x1 x2 x3 x4 x5 x6 x7 x8 x9 x10; obtain ⟨x0, x1, x2, x3, x4, x5, x6, x7, x8, x9, x10⟩ := blk_cells10 K2.out; clear hs2 hb2 HM1 P1)
    | (have HM2 := P2; go_at_call 19; refine (P2.out _ _ HS2.out).mono ?_; rintro e0 w3 ⟨v3, rfl, hs3, hb3⟩; obtain ⟨A_3, n_3, c_3, rfl, _⟩ := id hs3; have HS3 := Lib.hid hs3; have HB3 := Lib.hid (low_low HB2.out hb3); have K3 := Lib.hid (K2.out.below hb3 K2.out.lt); clear x0 x1 x2 x3 x4 x5 x6 x7 x8 x9 x10; obtain ⟨x0, x1, x2, x3, x4, x5, x6, x7, x8, x9, x10⟩ := blk_cells10 K3.out; clear hs3 hb3 HM2 P2)
    | (have HM3 := P3; go_at_call 19; refine (P3.out _ _ HS3.out).mono ?_; rintro e0 w4 ⟨v4, rfl, hs4, hb4⟩; obtain ⟨A_4, n_4, c_4, rfl, _⟩ := id hs4; have HS4 := Lib.hid hs4; have HB4 := Lib.hid (low_low HB3.out hb4); have K4 := Lib.hid (K3.out.below hb4 K3.out.lt); clear x0 x1 x2 x3 x4 x5 x6 x7 x8 x9 x10; obtain ⟨x0, x1, x2, x3, x4, x5, x6, x7, x8, x9, x10⟩ := blk_cells10 K4.out; clear hs4 hb4 HM3 P3)
    | (have HM4 := P4; go_at_call 22; refine (P4.out _ _ HB4.out HS4.out).mono ?_; rintro e0 w5 ⟨v5, rfl, hs5, hb5⟩; obtain ⟨A_5, n_5, c_5, rfl, _⟩ := id hs5; have HS5 := Lib.hid hs5; have HB5 := Lib.hid (low_low HB4.out hb5); have K5 := Lib.hid (K4.out.below hb5 K4.out.lt); clear x0 x1 x2 x3 x4 x5 x6 x7 x8 x9 x10; obtain ⟨x0, x1, x2, x3, x4, x5, x6, x7, x8, x9, x10⟩ := blk_cells10 K5.out; clear hs5 hb5 HM4 P4)
    | (go_at_call 23; refine (SE.out _ _ HB5.out (sl_cast14 HS5.out (by rw [HBD.out]; try simp only [List.append_assoc]))).mono ?_; rintro e0 w9 ⟨A9, n9, c9, rfl, hn9, ho9, hb9⟩; have HN9 := Lib.hid hn9; have HO9 := Lib.hid ho9; have HB9 := Lib.hid hb9; clear hn9 ho9 hb9))
  refine bodyPost_ret (v := .tuple #[.slice A9 n9 c9, .int .i64 0]) ?_ rfl ⟨A9, n9, c9, rfl, HN9.out, HO9.out, HB9.out⟩
  simp [results, Try.results8, go_sem]
set_option maxRecDepth 100000 in
set_option maxHeartbeats 16000000 in
theorem pput_five (p : Pk) (A1 A2 A3 : Option Addr) (n1 z1 n2 z2 n3 z3 : Nat) (w : World) (hk : p.k = 5) (h : PkM w w.heap.size (.slice A1 n1 z1) (.slice A2 n2 z2) (.slice A3 n3 z3) p) (hm : mayP p = true) :
    Calls Try.prog 8 #[pkV p (.slice A1 n1 z1) (.slice A2 n2 z2) (.slice A3 n3 z3)] w (PPutOut w p) := by
  have hen := ends_iff.1 (mayP_iff.1 hm).1
  have hok0 := (may_ofKind p).symm.trans hm
  rw [Bool.and_eq_true] at hok0
  have hok := hok0.2
  clear hok0
  rw [ofK5 hk] at hok
  simp only [Bool.and_eq_true, nothing_iff, okHd, okLs, win_iff, decide_eq_true_eq] at hok
  have hil := fun (hi : itOk 0 p.it = true) => itOk_len (l := p.it) (c := 0) (by omega) (by omega) hi
  obtain ⟨h1, h2, h3⟩ := id h
  have hl1 := (lks_len h1).1
  have hl2 := (lks_len h2).1
  have hl3 := (las_len h3).1
  have hil := hil hok.1
  have hbody : bodyP p = headP p ++ (be 1 n2 ++ itBytes p.it) := by
    have e1 : p.hd = [] := nil_of.1 hok.2.2.2.1
    have e2 : p.ls = [] := nil_of.1 hok.2.2.2.2.2
    simp [bodyP, midP, hasE, hk, count, e1, e2, linkBytes, lsBytes, hl2]
  have hbl : (bodyP p).length ≤ 2000 := by rw [hbody]; simp [headP_length, be_length, itBytes_length]; omega
  have hhd : headP p = be 1 5 ++ (be 1 p.f.toNat ++ be 4 p.b.toNat) ++ (be 1 p.t.toNat ++ be 4 p.tb.toNat) := by simp [headP, hk]
  have hhl := headP_length p
  have SE := Lib.hid (fun (v : Value) (W : World) (hW : Below w.heap.size w W) (hs : Sl W W.heap.size v (bodyP p)) => seal_end hW hs hbl)
  have HB := Lib.hid (low1 (Below.refl w.heap.size w) (.cells (pkC p (.slice A1 n1 z1) (.slice A2 n2 z2) (.slice A3 n3 z3)) 26))
  have ck := pcheck_any p A1 A2 A3 n1 z1 n2 z2 n3 z3 _ (h.up HB.out)
  rw [hm, errI_t] at ck
  have K0 := Blk.new w 26 (pkC p (.slice A1 n1 z1) (.slice A2 n2 z2) (.slice A3 n3 z3))
  clear h hm hbl
  unfold PPutOut
  generalize hB : bodyP p = B at *
  generalize hP : putP p = P at *
  generalize hH : headP p = H at *
  clear hB hP hH
  obtain ⟨k, f, b, t, tb, e, te, hd, it, ls⟩ := p
  simp only [pkV, pkC] at *
  subst hk
  obtain ⟨f, rfl⟩ : ∃ q : Nat, f = (q : Int) := ⟨f.toNat, by omega⟩
  obtain ⟨b, rfl⟩ : ∃ q : Nat, b = (q : Int) := ⟨b.toNat, by omega⟩
  obtain ⟨t, rfl⟩ : ∃ q : Nat, t = (q : Int) := ⟨t.toNat, by omega⟩
  obtain ⟨tb, rfl⟩ : ∃ q : Nat, tb = (q : Int) := ⟨tb.toNat, by omega⟩
  simp only [Int.toNat_natCast] at hhd hbody
  have p1 := fun (W : World) => put_num (.slice none 0 0) 1 5 [] W (sl_nil _ _) (by simp) (by omega)
  rw [putNum_1, List.nil_append] at p1
  have p2 := fun (v : Value) (W : World) (hv : Sl W W.heap.size v (be 1 5)) => putWho_any v _ f b W hv (by simp [be_length]) (by omega) (by omega)
  have p3 := fun (v : Value) (W : World) (hv : Sl W W.heap.size v (be 1 5 ++ (be 1 f ++ be 4 b))) => putWho_any v _ t tb W hv (by simp [be_length]) (by omega) (by omega)
  rw [← hhd] at p3
  have p4 := fun (v : Value) (W : World) (hW : Below w.heap.size w W) (hv : Sl W W.heap.size v H) => putItems_any v H A2 n2 z2 it W hv (by omega) ((h2.below hW (Nat.le_refl _)).more hW.size) (by omega) hok.1
  have P1 := Lib.hid p1; clear p1
  have P2 := Lib.hid p2; clear p2
  have P3 := Lib.hid p3; clear p3
  have P4 := Lib.hid p4; clear p4
  have CK := Lib.hid ck; clear ck
  have K := Lib.hid K0; clear K0
  have HBD := Lib.hid hbody; clear hbody
  have bf : f ≤ 64 := by omega
  have bb : b ≤ 1073741824 := by omega
  have bt : t ≤ 64 := by omega
  have btb : tb ≤ 1073741824 := by omega
  clear hok hen hil h1 h2 h3 hl1 hl2 hl3 hhd hhl
  go_enter Try.func8, Try.ntmps8
  go_wp2_with (first
    | (go_at_call 9; refine (CK.out).mono ?_; rintro e0 w1 ⟨rfl, hb1⟩; have HB1 := Lib.hid (low_low HB.out hb1); have K1 := Lib.hid (K.out.below hb1 K.out.lt); obtain ⟨x0, x1, x2, x3, x4, x5, x6, x7, x8, x9, x10⟩ := blk_cells10 K1.out; clear hb1)
    | (have HM1 := P1; go_at_call 18; refine (P1.out _).mono ?_; rintro e0 w2 ⟨v2, rfl, hs2, hb2⟩; obtain ⟨A_2, n_2, c_2, rfl, _⟩ := id hs2; have HS2 := Lib.hid hs2; have HB2 := Lib.hid (low_low HB1.out hb2); have K2 := Lib.hid (K1.out.below hb2 K1.out.lt); clear x0 x1 x2 x3 x4 x5 x6 x7 x8 x9 x10; obtain ⟨x0, x1, x2, x3, x4, x5, x6, x7, x8, x9, x10⟩ := blk_cells10 K2.out; clear hs2 hb2 HM1 P1)
    | (have HM2 := P2; go_at_call 19; refine (P2.out _ _ HS2.out).mono ?_; rintro e0 w3 ⟨v3, rfl, hs3, hb3⟩; obtain ⟨A_3, n_3, c_3, rfl, _⟩ := id hs3; have HS3 := Lib.hid hs3; have HB3 := Lib.hid (low_low HB2.out hb3); have K3 := Lib.hid (K2.out.below hb3 K2.out.lt); clear x0 x1 x2 x3 x4 x5 x6 x7 x8 x9 x10; obtain ⟨x0, x1, x2, x3, x4, x5, x6, x7, x8, x9, x10⟩ := blk_cells10 K3.out; clear hs3 hb3 HM2 P2)
    | (have HM3 := P3; go_at_call 19; refine (P3.out _ _ HS3.out).mono ?_; rintro e0 w4 ⟨v4, rfl, hs4, hb4⟩; obtain ⟨A_4, n_4, c_4, rfl, _⟩ := id hs4; have HS4 := Lib.hid hs4; have HB4 := Lib.hid (low_low HB3.out hb4); have K4 := Lib.hid (K3.out.below hb4 K3.out.lt); clear x0 x1 x2 x3 x4 x5 x6 x7 x8 x9 x10; obtain ⟨x0, x1, x2, x3, x4, x5, x6, x7, x8, x9, x10⟩ := blk_cells10 K4.out; clear hs4 hb4 HM3 P3)
    | (have HM4 := P4; go_at_call 21; refine (P4.out _ _ HB4.out HS4.out).mono ?_; rintro e0 w5 ⟨v5, rfl, hs5, hb5⟩; obtain ⟨A_5, n_5, c_5, rfl, _⟩ := id hs5; have HS5 := Lib.hid hs5; have HB5 := Lib.hid (low_low HB4.out hb5); have K5 := Lib.hid (K4.out.below hb5 K4.out.lt); clear x0 x1 x2 x3 x4 x5 x6 x7 x8 x9 x10; obtain ⟨x0, x1, x2, x3, x4, x5, x6, x7, x8, x9, x10⟩ := blk_cells10 K5.out; clear hs5 hb5 HM4 P4)
    | (go_at_call 23; refine (SE.out _ _ HB5.out (sl_cast14 HS5.out (by rw [HBD.out]; try simp only [List.append_assoc]))).mono ?_; rintro e0 w9 ⟨A9, n9, c9, rfl, hn9, ho9, hb9⟩; have HN9 := Lib.hid hn9; have HO9 := Lib.hid ho9; have HB9 := Lib.hid hb9; clear hn9 ho9 hb9))
  refine bodyPost_ret (v := .tuple #[.slice A9 n9 c9, .int .i64 0]) ?_ rfl ⟨A9, n9, c9, rfl, HN9.out, HO9.out, HB9.out⟩
  simp [results, Try.results8, go_sem]
theorem pput_yes (p : Pk) (A1 A2 A3 : Option Addr) (n1 z1 n2 z2 n3 z3 : Nat) (w : World) (h : PkM w w.heap.size (.slice A1 n1 z1) (.slice A2 n2 z2) (.slice A3 n3 z3) p) (hm : mayP p = true) :
    Calls Try.prog 8 #[pkV p (.slice A1 n1 z1) (.slice A2 n2 z2) (.slice A3 n3 z3)] w (PPutOut w p) := by
  by_cases k1 : p.k = 1
  · exact pput_one p A1 A2 A3 n1 z1 n2 z2 n3 z3 w k1 h hm
  by_cases k2 : p.k = 2
  · exact pput_two p A1 A2 A3 n1 z1 n2 z2 n3 z3 w k2 h hm
  by_cases k3 : p.k = 3
  · exact pput_three p A1 A2 A3 n1 z1 n2 z2 n3 z3 w k3 h hm
  by_cases k4 : p.k = 4
  · exact pput_four p A1 A2 A3 n1 z1 n2 z2 n3 z3 w k4 h hm
  by_cases k5 : p.k = 5
  · exact pput_five p A1 A2 A3 n1 z1 n2 z2 n3 z3 w k5 h hm
  rw [may_ofKind, ofK0 k1 k2 k3 k4 k5, Bool.and_false] at hm
  cases hm
end Go.Proofs.Ytpolpppnajfhdaa.Pkt
