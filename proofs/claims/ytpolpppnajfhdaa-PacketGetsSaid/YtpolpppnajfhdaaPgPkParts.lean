/- A packet's bytes (layer 14): the contracts of packet.putWho, putHeard, putItems, putLsas. -/
import Derived.Test.YtpolpppnajfhdaaPgLsaPut
import Derived.Test.YtpolpppnajfhdaaPgPkBack
import Derived.Test.YtpolpppnajfhdaaPgPkCheck
import Derived.Test.YtpolpppnajfhdaaPgSeal
namespace Go.Proofs.Ytpolpppnajfhdaa.Pkt
open Go.RowKit Go.Proofs.Ytpolpppnajfhdaa.Mem Go.Proofs.Ytpolpppnajfhdaa.Oct Go.Proofs.Ytpolpppnajfhdaa.Lsa Go.Proofs.Ytpolpppnajfhdaa.Bas
open Go.Proofs.Ytpolpppnajfhdaa.Chg (low1 low_low low2 blk_second)
set_option linter.unusedVariables false
set_option linter.unusedSimpArgs false
theorem sl_cast14 {w : World} {B : Nat} {v : Value} {xs ys : List Nat} (h : Sl w B v xs) (e : xs = ys) : Sl w B v ys := e ▸ h
theorem linkBytes_at (l : List Lk) (k : Nat) (h : k < l.length) : linkBytes (l.take (k + 1)) = linkBytes (l.take k) ++ (be 1 (l.getD k (0, 0)).1.toNat ++ be 4 (l.getD k (0, 0)).2.toNat) := Lsa.linkBytes_succ l k h
theorem itBytes_at (l : List Lk) (k : Nat) (h : k < l.length) : itBytes (l.take (k + 1)) = itBytes (l.take k) ++ (be 1 (l.getD k (0, 0)).1.toNat ++ be 8 (l.getD k (0, 0)).2.toNat) := by
  rw [List.take_succ_eq_append_getElem h, itBytes_app]
  simp [List.getD, List.getElem?_eq_getElem h]
theorem lsBytes_at (l : List La) (k : Nat) (h : k < l.length) : lsBytes (l.take (k + 1)) = lsBytes (l.take k) ++ bytesOf (l.getD k zeroL).o (l.getD k zeroL).s (l.getD k zeroL).ls := by
  rw [List.take_succ_eq_append_getElem h, lsBytes_app]
  simp [List.getD, List.getElem?_eq_getElem h]
theorem ep_all14 : ∀ {l : List Lk} {last : Int}, 0 ≤ last → epOk last l = true → ∀ x ∈ l, (1 ≤ x.1 ∧ x.1 ≤ 64) ∧ 1 ≤ x.2 ∧ x.2 ≤ 1073741824
  | [], _, _, _, x, hx => by simp at hx
  | a :: r, last, h0, h, x, hx => by
    simp only [epOk, Bool.and_eq_true] at h
    have h1 := epOne_iff14.1 h.1
    rcases List.mem_cons.1 hx with rfl | hx
    · exact ⟨h1.1, h1.2.1⟩
    · exact ep_all14 (by omega) h.2 x hx
theorem it_all14 : ∀ {l : List Lk} {last : Int}, 0 ≤ last → itOk last l = true → ∀ x ∈ l, (1 ≤ x.1 ∧ x.1 ≤ 64) ∧ 1 ≤ x.2 ∧ x.2 ≤ 4611686018427387904
  | [], _, _, _, x, hx => by simp at hx
  | a :: r, last, h0, h, x, hx => by
    simp only [itOk, Bool.and_eq_true] at h
    have h1 := itOne_iff.1 h.1
    rcases List.mem_cons.1 hx with rfl | hx
    · exact ⟨h1.1, h1.2.1⟩
    · exact it_all14 (by omega) h.2 x hx
theorem ls_all14 : ∀ {l : List La} {last : Int}, dbOk last l = true → ∀ x ∈ l, laOk x = true
  | [], _, _, x, hx => by simp at hx
  | a :: r, last, h, x, hx => by
    simp only [dbOk, Bool.and_eq_true] at h
    rcases List.mem_cons.1 hx with rfl | hx
    · exact h.1
    · exact ls_all14 h.2.2 x hx
theorem mem_at {α : Type} (l : List α) (d : α) (k : Nat) (h : k < l.length) : l.getD k d ∈ l := by
  simp only [List.getD, List.getElem?_eq_getElem h, Option.getD_some]
  exact List.getElem_mem _
theorem lsBytes_len : ∀ (l : List La), (∀ a ∈ l, laOk a = true) → (lsBytes l).length ≤ 90 * l.length
  | [], _ => by simp [lsBytes]
  | a :: r, h => by
    have h1 : may a.o a.s a.ls = true := h a (List.mem_cons_self ..)
    have h2 := lsBytes_len r (fun z hz => h z (List.mem_cons_of_mem _ hz))
    have h3 := (may_iff.1 h1).2.2.1
    rw [lsBytes_cons, List.length_append, List.length_cons, bytesOf_length]
    omega
set_option maxRecDepth 20000 in
set_option maxHeartbeats 4000000 in
theorem putWho_any (v : Value) (xs : List Nat) (n m : Nat) (w : World) (h : Sl w w.heap.size v xs) (hl : xs.length ≤ 90000) (hn : n < 9223372036854775808) (hm : m < 9223372036854775808) :
    Calls Try.prog 19 #[v, .int .i64 (n : Nat), .int .i64 (m : Nat)] w fun e w' => ∃ v', e = .returned v' ∧ Sl w' w'.heap.size v' (xs ++ (be 1 n ++ be 4 m)) ∧ Below w.heap.size w w' := by
  have p1 := put_num v 1 n xs w h (by omega) (by omega)
  rw [putNum_1] at p1
  have p2 := fun (v : Value) (W : World) (hv : Sl W W.heap.size v (xs ++ be 1 n)) => put_num v 4 m (xs ++ be 1 n) W hv (by rw [List.length_append, be_length]; omega) (by omega)
  rw [putNum_4] at p2
  obtain ⟨A0, n0, c0, rfl, _⟩ := id h
  have P1 := Lib.hid p1; clear p1
  have P2 := Lib.hid p2; clear p2
  clear h
  go_enter Try.func19, Try.ntmps19
  go_wp2_with (first
    | (have HM1 := P1; go_at_call 18; refine (P1.out).mono ?_; rintro e w2 ⟨v2, rfl, hs2, hb2⟩; have HS2 := Lib.hid hs2; have HB2 := Lib.hid hb2; clear hs2 hb2 HM1 P1)
    | (go_at_call 18; refine (P2.out _ _ HS2.out).mono ?_; rintro e w3 ⟨v3, rfl, hs3, hb3⟩; have HS3 := Lib.hid hs3; have HB3 := Lib.hid (low_low HB2.out hb3); clear hs3 hb3))
  go_ret
  exact ⟨_, rfl, sl_cast14 HS3.out (by simp), HB3.out⟩
theorem blk_c14 {w : World} {g : Nat} {t : TypeId} {a b : Value} (h : Blk w g t #[a, b]) : w.cell? ⟨g, 1, none⟩ = some b ∧ g < w.heap.size := ⟨by rw [h.cell]; rfl, h.lt⟩
set_option maxRecDepth 20000 in
set_option maxHeartbeats 8000000 in
theorem putHeard_any (v : Value) (xs : List Nat) (A : Option Addr) (n c : Nat) (l : List Lk) (w : World) (hb : Sl w w.heap.size v xs) (hx : xs.length ≤ 1000) (h : Lks w w.heap.size (.slice A n c) l) (hn : n ≤ 64) (ho : epOk 0 l = true) :
    Calls Try.prog 20 #[v, .slice A n c] w fun e w' => ∃ v', e = .returned v' ∧ Sl w' w'.heap.size v' (xs ++ (be 1 n ++ linkBytes l)) ∧ Below w.heap.size w w' := by
  obtain ⟨hl, hnc, hcm, _⟩ := lks_len h
  unfold maxLen at hcm
  have hall := ep_all14 (Int.le_refl 0) ho
  have p1 := put_num v 1 n xs w hb (by omega) (by omega)
  rw [putNum_1] at p1
  obtain ⟨H, hH⟩ : ∃ H, H = xs ++ be 1 n := ⟨_, rfl⟩
  have hHl : H.length ≤ 1001 := by rw [hH, List.length_append, be_length]; omega
  rw [← hH] at p1
  obtain ⟨A0, n0, c0, rfl, _⟩ := id hb
  have P1 := Lib.hid p1; clear p1
  have HP := Lib.hid h; clear h
  have HL := Lib.hid hl; clear hl
  have HH := Lib.hid hH; clear hH
  have HHL := Lib.hid hHl; clear hHl
  have ALL := Lib.hid hall; clear hall ho hb hx
  go_enter Try.func20, Try.ntmps20
  go_wp2_with (go_at_call 18; refine (P1.out).mono ?_; rintro e w2 ⟨v2, rfl, hs2, hb2⟩; have HS2 := Lib.hid hs2; have HB2 := Lib.hid hb2; clear hs2 hb2)
  go_loopw [0, 14] (fun z i wr => ∃ k : Nat, k ≤ n ∧ i = .int .i64 k ∧ Sl wr wr.heap.size z (H ++ linkBytes (l.take k)) ∧ Below w.heap.size w wr) (fun _ i _ => n - (intOf i).toNat)
  case atStart => exact ⟨0, Nat.zero_le _, rfl, sl_cast14 HS2.out (by simp [linkBytes]), HB2.out⟩
  case round =>
    clear HS2 HB2 P1
    obtain ⟨k, hk, rfl, hsl, hbw⟩ := hrel
    obtain ⟨A5, n5, c5, rfl, _⟩ := id hsl
    by_cases hlt : k < n
    · obtain ⟨b, off, rfl, hb, hc⟩ := lks_at (HP.out.below hbw (Nat.le_refl _)) (by omega)
      obtain ⟨c0, c1_⟩ := hc k hlt
      have hkl : k < l.length := by rw [HL.out]; exact hlt
      obtain ⟨⟨e1, e2⟩, e3, e4⟩ := ALL.out _ (mem_at l (0, 0) k hkl)
      have hsu := linkBytes_at l k hkl
      have hlen : (H ++ linkBytes (l.take k)).length ≤ 2000 := by
        have := linkBytes_length (l.take k)
        have h2 : (l.take k).length ≤ k := by rw [List.length_take]; omega
        have := HHL.out
        rw [List.length_append]
        omega
      clear hc
      generalize l.getD k (0, 0) = x at *
      obtain ⟨xo, xn⟩ := x
      simp only at c0 c1_ e1 e2 e3 e4 hsu
      obtain ⟨xo, rfl⟩ : ∃ q : Nat, xo = (q : Int) := ⟨xo.toNat, by omega⟩
      obtain ⟨xn, rfl⟩ : ∃ q : Nat, xn = (q : Int) := ⟨xn.toNat, by omega⟩
      simp only [Int.toNat_natCast] at hsu
      have HSU := Lib.hid hsu; clear hsu
      have hb1 := low1 (Below.refl wr.heap.size wr) (.cells #[.int .i64 (xo : Int), .int .i64 (xn : Int)] 59)
      have k1 := Blk.new wr 59 #[.int .i64 (xo : Int), .int .i64 (xn : Int)]
      have p5 := fun (W : World) (hW : Below wr.heap.size wr W) => putWho_any (.slice A5 n5 c5) _ xo xn W (sl_up hsl hW) (by omega) (by omega) (by omega)
      have P5 := Lib.hid p5; clear p5
      have HB1 := Lib.hid hb1; clear hb1 k1
      have HBW := Lib.hid hbw; clear hbw
      clear hlen hsl
      go_wp2_with (go_at_call 19; refine (P5.out _ HB1.out).mono ?_; rintro e w9 ⟨v9, rfl, hs9, hb9⟩; have HS9 := Lib.hid hs9; have HB9 := Lib.hid (low_low HBW.out (low_low HB1.out hb9)); clear hs9 hb9)
      go_roundw
      case rel => exact ⟨k + 1, by omega, by go_num, sl_cast14 HS9.out (by rw [HSU.out]; simp only [List.append_assoc]), HB9.out⟩
      case measure => simp [intOf]; omega
    · obtain rfl : k = n := by omega
      rw [List.take_of_length_le (by have := HL.out; omega)] at hsl
      have HF := Lib.hid (sl_cast14 (ys := xs ++ (be 1 k ++ linkBytes l)) hsl (by rw [HH.out, List.append_assoc])); clear hsl
      have HBW := Lib.hid hbw; clear hbw
      go_wp2
      go_ret
      exact ⟨_, rfl, HF.out, HBW.out⟩
set_option maxRecDepth 20000 in
set_option maxHeartbeats 8000000 in
theorem putItems_any (v : Value) (xs : List Nat) (A : Option Addr) (n c : Nat) (l : List Lk) (w : World) (hb : Sl w w.heap.size v xs) (hx : xs.length ≤ 1000) (h : Lks w w.heap.size (.slice A n c) l) (hn : n ≤ 64) (ho : itOk 0 l = true) :
    Calls Try.prog 21 #[v, .slice A n c] w fun e w' => ∃ v', e = .returned v' ∧ Sl w' w'.heap.size v' (xs ++ (be 1 n ++ itBytes l)) ∧ Below w.heap.size w w' := by
  obtain ⟨hl, hnc, hcm, _⟩ := lks_len h
  unfold maxLen at hcm
  have hall := it_all14 (Int.le_refl 0) ho
  have p1 := put_num v 1 n xs w hb (by omega) (by omega)
  rw [putNum_1] at p1
  obtain ⟨H, hH⟩ : ∃ H, H = xs ++ be 1 n := ⟨_, rfl⟩
  have hHl : H.length ≤ 1001 := by rw [hH, List.length_append, be_length]; omega
  rw [← hH] at p1
  obtain ⟨A0, n0, c0, rfl, _⟩ := id hb
  have P1 := Lib.hid p1; clear p1
  have HP := Lib.hid h; clear h
  have HL := Lib.hid hl; clear hl
  have HH := Lib.hid hH; clear hH
  have HHL := Lib.hid hHl; clear hHl
  have ALL := Lib.hid hall; clear hall ho hb hx
  go_enter Try.func21, Try.ntmps21
  go_wp2_with (go_at_call 18; refine (P1.out).mono ?_; rintro e w2 ⟨v2, rfl, hs2, hb2⟩; have HS2 := Lib.hid hs2; have HB2 := Lib.hid hb2; clear hs2 hb2)
  go_loopw [0, 14] (fun z i wr => ∃ k : Nat, k ≤ n ∧ i = .int .i64 k ∧ Sl wr wr.heap.size z (H ++ itBytes (l.take k)) ∧ Below w.heap.size w wr) (fun _ i _ => n - (intOf i).toNat)
  case atStart => exact ⟨0, Nat.zero_le _, rfl, sl_cast14 HS2.out (by simp [itBytes]), HB2.out⟩
  case round =>
    clear HS2 HB2 P1
    obtain ⟨k, hk, rfl, hsl, hbw⟩ := hrel
    obtain ⟨A5, n5, c5, rfl, _⟩ := id hsl
    by_cases hlt : k < n
    · obtain ⟨b, off, rfl, hb, hc⟩ := lks_at (HP.out.below hbw (Nat.le_refl _)) (by omega)
      obtain ⟨c0, c1_⟩ := hc k hlt
      have hkl : k < l.length := by rw [HL.out]; exact hlt
      obtain ⟨⟨e1, e2⟩, e3, e4⟩ := ALL.out _ (mem_at l (0, 0) k hkl)
      have hsu := itBytes_at l k hkl
      have hlen : (H ++ itBytes (l.take k)).length ≤ 2000 := by
        have := itBytes_length (l.take k)
        have h2 : (l.take k).length ≤ k := by rw [List.length_take]; omega
        have := HHL.out
        rw [List.length_append]
        omega
      clear hc
      generalize l.getD k (0, 0) = x at *
      obtain ⟨xo, xn⟩ := x
      simp only at c0 c1_ e1 e2 e3 e4 hsu
      obtain ⟨xo, rfl⟩ : ∃ q : Nat, xo = (q : Int) := ⟨xo.toNat, by omega⟩
      obtain ⟨xn, rfl⟩ : ∃ q : Nat, xn = (q : Int) := ⟨xn.toNat, by omega⟩
      simp only [Int.toNat_natCast] at hsu
      have HSU := Lib.hid hsu; clear hsu
      have hb1 := low1 (Below.refl wr.heap.size wr) (.cells #[.int .i64 (xo : Int), .int .i64 (xn : Int)] 64)
      have k1 := Blk.new wr 64 #[.int .i64 (xo : Int), .int .i64 (xn : Int)]
      have p5 := fun (W : World) (hW : Below wr.heap.size wr W) => put_num (.slice A5 n5 c5) 1 xo _ W (sl_up hsl hW) (by omega) (by omega)
      rw [putNum_1] at p5
      have p6 := fun (v : Value) (W : World) (hv : Sl W W.heap.size v (H ++ itBytes (l.take k) ++ be 1 xo)) => put_num v 8 xn _ W hv (by rw [List.length_append, be_length]; omega) (by omega)
      rw [putNum_8] at p6
      have P5 := Lib.hid p5; clear p5
      have P6 := Lib.hid p6; clear p6
      have HB1 := Lib.hid hb1; clear hb1
      have K1 := Lib.hid k1; clear k1
      have HBW := Lib.hid hbw; clear hbw
      clear hlen hsl
      go_wp2_with (first
        | (have HM5 := P5; go_at_call 18; refine (P5.out _ HB1.out).mono ?_; rintro e w8 ⟨v8, rfl, hs8, hb8⟩; have HS8 := Lib.hid hs8; have HB8 := Lib.hid (low_low HB1.out hb8); have q1 := blk_c14 (K1.out.below hb8 K1.out.lt); clear hs8 hb8 HM5 P5)
        | (go_at_call 18; refine (P6.out _ _ HS8.out).mono ?_; rintro e w9 ⟨v9, rfl, hs9, hb9⟩; have HS9 := Lib.hid hs9; have HB9 := Lib.hid (low_low HBW.out (low_low HB8.out hb9)); clear hs9 hb9))
      go_roundw
      case rel => exact ⟨k + 1, by omega, by go_num, sl_cast14 HS9.out (by rw [HSU.out]; simp only [List.append_assoc]), HB9.out⟩
      case measure => simp [intOf]; omega
    · obtain rfl : k = n := by omega
      rw [List.take_of_length_le (by have := HL.out; omega)] at hsl
      have HF := Lib.hid (sl_cast14 (ys := xs ++ (be 1 k ++ itBytes l)) hsl (by rw [HH.out, List.append_assoc])); clear hsl
      have HBW := Lib.hid hbw; clear hbw
      go_wp2
      go_ret
      exact ⟨_, rfl, HF.out, HBW.out⟩
set_option maxRecDepth 20000 in
set_option maxHeartbeats 8000000 in
theorem putLsas_any (v : Value) (xs : List Nat) (A : Option Addr) (n c : Nat) (l : List La) (w : World) (hb : Sl w w.heap.size v xs) (hx : xs.length ≤ 1000) (h : Las w w.heap.size (.slice A n c) l) (hn : n ≤ 64) (ho : dbOk 0 l = true) :
    Calls Try.prog 22 #[v, .slice A n c] w fun e w' => ∃ v', e = .returned v' ∧ Sl w' w'.heap.size v' (xs ++ (be 1 n ++ lsBytes l)) ∧ Below w.heap.size w w' := by
  obtain ⟨hl, hnc, hcm, _⟩ := las_len h
  unfold maxLen at hcm
  have hall := ls_all14 ho
  have p1 := put_num v 1 n xs w hb (by omega) (by omega)
  rw [putNum_1] at p1
  obtain ⟨H, hH⟩ : ∃ H, H = xs ++ be 1 n := ⟨_, rfl⟩
  have hHl : H.length ≤ 1001 := by rw [hH, List.length_append, be_length]; omega
  rw [← hH] at p1
  obtain ⟨A0, n0, c0, rfl, _⟩ := id hb
  have P1 := Lib.hid p1; clear p1
  have HP := Lib.hid h; clear h
  have HL := Lib.hid hl; clear hl
  have HH := Lib.hid hH; clear hH
  have HHL := Lib.hid hHl; clear hHl
  have ALL := Lib.hid hall; clear hall ho hb hx
  go_enter Try.func22, Try.ntmps22
  go_wp2_with (go_at_call 18; refine (P1.out).mono ?_; rintro e w2 ⟨v2, rfl, hs2, hb2⟩; have HS2 := Lib.hid hs2; have HB2 := Lib.hid hb2; clear hs2 hb2)
  go_loopw [0, 14] (fun z i wr => ∃ k : Nat, k ≤ n ∧ i = .int .i64 k ∧ Sl wr wr.heap.size z (H ++ lsBytes (l.take k)) ∧ Below w.heap.size w wr) (fun _ i _ => n - (intOf i).toNat)
  case atStart => exact ⟨0, Nat.zero_le _, rfl, sl_cast14 HS2.out (by simp [lsBytes]), HB2.out⟩
  case round =>
    clear HS2 HB2 P1
    obtain ⟨k, hk, rfl, hsl, hbw⟩ := hrel
    obtain ⟨A5, n5, c5, rfl, _⟩ := id hsl
    by_cases hlt : k < n
    · obtain ⟨b, off, rfl, hb, hc⟩ := las_at (HP.out.keep hbw) (by omega)
      obtain ⟨u, hr, hlk⟩ := hc k hlt
      have c0 := hr 0 _ rfl
      have c1_ := hr 1 _ rfl
      have c2_ := hr 2 _ rfl
      rw [Nat.add_zero] at c0
      have hkl : k < l.length := by rw [HL.out]; exact hlt
      have hma : may (l.getD k zeroL).o (l.getD k zeroL).s (l.getD k zeroL).ls = true := ALL.out _ (mem_at l zeroL k hkl)
      have hsu := lsBytes_at l k hkl
      have hlen : (H ++ lsBytes (l.take k)).length ≤ 9000 := by
        have h1 := lsBytes_len (l.take k) (fun a ha => ALL.out a (List.mem_of_mem_take ha))
        have h2 : (l.take k).length ≤ k := by rw [List.length_take]; omega
        have := HHL.out
        rw [List.length_append]
        omega
      clear hc hr
      generalize l.getD k zeroL = x at *
      obtain ⟨Au, nu, cu, rfl, _, hr_⟩ := id hlk
      clear hr_
      have hlk1 := hlk.more hbw.size
      have p4 := fun (W : World) (hW : Below wr.heap.size wr W) => lput_yes x.o x.s (.slice A5 n5 c5) _ Au nu cu x.ls W (sl_up hsl hW) (by omega) (hlk1.up hW) hma
      have P4 := Lib.hid p4; clear p4
      have HSU := Lib.hid hsu; clear hsu
      have hb1 := low1 (Below.refl wr.heap.size wr) (.cells #[.int .i64 x.o, .int .i64 x.s, .slice Au nu cu] 49)
      have HB1 := Lib.hid hb1; clear hb1
      have HBW := Lib.hid hbw; clear hbw
      clear hlk hlk1 hma hlen hsl
      go_wp2_with (go_at_call 45; refine (P4.out _ HB1.out).mono ?_; rintro e w7 ⟨v7, rfl, hs7, hb7⟩; have HS7 := Lib.hid hs7; have HB7 := Lib.hid (low_low HBW.out (low_low HB1.out hb7)); clear hs7 hb7)
      go_roundw
      case rel => exact ⟨k + 1, by omega, by go_num, sl_cast14 HS7.out (by rw [HSU.out, List.append_assoc]), HB7.out⟩
      case measure => simp [intOf]; omega
    · obtain rfl : k = n := by omega
      rw [List.take_of_length_le (by have := HL.out; omega)] at hsl
      have HF := Lib.hid (sl_cast14 (ys := xs ++ (be 1 k ++ lsBytes l)) hsl (by rw [HH.out, List.append_assoc])); clear hsl
      have HBW := Lib.hid hbw; clear hbw
      go_wp2
      go_ret
      exact ⟨_, rfl, HF.out, HBW.out⟩
end Go.Proofs.Ytpolpppnajfhdaa.Pkt
