/- The changes whose bytes they are, by the reference (layer 10): the contract of waymarkref10.Get. Condition: at most 2000 bytes. -/
import Derived.Test.YtjdlkejdgekbaaaChgGuess
import Derived.Test.YtjdlkejdgekbaaaChgRefPut
import Derived.Test.YtjdlkejdgekbaaaSame
namespace Go.Proofs.Ytjdlkejdgekbaaa.Chg
open Go.RowKit Go.Proofs.Ytjdlkejdgekbaaa.Mem Go.Proofs.Ytjdlkejdgekbaaa.Oct Go.Proofs.Ytjdlkejdgekbaaa.Lsa
set_option linter.unusedVariables false
set_option linter.unusedSimpArgs false
def RGetOut (w : World) (r : Option (List Ch)) (e : Ending) (w' : World) : Prop :=
  ∃ v, e = .returned (.tuple #[v, .bool r.isSome]) ∧ Chs w' w'.heap.size v (r.getD []) ∧ Below w.heap.size w w'
theorem getR_none {xs : List Nat} (h0 : xs ≠ []) (k : Nat) (hk : k ≤ min (xs.getD 0 0) 41) (h : takes (xs.drop 1) k = none) : getR xs = none := by
  unfold getR
  rw [if_neg h0, takes_none h hk]
theorem getR_end {xs : List Nat} (h0 : xs ≠ []) (q : List Nat) (l : List Ch) (h : takes (xs.drop 1) (min (xs.getD 0 0) 41) = some (q, l)) : getR xs = if okAll l = true ∧ putC l = xs then some l else none := by
  unfold getR
  rw [if_neg h0, h]
theorem takes_len {r : List Nat} : ∀ {k : Nat} {q : List Nat} {l : List Ch}, takes r k = some (q, l) → l.length = k
  | 0, q, l, h => by
    simp only [takes, Option.some.injEq, Prod.mk.injEq] at h
    rw [← h.2]; rfl
  | k + 1, q, l, h => by
    cases hq : takes r k with
    | none => simp [takes, hq] at h
    | some p =>
      obtain ⟨q', l'⟩ := p
      have ih := takes_len hq
      simp only [takes, hq] at h
      split at h
      · simp only [Option.some.injEq, Prod.mk.injEq] at h
        rw [← h.2]; simp [ih]
      · cases h
theorem ownC_drop {w : World} {base : Nat} {v : Value} {cs : List Ch} {n : Nat} (h : OwnC w base v cs) (hl : cs.length = n) : ∃ A c, v = .slice A n c := by
  obtain ⟨A, c, e⟩ := h.form
  exact ⟨A, c, by rw [e, hl]⟩
set_option maxRecDepth 20000 in
set_option maxHeartbeats 4000000 in
theorem rget_any (A : Option Addr) (n c : Nat) (xs : List Nat) (w : World) (h : Sl w w.heap.size (.slice A n c) xs) (hn : n ≤ 2000) :
    Calls Try.prog 31 #[.slice A n c] w (RGetOut w (getR xs)) := by
  have hbt := sl_bts2 h
  have hl := hbt.1
  by_cases hn0 : n = 0
  · subst hn0
    have : xs = [] := List.eq_nil_of_length_eq_zero hl
    subst this
    have hR : getR [] = none := by simp [getR]
    rw [hR]
    clear hbt hl h
    go_enter Try.func31, Try.ntmps31
    go_wp2
    exact bodyPost_ret (v := .tuple #[.slice none 0 0, .bool false]) (by simp [results, Try.results31, go_sem]) rfl ⟨_, rfl, chs_nil _ _, Below.refl _ _⟩
  have hn1 : 0 < n := by omega
  have dn : ((n : Int) == 0) = false := by rw [beq_eq_false_iff_ne]; omega
  have hx0 : xs ≠ [] := fun e => by subst e; simp at hl; omega
  have hnone := @getR_none xs hx0
  have hend := @getR_end xs hx0
  obtain ⟨b, off, rfl, hb, hc⟩ := hbt.2.2.2 hn1
  have c0 := hc 0 hn1
  have hlt0 := getD_lt hbt.2.1 0
  obtain ⟨A1, hcut, hs1⟩ := sl_cut h 1 hn1
  have e1 : ((1 : Nat) : Int) = 1 := rfl
  rw [e1] at hcut
  clear e1
  generalize xs.getD 0 0 = x0 at *
  generalize getR xs = R at *
  have hcx : ∀ (W : World), Below w.heap.size w W → W.cell? ⟨b, off, none⟩ = some (.int .u8 (x0 : Nat)) := fun W hW => by
    have := (hW.cell (p := ⟨b, off + 0, none⟩) hb).trans c0
    simpa using this
  have HCX := Lib.hid hcx; clear hcx c0 hc
  have HX := Lib.hid (fun (W : World) (hW : Below w.heap.size w W) => sl_up h hW)
  have HNONE := Lib.hid hnone; clear hnone
  have HEND := Lib.hid hend; clear hend
  have HS1 := Lib.hid hs1; clear hs1
  have HOC := Lib.hid (ownC_lit w w.heap.size w.heap.size rfl (Nat.le_refl _))
  have HB1 := Lib.hid (low1 (Below.refl w.heap.size w) (.cells #[] 50))
  obtain ⟨i0, hi, hz0, hz1, hz2⟩ := info_parts infoC
  have HI := Lib.hid hi; clear hi
  have HZ0 := Lib.hid hz0; clear hz0
  have HZ1 := Lib.hid hz1; clear hz1
  have HZ2 := Lib.hid hz2; clear hz2
  have HL := Lib.hid hl; clear hl
  obtain ⟨m, hm⟩ : ∃ m, m = min x0 41 := ⟨_, rfl⟩
  rw [← hm] at HEND HNONE
  have hm41 : m ≤ 41 := by omega
  have HM := Lib.hid hm; clear hm
  clear h hbt
  go_enter Try.func31, Try.ntmps31
  go_wp2
  go_loopw [4, 5, 6] (fun z r i wr => ∃ (k : Nat) (q : List Nat) (l : List Ch), k ≤ m ∧ i = .int .i64 k ∧ takes (xs.drop 1) k = some (q, l) ∧ OwnC wr w.heap.size z l ∧ Sl w w.heap.size r q ∧ q.length ≤ 2000 ∧ Below w.heap.size w wr) (fun _ _ i _ => m - (intOf i).toNat)
  case atStart => exact ⟨0, xs.drop 1, [], Nat.zero_le _, rfl, rfl, HOC.out, HS1.out, by rw [List.length_drop, HL.out]; omega, HB1.out⟩
  case round =>
    obtain ⟨k, q, l, hk, rfl, htk, hown, hrest, hql, hbw⟩ := hrel
    have hlen := takes_len htk
    obtain ⟨A4, c4, rfl⟩ := ownC_drop hown hlen
    obtain ⟨A5, n5, c5, rfl, hq5, _⟩ := id hrest
    have hn5 := hq5.1
    have HQ5 := Lib.hid hn5; clear hn5 hq5
    have d0 := HCX.out _ hbw
    have HOW := Lib.hid hown; clear hown
    have HBW := Lib.hid hbw; clear hbw
    have HRS := Lib.hid hrest; clear hrest
    by_cases hlt : k < m
    · have p1 : decide ((k : Int) < (x0 : Int)) = true := by have := HM.out; simp; omega
      have p1' : decide (k < x0) = true := by have := HM.out; simp; omega
      have p2 : decide ((k : Int) < 41) = true := by have := HM.out; simp; omega
      have hy := takes_yes htk
      have hno := takes_no htk
      have gs := guess_any A5 n5 c5 q wr (sl_up HRS.out HBW.out)
      generalize (readC (q, true)).2 = x at *
      have GS := Lib.hid gs; clear gs
      have my := fun (u : Value) (W : World) (hL : Lks W W.heap.size u x.ls) => rmay_c x u W hL
      cases hmx : mayC x
      · have HRN := Lib.hid (HNONE.out (k + 1) hlt (hno (fun hh => by rw [hmx] at hh; exact absurd hh.1 (by simp))))
        rw [hmx] at my
        have MY := Lib.hid my; clear my hy hno htk
        go_wp2_with (first
          | (go_at_call 64; refine (GS.out).mono ?_; rintro e w5 ⟨u5, rfl, ⟨n6, ho5⟩, hb5⟩; obtain ⟨Au, cu, rfl⟩ := Lsa.own_form ho5; have HL5 := Lib.hid (lks_own ho5); have HB5 := Lib.hid (low_low HBW.out hb5); clear ho5 hb5)
          | (go_at_call 22; refine (MY.out _ _ (HL5.out.up (low1 (Below.refl _ _) _))).mono ?_; rintro e w6 ⟨rfl, hb6⟩; have HB6 := Lib.hid (low_low (low1 HB5.out _) hb6); clear hb6))
        exact bodyPost_ret (v := .tuple #[.slice none 0 0, .bool false]) (by simp [results, Try.results31, go_sem]) rfl ⟨_, by rw [HRN.out]; rfl, by rw [HRN.out]; exact chs_nil _ _, HB6.out⟩
      · rw [hmx] at my
        have MY := Lib.hid my; clear my
        have on := fun (u : Value) (W : World) (hL : Lks W W.heap.size u x.ls) => rone_any x u W hL hmx
        have hbl := bytesC_len hmx
        obtain ⟨bn, hbn⟩ : ∃ bn, bn = (bytesC x).length := ⟨_, rfl⟩
        rw [← hbn] at hbl hy hno
        generalize bytesC x = bs at *
        have HBN := Lib.hid hbn; clear hbn
        have ON := Lib.hid on; clear on
        by_cases hfit : bn ≤ q.length
        · have p3 : decide ((n5 : Int) < (bn : Int)) = false := by have := HQ5.out; simp; omega
          have p3' : decide (n5 < bn) = false := by have := HQ5.out; simp; omega
          have HY := Lib.hid (hy hmx hfit); clear hy hno htk
          obtain ⟨A9, hcut9, hs9⟩ := sl_cut HRS.out bn (by have := HQ5.out; omega)
          have HS9 := Lib.hid hs9; clear hs9
          go_upto_region 11 with (first
            | (go_at_call 64; refine (GS.out).mono ?_; rintro e w5 ⟨u5, rfl, ⟨n6, ho5⟩, hb5⟩; obtain ⟨Au, cu, rfl⟩ := Lsa.own_form ho5; have HO5 := Lib.hid ho5; have HC5 := Lib.hid (HOW.out.below hb5); have hs5 := hb5.size; have hb5l := low1 hb5 (.cells #[.int .i64 x.k, .int .i64 x.o, .int .i64 x.s, .slice Au n6 cu, .int .i64 x.n, .int .i64 x.f] 50); have HB5 := Lib.hid (low_low HBW.out hb5l); have K5 := Lib.hid (Blk.new w5 50 #[.int .i64 x.k, .int .i64 x.o, .int .i64 x.s, .slice Au n6 cu, .int .i64 x.n, .int .i64 x.f]); clear ho5 hb5 hb5l)
            | (go_at_call 22; refine (MY.out _ _ ((lks_own HO5.out).up (low1 (Below.refl _ _) _))).mono ?_; rintro e w6 ⟨rfl, hb6⟩; have hb56 := low_low (low1 (Below.refl w5.heap.size w5) (.cells #[.int .i64 x.k, .int .i64 x.o, .int .i64 x.s, .slice Au n6 cu, .int .i64 x.n, .int .i64 x.f] 50)) hb6; have HB56 := Lib.hid hb56; have HB6 := Lib.hid (low_low HB5.out hb6); have K6 := Lib.hid (K5.out.below hb6 K5.out.lt); obtain ⟨x0', x1, x2, x3, x4, x5, x6⟩ := blk_cells6 K6.out; clear hb6 hb56)
            | (go_at_call 63; refine (ON.out _ _ ((lks_own HO5.out).up HB56.out)).mono ?_; rintro e w7 ⟨v7, rfl, hs7, hb7⟩; obtain ⟨A7, n7, c7, rfl, ht7, _⟩ := id hs7; have hn7 : n7 = bn := (by rw [← ht7.1, HBN.out]); subst hn7; have hb57 := low_low HB56.out hb7; have HB57 := Lib.hid hb57; have HB7 := Lib.hid (low_low HB6.out hb7); have K7 := Lib.hid (K6.out.below hb7 K6.out.lt); have HO7 := Lib.hid (own_below HO5.out hb57); have HC7 := Lib.hid (HC5.out.below hb57); have hs57 := hb57.size; obtain ⟨y0, y1, y2, y3, y4, y5, y6⟩ := blk_cells6 K7.out; clear hs7 hb7 ht7 hb57))
          obtain ⟨us, hul, hor, hlk⟩ := HC7.out
          have HUL := Lib.hid hul; clear hul
          have HOR := Lib.hid hor; clear hor
          have HLK := Lib.hid hlk; clear hlk
          rewrite [hlen] at HOR
          have p4 : (0 : Int) ≤ (n7 : Int) := by omega
          have p5 : (n7 : Int) ≤ (n5 : Int) := by have := HQ5.out; omega
          go_wp2_with (first
            | (at_builtin; (refine wpList_append_any _ rfl (.tmp 39) (.tmp 41) 45 rfl w.heap.size 50 i0 (.agg #[.int .i64 0, .int .i64 0, .int .i64 0, .slice none 0 0, .int .i64 0, .int .i64 0]) 6 64 Try.underlying45 HI.out HZ0.out HZ1.out HZ2.out rfl (by decide) (.slice A4 k c4) k (flatC l us) rfl (HOR.out.alloc _) (w7.heap.size + 1) (some ⟨w7.heap.size, 0, none⟩) 1 1 (rowC x (.slice Au n6 cu)) rfl (reads_change w7 x _ _ rfl) (rowC_one _ _ _ _) (by unfold maxLen; omega) (by omega) (by have := HB7.out.size; simp; omega) ?_; intro v8 w8 hown8 hg8 hv8; have hbo := (fun q hq => (HC7.out.ownLt q hq).1 : ∀ q, (Value.slice A4 k c4).ownBlock = some q → w.heap.size ≤ q); have HO8 := Lib.hid (ownC_push HUL.out (fun i hi => (HLK.out i hi).below (low1 (Below.refl w7.heap.size w7) (.cells #[.int .i64 x.k, .int .i64 x.o, .int .i64 x.s, .slice Au n6 cu, .int .i64 x.n, .int .i64 x.f] 50))) ((lkA_new HO7.out HBW.out.size (fun q hq => (HOW.out.ownLt q hq).2)).below (low1 (Below.refl _ _) _)) (by rw [hlen]; exact hown8) hg8 hv8); have HB8 := Lib.hid ((low1 HB7.out (.cells #[.int .i64 x.k, .int .i64 x.o, .int .i64 x.s, .slice Au n6 cu, .int .i64 x.n, .int .i64 x.f] 50)).grown hg8 (low1 HB7.out _).size hbo); have hne8 : some w5.heap.size ≠ (Value.slice A4 k c4).ownBlock := (fun e => by have h1 := (HOW.out.ownLt _ e.symm).2; omega); have K8 := Lib.hid ((K7.out.alloc (.cells #[.int .i64 x.k, .int .i64 x.o, .int .i64 x.s, .slice Au n6 cu, .int .i64 x.n, .int .i64 x.f] 50)).grown hg8 hne8); have HL8 := Lib.hid (((lkA_new HO7.out HBW.out.size (fun q hq => (HOW.out.ownLt q hq).2)).below (low1 (Below.refl w7.heap.size w7) (.cells #[.int .i64 x.k, .int .i64 x.o, .int .i64 x.s, .slice Au n6 cu, .int .i64 x.n, .int .i64 x.f] 50))).grown hg8 hv8).1; obtain ⟨z0, z1, z2, z3, z4, z5, z6⟩ := blk_cells6 K8.out; clear hown8 hg8 hv8 hbo))
            | (go_at_call 63; refine (ON.out _ _ HL8.out).mono ?_; rintro e w9 ⟨v9, rfl, hs9', hb9⟩; obtain ⟨A9', n9, c9, rfl, ht9, _⟩ := id hs9'; have hn9 : n9 = n7 := (by rw [← ht9.1, HBN.out]); subst hn9; have HB9 := Lib.hid (low_low HB8.out hb9); have HO9 := Lib.hid (HO8.out.below hb9); clear hs9' hb9 ht9))
          go_roundw
          case rel => exact ⟨k + 1, _, l ++ [x], by omega, by go_num, HY.out, HO9.out, HS9.out, by rw [List.length_drop]; omega, HB9.out⟩
          case measure => simp [intOf]; omega
        · have p3 : decide ((n5 : Int) < (bn : Int)) = true := by have := HQ5.out; simp; omega
          have p3' : decide (n5 < bn) = true := by have := HQ5.out; simp; omega
          have HRN := Lib.hid (HNONE.out (k + 1) hlt (hno (fun hh => hfit hh.2))); clear hno hy htk
          go_wp2_with (first
            | (go_at_call 64; refine (GS.out).mono ?_; rintro e w5 ⟨u5, rfl, ⟨n6, ho5⟩, hb5⟩; obtain ⟨Au, cu, rfl⟩ := Lsa.own_form ho5; have HO5 := Lib.hid ho5; have HB5 := Lib.hid (low1 (low_low HBW.out hb5) (.cells #[.int .i64 x.k, .int .i64 x.o, .int .i64 x.s, .slice Au n6 cu, .int .i64 x.n, .int .i64 x.f] 50)); have K5 := Lib.hid (Blk.new w5 50 #[.int .i64 x.k, .int .i64 x.o, .int .i64 x.s, .slice Au n6 cu, .int .i64 x.n, .int .i64 x.f]); clear ho5 hb5)
            | (go_at_call 22; refine (MY.out _ _ ((lks_own HO5.out).up (low1 (Below.refl _ _) _))).mono ?_; rintro e w6 ⟨rfl, hb6⟩; have HB56 := Lib.hid (low_low (low1 (Below.refl w5.heap.size w5) (.cells #[.int .i64 x.k, .int .i64 x.o, .int .i64 x.s, .slice Au n6 cu, .int .i64 x.n, .int .i64 x.f] 50)) hb6); have HB6 := Lib.hid (low_low HB5.out hb6); obtain ⟨x0', x1, x2, x3, x4, x5, x6⟩ := blk_cells6 (K5.out.below hb6 K5.out.lt); clear hb6)
            | (go_at_call 63; refine (ON.out _ _ ((lks_own HO5.out).up HB56.out)).mono ?_; rintro e w7 ⟨v7, rfl, hs7, hb7⟩; obtain ⟨A7, n7, c7, rfl, ht7, _⟩ := id hs7; have hn7 : n7 = bn := (by rw [← ht7.1, HBN.out]); subst hn7; have HB7 := Lib.hid (low_low HB6.out hb7); clear hs7 hb7 ht7))
          exact bodyPost_ret (v := .tuple #[.slice none 0 0, .bool false]) (by simp [results, Try.results31, go_sem]) rfl ⟨_, by rw [HRN.out]; rfl, by rw [HRN.out]; exact chs_nil _ _, HB7.out⟩
    · obtain rfl : k = m := by omega
      have hen := HEND.out q l htk
      have al := rall_any A4 k c4 l wr (ownC_chs HOW.out)
      have hgd : (decide (k < x0) = true ∧ decide ((k : Int) < 41) = false) ∨ decide (k < x0) = false := by
        have := HM.out
        by_cases h1 : k < x0
        · left; simp [h1]; omega
        · right; simp [h1]
      cases hok : okAll l
      · rw [hok] at al
        have AL := Lib.hid al; clear al
        rw [hok, if_neg (by simp)] at hen
        have HEN := Lib.hid hen; clear hen htk
        rcases hgd with ⟨g1, g2⟩ | g1
        all_goals
          go_wp2_with (go_at_call 26; refine (AL.out).mono ?_; rintro e w6 ⟨rfl, hb6⟩; have HB6 := Lib.hid (low_low HBW.out hb6); clear hb6)
          exact bodyPost_ret (v := .tuple #[.slice none 0 0, .bool false]) (by simp [results, Try.results31, go_sem]) rfl ⟨_, by rw [HEN.out]; rfl, by rw [HEN.out]; exact chs_nil _ _, HB6.out⟩
      · have pt := fun (W : World) (hW : Below wr.heap.size wr W) => rputs_any A4 k c4 l W ((ownC_chs HOW.out).up hW) hok
        have sm := fun (A' : Option Addr) (n' c' : Nat) (W : World) (hA : Sl W W.heap.size (.slice A' n' c') (putC l)) (hW : Below w.heap.size w W) => rsame_any A' (some ⟨b, off, none⟩) n' n c' c _ _ (putC l) xs W (sl_bts2 hA) (sl_bts2 (HX.out W hW))
        rw [hok] at al hen
        simp only [true_and] at hen
        have AL := Lib.hid al; clear al
        have PT := Lib.hid pt; clear pt
        have HCH := Lib.hid (fun (W : World) (hW : Below wr.heap.size wr W) => (ownC_chs HOW.out).up hW)
        have hdd : decide (putC l = xs) = decide (putC l = xs) := rfl
        by_cases hpx : putC l = xs
        · rw [if_pos hpx] at hen
          have HEN := Lib.hid hen; clear hen htk
          rw [decide_eq_true hpx] at sm
          have SM := Lib.hid sm; clear sm hdd hpx
          rcases hgd with ⟨g1, g2⟩ | g1
          all_goals
            go_wp2_with (first
              | (go_at_call 26; refine (AL.out).mono ?_; rintro e w6 ⟨rfl, hb6⟩; have HB6 := Lib.hid hb6; clear hb6)
              | (go_at_call 29; refine (PT.out _ HB6.out).mono ?_; rintro e w7 ⟨v7, rfl, hs7, hb7⟩; obtain ⟨A7, n7, c7, rfl, _⟩ := id hs7; have HS7 := Lib.hid hs7; have HB7 := Lib.hid (low_low HB6.out hb7); clear hs7 hb7)
              | (go_at_call 28; refine (SM.out A7 n7 c7 _ HS7.out (low_low HBW.out HB7.out)).mono ?_; rintro e w8 ⟨rfl, m8, rfl⟩; have HB8 := Lib.hid (below_drewN HB7.out m8)))
            exact bodyPost_ret (v := .tuple #[.slice A4 k c4, .bool true]) (by simp [results, Try.results31, go_sem]) rfl ⟨_, by rw [HEN.out]; rfl, by rw [HEN.out]; exact HCH.out _ HB8.out, low_low HBW.out HB8.out⟩
        · rw [if_neg hpx] at hen
          have HEN := Lib.hid hen; clear hen htk
          rw [decide_eq_false hpx] at sm
          have SM := Lib.hid sm; clear sm hdd hpx
          rcases hgd with ⟨g1, g2⟩ | g1
          all_goals
            go_wp2_with (first
              | (go_at_call 26; refine (AL.out).mono ?_; rintro e w6 ⟨rfl, hb6⟩; have HB6 := Lib.hid hb6; clear hb6)
              | (go_at_call 29; refine (PT.out _ HB6.out).mono ?_; rintro e w7 ⟨v7, rfl, hs7, hb7⟩; obtain ⟨A7, n7, c7, rfl, _⟩ := id hs7; have HS7 := Lib.hid hs7; have HB7 := Lib.hid (low_low HB6.out hb7); clear hs7 hb7)
              | (go_at_call 28; refine (SM.out A7 n7 c7 _ HS7.out (low_low HBW.out HB7.out)).mono ?_; rintro e w8 ⟨rfl, m8, rfl⟩; have HB8 := Lib.hid (below_drewN HB7.out m8)))
            exact bodyPost_ret (v := .tuple #[.slice none 0 0, .bool false]) (by simp [results, Try.results31, go_sem]) rfl ⟨_, by rw [HEN.out]; rfl, by rw [HEN.out]; exact chs_nil _ _, low_low HBW.out HB8.out⟩
end Go.Proofs.Ytjdlkejdgekbaaa.Chg
