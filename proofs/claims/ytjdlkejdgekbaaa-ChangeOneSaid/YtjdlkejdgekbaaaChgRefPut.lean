/- The reference's bytes of changes, whether all may be, and whether lists are alike (layer 10): the contracts of waymarkref10.Put, All, Lists. -/
import Derived.Test.YtjdlkejdgekbaaaChgRefOne
import Derived.Test.YtjdlkejdgekbaaaChgRefMay
import Derived.Deep.RegionHeld3
import Derived.IntWalk
namespace Go.Proofs.Ytjdlkejdgekbaaa.Chg
open Go.RowKit Go.Proofs.Ytjdlkejdgekbaaa.Mem Go.Proofs.Ytjdlkejdgekbaaa.Oct Go.Proofs.Ytjdlkejdgekbaaa.Lsa
set_option linter.unusedVariables false
set_option linter.unusedSimpArgs false
/-- the cells of one, in words that a walk can use -/
theorem chs_cells {w wr : World} {b o : Nat} {x : Ch} {u : Value} (h : w.rangeAt b o (rowC x u)) (hb : Below w.heap.size w wr) (hlt : b < w.heap.size) :
    wr.cell? ⟨b, o, none⟩ = some (.int .i64 x.k) ∧ wr.cell? ⟨b, o + 1, none⟩ = some (.int .i64 x.o) ∧ wr.cell? ⟨b, o + 2, none⟩ = some (.int .i64 x.s) ∧ wr.cell? ⟨b, o + 3, none⟩ = some u ∧ wr.cell? ⟨b, o + 4, none⟩ = some (.int .i64 x.n) ∧ wr.cell? ⟨b, o + 5, none⟩ = some (.int .i64 x.f) := by
  have r := rangeC_below h hb hlt
  exact ⟨r 0 _ rfl, r 1 _ rfl, r 2 _ rfl, r 3 _ rfl, r 4 _ rfl, r 5 _ rfl⟩
theorem all_drop_0 (l : List Ch) (k : Nat) (hk : k < l.length) (h : l.all mayC = (l.drop k).all mayC) (x : Ch) (hx : x = l.getD k zeroC) : l.all mayC = (mayC x && (l.drop (k + 1)).all mayC) := by
  rw [h, all_step l k hk, hx]
set_option maxRecDepth 20000 in
set_option maxHeartbeats 2000000 in
theorem rall_any (A : Option Addr) (n c : Nat) (l : List Ch) (w : World) (h : Chs w w.heap.size (.slice A n c) l) :
    Calls Try.prog 26 #[.slice A n c] w fun e w' => e = .returned (.bool (okAll l)) ∧ Below w.heap.size w w' := by
  obtain ⟨hl, hnc, hcm⟩ := chs_len h
  unfold maxLen at hcm
  have HL := Lib.hid hl; clear hl
  have HP := Lib.hid h; clear h
  obtain ⟨z, hz⟩ : ∃ z, z = l.all mayC := ⟨_, rfl⟩
  have hok : okAll l = (z && (decide (1 ≤ l.length) && decide (l.length ≤ 40))) := by rw [okAll, hz]
  rw [hok]
  clear hok
  have HZ := Lib.hid hz; clear hz
  go_enter Try.func26, Try.ntmps26
  go_wp2
  go_loopw [3] (fun i wr => ∃ k : Nat, k ≤ n ∧ i = .int .i64 k ∧ l.all mayC = (l.drop k).all mayC ∧ Below w.heap.size w wr) (fun i _ => n - (intOf i).toNat)
  case atStart => exact ⟨0, Nat.zero_le _, rfl, rfl, Below.refl _ _⟩
  case round =>
    obtain ⟨k, hk, rfl, hall, hbw⟩ := hrel
    have HBW := Lib.hid hbw; clear hbw
    by_cases hlt : k < n
    · obtain ⟨b, off, rfl, hb, hc⟩ := chs_at HP.out (by omega)
      obtain ⟨u, hr, hlk⟩ := hc k hlt
      obtain ⟨x, hx⟩ : ∃ x, x = l.getD k zeroC := ⟨_, rfl⟩
      have hst := all_drop_0 l k (by have := HL.out; omega) hall x hx
      rw [← hx] at hr hlk
      obtain ⟨Au, nu, cu, rfl, _⟩ := id hlk
      obtain ⟨c0, c1, c2, c3, c4, c5⟩ := chs_cells hr HBW.out hb
      have my := rmay_c x (.slice Au nu cu) wr ((hlk.below HBW.out (Nat.le_refl _)).more HBW.out.size)
      cases hm : mayC x
      · rw [hm] at my hst
        have MY := Lib.hid my; clear my
        have HZF := Lib.hid (HZ.out.trans hst); clear hst
        clear hc hr hlk hx hall hm
        go_wp2_with (go_at_call 22; refine (MY.out).mono ?_; rintro e w3 ⟨rfl, hb3⟩; have HB3 := Lib.hid (low_low HBW.out hb3); clear hb3)
        go_ret
        exact ⟨ret_bool (by rw [HZF.out]; rfl), HB3.out⟩
      · rw [hm] at my hst
        have MY := Lib.hid my; clear my
        have HST := Lib.hid hst; clear hst
        clear hc hr hlk hx hall hm
        go_wp2_with (go_at_call 22; refine (MY.out).mono ?_; rintro e w3 ⟨rfl, hb3⟩; have HB3 := Lib.hid (low_low HBW.out hb3); clear hb3)
        go_roundw
        case rel => exact ⟨k + 1, by omega, by go_num, HST.out, HB3.out⟩
        case measure => simp [intOf]; omega
    · obtain rfl : k = n := by omega
      have hzt : z = true := by
        rw [HZ.out, hall, List.drop_eq_nil_of_le (by have := HL.out; omega)]
        rfl
      clear hall
      have HZT := Lib.hid hzt; clear hzt
      by_cases h1 : 1 ≤ k
      · have d1 : decide ((1 : Int) ≤ (k : Int)) = true := by simp; omega
        go_wp2
        go_ret
        exact ⟨ret_bool (by rw [HZT.out, HL.out]; simp [h1]; omega), HBW.out⟩
      · have d1 : decide ((1 : Int) ≤ (k : Int)) = false := by simp; omega
        go_wp2
        go_ret
        exact ⟨ret_bool (by rw [HZT.out, HL.out]; simp [h1]), HBW.out⟩
set_option maxRecDepth 20000 in
set_option maxHeartbeats 4000000 in
theorem rlists_same (A A' : Option Addr) (n c c' : Nat) (l : List Ch) (w : World) (h : Chs w w.heap.size (.slice A n c) l) (h' : Chs w w.heap.size (.slice A' n c') l) :
    Calls Try.prog 30 #[.slice A n c, .slice A' n c'] w fun e w' => e = .returned (.bool true) ∧ Below w.heap.size w w' := by
  obtain ⟨hl, hnc, hcm⟩ := chs_len h
  obtain ⟨_, hnc', hcm'⟩ := chs_len h'
  unfold maxLen at hcm hcm'
  have HL := Lib.hid hl; clear hl
  have HP := Lib.hid h; clear h
  have HP' := Lib.hid h'; clear h'
  have hnn : ((n : Int) != (n : Int)) = false := by simp
  go_enter Try.func30, Try.ntmps30
  go_wp2
  go_loopw [5] (fun i wr => ∃ k : Nat, k ≤ n ∧ i = .int .i64 k ∧ Below w.heap.size w wr) (fun i _ => n - (intOf i).toNat)
  case atStart => exact ⟨0, Nat.zero_le _, rfl, Below.refl _ _⟩
  case round =>
    obtain ⟨k, hk, rfl, hbw⟩ := hrel
    have HB := Lib.hid hbw; clear hbw
    by_cases hlt : k < n
    · obtain ⟨b, off, rfl, hb, hc⟩ := chs_at HP.out (by omega)
      obtain ⟨b', off', rfl, hb', hc'⟩ := chs_at HP'.out (by omega)
      obtain ⟨u, hr1, hlk⟩ := hc k hlt
      obtain ⟨u', hr2, hlk'⟩ := hc' k hlt
      clear hc hc'
      generalize l.getD k zeroC = x at *
      obtain ⟨Au, nu, cu, rfl, _⟩ := id hlk
      obtain ⟨Au', nu', cu', rfl, _⟩ := id hlk'
      have HR1 := Lib.hid hr1; clear hr1
      have HR2 := Lib.hid hr2; clear hr2
      have HS1 := Lib.hid (fun (W : World) (hW : Below w.heap.size w W) => (hlk.below hW (Nat.le_refl _)).more hW.size); clear hlk
      have HS2 := Lib.hid (fun (W : World) (hW : Below w.heap.size w W) => (hlk'.below hW (Nat.le_refl _)).more hW.size); clear hlk'
      have sm := fun (W : World) (hW : Below w.heap.size w W) => rsame_c x x (.slice Au nu cu) (.slice Au' nu' cu') W (HS1.out W hW) (HS2.out W hW)
      rw [same_self] at sm
      have SM := Lib.hid sm; clear sm
      obtain ⟨e0, e1, e2, e3, e4, e5⟩ := chs_cells HR1.out HB.out hb
      obtain ⟨d0, d1, d2, d3, d4, d5⟩ := chs_cells HR2.out HB.out hb'
      go_wp2
      go_region_held3 (fun W => W.cell? ⟨b, off + k * 6, none⟩ = some (.int .i64 x.k) ∧ W.cell? ⟨b, off + k * 6 + 1, none⟩ = some (.int .i64 x.o) ∧ W.cell? ⟨b, off + k * 6 + 2, none⟩ = some (.int .i64 x.s) ∧ W.cell? ⟨b, off + k * 6 + 3, none⟩ = some (.slice Au nu cu) ∧ W.cell? ⟨b, off + k * 6 + 4, none⟩ = some (.int .i64 x.n) ∧ W.cell? ⟨b, off + k * 6 + 5, none⟩ = some (.int .i64 x.f) ∧ W.cell? ⟨b', off' + k * 6, none⟩ = some (.int .i64 x.k) ∧ W.cell? ⟨b', off' + k * 6 + 1, none⟩ = some (.int .i64 x.o) ∧ W.cell? ⟨b', off' + k * 6 + 2, none⟩ = some (.int .i64 x.s) ∧ W.cell? ⟨b', off' + k * 6 + 3, none⟩ = some (.slice Au' nu' cu') ∧ W.cell? ⟨b', off' + k * 6 + 4, none⟩ = some (.int .i64 x.n) ∧ W.cell? ⟨b', off' + k * 6 + 5, none⟩ = some (.int .i64 x.f))
        (first
          | with_reducible exact ⟨e0, e1, e2, e3, e4, e5, d0, d1, d2, d3, d4, d5⟩
          | with_reducible exact ⟨z0, z1, z2, z3, z4, z5, y0, y1, y2, y3, y4, y5⟩
          | go_keep)
        (first
          | (go_at_call 24; refine (SM.out _ ?hw).mono ?_; (case hw => with_reducible repeat (first | exact HB.out | refine below_drewN ?_ _ | refine Below.drew ?_)); rintro e w4 ⟨rfl, hb4⟩; have HB4 := Lib.hid (low_low (wz := w) (by with_reducible repeat (first | exact HB.out | refine below_drewN ?_ _ | refine Below.drew ?_)) hb4); clear hb4; obtain ⟨z0, z1, z2, z3, z4, z5⟩ := chs_cells HR1.out HB4.out hb; obtain ⟨y0, y1, y2, y3, y4, y5⟩ := chs_cells HR2.out HB4.out hb'))
      go_wp2
      go_roundw
      case rel => exact ⟨k + 1, by omega, by go_num, HB4.out⟩
      case measure => simp [intOf]; omega
    · obtain rfl : k = n := by omega
      go_wp2
      go_ret
      exact ⟨rfl, HB.out⟩
set_option maxRecDepth 20000 in
set_option maxHeartbeats 4000000 in
theorem rputs_any (A : Option Addr) (n c : Nat) (l : List Ch) (w : World) (h : Chs w w.heap.size (.slice A n c) l) (hok : okAll l = true) :
    Calls Try.prog 29 #[.slice A n c] w fun e w' => ∃ v', e = .returned v' ∧ Sl w' w'.heap.size v' (putC l) ∧ Below w.heap.size w w' := by
  obtain ⟨hl, hnc, hcm⟩ := chs_len h
  obtain ⟨hall, hn1, hn40⟩ := okAll_iff.1 hok
  rw [hl] at hn1 hn40
  obtain ⟨i0, hi, hz0, hz1, hz2⟩ := info_parts Try.info5
  have HI := Lib.hid hi; clear hi
  have HZ0 := Lib.hid hz0; clear hz0
  have HZ1 := Lib.hid hz1; clear hz1
  have HZ2 := Lib.hid hz2; clear hz2
  have hput : [n] ++ cat l = putC l := by rw [putC, hl, be_one (by omega)]
  have hmay : ∀ k, k < n → mayC (l.getD k zeroC) = true := fun k hk => by
    rw [List.all_eq_true] at hall
    refine hall _ ?_
    simp only [List.getD, List.getElem?_eq_getElem (show k < l.length by omega), Option.getD_some]
    exact List.getElem_mem _
  have hlens : ∀ k, (cat (l.take k)).length ≤ 91 * 40 := fun k => by
    have h1 := cat_len (l := l.take k) (by
      rw [List.all_eq_true] at hall ⊢
      exact fun c hc => hall c (List.mem_of_mem_take hc))
    have h2 : (l.take k).length ≤ 40 := by rw [List.length_take]; omega
    omega
  have w3 : IntKind.u8.wrap (n : Int) = (n : Int) := by rw [IntKind.wrap_u8]; omega
  have HL := Lib.hid hl; clear hl
  have HP := Lib.hid h; clear h
  have HPUT := Lib.hid hput; clear hput hall hok
  have HMAY := Lib.hid hmay; clear hmay
  have HLENS := Lib.hid hlens; clear hlens
  have hn256 : n < 256 := by omega
  have HO0 := Lib.hid (own_fix (n' := 1) (xs := [n] ++ cat (l.take 0)) (own_byte w w.heap.size w.heap.size rfl (Nat.le_refl _) (n : Int) n rfl) rfl rfl (by simp [cat]))
  have HB0 := Lib.hid (low1 (Below.refl w.heap.size w) (.cells #[.int .u8 (n : Nat)] 5))
  go_enter Try.func29, Try.ntmps29
  go_wp2
  go_loopw [3, 4] (fun z i wr => ∃ k ln : Nat, k ≤ n ∧ i = .int .i64 k ∧ ln = 1 + (cat (l.take k)).length ∧ wr.ownsRow w.heap.size 5 1 z ln (vals ([n] ++ cat (l.take k))) ∧ Below w.heap.size w wr) (fun _ i _ => n - (intOf i).toNat)
  case atStart => exact ⟨0, _, Nat.zero_le _, rfl, rfl, HO0.out, HB0.out⟩
  case round =>
    obtain ⟨k, ln, hk, rfl, hln, hown, hbw⟩ := hrel
    obtain ⟨A5, c5, rfl⟩ := Lsa.own_form hown
    have HOW := Lib.hid hown; clear hown
    have HBW := Lib.hid hbw; clear hbw
    by_cases hlt : k < n
    · obtain ⟨b, off, rfl, hb, hc⟩ := chs_at HP.out (by omega)
      obtain ⟨u, hr, hlk⟩ := hc k hlt
      have hct := cat_take l k (by have := HL.out; omega)
      have hm := HMAY.out k hlt
      have hle := HLENS.out k
      obtain ⟨x, hx⟩ : ∃ x, x = l.getD k zeroC := ⟨_, rfl⟩
      rw [← hx] at hr hlk hct hm
      obtain ⟨Au, nu, cu, rfl, _⟩ := id hlk
      obtain ⟨c0, c1, c2, c3, c4, c5'⟩ := chs_cells hr HBW.out hb
      have on := rone_any x (.slice Au nu cu) wr ((hlk.below HBW.out (Nat.le_refl _)).more HBW.out.size) hm
      have hbl := bytesC_len hm
      obtain ⟨bn, hbn⟩ : ∃ bn, bn = (bytesC x).length := ⟨_, rfl⟩
      rw [← hbn] at hbl
      have hln2 : ln + bn = 1 + (cat (l.take (k + 1))).length := by rw [hct, List.length_append]; omega
      generalize hcc : bytesC x = bs at *
      have HCT := Lib.hid hct; clear hct
      have hlnb : ln ≤ 4000 := by omega
      have HLN2 := Lib.hid hln2; clear hln2 hln hle
      generalize cat (l.take k) = ys at *
      have ON := Lib.hid on; clear on
      have HBN := Lib.hid hbn; clear hbn hc hr hlk hx hm hcc
      go_wp2_with (first
        | (go_at_call 63; refine (ON.out).mono ?_; rintro e w6 ⟨v6, rfl, hs6, hb6⟩; obtain ⟨A6, n6, c6, rfl, ht6, _⟩ := id hs6; have hn6 : n6 = bn := (by rw [← ht6.1, HBN.out]); subst hn6; have HR6 := Lib.hid ht6.reads; have HB6 := Lib.hid (low_low HBW.out hb6); have HO6 := Lib.hid (own_below HOW.out hb6); clear hs6 hb6 ht6)
        | (at_builtin; (refine wpList_append_any _ rfl (.tmp 15) (.tmp 20) 22 rfl w.heap.size 5 i0 (.int .u8 0) 1 1 Try.underlying22 HI.out HZ0.out HZ1.out HZ2.out rfl (by decide) (.slice A5 ln c5) ln (vals ([n] ++ ys)) rfl HO6.out w6.heap.size A6 n6 c6 (vals bs) rfl HR6.out (vals_one _) (by unfold maxLen; omega) (by omega) HB6.out.size ?_; intro v7 w7 hown7 hg7 _; have HB7 := Lib.hid (HB6.out.grown hg7 HB6.out.size (fun q hq => (HO6.out.lt q hq).1)); have HO7 := Lib.hid (own_fix (n' := ln + n6) (xs := [n] ++ cat (l.take (k + 1))) hown7 (vals_append _ _).symm rfl (by rw [HCT.out, List.append_assoc])); clear hown7 hg7)))
      go_roundw
      case rel => exact ⟨k + 1, _, by omega, by go_num, HLN2.out, HO7.out, HB7.out⟩
      case measure => simp [intOf]; omega
    · obtain rfl : k = n := by omega
      have hle := HLENS.out k
      rw [List.take_of_length_le (by have := HL.out; omega), HPUT.out] at HOW
      rw [List.take_of_length_le (by have := HL.out; omega)] at hln hle
      have HSL := Lib.hid (sl_own HOW.out (putC_lt _) (by omega))
      clear hle hln
      go_wp2
      go_ret
      exact ⟨_, rfl, HSL.out, HBW.out⟩
end Go.Proofs.Ytjdlkejdgekbaaa.Chg
