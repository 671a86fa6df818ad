/- ChangePuts: for every changes the law returns true and its arguments read as before: which changes there may be, any ones' bytes, that they are got, and which are alike. No condition. -/
import Derived.Test.YtjdlkejdgekbaaaChgAwake
import Derived.Test.YtjdlkejdgekbaaaChgRefPut
import Derived.Test.YtjdlkejdgekbaaaChgRefMay
import Derived.Test.YtjdlkejdgekbaaaSame
import Derived.IntWalk
import Derived.WalkKit
import Derived.ProofKit
import Derived.OpenShut
import Derived.ShutString
import Derived.ChangeOld
import Derived.Below
import Derived.Deep.RegionHeld3
import Derived.Deep.Cut
namespace Go.Proofs.Ytjdlkejdgekbaaa.changePuts
open Go.RowKit Go.Proofs.Ytjdlkejdgekbaaa.Mem Go.Proofs.Ytjdlkejdgekbaaa.Oct Go.Proofs.Ytjdlkejdgekbaaa.Lsa Go.Proofs.Ytjdlkejdgekbaaa.Chg
set_option linter.unusedVariables false
set_option linter.unusedSimpArgs false
theorem chs_lit2 (w : World) (c d : Ch) (u v : Value) (g : Nat) (hg : g = w.heap.size) (hu : Lks w w.heap.size u c.ls) (hv : Lks w w.heap.size v d.ls) :
    Chs (w.alloc (.cells #[.int .i64 c.k, .int .i64 c.o, .int .i64 c.s, u, .int .i64 c.n, .int .i64 c.f, .int .i64 d.k, .int .i64 d.o, .int .i64 d.s, v, .int .i64 d.n, .int .i64 d.f] 50)) (w.alloc (.cells #[.int .i64 c.k, .int .i64 c.o, .int .i64 c.s, u, .int .i64 c.n, .int .i64 c.f, .int .i64 d.k, .int .i64 d.o, .int .i64 d.s, v, .int .i64 d.n, .int .i64 d.f] 50)).heap.size (.slice (some ⟨g, 0, none⟩) 2 2) [c, d] := by
  subst hg
  have hsz : (w.alloc (.cells #[.int .i64 c.k, .int .i64 c.o, .int .i64 c.s, u, .int .i64 c.n, .int .i64 c.f, .int .i64 d.k, .int .i64 d.o, .int .i64 d.s, v, .int .i64 d.n, .int .i64 d.f] 50)).heap.size = w.heap.size + 1 := by simp
  rw [hsz]
  have hk := Blk.new w 50 #[.int .i64 c.k, .int .i64 c.o, .int .i64 c.s, u, .int .i64 c.n, .int .i64 c.f, .int .i64 d.k, .int .i64 d.o, .int .i64 d.s, v, .int .i64 d.n, .int .i64 d.f]
  refine ⟨_, 2, 2, rfl, rfl, Nat.le_refl _, by unfold maxLen; omega, fun _ => ⟨_, 0, rfl, Nat.lt_succ_self _, fun i hi => ?_⟩⟩
  rcases (by omega : i = 0 ∨ i = 1) with rfl | rfl
  · refine ⟨u, fun j x hx => ?_, (hu.alloc (Nat.le_refl _) _).more (Nat.le_succ _)⟩
    have hj : j < 6 := (List.getElem?_eq_some_iff.1 hx).1
    rw [Nat.zero_mul, Nat.zero_add, hk.cell]
    match j, hj, hx with
    | 0, _, hx => exact hx
    | 1, _, hx => exact hx
    | 2, _, hx => exact hx
    | 3, _, hx => exact hx
    | 4, _, hx => exact hx
    | 5, _, hx => exact hx
  · refine ⟨v, fun j x hx => ?_, (hv.alloc (Nat.le_refl _) _).more (Nat.le_succ _)⟩
    have hj : j < 6 := (List.getElem?_eq_some_iff.1 hx).1
    rw [Nat.one_mul, Nat.zero_add, hk.cell]
    match j, hj, hx with
    | 0, _, hx => exact hx
    | 1, _, hx => exact hx
    | 2, _, hx => exact hx
    | 3, _, hx => exact hx
    | 4, _, hx => exact hx
    | 5, _, hx => exact hx
set_option maxRecDepth 20000 in
set_option maxHeartbeats 4000000 in
theorem walk_dark (a0 : Option Addr) (n0 c0 : Nat) (k o s n f k' o' s' n' f' : Int) (Ac Ad : Option Addr) (nc cc nd cd : Nat) (lc ld : List Lk) (l : List Ch) (w : World) (h0 : Chs w w.heap.size (.slice a0 n0 c0) l) (hc : Lks w w.heap.size (.slice Ac nc cc) lc) (hd : Lks w w.heap.size (.slice Ad nd cd) ld) (hl : lightB l = false) :
    Calls Try.prog 4 #[.slice a0 n0 c0, .agg #[.int .i64 k, .int .i64 o, .int .i64 s, .slice Ac nc cc, .int .i64 n, .int .i64 f], .agg #[.int .i64 k', .int .i64 o', .int .i64 s', .slice Ad nd cd, .int .i64 n', .int .i64 f']] w fun e w' => e = .returned (.bool true) ∧ Below w.heap.size w w' := by
  have HB := Lib.hid (low2 w (.cells #[.int .i64 k, .int .i64 o, .int .i64 s, .slice Ac nc cc, .int .i64 n, .int .i64 f] 50) (.cells #[.int .i64 k', .int .i64 o', .int .i64 s', .slice Ad nd cd, .int .i64 n', .int .i64 f'] 50))
  have KC := Lib.hid ((Blk.new w 50 #[.int .i64 k, .int .i64 o, .int .i64 s, .slice Ac nc cc, .int .i64 n, .int .i64 f]).alloc (.cells #[.int .i64 k', .int .i64 o', .int .i64 s', .slice Ad nd cd, .int .i64 n', .int .i64 f'] 50))
  have KD := Lib.hid (blk_second w (.cells #[.int .i64 k, .int .i64 o, .int .i64 s, .slice Ac nc cc, .int .i64 n, .int .i64 f] 50) 50 #[.int .i64 k', .int .i64 o', .int .i64 s', .slice Ad nd cd, .int .i64 n', .int .i64 f'])
  have H0 := Lib.hid (fun (W : World) (hW : Below w.heap.size w W) => h0.up hW)
  have HC := Lib.hid (fun (W : World) (hW : Below w.heap.size w W) => hc.up hW)
  have HD := Lib.hid (fun (W : World) (hW : Below w.heap.size w W) => hd.up hW)
  clear h0 hc hd
  have lt := fun (W : World) (hW : Below w.heap.size w W) => light10_any a0 n0 c0 l W (H0.out W hW)
  rw [hl] at lt
  have LT := Lib.hid lt; clear lt hl
  have HM0 := Lib.hid (rfl : (0 : Nat) = 0)
  go_enter Try.func4, Try.ntmps4
  go_wp2_with (first
    | (have HM1 := HM0; go_at_call 19; refine (LT.out _ HB.out).mono ?_; rintro e w1 ⟨rfl, hb1⟩; have HB1 := Lib.hid (low_low HB.out hb1); have KC1 := Lib.hid (KC.out.below hb1 KC.out.lt); have KD1 := Lib.hid (KD.out.below hb1 KD.out.lt); obtain ⟨x0, x1, x2, x3, x4, x5, x6⟩ := blk_cells6 KC1.out; obtain ⟨y0, y1, y2, y3, y4, y5, y6⟩ := blk_cells6 KD1.out; clear hb1 HM0 HM1)
    | (go_at_call 20; refine (awake10_any _).mono ?_; rintro e w9 ⟨rfl, hb9⟩; have HB9 := Lib.hid (low_low HB1.out hb9); clear hb9))
  go_ret
  exact ⟨rfl, HB9.out⟩
set_option maxRecDepth 20000 in
set_option maxHeartbeats 4000000 in
theorem walk_dark2 (a0 : Option Addr) (n0 c0 : Nat) (k o s n f k' o' s' n' f' : Int) (Ac Ad : Option Addr) (nc cc nd cd : Nat) (lc ld : List Lk) (l : List Ch) (w : World) (h0 : Chs w w.heap.size (.slice a0 n0 c0) l) (hc : Lks w w.heap.size (.slice Ac nc cc) lc) (hd : Lks w w.heap.size (.slice Ad nd cd) ld) (hl : lightB l = true) (hl2 : lightB [⟨k, o, s, lc, n, f⟩, ⟨k', o', s', ld, n', f'⟩] = false) :
    Calls Try.prog 4 #[.slice a0 n0 c0, .agg #[.int .i64 k, .int .i64 o, .int .i64 s, .slice Ac nc cc, .int .i64 n, .int .i64 f], .agg #[.int .i64 k', .int .i64 o', .int .i64 s', .slice Ad nd cd, .int .i64 n', .int .i64 f']] w fun e w' => e = .returned (.bool true) ∧ Below w.heap.size w w' := by
  have HB := Lib.hid (low2 w (.cells #[.int .i64 k, .int .i64 o, .int .i64 s, .slice Ac nc cc, .int .i64 n, .int .i64 f] 50) (.cells #[.int .i64 k', .int .i64 o', .int .i64 s', .slice Ad nd cd, .int .i64 n', .int .i64 f'] 50))
  have KC := Lib.hid ((Blk.new w 50 #[.int .i64 k, .int .i64 o, .int .i64 s, .slice Ac nc cc, .int .i64 n, .int .i64 f]).alloc (.cells #[.int .i64 k', .int .i64 o', .int .i64 s', .slice Ad nd cd, .int .i64 n', .int .i64 f'] 50))
  have KD := Lib.hid (blk_second w (.cells #[.int .i64 k, .int .i64 o, .int .i64 s, .slice Ac nc cc, .int .i64 n, .int .i64 f] 50) 50 #[.int .i64 k', .int .i64 o', .int .i64 s', .slice Ad nd cd, .int .i64 n', .int .i64 f'])
  have H0 := Lib.hid (fun (W : World) (hW : Below w.heap.size w W) => h0.up hW)
  have HC := Lib.hid (fun (W : World) (hW : Below w.heap.size w W) => hc.up hW)
  have HD := Lib.hid (fun (W : World) (hW : Below w.heap.size w W) => hd.up hW)
  clear h0 hc hd
  have lt := fun (W : World) (hW : Below w.heap.size w W) => light10_any a0 n0 c0 l W (H0.out W hW)
  have lt2 := fun (W : World) (A : Option Addr) (h : Chs W W.heap.size (.slice A 2 2) [⟨k, o, s, lc, n, f⟩, ⟨k', o', s', ld, n', f'⟩]) => light10_any A 2 2 _ W h
  rw [hl] at lt
  rw [hl2] at lt2
  have LT := Lib.hid lt; clear lt hl hl2
  have LT2 := Lib.hid lt2; clear lt2
  have HM0 := Lib.hid (rfl : (0 : Nat) = 0)
  go_enter Try.func4, Try.ntmps4
  go_wp2_with (first
    | (have HM1 := HM0; go_at_call 19; refine (LT.out _ HB.out).mono ?_; rintro e w1 ⟨rfl, hb1⟩; have HB1 := Lib.hid (low_low HB.out hb1); have KC1 := Lib.hid (KC.out.below hb1 KC.out.lt); have KD1 := Lib.hid (KD.out.below hb1 KD.out.lt); obtain ⟨x0, x1, x2, x3, x4, x5, x6⟩ := blk_cells6 KC1.out; obtain ⟨y0, y1, y2, y3, y4, y5, y6⟩ := blk_cells6 KD1.out; clear hb1 HM0 HM1)
    | (go_at_call 19; refine (LT2.out _ _ (chs_lit2 w1 ⟨k, o, s, lc, n, f⟩ ⟨k', o', s', ld, n', f'⟩ (.slice Ac nc cc) (.slice Ad nd cd) _ rfl (HC.out _ HB1.out) (HD.out _ HB1.out))).mono ?_; rintro e w2 ⟨rfl, hb2⟩; have hb12 := low_low (low1 (Below.refl w1.heap.size w1) _) hb2; have HB2 := Lib.hid (low_low HB1.out hb12); have KC2 := Lib.hid (KC1.out.below hb12 KC1.out.lt); have KD2 := Lib.hid (KD1.out.below hb12 KD1.out.lt); clear hb2 hb12)
    | (go_at_call 20; refine (awake10_any _).mono ?_; rintro e w9 ⟨rfl, hb9⟩; have HB9 := Lib.hid (low_low HB2.out hb9); clear hb9))
  go_ret
  exact ⟨rfl, HB9.out⟩
set_option maxRecDepth 20000 in
set_option maxHeartbeats 8000000 in
theorem walk_no (a0 : Option Addr) (n0 c0 : Nat) (k o s n f k' o' s' n' f' : Int) (Ac Ad : Option Addr) (nc cc nd cd : Nat) (lc ld : List Lk) (l : List Ch) (w : World) (h0 : Chs w w.heap.size (.slice a0 n0 c0) l) (hc : Lks w w.heap.size (.slice Ac nc cc) lc) (hd : Lks w w.heap.size (.slice Ad nd cd) ld) (hl : lightB l = true) (hl2 : lightB [⟨k, o, s, lc, n, f⟩, ⟨k', o', s', ld, n', f'⟩] = true) (hok : okAll l = false) :
    Calls Try.prog 4 #[.slice a0 n0 c0, .agg #[.int .i64 k, .int .i64 o, .int .i64 s, .slice Ac nc cc, .int .i64 n, .int .i64 f], .agg #[.int .i64 k', .int .i64 o', .int .i64 s', .slice Ad nd cd, .int .i64 n', .int .i64 f']] w fun e w' => e = .returned (.bool true) ∧ Below w.heap.size w w' := by
  have HB := Lib.hid (low2 w (.cells #[.int .i64 k, .int .i64 o, .int .i64 s, .slice Ac nc cc, .int .i64 n, .int .i64 f] 50) (.cells #[.int .i64 k', .int .i64 o', .int .i64 s', .slice Ad nd cd, .int .i64 n', .int .i64 f'] 50))
  have KC := Lib.hid ((Blk.new w 50 #[.int .i64 k, .int .i64 o, .int .i64 s, .slice Ac nc cc, .int .i64 n, .int .i64 f]).alloc (.cells #[.int .i64 k', .int .i64 o', .int .i64 s', .slice Ad nd cd, .int .i64 n', .int .i64 f'] 50))
  have KD := Lib.hid (blk_second w (.cells #[.int .i64 k, .int .i64 o, .int .i64 s, .slice Ac nc cc, .int .i64 n, .int .i64 f] 50) 50 #[.int .i64 k', .int .i64 o', .int .i64 s', .slice Ad nd cd, .int .i64 n', .int .i64 f'])
  have H0 := Lib.hid (fun (W : World) (hW : Below w.heap.size w W) => h0.up hW)
  have HC := Lib.hid (fun (W : World) (hW : Below w.heap.size w W) => hc.up hW)
  have HD := Lib.hid (fun (W : World) (hW : Below w.heap.size w W) => hd.up hW)
  clear h0 hc hd
  have lt := fun (W : World) (hW : Below w.heap.size w W) => light10_any a0 n0 c0 l W (H0.out W hW)
  have lt2 := fun (W : World) (A : Option Addr) (h : Chs W W.heap.size (.slice A 2 2) [⟨k, o, s, lc, n, f⟩, ⟨k', o', s', ld, n', f'⟩]) => light10_any A 2 2 _ W h
  rw [hl] at lt
  rw [hl2] at lt2
  have LT := Lib.hid lt; clear lt hl hl2
  have LT2 := Lib.hid lt2; clear lt2
  have HM0 := Lib.hid (rfl : (0 : Nat) = 0)
  have ck := fun (W : World) (hW : Below w.heap.size w W) => ccheck_any ⟨k, o, s, lc, n, f⟩ (.slice Ac nc cc) W (HC.out W hW)
  have my := fun (W : World) (hW : Below w.heap.size w W) => rmay_c ⟨k, o, s, lc, n, f⟩ (.slice Ac nc cc) W (HC.out W hW)
  have sm := fun (W : World) (hW : Below w.heap.size w W) => csame_any ⟨k, o, s, lc, n, f⟩ ⟨k', o', s', ld, n', f'⟩ (.slice Ac nc cc) (.slice Ad nd cd) W (HC.out W hW) (HD.out W hW)
  have rs := fun (W : World) (hW : Below w.heap.size w W) => rsame_c ⟨k, o, s, lc, n, f⟩ ⟨k', o', s', ld, n', f'⟩ (.slice Ac nc cc) (.slice Ad nd cd) W (HC.out W hW) (HD.out W hW)
  generalize mayC ⟨k, o, s, lc, n, f⟩ = mc at *
  generalize same ⟨k, o, s, lc, n, f⟩ ⟨k', o', s', ld, n', f'⟩ = sc at *
  simp only [chV] at ck my sm rs
  have pt := fun (W : World) (hW : Below w.heap.size w W) => cputs_any a0 n0 c0 l W (H0.out W hW)
  have al := fun (W : World) (hW : Below w.heap.size w W) => rall_any a0 n0 c0 l W (H0.out W hW)
  unfold PutOut at pt
  rw [hok] at al pt
  rw [errI_f] at pt
  have PT := Lib.hid pt; clear pt
  have AL := Lib.hid al; clear al hok
  cases mc <;> cases sc
  all_goals
    first | rw [errI_f] at ck | rw [errI_t] at ck
    have CK := Lib.hid ck; clear ck
    have MY := Lib.hid my; clear my
    have SM := Lib.hid sm; clear sm
    have RS := Lib.hid rs; clear rs
    go_enter Try.func4, Try.ntmps4
    go_upto_region 3 with (first
      | (have HM1 := HM0; go_at_call 19; refine (LT.out _ HB.out).mono ?_; rintro e w1 ⟨rfl, hb1⟩; have HB1 := Lib.hid (low_low HB.out hb1); have KC1 := Lib.hid (KC.out.below hb1 KC.out.lt); have KD1 := Lib.hid (KD.out.below hb1 KD.out.lt); obtain ⟨x0, x1, x2, x3, x4, x5, x6⟩ := blk_cells6 KC1.out; obtain ⟨y0, y1, y2, y3, y4, y5, y6⟩ := blk_cells6 KD1.out; clear hb1 HM0 HM1)
      | (go_at_call 19; refine (LT2.out _ _ (chs_lit2 w1 ⟨k, o, s, lc, n, f⟩ ⟨k', o', s', ld, n', f'⟩ (.slice Ac nc cc) (.slice Ad nd cd) _ rfl (HC.out _ HB1.out) (HD.out _ HB1.out))).mono ?_; rintro e w2 ⟨rfl, hb2⟩; have hb12 := low_low (low1 (Below.refl w1.heap.size w1) _) hb2; have HB2 := Lib.hid (low_low HB1.out hb12); have KC2 := Lib.hid (KC1.out.below hb12 KC1.out.lt); have KD2 := Lib.hid (KD1.out.below hb12 KD1.out.lt); clear hb2 hb12))
    have HE2 := Lib.hid (Below.refl w2.heap.size w2)
    obtain ⟨x0, x1, x2, x3, x4, x5, x6⟩ := blk_cells6 KC2.out
    obtain ⟨y0, y1, y2, y3, y4, y5, y6⟩ := blk_cells6 KD2.out
    go_region_held3 (fun W => W.cell? ⟨w.heap.size, 0, none⟩ = some (.int .i64 k) ∧ W.cell? ⟨w.heap.size, 1, none⟩ = some (.int .i64 o) ∧ W.cell? ⟨w.heap.size, 2, none⟩ = some (.int .i64 s) ∧ W.cell? ⟨w.heap.size, 3, none⟩ = some (.slice Ac nc cc) ∧ W.cell? ⟨w.heap.size, 4, none⟩ = some (.int .i64 n) ∧ W.cell? ⟨w.heap.size, 5, none⟩ = some (.int .i64 f) ∧ W.cell? ⟨w.heap.size + 1, 0, none⟩ = some (.int .i64 k') ∧ W.cell? ⟨w.heap.size + 1, 1, none⟩ = some (.int .i64 o') ∧ W.cell? ⟨w.heap.size + 1, 2, none⟩ = some (.int .i64 s') ∧ W.cell? ⟨w.heap.size + 1, 3, none⟩ = some (.slice Ad nd cd) ∧ W.cell? ⟨w.heap.size + 1, 4, none⟩ = some (.int .i64 n') ∧ W.cell? ⟨w.heap.size + 1, 5, none⟩ = some (.int .i64 f'))
      (first
        | with_reducible exact ⟨x0, x1, x2, x3, x4, x5, y0, y1, y2, y3, y4, y5⟩
        | with_reducible exact ⟨za0, za1, za2, za3, za4, za5, ya0, ya1, ya2, ya3, ya4, ya5⟩
        | with_reducible exact ⟨zb0, zb1, zb2, zb3, zb4, zb5, yb0, yb1, yb2, yb3, yb4, yb5⟩
        | with_reducible exact ⟨zc0, zc1, zc2, zc3, zc4, zc5, yc0, yc1, yc2, yc3, yc4, yc5⟩
        | with_reducible exact ⟨zd0, zd1, zd2, zd3, zd4, zd5, yd0, yd1, yd2, yd3, yd4, yd5⟩
        | go_keep)
      (first
        | (go_at_call 21; refine (CK.out _ ?hw).mono ?_; (case hw => exact low_low HB2.out (by with_reducible repeat (first | exact HE2.out | exact HEa.out | exact HEb.out | exact HEc.out | exact HEd.out | refine below_drewN ?_ _ | refine Below.drew ?_))); rintro e wa ⟨rfl, hb⟩; have HEa := Lib.hid (low_low (wz := w2) (by with_reducible repeat (first | exact HE2.out | exact HEa.out | exact HEb.out | exact HEc.out | exact HEd.out | refine below_drewN ?_ _ | refine Below.drew ?_)) hb); have HBa := Lib.hid (low_low HB2.out HEa.out); clear hb; obtain ⟨za0, za1, za2, za3, za4, za5, za6⟩ := blk_cells6 (KC2.out.below HEa.out KC2.out.lt); obtain ⟨ya0, ya1, ya2, ya3, ya4, ya5, ya6⟩ := blk_cells6 (KD2.out.below HEa.out KD2.out.lt))
        | (go_at_call 22; refine (MY.out _ ?hw).mono ?_; (case hw => exact low_low HB2.out (by with_reducible repeat (first | exact HE2.out | exact HEa.out | exact HEb.out | exact HEc.out | exact HEd.out | refine below_drewN ?_ _ | refine Below.drew ?_))); rintro e wb ⟨rfl, hb⟩; have HEb := Lib.hid (low_low (wz := w2) (by with_reducible repeat (first | exact HE2.out | exact HEa.out | exact HEb.out | exact HEc.out | exact HEd.out | refine below_drewN ?_ _ | refine Below.drew ?_)) hb); have HBb := Lib.hid (low_low HB2.out HEb.out); clear hb; obtain ⟨zb0, zb1, zb2, zb3, zb4, zb5, zb6⟩ := blk_cells6 (KC2.out.below HEb.out KC2.out.lt); obtain ⟨yb0, yb1, yb2, yb3, yb4, yb5, yb6⟩ := blk_cells6 (KD2.out.below HEb.out KD2.out.lt))
        | (go_at_call 23; refine (SM.out _ ?hw).mono ?_; (case hw => exact low_low HB2.out (by with_reducible repeat (first | exact HE2.out | exact HEa.out | exact HEb.out | exact HEc.out | exact HEd.out | refine below_drewN ?_ _ | refine Below.drew ?_))); rintro e wc ⟨rfl, hb⟩; have HEc := Lib.hid (low_low (wz := w2) (by with_reducible repeat (first | exact HE2.out | exact HEa.out | exact HEb.out | exact HEc.out | exact HEd.out | refine below_drewN ?_ _ | refine Below.drew ?_)) hb); have HBc := Lib.hid (low_low HB2.out HEc.out); clear hb; obtain ⟨zc0, zc1, zc2, zc3, zc4, zc5, zc6⟩ := blk_cells6 (KC2.out.below HEc.out KC2.out.lt); obtain ⟨yc0, yc1, yc2, yc3, yc4, yc5, yc6⟩ := blk_cells6 (KD2.out.below HEc.out KD2.out.lt))
        | (go_at_call 24; refine (RS.out _ ?hw).mono ?_; (case hw => exact low_low HB2.out (by with_reducible repeat (first | exact HE2.out | exact HEa.out | exact HEb.out | exact HEc.out | exact HEd.out | refine below_drewN ?_ _ | refine Below.drew ?_))); rintro e wd ⟨rfl, hb⟩; have HEd := Lib.hid (low_low (wz := w2) (by with_reducible repeat (first | exact HE2.out | exact HEa.out | exact HEb.out | exact HEc.out | exact HEd.out | refine below_drewN ?_ _ | refine Below.drew ?_)) hb); have HBd := Lib.hid (low_low HB2.out HEd.out); clear hb; obtain ⟨zd0, zd1, zd2, zd3, zd4, zd5, zd6⟩ := blk_cells6 (KC2.out.below HEd.out KC2.out.lt); obtain ⟨yd0, yd1, yd2, yd3, yd4, yd5, yd6⟩ := blk_cells6 (KD2.out.below HEd.out KD2.out.lt)))
    go_wp2_with (first
      | (go_at_call 25; refine (PT.out _ HBd.out).mono ?_; rintro e w4 ⟨v4, rfl, _, hv4, hb4⟩; obtain rfl := hv4 (by simp); have HB4 := Lib.hid (low_low HBd.out hb4); clear hb4)
      | (go_at_call 26; refine (AL.out _ HB4.out).mono ?_; rintro e w5 ⟨rfl, hb5⟩; have HBQ := Lib.hid (low_low HB4.out hb5); clear hb5)
      | (go_at_call 20; refine (awake10_any _).mono ?_; rintro e w9 ⟨rfl, hb9⟩; have HB9 := Lib.hid (low_low HBQ.out hb9); clear hb9))
    go_ret
    exact ⟨rfl, HB9.out⟩
set_option maxRecDepth 20000 in
set_option maxHeartbeats 8000000 in
theorem walk_yes (a0 : Option Addr) (n0 c0 : Nat) (k o s n f k' o' s' n' f' : Int) (Ac Ad : Option Addr) (nc cc nd cd : Nat) (lc ld : List Lk) (l : List Ch) (w : World) (h0 : Chs w w.heap.size (.slice a0 n0 c0) l) (hc : Lks w w.heap.size (.slice Ac nc cc) lc) (hd : Lks w w.heap.size (.slice Ad nd cd) ld) (hl : lightB l = true) (hl2 : lightB [⟨k, o, s, lc, n, f⟩, ⟨k', o', s', ld, n', f'⟩] = true) (hok : okAll l = true) :
    Calls Try.prog 4 #[.slice a0 n0 c0, .agg #[.int .i64 k, .int .i64 o, .int .i64 s, .slice Ac nc cc, .int .i64 n, .int .i64 f], .agg #[.int .i64 k', .int .i64 o', .int .i64 s', .slice Ad nd cd, .int .i64 n', .int .i64 f']] w fun e w' => e = .returned (.bool true) ∧ Below w.heap.size w w' := by
  have HB := Lib.hid (low2 w (.cells #[.int .i64 k, .int .i64 o, .int .i64 s, .slice Ac nc cc, .int .i64 n, .int .i64 f] 50) (.cells #[.int .i64 k', .int .i64 o', .int .i64 s', .slice Ad nd cd, .int .i64 n', .int .i64 f'] 50))
  have KC := Lib.hid ((Blk.new w 50 #[.int .i64 k, .int .i64 o, .int .i64 s, .slice Ac nc cc, .int .i64 n, .int .i64 f]).alloc (.cells #[.int .i64 k', .int .i64 o', .int .i64 s', .slice Ad nd cd, .int .i64 n', .int .i64 f'] 50))
  have KD := Lib.hid (blk_second w (.cells #[.int .i64 k, .int .i64 o, .int .i64 s, .slice Ac nc cc, .int .i64 n, .int .i64 f] 50) 50 #[.int .i64 k', .int .i64 o', .int .i64 s', .slice Ad nd cd, .int .i64 n', .int .i64 f'])
  have H0 := Lib.hid (fun (W : World) (hW : Below w.heap.size w W) => h0.up hW)
  have HC := Lib.hid (fun (W : World) (hW : Below w.heap.size w W) => hc.up hW)
  have HD := Lib.hid (fun (W : World) (hW : Below w.heap.size w W) => hd.up hW)
  clear h0 hc hd
  have lt := fun (W : World) (hW : Below w.heap.size w W) => light10_any a0 n0 c0 l W (H0.out W hW)
  have lt2 := fun (W : World) (A : Option Addr) (h : Chs W W.heap.size (.slice A 2 2) [⟨k, o, s, lc, n, f⟩, ⟨k', o', s', ld, n', f'⟩]) => light10_any A 2 2 _ W h
  rw [hl] at lt
  rw [hl2] at lt2
  have LT := Lib.hid lt; clear lt hl hl2
  have LT2 := Lib.hid lt2; clear lt2
  have HM0 := Lib.hid (rfl : (0 : Nat) = 0)
  have ck := fun (W : World) (hW : Below w.heap.size w W) => ccheck_any ⟨k, o, s, lc, n, f⟩ (.slice Ac nc cc) W (HC.out W hW)
  have my := fun (W : World) (hW : Below w.heap.size w W) => rmay_c ⟨k, o, s, lc, n, f⟩ (.slice Ac nc cc) W (HC.out W hW)
  have sm := fun (W : World) (hW : Below w.heap.size w W) => csame_any ⟨k, o, s, lc, n, f⟩ ⟨k', o', s', ld, n', f'⟩ (.slice Ac nc cc) (.slice Ad nd cd) W (HC.out W hW) (HD.out W hW)
  have rs := fun (W : World) (hW : Below w.heap.size w W) => rsame_c ⟨k, o, s, lc, n, f⟩ ⟨k', o', s', ld, n', f'⟩ (.slice Ac nc cc) (.slice Ad nd cd) W (HC.out W hW) (HD.out W hW)
  generalize mayC ⟨k, o, s, lc, n, f⟩ = mc at *
  generalize same ⟨k, o, s, lc, n, f⟩ ⟨k', o', s', ld, n', f'⟩ = sc at *
  simp only [chV] at ck my sm rs
  have pt := fun (W : World) (hW : Below w.heap.size w W) => cputs_any a0 n0 c0 l W (H0.out W hW)
  have al := fun (W : World) (hW : Below w.heap.size w W) => rall_any a0 n0 c0 l W (H0.out W hW)
  have rp := fun (W : World) (hW : Below w.heap.size w W) => rputs_any a0 n0 c0 l W (H0.out W hW) hok
  have hlen : (putC l).length ≤ 200000 := by
    obtain ⟨q1, q2, q3⟩ := okAll_iff.1 hok
    have := cat_len q1
    rw [putC, List.length_append, be_length]
    omega
  have gt := fun (v : Value) (W : World) (hv : Sl W W.heap.size v (putC l)) => cget_any v _ W hv hlen
  rw [getC_back hok] at gt
  unfold CGetOut at gt
  simp only [errT, Option.getD] at gt
  have sq := fun (A A' : Option Addr) (n n' c c' : Nat) (W : World) (hA : Sl W W.heap.size (.slice A n c) (putC l)) (hB : Sl W W.heap.size (.slice A' n' c') (putC l)) => rsame_any A A' n n' c c' _ _ (putC l) (putC l) W (sl_bts2 hA) (sl_bts2 hB)
  simp only [decide_true] at sq
  have lsq := fun (A : Option Addr) (c : Nat) (W : World) (h : Chs W W.heap.size (.slice A n0 c) l) (hW : Below w.heap.size w W) => rlists_same A a0 n0 c c0 l W h (H0.out W hW)
  have hln := (chs_len (H0.out w (Below.refl _ _))).1
  unfold PutOut at pt
  rw [hok] at al pt
  rw [errI_t] at pt
  generalize putC l = bs at *
  have PT := Lib.hid pt; clear pt
  have AL := Lib.hid al; clear al hok hlen
  have RP := Lib.hid rp; clear rp
  have GT := Lib.hid gt; clear gt
  have SQ := Lib.hid sq; clear sq
  have LSQ := Lib.hid lsq; clear lsq
  have HLN := Lib.hid hln; clear hln
  cases mc <;> cases sc
  all_goals
    first | rw [errI_f] at ck | rw [errI_t] at ck
    have CK := Lib.hid ck; clear ck
    have MY := Lib.hid my; clear my
    have SM := Lib.hid sm; clear sm
    have RS := Lib.hid rs; clear rs
    go_enter Try.func4, Try.ntmps4
    go_upto_region 3 with (first
      | (have HM1 := HM0; go_at_call 19; refine (LT.out _ HB.out).mono ?_; rintro e w1 ⟨rfl, hb1⟩; have HB1 := Lib.hid (low_low HB.out hb1); have KC1 := Lib.hid (KC.out.below hb1 KC.out.lt); have KD1 := Lib.hid (KD.out.below hb1 KD.out.lt); obtain ⟨x0, x1, x2, x3, x4, x5, x6⟩ := blk_cells6 KC1.out; obtain ⟨y0, y1, y2, y3, y4, y5, y6⟩ := blk_cells6 KD1.out; clear hb1 HM0 HM1)
      | (go_at_call 19; refine (LT2.out _ _ (chs_lit2 w1 ⟨k, o, s, lc, n, f⟩ ⟨k', o', s', ld, n', f'⟩ (.slice Ac nc cc) (.slice Ad nd cd) _ rfl (HC.out _ HB1.out) (HD.out _ HB1.out))).mono ?_; rintro e w2 ⟨rfl, hb2⟩; have hb12 := low_low (low1 (Below.refl w1.heap.size w1) _) hb2; have HB2 := Lib.hid (low_low HB1.out hb12); have KC2 := Lib.hid (KC1.out.below hb12 KC1.out.lt); have KD2 := Lib.hid (KD1.out.below hb12 KD1.out.lt); clear hb2 hb12))
    have HE2 := Lib.hid (Below.refl w2.heap.size w2)
    obtain ⟨x0, x1, x2, x3, x4, x5, x6⟩ := blk_cells6 KC2.out
    obtain ⟨y0, y1, y2, y3, y4, y5, y6⟩ := blk_cells6 KD2.out
    go_region_held3 (fun W => W.cell? ⟨w.heap.size, 0, none⟩ = some (.int .i64 k) ∧ W.cell? ⟨w.heap.size, 1, none⟩ = some (.int .i64 o) ∧ W.cell? ⟨w.heap.size, 2, none⟩ = some (.int .i64 s) ∧ W.cell? ⟨w.heap.size, 3, none⟩ = some (.slice Ac nc cc) ∧ W.cell? ⟨w.heap.size, 4, none⟩ = some (.int .i64 n) ∧ W.cell? ⟨w.heap.size, 5, none⟩ = some (.int .i64 f) ∧ W.cell? ⟨w.heap.size + 1, 0, none⟩ = some (.int .i64 k') ∧ W.cell? ⟨w.heap.size + 1, 1, none⟩ = some (.int .i64 o') ∧ W.cell? ⟨w.heap.size + 1, 2, none⟩ = some (.int .i64 s') ∧ W.cell? ⟨w.heap.size + 1, 3, none⟩ = some (.slice Ad nd cd) ∧ W.cell? ⟨w.heap.size + 1, 4, none⟩ = some (.int .i64 n') ∧ W.cell? ⟨w.heap.size + 1, 5, none⟩ = some (.int .i64 f'))
      (first
        | with_reducible exact ⟨x0, x1, x2, x3, x4, x5, y0, y1, y2, y3, y4, y5⟩
        | with_reducible exact ⟨za0, za1, za2, za3, za4, za5, ya0, ya1, ya2, ya3, ya4, ya5⟩
        | with_reducible exact ⟨zb0, zb1, zb2, zb3, zb4, zb5, yb0, yb1, yb2, yb3, yb4, yb5⟩
        | with_reducible exact ⟨zc0, zc1, zc2, zc3, zc4, zc5, yc0, yc1, yc2, yc3, yc4, yc5⟩
        | with_reducible exact ⟨zd0, zd1, zd2, zd3, zd4, zd5, yd0, yd1, yd2, yd3, yd4, yd5⟩
        | go_keep)
      (first
        | (go_at_call 21; refine (CK.out _ ?hw).mono ?_; (case hw => exact low_low HB2.out (by with_reducible repeat (first | exact HE2.out | exact HEa.out | exact HEb.out | exact HEc.out | exact HEd.out | refine below_drewN ?_ _ | refine Below.drew ?_))); rintro e wa ⟨rfl, hb⟩; have HEa := Lib.hid (low_low (wz := w2) (by with_reducible repeat (first | exact HE2.out | exact HEa.out | exact HEb.out | exact HEc.out | exact HEd.out | refine below_drewN ?_ _ | refine Below.drew ?_)) hb); have HBa := Lib.hid (low_low HB2.out HEa.out); clear hb; obtain ⟨za0, za1, za2, za3, za4, za5, za6⟩ := blk_cells6 (KC2.out.below HEa.out KC2.out.lt); obtain ⟨ya0, ya1, ya2, ya3, ya4, ya5, ya6⟩ := blk_cells6 (KD2.out.below HEa.out KD2.out.lt))
        | (go_at_call 22; refine (MY.out _ ?hw).mono ?_; (case hw => exact low_low HB2.out (by with_reducible repeat (first | exact HE2.out | exact HEa.out | exact HEb.out | exact HEc.out | exact HEd.out | refine below_drewN ?_ _ | refine Below.drew ?_))); rintro e wb ⟨rfl, hb⟩; have HEb := Lib.hid (low_low (wz := w2) (by with_reducible repeat (first | exact HE2.out | exact HEa.out | exact HEb.out | exact HEc.out | exact HEd.out | refine below_drewN ?_ _ | refine Below.drew ?_)) hb); have HBb := Lib.hid (low_low HB2.out HEb.out); clear hb; obtain ⟨zb0, zb1, zb2, zb3, zb4, zb5, zb6⟩ := blk_cells6 (KC2.out.below HEb.out KC2.out.lt); obtain ⟨yb0, yb1, yb2, yb3, yb4, yb5, yb6⟩ := blk_cells6 (KD2.out.below HEb.out KD2.out.lt))
        | (go_at_call 23; refine (SM.out _ ?hw).mono ?_; (case hw => exact low_low HB2.out (by with_reducible repeat (first | exact HE2.out | exact HEa.out | exact HEb.out | exact HEc.out | exact HEd.out | refine below_drewN ?_ _ | refine Below.drew ?_))); rintro e wc ⟨rfl, hb⟩; have HEc := Lib.hid (low_low (wz := w2) (by with_reducible repeat (first | exact HE2.out | exact HEa.out | exact HEb.out | exact HEc.out | exact HEd.out | refine below_drewN ?_ _ | refine Below.drew ?_)) hb); have HBc := Lib.hid (low_low HB2.out HEc.out); clear hb; obtain ⟨zc0, zc1, zc2, zc3, zc4, zc5, zc6⟩ := blk_cells6 (KC2.out.below HEc.out KC2.out.lt); obtain ⟨yc0, yc1, yc2, yc3, yc4, yc5, yc6⟩ := blk_cells6 (KD2.out.below HEc.out KD2.out.lt))
        | (go_at_call 24; refine (RS.out _ ?hw).mono ?_; (case hw => exact low_low HB2.out (by with_reducible repeat (first | exact HE2.out | exact HEa.out | exact HEb.out | exact HEc.out | exact HEd.out | refine below_drewN ?_ _ | refine Below.drew ?_))); rintro e wd ⟨rfl, hb⟩; have HEd := Lib.hid (low_low (wz := w2) (by with_reducible repeat (first | exact HE2.out | exact HEa.out | exact HEb.out | exact HEc.out | exact HEd.out | refine below_drewN ?_ _ | refine Below.drew ?_)) hb); have HBd := Lib.hid (low_low HB2.out HEd.out); clear hb; obtain ⟨zd0, zd1, zd2, zd3, zd4, zd5, zd6⟩ := blk_cells6 (KC2.out.below HEd.out KC2.out.lt); obtain ⟨yd0, yd1, yd2, yd3, yd4, yd5, yd6⟩ := blk_cells6 (KD2.out.below HEd.out KD2.out.lt)))
    go_wp2_with (first
      | (go_at_call 25; refine (PT.out _ HBd.out).mono ?_; rintro e w4 ⟨v4, rfl, hs4, _, hb4⟩; obtain ⟨A4, n4, c4, rfl, _⟩ := id (hs4 (by simp)); have HS4 := Lib.hid (hs4 (by simp)); have HB4 := Lib.hid (low_low HBd.out hb4); clear hb4 hs4)
      | (go_at_call 26; refine (AL.out _ HB4.out).mono ?_; rintro e w5 ⟨rfl, hb5⟩; have HS5 := Lib.hid (sl_up HS4.out hb5); have HB5 := Lib.hid (low_low HB4.out hb5); clear hb5)
      | (go_at_call 27; refine (GT.out _ _ HS5.out).mono ?_; rintro e w6 ⟨v6, rfl, hc6, hb6⟩; obtain ⟨A6, n6, c6, rfl, hl6, _⟩ := id hc6; have hn6 : n0 = n6 := (HLN.out.symm.trans hl6); subst hn6; have HC6 := Lib.hid hc6; have HS6 := Lib.hid (sl_up HS5.out hb6); have HB6 := Lib.hid (low_low HB5.out hb6); clear hb6 hc6 hl6)
      | (go_at_call 29; refine (RP.out _ HB6.out).mono ?_; rintro e w7 ⟨v7, rfl, hs7, hb7⟩; obtain ⟨A7, n7, c7, rfl, _⟩ := id hs7; have HS7 := Lib.hid hs7; have HS67 := Lib.hid (sl_up HS6.out hb7); have HC7 := Lib.hid (HC6.out.up hb7); have HB7 := Lib.hid (low_low HB6.out hb7); clear hb7 hs7)
      | (go_at_call 28; refine (SQ.out A4 A7 n4 n7 c4 c7 _ HS67.out HS7.out).mono ?_; rintro e w8 ⟨rfl, m8, rfl⟩; have HB8 := Lib.hid (below_drewN HB7.out m8); have HC8 := Lib.hid (show Chs (w7.drewN m8) (w7.drewN m8).heap.size (.slice A6 n0 c6) l from HC7.out))
      | (go_at_call 30; refine (LSQ.out A6 c6 _ HC8.out HB8.out).mono ?_; rintro e w0 ⟨rfl, hb0⟩; have HBQ := Lib.hid (low_low HB8.out hb0); clear hb0)
      | (go_at_call 20; refine (awake10_any _).mono ?_; rintro e w9 ⟨rfl, hb9⟩; have HB9 := Lib.hid (low_low HBQ.out hb9); clear hb9))
    go_ret
    exact ⟨rfl, HB9.out⟩
theorem walk (a0 : Option Addr) (len0 cap0 : Nat) (u1a u1b u1c u1d u1e u1f u2a u2b u2c u2d u2e u2f : Value) (w : World) (w0 : IsRecs w a0 len0 cap0 6 (ChR w)) (w1a : NumOf .i64 u1a) (w1b : NumOf .i64 u1b) (w1c : NumOf .i64 u1c) (w1d : LkR w u1d) (w1e : NumOf .i64 u1e) (w1f : NumOf .i64 u1f) (w2a : NumOf .i64 u2a) (w2b : NumOf .i64 u2b) (w2c : NumOf .i64 u2c) (w2d : LkR w u2d) (w2e : NumOf .i64 u2e) (w2f : NumOf .i64 u2f) :
    Calls Try.prog 4 #[.slice a0 len0 cap0, .agg #[u1a, u1b, u1c, u1d, u1e, u1f], .agg #[u2a, u2b, u2c, u2d, u2e, u2f]] w fun e w' => e = .returned (.bool true) ∧ Below w.heap.size w w' := by
  obtain ⟨l, h0⟩ := chs_in w0
  obtain ⟨k, rfl, _⟩ := w1a
  obtain ⟨o, rfl, _⟩ := w1b
  obtain ⟨s, rfl, _⟩ := w1c
  obtain ⟨Ac, nc, cc, rfl, hrc⟩ := w1d
  obtain ⟨n, rfl, _⟩ := w1e
  obtain ⟨f, rfl, _⟩ := w1f
  obtain ⟨k', rfl, _⟩ := w2a
  obtain ⟨o', rfl, _⟩ := w2b
  obtain ⟨s', rfl, _⟩ := w2c
  obtain ⟨Ad, nd, cd, rfl, hrd⟩ := w2d
  obtain ⟨n', rfl, _⟩ := w2e
  obtain ⟨f', rfl, _⟩ := w2f
  obtain ⟨lc, hc⟩ := lks_in hrc
  obtain ⟨ld, hd⟩ := lks_in hrd
  cases hl : lightB l
  · exact walk_dark a0 len0 cap0 k o s n f k' o' s' n' f' Ac Ad nc cc nd cd lc ld l w h0 hc hd hl
  cases hl2 : lightB [⟨k, o, s, lc, n, f⟩, ⟨k', o', s', ld, n', f'⟩]
  · exact walk_dark2 a0 len0 cap0 k o s n f k' o' s' n' f' Ac Ad nc cc nd cd lc ld l w h0 hc hd hl hl2
  cases hok : okAll l
  · exact walk_no a0 len0 cap0 k o s n f k' o' s' n' f' Ac Ad nc cc nd cd lc ld l w h0 hc hd hl hl2 hok
  · exact walk_yes a0 len0 cap0 k o s n f k' o' s' n' f' Ac Ad nc cc nd cd lc ld l w h0 hc hd hl hl2 hok
open Go.ChangeShapes Go.WideShapes Go.ChangeAt Go.RowKit
theorem own : ownKnob Try.prog.godebug = none := by kernel_rfl
theorem laidOut : laidOutB Try.prog = true := by kernel_rfl
/-! the step from the walk to the row -/
set_option maxRecDepth 100000 in
theorem lifted (os : Os) (started : os.Started) (H : Type) (enc : TypeId × Value → H) :
    ReturnsInHanded {} Try.checked os 4 .any (Rows.changePutsSpec.pre6 enc Try.prog Try.f4 Rows.changePutsRow.domain false) (Rows.changePutsSpec.post enc Try.prog Try.f4 false true false false) := by
  refine returnsInHanded_of_change (C := Try.checked) own started (by kernel_rfl) Try.func4
    (ChangeSpec.witness6 (enc := enc) (C := Try.checked) false ⟨#[], #[.slice none 0 0, .agg #[.int .i64 0, .int .i64 0, .int .i64 0, .slice none 0 0, .int .i64 0, .int .i64 0], .agg #[.int .i64 0, .int .i64 0, .int .i64 0, .slice none 0 0, .int .i64 0, .int .i64 0]], []⟩ 8 (by kernel_rfl) (by kernel_rfl) (by kernel_rfl) (by kernel_rfl)) ?_
  intro W base args ds gs before hval0 hW hcnd _
  have hval : ∀ (j : Nat) t v, Try.f4.params[j]? = some t → args[j]? = some v → Value.okWide Try.prog W .any base t v := hval0
  have hW' := hW
  obtain ⟨p, q, hA0, hV, rfl, hfz, hnd⟩ := hW
  have hA : DataW.TrodAll enc Try.prog W 0 (fun _ => true) true Try.f4.params.toList args.toList ds p := hA0
  rw [Try.params4] at hA hval
  obtain ⟨v0, vs0, d0, ds0, p0, q0, hargs, rfl, rfl, h0, r0⟩ := trodAll_cons hA
  obtain ⟨v1, vs1, d1, ds1, p1, q1, rfl, rfl, rfl, h1, r1⟩ := trodAll_cons r0
  obtain ⟨v2, vs2, d2, ds2, p2, q2, rfl, rfl, rfl, h2, r2⟩ := trodAll_cons r1
  obtain ⟨rfl, rfl, rfl⟩ := trodAll_nil r2
  obtain rfl : args = #[v0, v1, v2] := by cases args; simp_all
  obtain ⟨rfl, rfl⟩ := trodVars_none hV
  obtain ⟨a0, len0, cap0, rfl⟩ := okWide_slice Try.underlying45 (hval 0 45 v0 rfl rfl)
  have k0 := h0
  have lt0 : ∀ x ∈ p0, x.block < W.heap.size := by obtain ⟨m, hm⟩ := k0; exact DataW.trod_lt m _ _ _ hm
  have w0 : IsRecs W a0 len0 cap0 6 (ChR W) := by
    obtain ⟨fuel, hf⟩ := h0
    obtain ⟨A, l, c, e, hr⟩ := open_changes_at (v := .slice a0 len0 cap0) hf
    injection e with e1 e2 e3
    subst e1 e2 e3
    exact hr
  have k1 := h1
  have lt1 : ∀ x ∈ p1, x.block < W.heap.size := by obtain ⟨m, hm⟩ := k1; exact DataW.trod_lt m _ _ _ hm
  obtain ⟨u1a, u1b, u1c, u1d, u1e, u1f, rfl, w1a, w1b, w1c, w1d, w1e, w1f⟩ := open_change_at (hval 1 50 v1 rfl rfl) h1
  have k2 := h2
  have lt2 : ∀ x ∈ p2, x.block < W.heap.size := by obtain ⟨m, hm⟩ := k2; exact DataW.trod_lt m _ _ _ hm
  obtain ⟨u2a, u2b, u2c, u2d, u2e, u2f, rfl, w2a, w2b, w2c, w2d, w2e, w2f⟩ := open_change_at (hval 2 50 v2 rfl rfl) h2
  clear hA0 hval0
  refine (walk a0 len0 cap0 u1a u1b u1c u1d u1e u1f u2a u2b u2c u2d u2e u2f W w0 w1a w1b w1c w1d w1e w1f w2a w2b w2c w2d w2e w2f).mono fun e W' ⟨he, bel⟩ => ?_
  subst he
  exact ⟨_, rfl, _, _, _, [], _, [], hW', trodAll_mk1 (shut_bool Try.underlying4 _), (trodAll_cons_mk (Below.trod laidOut (by kernel_rfl) (of_decide_eq_true (by kernel_rfl)) k0 bel lt0) (trodAll_cons_mk (Below.trod laidOut (by kernel_rfl) (of_decide_eq_true (by kernel_rfl)) k1 bel lt1) (trodAll_cons_mk (Below.trod laidOut (by kernel_rfl) (of_decide_eq_true (by kernel_rfl)) k2 bel lt2) trodAll_mk0))), rfl, bel.frame _, fun h => by cases h⟩

theorem over : Rows.changePutsRow.holds Try.pinned (OpenSpec.ofChange Rows.changePutsSpec) :=
  OpenClaim.holds_of_wide 4 Try.f4 rfl rfl rfl rfl rfl rfl rfl ⟨rfl, rfl, rfl, rfl, rfl⟩ rfl rfl rfl rfl rfl (by kernel_rfl) Try.func4 (by kernel_rfl)
    (of_decide_eq_true (by kernel_rfl)) (by unfold Func.isWrapper; first | (rw [if_pos (by decide +kernel)]; kernel_rfl) | (rw [if_neg (by decide +kernel)]; exact ⟨rfl, rfl⟩))
    (fun os started H enc _ => lifted os started H enc)

/-- the statement -/
theorem proved : Rows.ChangePutsSaid := over
end Go.Proofs.Ytjdlkejdgekbaaa.changePuts
