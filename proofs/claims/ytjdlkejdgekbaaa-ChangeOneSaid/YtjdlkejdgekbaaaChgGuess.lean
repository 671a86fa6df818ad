/- The change that bytes seem to begin with, by the reference (layer 10): the contract of waymarkref10.guess. Condition: at most 100000 bytes. -/
import Derived.Test.YtjdlkejdgekbaaaChgRead
import Derived.Test.YtjdlkejdgekbaaaLsaRefRead
import Derived.Deep.Cut
import Derived.IntWalk
namespace Go.Proofs.Ytjdlkejdgekbaaa.Chg
open Go.RowKit Go.Proofs.Ytjdlkejdgekbaaa.Mem Go.Proofs.Ytjdlkejdgekbaaa.Oct Go.Proofs.Ytjdlkejdgekbaaa.Lsa
set_option linter.unusedVariables false
set_option linter.unusedSimpArgs false
theorem sl_cut {w : World} {B n c : Nat} {A : Option Addr} {xs : List Nat} (h : Sl w B (.slice A n c) xs) (i : Nat) (hi : i ≤ n) :
    ∃ A', (∀ W, (Instr.slice 22 (.slice A n c) (some (.int .i64 i)) none none).run Try.prog W = .ok (.slice A' (n - i) (c - i)) W) ∧ Sl w B (.slice A' (n - i) (c - i)) (xs.drop i) := by
  obtain ⟨A0, n0, c0, e, hb, h1, h2, h3⟩ := h
  injection e with e1 e2 e3
  subst e1 e2 e3
  obtain ⟨A', e, hb'⟩ := bts_sliced hb i n hi (Nat.le_refl _) h1
  rw [List.take_of_length_le (by rw [List.length_drop, hb.1]; exact Nat.le_refl _)] at hb'
  refine ⟨A', fun W => ?_, A', n - i, c - i, rfl, hb', by omega, by omega, fun hA => ?_⟩
  · rw [run_slice_l W _ A n c under22 .i64 i (by omega) (by omega), size1]
    simp only [Result.andThen, Int.toNat_natCast, e]
  · unfold sliced at e
    injection e with e1 _ _
    rw [hA] at e1
    by_cases hci : c = i
    · omega
    · rw [if_neg hci] at e1
      rw [Option.map_eq_none_iff] at e1
      have := h3 e1
      omega
theorem ref_lsa (ys : List Nat) : (if isAt ys = true then lsaAt ys else (0, 0, [])) = lsaO (ys, true) := by
  rw [lsaO, rOk_at]
  cases h : isAt ys
  · rfl
  · have h2 := h
    simp only [isAt, Bool.and_eq_true, decide_eq_true_eq] at h2
    simp only [if_true, (rAll_at h2.1 h2.2.1).2]
theorem rnum_ref (A : Option Addr) (n c at_ : Nat) (s z0 : Bool) (hz : z0 = !s) (K : Int) (xs : List Nat) (W : World) (h : Sl W W.heap.size (.slice A n c) xs) (hl : at_ ≤ xs.length) :
    Calls Try.prog 97 #[.agg #[.slice A n c, .int .i64 (at_ : Nat), .bool z0], .int .i64 K] W fun e w' => ∃ (at' : Nat) (z : Bool), at' ≤ xs.length ∧ (rnum (xs.drop at_, s) K).1 = (xs.drop at', !z) ∧ e = .returned (.tuple #[.agg #[.slice A n c, .int .i64 (at' : Nat), .bool z], .int .u64 ((rnum (xs.drop at_, s) K).2 : Nat)]) ∧ Below W.heap.size W w' := by
  subst hz
  refine (refread_any (.slice A n c) xs at_ s K W h hl).mono ?_
  rintro e w' ⟨at', h1', h2', rfl, h3'⟩
  refine ⟨at', !(rnum (xs.drop at_, s) K).1.2, h1', ?_, rfl, h3'⟩
  rw [Bool.not_not, ← h2']
theorem readC_at {xs : List Nat} (h : 0 < xs.length) : readC (xs, true) = readBody ((xs.getD 0 0 : Nat) : Int) (xs.drop 1, true) := by
  have e := rnum_at (xs := xs) (K := 1) (k := 1) rfl (by omega) (by omega) (by omega)
  have e2 := num_one xs 0 h
  rw [List.drop_zero] at e2
  rw [readC, e, e2]
theorem readC_nil : readC ([], true) = (([], false), zeroC) := by
  have e := rnum_short (xs := []) (s := true) (K := 1) (k := 1) rfl (by simp)
  rw [readC, e]
  rfl
def GuessOut (w : World) (c : Ch) (e : Ending) (w' : World) : Prop :=
  ∃ u, e = .returned (chV c u) ∧ (∃ n, w'.ownsRow w.heap.size 132 2 u n (lkCells c.ls)) ∧ Below w.heap.size w w'
theorem upd6_below {B : Nat} {w w1 : World} {g : Nat} {u0 u1 u2 u3 u4 u5 : Value} (h : Below B w w1) (hg : B ≤ g) : Below B w (upd6 w1 g u0 u1 u2 u3 u4 u5) :=
  (((((h.setCell (by exact hg) _).setCell (by exact hg) _).setCell (by exact hg) _).setCell (by exact hg) _).setCell (by exact hg) _).setCell (by exact hg) _
set_option maxRecDepth 20000 in
set_option maxHeartbeats 1000000 in
theorem guess_nil (A : Option Addr) (c : Nat) (w : World) : Calls Try.prog 64 #[.slice A 0 c] w (GuessOut w zeroC) := by
  have K0 := Lib.hid (Blk.new w 50 #[.int .i64 0, .int .i64 0, .int .i64 0, .slice none 0 0, .int .i64 0, .int .i64 0])
  have HB0 := Lib.hid (low1 (Below.refl w.heap.size w) (.cells #[.int .i64 0, .int .i64 0, .int .i64 0, .slice none 0 0, .int .i64 0, .int .i64 0] 50))
  go_enter Try.func64, Try.ntmps64
  go_upto_region 2 with (fail)
  generalize w.alloc (.cells #[.int .i64 0, .int .i64 0, .int .i64 0, .slice none 0 0, .int .i64 0, .int .i64 0] 50) = wz at *
  obtain ⟨y0, y1, y2, y3, y4, y5, y6⟩ := blk_cells6 K0.out
  obtain ⟨g0, g1, g2, g3, g4, g5⟩ := blk_fz6 K0.out
  go_wp2
  refine bodyPost_ret (v := chV zeroC (.slice none 0 0)) ?_ rfl ⟨_, rfl, ⟨0, own_none _ _⟩, upd6_below (g := w.heap.size) HB0.out (Nat.le_refl _)⟩
  simp [results, Try.results64, go_sem, y0, y1, y2, y3, y4, y5, y6, zeroC]
set_option maxRecDepth 20000 in
set_option maxHeartbeats 4000000 in
theorem guess_any (A : Option Addr) (n c : Nat) (xs : List Nat) (w : World) (h : Sl w w.heap.size (.slice A n c) xs) :
    Calls Try.prog 64 #[.slice A n c] w (GuessOut w (readC (xs, true)).2) := by
  have hbt : Bts w w.heap.size A n xs := by
    obtain ⟨A', n', c', e, hb, _⟩ := h
    injection e with e1 e2 e3
    subst e1 e2 e3
    exact hb
  have hl := hbt.1
  have hnm := hbt.2.2.1
  by_cases hn0 : n = 0
  · subst hn0
    have : xs = [] := List.eq_nil_of_length_eq_zero hl
    subst this
    rw [readC_nil]
    exact guess_nil A c w
  have hn : 0 < n := by omega
  have dn : ((n : Int) == 0) = false := by rw [beq_eq_false_iff_ne]; omega
  rw [readC_at (by omega)]
  obtain ⟨b, off, rfl, hb, hc⟩ := hbt.2.2.2 hn
  have c0 := hc 0 hn
  have hx0 := getD_lt hbt.2.1 0
  generalize xs.getD 0 0 = N1 at *
  have k2 : ∀ o1 o2 : Obj, Blk (((w.alloc (.cells #[.int .i64 0, .int .i64 0, .int .i64 0, .slice none 0 0, .int .i64 0, .int .i64 0] 50)).alloc o1).alloc o2) w.heap.size 50 #[.int .i64 0, .int .i64 0, .int .i64 0, .slice none 0 0, .int .i64 0, .int .i64 0] := fun o1 o2 => ((Blk.new _ _ _).alloc _).alloc _
  have hbz : ∀ o0 o1 o2 : Obj, Below w.heap.size w (((w.alloc o0).alloc o1).alloc o2) := fun o0 o1 o2 => low1 (low2 w o0 o1) o2
  have d0 : ∀ o : Obj, (w.alloc o).cell? ⟨b, off, none⟩ = some (.int .u8 (N1 : Nat)) := fun o => by
    have := ((low1 (Below.refl w.heap.size w) o).cell (p := ⟨b, off + 0, none⟩) hb).trans c0
    simpa using this
  have d1 := d0 (.cells #[.int .i64 0, .int .i64 0, .int .i64 0, .slice none 0 0, .int .i64 0, .int .i64 0] 50)
  clear d0 c0 hc
  have HX := Lib.hid (fun (W : World) (hW : Below w.heap.size w W) => sl_up h hW)
  obtain ⟨A1, hcut, hs1⟩ := sl_cut h 1 hn
  have e1 : ((1 : Nat) : Int) = 1 := rfl
  rw [e1] at hcut
  have HCUT := Lib.hid hcut; clear hcut e1
  have HS1 := Lib.hid (fun (W : World) (hW : Below w.heap.size w W) => sl_up hs1 hW)
  have HLT1 := Lib.hid (drop_lt hbt.2.1 1)
  clear h hbt hs1
  have HL := Lib.hid hl; clear hl
  have k3 : Blk (((w.alloc (.cells #[.int .i64 0, .int .i64 0, .int .i64 0, .slice none 0 0, .int .i64 0, .int .i64 0] 50)).alloc (.cells #[.int .i64 (N1 : Nat), .int .i64 0, .int .i64 0, .slice none 0 0, .int .i64 0, .int .i64 0] 50)).alloc (.cells #[.slice (some ⟨b, off, none⟩) n c, .int .i64 1, .bool false] 145)) (w.heap.size + 1) 50 #[.int .i64 (N1 : Nat), .int .i64 0, .int .i64 0, .slice none 0 0, .int .i64 0, .int .i64 0] := (blk_second w _ _ _).alloc _
  have k4 : Blk (((w.alloc (.cells #[.int .i64 0, .int .i64 0, .int .i64 0, .slice none 0 0, .int .i64 0, .int .i64 0] 50)).alloc (.cells #[.int .i64 (N1 : Nat), .int .i64 0, .int .i64 0, .slice none 0 0, .int .i64 0, .int .i64 0] 50)).alloc (.cells #[.slice (some ⟨b, off, none⟩) n c, .int .i64 1, .bool false] 145)) (w.heap.size + 1 + 1) 145 #[.slice (some ⟨b, off, none⟩) n c, .int .i64 1, .bool false] := by
    have := Blk.new ((w.alloc (.cells #[.int .i64 0, .int .i64 0, .int .i64 0, .slice none 0 0, .int .i64 0, .int .i64 0] 50)).alloc (.cells #[.int .i64 (N1 : Nat), .int .i64 0, .int .i64 0, .slice none 0 0, .int .i64 0, .int .i64 0] 50)) 145 #[.slice (some ⟨b, off, none⟩) n c, .int .i64 1, .bool false]
    simpa using this
  have HBZ := Lib.hid (hbz (.cells #[.int .i64 0, .int .i64 0, .int .i64 0, .slice none 0 0, .int .i64 0, .int .i64 0] 50) (.cells #[.int .i64 (N1 : Nat), .int .i64 0, .int .i64 0, .slice none 0 0, .int .i64 0, .int .i64 0] 50) (.cells #[.slice (some ⟨b, off, none⟩) n c, .int .i64 1, .bool false] 145)); clear hbz
  have K2 := Lib.hid (k2 (.cells #[.int .i64 (N1 : Nat), .int .i64 0, .int .i64 0, .slice none 0 0, .int .i64 0, .int .i64 0] 50) (.cells #[.slice (some ⟨b, off, none⟩) n c, .int .i64 1, .bool false] 145)); clear k2
  have K3 := Lib.hid k3; clear k3
  have K4 := Lib.hid k4; clear k4
  obtain ⟨R, hR⟩ : ∃ R, R = (readBody ((N1 : Nat) : Int) (xs.drop 1, true)).2 := ⟨_, rfl⟩
  rw [← hR]
  have HR := Lib.hid hR; clear hR
  go_enter Try.func64, Try.ntmps64
  go_upto_region 5 with (fail)
  generalize (((w.alloc (.cells #[.int .i64 0, .int .i64 0, .int .i64 0, .slice none 0 0, .int .i64 0, .int .i64 0] 50)).alloc (.cells #[.int .i64 (N1 : Nat), .int .i64 0, .int .i64 0, .slice none 0 0, .int .i64 0, .int .i64 0] 50)).alloc (.cells #[.slice (some ⟨b, off, none⟩) n c, .int .i64 1, .bool false] 145)) = wz at *
  clear d1
  have hne : w.heap.size ≠ w.heap.size + 1 := by omega
  obtain ⟨x0, x1, x2, x3, x4, x5, x6⟩ := blk_cells6 K3.out
  obtain ⟨v0, v1, v2, v3⟩ := blk_cells3 K4.out
  by_cases e1 : N1 = 1
  · subst e1
    have e0 : ((1 : Nat) : Int) = 1 := rfl
    have hR := HR.out
    rw [e0, body_1] at hR
    simp only at hR
    clear HR
    have rr := fun (W : World) (hW : Below w.heap.size w W) => rread_own A1 (n - 1) (c - 1) (xs.drop 1) W (HS1.out W hW)
    rw [ref_lsa] at rr
    generalize (if isAt (xs.drop 1) = true then 10 + 5 * many (xs.drop 1) else 0) = NN at *
    generalize lsaO (xs.drop 1, true) = L at *
    obtain ⟨o, s, ls⟩ := L
    simp only at hR
    subst hR
    have RR := Lib.hid rr; clear rr
    have hcut := HCUT.out
    go_upto_region 8 with (go_at_call 96; refine (RR.out _ HBZ.out).mono ?_; rintro e w4 ⟨v4, rfl, ⟨n4, ho4⟩, hb4⟩; obtain ⟨A4, c4, rfl⟩ := Lsa.own_form ho4; have HO4 := Lib.hid ho4; have KY2 := Lib.hid (K2.out.below hb4 K2.out.lt); have KY3 := Lib.hid (K3.out.below hb4 K3.out.lt); have HB4 := Lib.hid (low_low HBZ.out hb4); have hs4 := hb4.size; clear ho4 hb4)
    have KL := Lib.hid (Blk.new w4 48 #[.int .i64 o, .int .i64 s, .slice A4 n4 c4])
    have HOY := Lib.hid (HO4.out.alloc (.cells #[.int .i64 o, .int .i64 s, .slice A4 n4 c4] 48))
    have KZ2 := Lib.hid (KY2.out.alloc (.cells #[.int .i64 o, .int .i64 s, .slice A4 n4 c4] 48))
    have KZ3 := Lib.hid (KY3.out.alloc (.cells #[.int .i64 o, .int .i64 s, .slice A4 n4 c4] 48))
    have HBY := Lib.hid (low1 HB4.out (.cells #[.int .i64 o, .int .i64 s, .slice A4 n4 c4] 48))
    have hz3 := K3.out.lt
    generalize w4.alloc (.cells #[.int .i64 o, .int .i64 s, .slice A4 n4 c4] 48) = wy at *
    clear x0 x1 x2 x3 x4 x5 x6
    obtain ⟨l0, l1, l2, l3⟩ := blk_cells3 KL.out
    obtain ⟨z0, z1, z2, z3, z4, z5, z6⟩ := blk_cells6 KZ3.out
    obtain ⟨f0, f1, f2, f3, f4, f5⟩ := blk_fz6 KZ3.out
    obtain ⟨y0, y1, y2, y3, y4, y5, y6⟩ := blk_cells6 KZ2.out
    obtain ⟨g0, g1, g2, g3, g4, g5⟩ := blk_fz6 KZ2.out
    go_wp2
    refine bodyPost_ret (v := chV ⟨1, o, s, ls, 0, 0⟩ (.slice A4 n4 c4)) ?_ rfl ⟨_, rfl, ⟨n4, own_mono (upd6_own (g := w.heap.size) (ownsRow_setCell_below (a := ⟨w.heap.size + 1, 3, none⟩) (ownsRow_setCell_below (a := ⟨w.heap.size + 1, 2, none⟩) (ownsRow_setCell_below (a := ⟨w.heap.size + 1, 1, none⟩) HOY.out hz3 _) hz3 _) hz3 _) (Nat.lt_of_succ_lt hz3)) (Nat.le_of_lt (Nat.lt_of_succ_lt hz3))⟩, upd6_below (g := w.heap.size) (low_set (low_set (low_set HBY.out (Nat.le_succ _)) (Nat.le_succ _)) (Nat.le_succ _)) (Nat.le_refl _)⟩
    simp [results, Try.results64, go_sem, y0, y1, y2, y3, y4, y5, y6, z0, z1, z2, z3, z4, z5, z6]
  by_cases e2 : N1 = 2
  · subst e2
    have e0 : ((2 : Nat) : Int) = 2 := rfl
    have hR := HR.out
    rw [e0, body_2] at hR
    clear HR
    have r2 := fun (W : World) (hW : Below w.heap.size w W) => rnum_ref (some ⟨b, off, none⟩) n c 1 true false rfl 8 xs W (HX.out W hW) (by have := HL.out; omega)
    have e9 : ((1 : Nat) : Int) = 1 := rfl
    rw [e9] at r2
    have n2 := rnum_lt (st := (xs.drop 1, true)) (k := 8) (K := 8) rfl HLT1.out
    generalize rnum (xs.drop 1, true) 8 = q at *
    obtain ⟨st2, N2⟩ := q
    simp only at r2 n2 hR
    have hsg := sgn_wrap (n := N2) n2
    obtain ⟨sq, hsq⟩ : ∃ sq, sq = sgn N2 := ⟨_, rfl⟩
    rw [← hsq] at hsg hR
    clear hsq
    subst hR
    have R2 := Lib.hid r2; clear r2
    go_upto_region 11 with (go_at_call 97; refine (R2.out _ HBZ.out).mono ?_; rintro e w4 ⟨at4, z4, h4a, h4b, rfl, hb4⟩; have KY2 := Lib.hid (K2.out.below hb4 K2.out.lt); have KY3 := Lib.hid (K3.out.below hb4 K3.out.lt); have HB4 := Lib.hid (low_low HBZ.out hb4); have hs4 := hb4.size; clear hb4 h4a h4b)
    have KZ2 := Lib.hid (KY2.out.alloc (.cells #[.slice (some ⟨b, off, none⟩) n c, .int .i64 (at4 : Nat), .bool z4] 145))
    have KZ3 := Lib.hid (KY3.out.alloc (.cells #[.slice (some ⟨b, off, none⟩) n c, .int .i64 (at4 : Nat), .bool z4] 145))
    have HBY := Lib.hid (low1 HB4.out (.cells #[.slice (some ⟨b, off, none⟩) n c, .int .i64 (at4 : Nat), .bool z4] 145))
    generalize w4.alloc (.cells #[.slice (some ⟨b, off, none⟩) n c, .int .i64 (at4 : Nat), .bool z4] 145) = wy at *
    clear x0 x1 x2 x3 x4 x5 x6
    obtain ⟨z0, z1, z2, z3, z4', z5, z6⟩ := blk_cells6 KZ3.out
    obtain ⟨f0, f1, f2, f3, f4, f5⟩ := blk_fz6 KZ3.out
    obtain ⟨y0, y1, y2, y3, y4, y5, y6⟩ := blk_cells6 KZ2.out
    obtain ⟨g0, g1, g2, g3, g4, g5⟩ := blk_fz6 KZ2.out
    go_wp2
    refine bodyPost_ret (v := chV ⟨2, 0, 0, [], sq, 0⟩ (.slice none 0 0)) ?_ rfl ⟨_, rfl, ⟨0, own_none _ _⟩, upd6_below (g := w.heap.size) (low_set HBY.out (Nat.le_succ _)) (Nat.le_refl _)⟩
    simp [results, Try.results64, go_sem, y0, y1, y2, y3, y4, y5, y6, z0, z1, z2, z3, z4', z5, z6]
  by_cases e3 : N1 = 3
  · subst e3
    have e0 : ((3 : Nat) : Int) = 3 := rfl
    have hR := HR.out
    rw [e0, body_3] at hR
    clear HR
    have r2 := fun (W : World) (hW : Below w.heap.size w W) => rnum_ref (some ⟨b, off, none⟩) n c 1 true false rfl 4 xs W (HX.out W hW) (by have := HL.out; omega)
    have e9 : ((1 : Nat) : Int) = 1 := rfl
    rw [e9] at r2
    have n2 := rnum_lt (st := (xs.drop 1, true)) (k := 4) (K := 4) rfl HLT1.out
    generalize rnum (xs.drop 1, true) 4 = q at *
    obtain ⟨st2, N2⟩ := q
    simp only at r2 n2 hR
    subst hR
    have R2 := Lib.hid r2; clear r2
    go_upto_region 14 with (go_at_call 97; refine (R2.out _ HBZ.out).mono ?_; rintro e w4 ⟨at4, z4, h4a, h4b, rfl, hb4⟩; have KY2 := Lib.hid (K2.out.below hb4 K2.out.lt); have KY3 := Lib.hid (K3.out.below hb4 K3.out.lt); have HB4 := Lib.hid (low_low HBZ.out hb4); have hs4 := hb4.size; clear hb4 h4a h4b)
    have KZ2 := Lib.hid (KY2.out.alloc (.cells #[.slice (some ⟨b, off, none⟩) n c, .int .i64 (at4 : Nat), .bool z4] 145))
    have KZ3 := Lib.hid (KY3.out.alloc (.cells #[.slice (some ⟨b, off, none⟩) n c, .int .i64 (at4 : Nat), .bool z4] 145))
    have HBY := Lib.hid (low1 HB4.out (.cells #[.slice (some ⟨b, off, none⟩) n c, .int .i64 (at4 : Nat), .bool z4] 145))
    generalize w4.alloc (.cells #[.slice (some ⟨b, off, none⟩) n c, .int .i64 (at4 : Nat), .bool z4] 145) = wy at *
    clear x0 x1 x2 x3 x4 x5 x6
    obtain ⟨z0, z1, z2, z3, z4', z5, z6⟩ := blk_cells6 KZ3.out
    obtain ⟨f0, f1, f2, f3, f4, f5⟩ := blk_fz6 KZ3.out
    obtain ⟨y0, y1, y2, y3, y4, y5, y6⟩ := blk_cells6 KZ2.out
    obtain ⟨g0, g1, g2, g3, g4, g5⟩ := blk_fz6 KZ2.out
    go_wp2
    refine bodyPost_ret (v := chV ⟨3, 0, 0, [], (N2 : Nat), 0⟩ (.slice none 0 0)) ?_ rfl ⟨_, rfl, ⟨0, own_none _ _⟩, upd6_below (g := w.heap.size) (low_set HBY.out (Nat.le_succ _)) (Nat.le_refl _)⟩
    simp [results, Try.results64, go_sem, y0, y1, y2, y3, y4, y5, y6, z0, z1, z2, z3, z4', z5, z6]
  by_cases e4 : N1 = 4
  · subst e4
    have e0 : ((4 : Nat) : Int) = 4 := rfl
    have hR := HR.out
    rw [e0, body_4] at hR
    clear HR
    have r2 := fun (W : World) (hW : Below w.heap.size w W) => rnum_ref (some ⟨b, off, none⟩) n c 1 true false rfl 1 xs W (HX.out W hW) (by have := HL.out; omega)
    have e9 : ((1 : Nat) : Int) = 1 := rfl
    rw [e9] at r2
    have n2 := rnum_lt (st := (xs.drop 1, true)) (k := 1) (K := 1) rfl HLT1.out
    generalize rnum (xs.drop 1, true) 1 = q at *
    obtain ⟨st2, N2⟩ := q
    simp only at r2 n2 hR
    have n3 : (∀ x ∈ st2.1, x < 256) → (rnum st2 4).2 < 256 ^ 4 := fun hx => rnum_lt (st := st2) (k := 4) (K := 4) rfl hx
    have r3 := fun (at4 : Nat) (z4 : Bool) (h4a : at4 ≤ xs.length) (h4b : st2 = (xs.drop at4, !z4)) (W : World) (hW : Below w.heap.size w W) => rnum_ref (some ⟨b, off, none⟩) n c at4 (!z4) z4 (by simp) 4 xs W (HX.out W hW) h4a
    have r3' : ∀ (at4 : Nat) (z4 : Bool) (h4a : at4 ≤ xs.length) (h4b : st2 = (xs.drop at4, !z4)) (W : World) (hW : Below w.heap.size w W), Calls Try.prog 97 #[.agg #[.slice (some ⟨b, off, none⟩) n c, .int .i64 (at4 : Nat), .bool z4], .int .i64 4] W fun e w' => ∃ (at' : Nat) (z : Bool), e = .returned (.tuple #[.agg #[.slice (some ⟨b, off, none⟩) n c, .int .i64 (at' : Nat), .bool z], .int .u64 ((rnum st2 4).2 : Nat)]) ∧ (rnum st2 4).2 < 256 ^ 4 ∧ Below W.heap.size W w' := by
      intro at4 z4 h4a h4b W hW
      refine (r3 at4 z4 h4a h4b W hW).mono ?_
      rintro e w' ⟨at', z, h1, h2, h3, h5⟩
      rw [← h4b] at h3
      exact ⟨at', z, h3, n3 (by rw [h4b]; exact drop_lt (HX.out W hW).lt _), h5⟩
    clear r3 n3
    generalize (rnum st2 4).2 = N3 at *
    subst hR
    have R2 := Lib.hid r2; clear r2
    have R3 := Lib.hid r3'; clear r3'
    go_upto_region 17 with (go_at_call 97; refine (R2.out _ HBZ.out).mono ?_; rintro e w4 ⟨at4, z4, h4a, h4b, rfl, hb4⟩; have KY2 := Lib.hid (K2.out.below hb4 K2.out.lt); have KY3 := Lib.hid (K3.out.below hb4 K3.out.lt); have HB4 := Lib.hid (low_low HBZ.out hb4); have hs4 := hb4.size; clear hb4)
    have r4 := R3.out at4 z4 h4a h4b
    clear R3 h4a h4b
    have KZ2 := Lib.hid (KY2.out.alloc (.cells #[.slice (some ⟨b, off, none⟩) n c, .int .i64 (at4 : Nat), .bool z4] 145))
    have KZ3 := Lib.hid (KY3.out.alloc (.cells #[.slice (some ⟨b, off, none⟩) n c, .int .i64 (at4 : Nat), .bool z4] 145))
    have HBY := Lib.hid (low1 HB4.out (.cells #[.slice (some ⟨b, off, none⟩) n c, .int .i64 (at4 : Nat), .bool z4] 145))
    have KR := Lib.hid (Blk.new w4 145 #[.slice (some ⟨b, off, none⟩) n c, .int .i64 (at4 : Nat), .bool z4])
    generalize w4.alloc (.cells #[.slice (some ⟨b, off, none⟩) n c, .int .i64 (at4 : Nat), .bool z4] 145) = wy at *
    clear x0 x1 x2 x3 x4 x5 x6
    have R4 := Lib.hid r4; clear r4
    obtain ⟨q0, q1, q2, q3⟩ := blk_cells3 KR.out
    go_upto_region 18 with (go_at_call 97; refine (R4.out _ HBY.out).mono ?_; rintro e w5 ⟨at5, z5, rfl, hn3, hb5⟩; have KW2 := Lib.hid (KZ2.out.below hb5 KZ2.out.lt); have KW3 := Lib.hid (KZ3.out.below hb5 KZ3.out.lt); have HB5 := Lib.hid (low_low HBY.out hb5); clear hb5)
    have KV2 := Lib.hid (KW2.out.alloc (.cells #[.slice (some ⟨b, off, none⟩) n c, .int .i64 (at5 : Nat), .bool z5] 145))
    have KV3 := Lib.hid (KW3.out.alloc (.cells #[.slice (some ⟨b, off, none⟩) n c, .int .i64 (at5 : Nat), .bool z5] 145))
    have HBV := Lib.hid (low1 HB5.out (.cells #[.slice (some ⟨b, off, none⟩) n c, .int .i64 (at5 : Nat), .bool z5] 145))
    generalize w5.alloc (.cells #[.slice (some ⟨b, off, none⟩) n c, .int .i64 (at5 : Nat), .bool z5] 145) = wv at *
    clear q0 q1 q2 q3
    obtain ⟨z0, z1, z2, z3, z4', z5', z6⟩ := blk_cells6 KV3.out
    obtain ⟨f0, f1, f2, f3, f4, f5⟩ := blk_fz6 KV3.out
    obtain ⟨y0, y1, y2, y3, y4, y5, y6⟩ := blk_cells6 KV2.out
    obtain ⟨g0, g1, g2, g3, g4, g5⟩ := blk_fz6 KV2.out
    go_wp2
    refine bodyPost_ret (v := chV ⟨4, 0, 0, [], (N3 : Nat), (N2 : Nat)⟩ (.slice none 0 0)) ?_ rfl ⟨_, rfl, ⟨0, own_none _ _⟩, upd6_below (g := w.heap.size) (low_set (low_set HBV.out (Nat.le_succ _)) (Nat.le_succ _)) (Nat.le_refl _)⟩
    simp [results, Try.results64, go_sem, y0, y1, y2, y3, y4, y5, y6, z0, z1, z2, z3, z4', z5', z6]
  have hR := HR.out
  rw [body_no _ (by omega) (by omega) (by omega) (by omega)] at hR
  clear HR
  simp only at hR
  subst hR
  have p1 : ((N1 : Int) == 1) = false := by rw [beq_eq_false_iff_ne]; omega
  have p2 : ((N1 : Int) == 2) = false := by rw [beq_eq_false_iff_ne]; omega
  have p3 : ((N1 : Int) == 3) = false := by rw [beq_eq_false_iff_ne]; omega
  have p4 : ((N1 : Int) == 4) = false := by rw [beq_eq_false_iff_ne]; omega
  obtain ⟨y0, y1, y2, y3, y4, y5, y6⟩ := blk_cells6 K2.out
  obtain ⟨g0, g1, g2, g3, g4, g5⟩ := blk_fz6 K2.out
  go_wp2
  refine bodyPost_ret (v := chV ⟨(N1 : Nat), 0, 0, [], 0, 0⟩ (.slice none 0 0)) ?_ rfl ⟨_, rfl, ⟨0, own_none _ _⟩, upd6_below (g := w.heap.size) HBZ.out (Nat.le_refl _)⟩
  simp [results, Try.results64, go_sem, y0, y1, y2, y3, y4, y5, y6, x0, x1, x2, x3, x4, x5, x6]
end Go.Proofs.Ytjdlkejdgekbaaa.Chg
