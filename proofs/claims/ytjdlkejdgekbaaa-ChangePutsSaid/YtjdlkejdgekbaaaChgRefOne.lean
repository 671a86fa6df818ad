/- The reference's bytes of a change that may be, and of changes (layer 10): the contracts of waymarkref10.One, Put, All. -/
import Derived.Test.YtjdlkejdgekbaaaChgPut
import Derived.Test.YtjdlkejdgekbaaaLsaRefPut
import Derived.Deep.Cut
import Derived.IntWalk
namespace Go.Proofs.Ytjdlkejdgekbaaa.Chg
open Go.RowKit Go.Proofs.Ytjdlkejdgekbaaa.Mem Go.Proofs.Ytjdlkejdgekbaaa.Oct Go.Proofs.Ytjdlkejdgekbaaa.Lsa
set_option linter.unusedVariables false
set_option linter.unusedSimpArgs false
theorem sl_bts2 {w : World} {B n c : Nat} {A : Option Addr} {xs : List Nat} (h : Sl w B (.slice A n c) xs) : Bts w B A n xs := by
  obtain ⟨A', n', c', e, hb, _⟩ := h
  injection e with e1 e2 e3
  subst e1 e2 e3
  exact hb
theorem lt_one {k : Nat} (h : k < 256) : ∀ x ∈ [k], x < 256 := fun x hx => by simp at hx; omega
theorem lt_app {xs ys : List Nat} (h : ∀ x ∈ xs, x < 256) (h' : ∀ x ∈ ys, x < 256) : ∀ x ∈ xs ++ ys, x < 256 := fun x hx => by
  rcases List.mem_append.1 hx with h1 | h1
  · exact h x h1
  · exact h' x h1
set_option maxRecDepth 20000 in
set_option maxHeartbeats 4000000 in
theorem rone_any (c : Ch) (u : Value) (w : World) (h : Lks w w.heap.size u c.ls) (hm : mayC c = true) :
    Calls Try.prog 63 #[chV c u] w fun e w' => ∃ v', e = .returned v' ∧ Sl w' w'.heap.size v' (bytesC c) ∧ Below w.heap.size w w' := by
  obtain ⟨k, o, s, ls, n, f⟩ := c
  obtain ⟨A, m, q, rfl, _⟩ := id h
  simp only [chV] at h ⊢
  have hk := mayC_kind hm
  simp only at hk
  obtain ⟨i0, hi, hz0, hz1, hz2⟩ := info_parts Try.info5
  have HI := Lib.hid hi; clear hi
  have HZ0 := Lib.hid hz0; clear hz0
  have HZ1 := Lib.hid hz1; clear hz1
  have HZ2 := Lib.hid hz2; clear hz2
  obtain ⟨w0, hw0⟩ : ∃ w0, w0 = w.alloc (.cells #[.int .i64 k, .int .i64 o, .int .i64 s, .slice A m q, .int .i64 n, .int .i64 f] 50) := ⟨_, rfl⟩
  have hb0 := low1 (Below.refl w.heap.size w) (.cells #[.int .i64 k, .int .i64 o, .int .i64 s, .slice A m q, .int .i64 n, .int .i64 f] 50)
  have k0 := Blk.new w 50 #[.int .i64 k, .int .i64 o, .int .i64 s, .slice A m q, .int .i64 n, .int .i64 f]
  rw [← hw0] at hb0 k0
  have hs0 : w0.heap.size = w.heap.size + 1 := by rw [hw0]; simp
  have HS0 := Lib.hid hs0; clear hs0
  have HB0 := Lib.hid hb0; clear hb0
  have K0 := Lib.hid k0; clear k0
  have LA := Lib.hid (fun (W : World) (hW : Below w.heap.size w W) => h.up hW); clear h
  rcases hk with rfl | rfl | rfl | rfl
  · rw [mayC_1] at hm
    simp only [Bool.and_eq_true] at hm
    rw [bytesC_1, be_one (show 1 < 256 by omega)]
    obtain ⟨hm1, hm2, hm3⟩ := hm
    have rp := fun (W : World) (hW : Below w.heap.size w W) => rput_any o s A m q ls W (LA.out W hW) hm1
    have hlen := bytesOf_length o s ls
    have hl16 := (may_iff.1 hm1).2.2.1
    have hblt := bytesOf_lt o s ls
    generalize bytesOf o s ls = bs at *
    have RP := Lib.hid rp; clear rp hm1 hm2 hm3
    have HBLT := Lib.hid hblt; clear hblt
    obtain ⟨bn, hbn⟩ : ∃ bn, bn = bs.length := ⟨_, rfl⟩
    have hbn100 : bn ≤ 100 := by omega
    have HBN := Lib.hid hbn; clear hbn hlen
    go_enter Try.func63, Try.ntmps63
    go_upto_region 2 with (fail)
    rewrite [← hw0]
    clear hw0
    have K1 := Lib.hid (K0.out.alloc (.cells #[.int .u8 1] 5))
    have HB1 := Lib.hid (low1 HB0.out (.cells #[.int .u8 1] 5))
    have HO1 := Lib.hid (own_byte w0 (w.heap.size + 1) w0.heap.size rfl (by have := HS0.out; omega) 1 1 rfl)
    have hs1 : (w0.alloc (.cells #[.int .u8 1] 5)).heap.size = w.heap.size + 2 := by simp [HS0.out]
    generalize w0.alloc (.cells #[.int .u8 1] 5) = w1 at *
    rewrite [HS0.out] at HO1
    obtain ⟨x0, x1, x2, x3, x4, x5, x6⟩ := blk_cells6 K1.out
    go_wp2_with (first
      | (go_at_call 94; refine (RP.out _ HB1.out).mono ?_; rintro e w2 ⟨v2, rfl, hs2, hb2⟩; obtain ⟨A2, n2, c2, rfl, ht2, _⟩ := id hs2; have hn2 : n2 = bn := (by rw [← ht2.1, HBN.out]); subst hn2; have HR2 := Lib.hid ht2.reads; have HB2 := Lib.hid (low_low HB1.out hb2); have HO2 := Lib.hid (own_below HO1.out hb2); have hs12 := hb2.size; clear hs2 hb2 ht2)
      | (at_builtin; (refine wpList_append_any _ rfl (.tmp 12) (.tmp 15) 22 rfl (w.heap.size + 1) 5 i0 (.int .u8 0) 1 1 Try.underlying22 HI.out HZ0.out HZ1.out HZ2.out rfl (by decide) (.slice (some ⟨w.heap.size + 1, 0, none⟩) 1 1) 1 (vals [1]) rfl HO2.out w2.heap.size A2 n2 c2 (vals bs) rfl HR2.out (vals_one _) (by unfold maxLen; omega) (by omega) (by omega) ?_; intro v3 w3 hown3 hg3 _; have HB3 := Lib.hid (HB2.out.grown hg3 HB2.out.size (fun q hq => by cases hq; exact Nat.le_succ _)); have HS3 := Lib.hid (sl_own (own_fix (n' := 1 + n2) (xs := [1] ++ bs) hown3 (vals_append _ _).symm rfl rfl) (lt_app (lt_one (by omega)) HBLT.out) (by omega)); obtain ⟨A3, c3, rfl⟩ := Lsa.own_form hown3; clear hown3 hg3)))
    go_ret
    exact ⟨_, rfl, HS3.out, HB3.out⟩
  · rw [mayC_2] at hm
    simp only [Bool.and_eq_true] at hm
    rw [bytesC_2, be_one (show 2 < 256 by omega)]
    obtain ⟨hw1, hw2⟩ := win_iff.1 hm.1
    obtain ⟨n', rfl⟩ : ∃ n' : Nat, n = (n' : Int) := ⟨n.toNat, by omega⟩
    have rn := fun (W : World) => ref_num 8 n' W (by omega) (by omega)
    have e8 : ((8 : Nat) : Int) = 8 := rfl
    rw [e8] at rn
    rw [Int.toNat_natCast]
    have hblt := be_lt 8 n'
    have w2 : IntKind.u64.wrap (n' : Int) = (n' : Int) := by rw [IntKind.wrap_u64]; omega
    have RN := Lib.hid rn; clear rn hm e8
    have HBLT := Lib.hid hblt; clear hblt
    go_enter Try.func63, Try.ntmps63
    go_upto_region 2 with (fail)
    rewrite [← hw0]
    clear hw0
    have K1 := Lib.hid (K0.out.alloc (.cells #[.int .u8 2] 5))
    have HB1 := Lib.hid (low1 HB0.out (.cells #[.int .u8 2] 5))
    have HO1 := Lib.hid (own_byte w0 (w.heap.size + 1) w0.heap.size rfl (by have := HS0.out; omega) 2 2 rfl)
    have hs1 : (w0.alloc (.cells #[.int .u8 2] 5)).heap.size = w.heap.size + 2 := by simp [HS0.out]
    generalize w0.alloc (.cells #[.int .u8 2] 5) = w1 at *
    rewrite [HS0.out] at HO1
    obtain ⟨x0, x1, x2, x3, x4, x5, x6⟩ := blk_cells6 K1.out
    go_wp2_with (first
      | (go_at_call 95; refine (RN.out _).mono ?_; rintro e w2 ⟨v2, rfl, ho2, hb2⟩; obtain ⟨A2, c2, rfl, hr2⟩ := own_reads ho2; have HR2 := Lib.hid hr2; have HB2 := Lib.hid (low_low HB1.out hb2); have HO2 := Lib.hid (own_below HO1.out hb2); have hs12 := hb2.size; clear ho2 hb2 hr2)
      | (at_builtin; (refine wpList_append_any _ rfl (.tmp 19) (.tmp 23) 22 rfl (w.heap.size + 1) 5 i0 (.int .u8 0) 1 1 Try.underlying22 HI.out HZ0.out HZ1.out HZ2.out rfl (by decide) (.slice (some ⟨w.heap.size + 1, 0, none⟩) 1 1) 1 (vals [2]) rfl HO2.out w2.heap.size A2 8 c2 (vals (be 8 n')) rfl HR2.out (vals_one _) (by unfold maxLen; omega) (by omega) (by omega) ?_; intro v3 w3 hown3 hg3 _; have HB3 := Lib.hid (HB2.out.grown hg3 HB2.out.size (fun q hq => by cases hq; exact Nat.le_succ _)); have HS3 := Lib.hid (sl_own (own_fix (n' := 1 + 8) (xs := [2] ++ be 8 n') hown3 (vals_append _ _).symm rfl rfl) (lt_app (lt_one (by omega)) HBLT.out) (by omega)); obtain ⟨A3, c3, rfl⟩ := Lsa.own_form hown3; clear hown3 hg3)))
    go_ret
    exact ⟨_, rfl, HS3.out, HB3.out⟩
  · rw [mayC_3] at hm
    simp only [Bool.and_eq_true] at hm
    rw [bytesC_3, be_one (show 3 < 256 by omega)]
    obtain ⟨hw1, hw2⟩ := win_iff.1 hm.1
    obtain ⟨n', rfl⟩ : ∃ n' : Nat, n = (n' : Int) := ⟨n.toNat, by omega⟩
    have rn := fun (W : World) => ref_num 4 n' W (by omega) (by omega)
    have e8 : ((4 : Nat) : Int) = 4 := rfl
    rw [e8] at rn
    rw [Int.toNat_natCast]
    have hblt := be_lt 4 n'
    have w2 : IntKind.u64.wrap (n' : Int) = (n' : Int) := by rw [IntKind.wrap_u64]; omega
    have RN := Lib.hid rn; clear rn hm e8
    have HBLT := Lib.hid hblt; clear hblt
    go_enter Try.func63, Try.ntmps63
    go_upto_region 2 with (fail)
    rewrite [← hw0]
    clear hw0
    have K1 := Lib.hid (K0.out.alloc (.cells #[.int .u8 3] 5))
    have HB1 := Lib.hid (low1 HB0.out (.cells #[.int .u8 3] 5))
    have HO1 := Lib.hid (own_byte w0 (w.heap.size + 1) w0.heap.size rfl (by have := HS0.out; omega) 3 3 rfl)
    have hs1 : (w0.alloc (.cells #[.int .u8 3] 5)).heap.size = w.heap.size + 2 := by simp [HS0.out]
    generalize w0.alloc (.cells #[.int .u8 3] 5) = w1 at *
    rewrite [HS0.out] at HO1
    obtain ⟨x0, x1, x2, x3, x4, x5, x6⟩ := blk_cells6 K1.out
    go_wp2_with (first
      | (go_at_call 95; refine (RN.out _).mono ?_; rintro e w2 ⟨v2, rfl, ho2, hb2⟩; obtain ⟨A2, c2, rfl, hr2⟩ := own_reads ho2; have HR2 := Lib.hid hr2; have HB2 := Lib.hid (low_low HB1.out hb2); have HO2 := Lib.hid (own_below HO1.out hb2); have hs12 := hb2.size; clear ho2 hb2 hr2)
      | (at_builtin; (refine wpList_append_any _ rfl (.tmp 33) (.tmp 37) 22 rfl (w.heap.size + 1) 5 i0 (.int .u8 0) 1 1 Try.underlying22 HI.out HZ0.out HZ1.out HZ2.out rfl (by decide) (.slice (some ⟨w.heap.size + 1, 0, none⟩) 1 1) 1 (vals [3]) rfl HO2.out w2.heap.size A2 4 c2 (vals (be 4 n')) rfl HR2.out (vals_one _) (by unfold maxLen; omega) (by omega) (by omega) ?_; intro v3 w3 hown3 hg3 _; have HB3 := Lib.hid (HB2.out.grown hg3 HB2.out.size (fun q hq => by cases hq; exact Nat.le_succ _)); have HS3 := Lib.hid (sl_own (own_fix (n' := 1 + 4) (xs := [3] ++ be 4 n') hown3 (vals_append _ _).symm rfl rfl) (lt_app (lt_one (by omega)) HBLT.out) (by omega)); obtain ⟨A3, c3, rfl⟩ := Lsa.own_form hown3; clear hown3 hg3)))
    go_ret
    exact ⟨_, rfl, HS3.out, HB3.out⟩
  · rw [mayC_4] at hm
    simp only [Bool.and_eq_true] at hm
    rw [bytesC_4, be_one (show 4 < 256 by omega)]
    obtain ⟨hw1, hw2⟩ := win_iff.1 hm.1
    obtain ⟨hw3, hw4⟩ := win_iff.1 hm.2.1
    obtain ⟨n', rfl⟩ : ∃ n' : Nat, n = (n' : Int) := ⟨n.toNat, by omega⟩
    obtain ⟨f', rfl⟩ : ∃ f' : Nat, f = (f' : Int) := ⟨f.toNat, by omega⟩
    have rn := fun (W : World) => ref_num 4 n' W (by omega) (by omega)
    have e8 : ((4 : Nat) : Int) = 4 := rfl
    rw [e8] at rn
    rw [Int.toNat_natCast, Int.toNat_natCast, be_one (show f' < 256 by omega)]
    have hblt := be_lt 4 n'
    have w2 : IntKind.u64.wrap (n' : Int) = (n' : Int) := by rw [IntKind.wrap_u64]; omega
    have w3 : IntKind.u8.wrap (f' : Int) = (f' : Int) := by rw [IntKind.wrap_u8]; omega
    have hf256 : f' < 256 := by omega
    have RN := Lib.hid rn; clear rn hm e8
    have HBLT := Lib.hid hblt; clear hblt
    go_enter Try.func63, Try.ntmps63
    go_upto_region 2 with (fail)
    rewrite [← hw0]
    clear hw0
    have K1 := Lib.hid (K0.out.alloc (.cells #[.int .u8 4] 5))
    have HB1 := Lib.hid (low1 HB0.out (.cells #[.int .u8 4] 5))
    have HO1 := Lib.hid (own_byte w0 (w.heap.size + 1) w0.heap.size rfl (by have := HS0.out; omega) 4 4 rfl)
    have hs1 : (w0.alloc (.cells #[.int .u8 4] 5)).heap.size = w.heap.size + 2 := by simp [HS0.out]
    generalize w0.alloc (.cells #[.int .u8 4] 5) = w1 at *
    rewrite [HS0.out] at HO1
    obtain ⟨x0, x1, x2, x3, x4, x5, x6⟩ := blk_cells6 K1.out
    have HS1 := Lib.hid hs1; clear hs1
    go_wp2_with (first
      | (go_at_call 95; refine (RN.out _).mono ?_; rintro e w3 ⟨v3, rfl, ho3, hb3⟩; obtain ⟨A3, c3, rfl, hr3⟩ := own_reads ho3; have HR3 := Lib.hid hr3; have HB3 := Lib.hid (low_low HB2.out hb3); have HO3 := Lib.hid (own_below HO2.out hb3); have hs23 := Nat.le_trans hs12 hb3.size; clear ho3 hb3 hr3)
      | (at_builtin; (refine wpList_append_any _ rfl (.tmp 27) (.tmp 31) 22 rfl (w.heap.size + 1) 5 i0 (.int .u8 0) 1 1 Try.underlying22 HI.out HZ0.out HZ1.out HZ2.out rfl (by decide) (.slice (some ⟨w.heap.size + 1, 0, none⟩) 1 1) 1 (vals [4]) rfl (HO1.out.alloc _) (w1.heap.size + 1) (some ⟨w1.heap.size, 0, none⟩) 1 1 (vals [f']) rfl (reads_byte w1 _ rfl _ f' rfl) (vals_one _) (by unfold maxLen; omega) (by omega) (by have := HS1.out; simp; omega) ?_; intro v2 w2' hown2 hg2 _; have HB2 := Lib.hid ((low1 HB1.out (.cells #[.int .u8 (f' : Nat)] 5)).grown hg2 (low1 HB1.out _).size (fun q hq => by cases hq; exact Nat.le_succ _)); have HO2 := Lib.hid (own_fix (n' := 2) (xs := [4] ++ [f']) hown2 (vals_append _ _).symm rfl rfl); have hs12 : w.heap.size + 1 ≤ w2'.heap.size := (by have h8 := HS1.out; have h9 := hg2.size; rw [World.size_alloc] at h9; omega); have K2 := Lib.hid ((K1.out.alloc (.cells #[.int .u8 (f' : Nat)] 5)).grown hg2 (by intro e; have := Option.some.inj e; simp at this)); obtain ⟨y0, y1, y2, y3, y4, y5, y6⟩ := blk_cells6 K2.out; obtain ⟨A2, c2, rfl⟩ := Lsa.own_form HO2.out; clear hown2 hg2))
      | (at_builtin; (refine wpList_append_any _ rfl (.tmp 33) (.tmp 37) 22 rfl (w.heap.size + 1) 5 i0 (.int .u8 0) 1 1 Try.underlying22 HI.out HZ0.out HZ1.out HZ2.out rfl (by decide) (.slice A2 2 c2) 2 (vals ([4] ++ [f'])) rfl HO3.out w3.heap.size A3 4 c3 (vals (be 4 n')) rfl HR3.out (vals_one _) (by unfold maxLen; omega) (by omega) hs23 ?_; intro v4 w4 hown4 hg4 _; have HB4 := Lib.hid (HB3.out.grown hg4 HB3.out.size (fun q hq => Nat.le_of_succ_le (HO3.out.lt q hq).1)); have HS4 := Lib.hid (sl_own (own_fix (n' := 6) (xs := [4] ++ ([f'] ++ be 4 n')) hown4 (vals_append _ _).symm rfl (by simp)) (lt_app (lt_one (by omega)) (lt_app (lt_one hf256) HBLT.out)) (by omega)); obtain ⟨A4, c4, rfl⟩ := Lsa.own_form hown4; clear hown4 hg4)))
    go_ret
    exact ⟨_, rfl, HS4.out, HB4.out⟩
end Go.Proofs.Ytjdlkejdgekbaaa.Chg
