/- The reference of layer 2: numbers and texts as bytes, and a reader by value. Condition: at most 100000 bytes. -/
import Derived.Test.YtidkabbogpdclaaPut
import Derived.Deep.RegionWith
namespace Go.Proofs.Ytidkabbogpdclaa.Oct
open Go.RowKit Go.Proofs.Ytidkabbogpdclaa.Mem
set_option linter.unusedVariables false
set_option linter.unusedSimpArgs false
theorem own_byte (w : World) (base g : Nat) (hg : g = w.heap.size) (hB : base ≤ w.heap.size) (x : Int) (b : Nat) (h : x = (b : Int)) : (w.alloc (.cells #[.int .u8 x] 5)).ownsRow base 5 1 (.slice (some ⟨g, 0, none⟩) 1 1) 1 (vals [b]) := by
  subst h hg
  exact World.ownsRow_lit w #[.int .u8 (b : Int)] 1 hB (by unfold maxLen; omega) rfl
theorem own_slice {w : World} {base n : Nat} {v : Value} {xs : List Value} (h : w.ownsRow base 5 1 v n xs) : ∃ A c, v = .slice A n c ∧ Reads w w.heap.size 1 A n xs := by
  rcases h.2 with ⟨rfl, rfl⟩ | ⟨g, cap, cur, rfl, hg, hh, hnc, hm, hs, ht⟩
  · exact ⟨none, 0, rfl, Reads.of_own h⟩
  · exact ⟨_, cap, rfl, Reads.of_own h⟩
theorem div_step (N i : Nat) : ((N / 256 ^ i : Nat) : Int) / 256 = ((N / 256 ^ (i + 1) : Nat) : Int) := by
  rw [Nat.pow_succ, ← Nat.div_div_eq_div_mul]
  omega
set_option maxHeartbeats 1000000 in
theorem ref_num (k N : Nat) (w : World) (hk : k ≤ 8) (hN : N < 18446744073709551616) :
    Calls Try.prog 20 #[.int .i64 (k : Nat), .int .u64 (N : Nat)] w fun e w' => ∃ v, e = .returned v ∧ w'.ownsRow w.heap.size 5 1 v k (vals (be k N)) ∧ Below w.heap.size w w' := by
  obtain ⟨i0, hi, hz0, hz1, hz2⟩ := info_parts Try.info5
  have HI := Lib.hid hi; clear hi
  have HZ0 := Lib.hid hz0; clear hz0
  have HZ1 := Lib.hid hz1; clear hz1
  have HZ2 := Lib.hid hz2; clear hz2
  have hown1 : (w.alloc (.cells #[] 5)).ownsRow w.heap.size 5 1 (.slice (some ⟨w.heap.size, 0, none⟩) 0 0) 0 [] := World.ownsRow_lit w #[] 0 (Nat.le_refl _) (by unfold maxLen; omega) rfl
  have HO1 := Lib.hid hown1; clear hown1
  have hb1 : Below w.heap.size w (w.alloc (.cells #[] 5)) := (Below.refl _ _).alloc (Nat.le_refl _) _
  have HB1 := Lib.hid hb1; clear hb1
  go_enter Try.func20, Try.ntmps20
  go_wp2
  go_loopw [1, 5, 6] (fun n v i wr => ∃ j : Nat, j ≤ k ∧ i = .int .i64 j ∧ n = .int .u64 (N / 256 ^ j : Nat) ∧ wr.ownsRow w.heap.size 5 1 v j (vals (be j N)) ∧ Below w.heap.size w wr) (fun _ _ i _ => k - (intOf i).toNat)
  case atStart => exact ⟨0, Nat.zero_le _, rfl, by simp, HO1.out, HB1.out⟩
  case round =>
    obtain ⟨j, hj, rfl, rfl, hown, hbel⟩ := hrel
    obtain ⟨A, c, rfl, hrd⟩ := own_slice hown
    have HR := Lib.hid hrd; clear hrd
    have HO := Lib.hid hown; clear hown
    have HB := Lib.hid hbel; clear hbel
    by_cases hlt : j < k
    · have hs := div_step N j
      have hq : N / 256 ^ j < 18446744073709551616 := Nat.lt_of_le_of_lt (Nat.div_le_self _ _) hN
      have hb : be (j + 1) N = (N / 256 ^ j % 256) :: be j N := rfl
      have HBE := Lib.hid hb; clear hb
      generalize N / 256 ^ j = q at *
      have HS := Lib.hid hs; clear hs
      go_wp2_with (at_builtin; (refine wpList_append_any _ rfl (.tmp 16) (.tmp 17) 22 rfl w.heap.size 5 i0 (.int .u8 0) 1 1 Try.underlying22 HI.out HZ0.out HZ1.out HZ2.out rfl (by decide) (.slice (some ⟨wr.heap.size, 0, none⟩) 1 1) 1 (vals [q % 256]) rfl (own_byte wr w.heap.size _ rfl HB.out.size _ _ (by omega)) wr.heap.size A j c (vals (be j N)) rfl (HR.out.alloc (Nat.le_refl _) _) (vals_one _) (by unfold maxLen; omega) (by omega) (by have := HB.out.size; simp; omega) ?_; intro v2 w2 hown2 hg2 _; have hb2 : Below w.heap.size w w2 := ((HB.out.alloc HB.out.size _).grown hg2 (by have := HB.out.size; simp; omega) (fun q hq => by simp [Value.ownBlock] at hq; have := HB.out.size; omega)); clear hg2))
      go_roundw
      case rel =>
        refine ⟨j + 1, by omega, by go_num, ?_, ?_, hb2⟩
        · rw [HS.out]
        · rw [HBE.out, Nat.add_comm j 1]
          exact hown2
      case measure => simp [intOf]; omega
    · obtain rfl : j = k := by omega
      go_wp2
      go_ret
      exact ⟨_, rfl, HO.out, HB.out⟩
set_option maxHeartbeats 1000000 in
theorem ref_text (v : Value) (ts : List Nat) (w : World) (h : Sl w w.heap.size v ts) (hl : ts.length ≤ 100000) :
    Calls Try.prog 21 #[v] w fun e w' => ∃ v', e = .returned v' ∧ w'.ownsRow w.heap.size 5 1 v' (2 + ts.length) (vals (be 2 ts.length ++ ts)) ∧ Below w.heap.size w w' := by
  obtain ⟨i0, hi, hz0, hz1, hz2⟩ := info_parts Try.info5
  obtain ⟨A, n, c, rfl, hb, h1, h2, h3⟩ := h
  have hn := hb.1
  rw [hn] at hl ⊢
  have hr := hb.reads
  have t1 := ref_num 2 n w (by omega) (by omega)
  have T1 := Lib.hid t1; clear t1
  have HR := Lib.hid hr; clear hr
  have HI := Lib.hid hi; clear hi
  have HZ0 := Lib.hid hz0; clear hz0
  have HZ1 := Lib.hid hz1; clear hz1
  have HZ2 := Lib.hid hz2; clear hz2
  clear hb h1 h2 h3
  go_enter Try.func21, Try.ntmps21
  go_wp2_with (first
    | (go_at_call 20; refine (T1.out).mono ?_; rintro e w1 ⟨v1, rfl, hown1, hb1⟩; have HO1 := Lib.hid hown1; clear hown1; have HB1 := Lib.hid hb1; clear hb1)
    | (at_builtin; (refine wpList_append_any _ rfl (.tmp 6) (.tmp 7) 22 rfl w.heap.size 5 i0 (.int .u8 0) 1 1 Try.underlying22 HI.out HZ0.out HZ1.out HZ2.out rfl (by decide) v1 2 _ rfl HO1.out w.heap.size A n c (vals ts) rfl (HR.out.below HB1.out) (vals_one _) (by unfold maxLen; omega) (by omega) HB1.out.size ?_; intro v2 w2 hown2 hg2 _; have hb2 : Below w.heap.size w w2 := (HB1.out.grown hg2 HB1.out.size (fun q hq => (HO1.out.lt q hq).1)); clear hg2)))
  go_ret
  rw [← vals_append] at hown2
  exact ⟨v2, rfl, hown2, hb2⟩
/-- the reference reader, by value -/
def rval (v : Value) (at_ : Nat) (s : Bool) : Value := .agg #[v, .int .i64 (at_ : Nat), .bool (!s)]
set_option maxHeartbeats 1000000 in
theorem refread_bad (A : Option Addr) (n c at_ : Nat) (s : Bool) (k : Int) (w : World) (hl : at_ ≤ n) (hn : n ≤ 1000000) (hno : ¬ (s = true ∧ isW k = true ∧ k.toNat ≤ n - at_)) :
    Calls Try.prog 13 #[rval (.slice A n c) at_ s, .int .i64 k] w fun e w' => e = .returned (.tuple #[rval (.slice A n c) at_ false, .int .u64 0]) ∧ Below w.heap.size w w' := by
  unfold rval
  cases s
  · clear hno
    go_enter Try.func13, Try.ntmps13
    go_wp2
    exact bodyPost_ret (v := .tuple #[.agg #[.slice A n c, .int .i64 (at_ : Nat), .bool true], .int .u64 0]) (by simp [results, Try.results13, go_sem]) rfl ⟨rfl, ((Below.refl _ _).alloc (Nat.le_refl _) _).alloc (by simp) _⟩
  · by_cases h1 : k < 1
    · have hd : decide (k < 1) = true := by simpa using h1
      clear hno
      go_enter Try.func13, Try.ntmps13
      go_wp2
      exact bodyPost_ret (v := .tuple #[.agg #[.slice A n c, .int .i64 (at_ : Nat), .bool true], .int .u64 0]) (by simp [results, Try.results13, go_sem]) rfl ⟨rfl, ((Below.refl _ _).alloc (Nat.le_refl _) _).alloc (by simp) _⟩
    · have hd : decide (k < 1) = false := by simpa using h1
      by_cases h8 : 8 < k
      · have hd8 : decide (8 < k) = true := by simpa using h8
        clear hno
        go_enter Try.func13, Try.ntmps13
        go_wp2
        exact bodyPost_ret (v := .tuple #[.agg #[.slice A n c, .int .i64 (at_ : Nat), .bool true], .int .u64 0]) (by simp [results, Try.results13, go_sem]) rfl ⟨rfl, ((Below.refl _ _).alloc (Nat.le_refl _) _).alloc (by simp) _⟩
      · have hd8 : decide (8 < k) = false := by simpa using h8
        have hm : ((n : Int) - at_) < k := by
          have : isW k = true := by simp only [isW, Bool.and_eq_true, decide_eq_true_eq]; omega
          simp only [this, true_and] at hno
          omega
        have hdm : decide (((n : Int) - at_) < k) = true := by simpa using hm
        clear hno
        go_enter Try.func13, Try.ntmps13
        go_wp2
        exact bodyPost_ret (v := .tuple #[.agg #[.slice A n c, .int .i64 (at_ : Nat), .bool true], .int .u64 0]) (by simp [results, Try.results13, go_sem]) rfl ⟨rfl, ((Below.refl _ _).alloc (Nat.le_refl _) _).alloc (by simp) _⟩
theorem num_cut_succ (xs : List Nat) (at_ j : Nat) (h : at_ + j < xs.length) : num ((xs.drop at_).take (j + 1)) = num ((xs.drop at_).take j) * 256 + xs.getD (at_ + j) 0 := by
  rw [num_take_succ _ _ (by rw [List.length_drop]; omega)]
  congr 1
  simp [List.getD, List.getElem?_drop]
set_option maxHeartbeats 1000000 in
theorem refread_ok (A : Option Addr) (n c at_ k : Nat) (xs : List Nat) (w : World) (hl : at_ + k ≤ n) (h1 : 1 ≤ k) (h8 : k ≤ 8) (hb : Bts w w.heap.size A n xs) :
    Calls Try.prog 13 #[rval (.slice A n c) at_ true, .int .i64 (k : Nat)] w fun e w' => e = .returned (.tuple #[rval (.slice A n c) (at_ + k) true, .int .u64 (num ((xs.drop at_).take k) : Nat)]) ∧ Below w.heap.size w w' := by
  unfold rval
  have hn := hb.2.2.1
  have hd : decide ((k : Int) < 1) = false := by simp; omega
  have hd8 : decide ((8 : Int) < k) = false := by simp; omega
  have hdm : decide (((n : Int) - at_) < k) = false := by simp; omega
  have hxl := hb.1
  have HB := Lib.hid hb; clear hb
  have HXL := Lib.hid hxl; clear hxl
  go_enter Try.func13, Try.ntmps13
  go_wp2
  go_loop [6, 7] (fun x i => ∃ j : Nat, j ≤ k ∧ i = .int .i64 j ∧ x = .int .u64 (num ((xs.drop at_).take j) : Nat)) (fun _ i => k - (intOf i).toNat)
  case atStart => exact ⟨0, Nat.zero_le _, rfl, rfl⟩
  case round =>
    obtain ⟨j, hj, rfl, rfl⟩ := hrel
    by_cases hlt : j < k
    · obtain ⟨b, off, rfl, hbl, hcell⟩ := HB.out.2.2.2 (by omega)
      have hc := hcell (at_ + j) (by omega)
      clear hcell
      have hq := getD_lt HB.out.2.1 (at_ + j)
      have hN : num ((xs.drop at_).take j) < 256 ^ 7 := by
        have h3 := num_lt ((xs.drop at_).take j) (take_lt (drop_lt HB.out.2.1 at_) j)
        have h4 : ((xs.drop at_).take j).length ≤ 7 := by rw [List.length_take]; omega
        exact Nat.lt_of_lt_of_le h3 (Nat.pow_le_pow_right (by decide) h4)
      have hs := num_cut_succ xs at_ j (by rw [HXL.out]; omega)
      generalize xs.getD (at_ + j) 0 = q at *
      generalize num ((xs.drop at_).take j) = N at *
      have HS := Lib.hid hs; clear hs
      go_wp2
      go_round
      case rel => exact ⟨j + 1, by omega, by go_num, val_int (by rw [HS.out]; omega)⟩
      case measure => simp [intOf]; omega
    · obtain rfl : j = k := by omega
      go_wp2
      exact bodyPost_ret (v := .tuple #[.agg #[.slice A n c, .int .i64 ((at_ + j : Nat) : Int), .bool false], .int .u64 (num ((xs.drop at_).take j) : Nat)]) (by simp [results, Try.results13, go_sem]) rfl ⟨rfl, ((Below.refl _ _).alloc (Nat.le_refl _) _).alloc (by simp) _⟩
theorem refread_any (v : Value) (xs : List Nat) (at_ : Nat) (s : Bool) (k : Int) (w : World) (h : Sl w w.heap.size v xs) (hl : at_ ≤ xs.length) :
    Calls Try.prog 13 #[rval v at_ s, .int .i64 k] w fun e w' => ∃ at', at' ≤ xs.length ∧ (rnum (xs.drop at_, s) k).1.1 = xs.drop at' ∧ e = .returned (.tuple #[rval v at' (rnum (xs.drop at_, s) k).1.2, .int .u64 ((rnum (xs.drop at_, s) k).2 : Nat)]) ∧ Below w.heap.size w w' := by
  obtain ⟨A, n, c, rfl, hb, h1, h2, h3⟩ := h
  have hxl := hb.1
  by_cases hok : s = true ∧ isW k = true ∧ k.toNat ≤ n - at_
  · obtain ⟨rfl, hk, hle⟩ := hok
    obtain ⟨m, rfl, h1', h8⟩ := isW_nat hk
    rw [rnum_yes hk (by rw [List.length_drop]; simp at hle; omega)]
    refine (refread_ok A n c at_ m xs w (by simp at hle; omega) h1' h8 hb).mono ?_
    rintro e w' ⟨rfl, hbel⟩
    exact ⟨at_ + m, by simp at hle; omega, by rw [List.drop_drop], rfl, hbel⟩
  · rw [rnum_no (by rw [List.length_drop, hxl]; exact hok)]
    refine (refread_bad A n c at_ s k w (by omega) (by have := hb.2.2.1; omega) hok).mono ?_
    rintro e w' ⟨rfl, hbel⟩
    exact ⟨at_, hl, rfl, rfl, hbel⟩
set_option maxHeartbeats 1000000 in
theorem reftext_bad (A : Option Addr) (n c at_ : Nat) (s : Bool) (xs : List Nat) (w : World) (hl : at_ ≤ xs.length) (h : Sl w w.heap.size (.slice A n c) xs)
    (hno : ¬ ((rnum (xs.drop at_, s) 2).1.2 = true ∧ (rnum (xs.drop at_, s) 2).2 ≤ (rnum (xs.drop at_, s) 2).1.1.length)) :
    Calls Try.prog 10 #[rval (.slice A n c) at_ s] w fun e w' => e = .returned (.tuple #[rval (.slice A n c) at_ false, .slice none 0 0]) ∧ Below w.heap.size w w' := by
  have t1 := fun (W : World) (hW : Below w.heap.size w W) => refread_any (.slice A n c) xs at_ s 2 W ((h.below hW (Nat.le_refl _)).more hW.size) hl
  have hle := rnum_le (st := (xs.drop at_, s)) (drop_lt h.lt at_)
  obtain ⟨A', n', c', e, hb, _⟩ := h
  injection e with e1 e2 e3
  subst e1 e2 e3
  have hxl := hb.1
  have hn := hb.2.2.1
  clear hb
  obtain ⟨⟨⟨ys, s2⟩, m⟩, hR⟩ : ∃ R, R = rnum (xs.drop at_, s) 2 := ⟨_, rfl⟩
  rw [← hR] at t1 hno hle
  simp only at t1 hno hle
  have T1 := Lib.hid t1; clear t1
  clear hR
  have hb2 : Below w.heap.size w ((w.alloc (Obj.cells #[.slice A n c, .int .i64 (at_ : Nat), .bool (!s)] 33)).alloc (Obj.cells #[.slice none 0 0, .int .i64 0, .bool false] 33)) := ((Below.refl _ _).alloc (Nat.le_refl _) _).alloc (by simp) _
  have HB2 := Lib.hid hb2; clear hb2
  have k1 : Blk ((w.alloc (Obj.cells #[.slice A n c, .int .i64 (at_ : Nat), .bool (!s)] 33)).alloc (Obj.cells #[.slice none 0 0, .int .i64 0, .bool false] 33)) w.heap.size 33 #[.slice A n c, .int .i64 (at_ : Nat), .bool (!s)] := (Blk.new _ _ _).alloc _
  have k2 : Blk ((w.alloc (Obj.cells #[.slice A n c, .int .i64 (at_ : Nat), .bool (!s)] 33)).alloc (Obj.cells #[.slice none 0 0, .int .i64 0, .bool false] 33)) (w.heap.size + 1) 33 #[.slice none 0 0, .int .i64 0, .bool false] := by
    have := Blk.new (w.alloc (Obj.cells #[.slice A n c, .int .i64 (at_ : Nat), .bool (!s)] 33)) 33 #[.slice none 0 0, .int .i64 0, .bool false]
    simpa using this
  have K1 := Lib.hid k1; clear k1
  have K2 := Lib.hid k2; clear k2
  unfold rval at T1 ⊢
  cases s2
  · clear hno
    go_enter Try.func10, Try.ntmps10
    go_wp2_with (go_at_call 13; refine (T1.out _ HB2.out).mono ?_; rintro e w1 ⟨at', hat, hys, rfl, hbel⟩; have k3 := K1.out.below hbel K1.out.lt; have k4 := K2.out.below hbel K2.out.lt; have c0 := k3.cell 0; have c1 := k3.cell 1; have c2 := k3.cell 2; have d0 := k4.cell 0; have d1 := k4.cell 1; have d2 := k4.cell 2; have f0 := k3.frozen 0; have f1 := k3.frozen 1; have f2 := k3.frozen 2; have g0 := k4.frozen 0; have g1 := k4.frozen 1; have g2 := k4.frozen 2; have s0 := k3.lt; have s1 := k4.lt; simp at c0 c1 c2 d0 d1 d2; skip; have HBEL := Lib.hid (HB2.out.trans (hbel.mono HB2.out.size)); clear hbel k3 k4; have HYS := Lib.hid hys; clear hys)
    exact bodyPost_ret (v := .tuple #[.agg #[.slice A n c, .int .i64 (at_ : Nat), .bool true], .slice none 0 0]) (by simp [results, Try.results10, go_sem, s0, s1, c0, c1, c2, d0, d1, d2]) rfl ⟨rfl, ((((HBEL.out.setCell (by simp) _).setCell (by simp) _).setCell (by simp) _).setCell (by simp) _).alloc (by simp; omega) _⟩
  · have hc : ∀ at' : Nat, at' ≤ xs.length → ys = xs.drop at' → decide (((n : Int) - at') < m) = true := by
      intro at' h1 h2
      have h3 : ¬ m ≤ ys.length := fun h => hno ⟨rfl, h⟩
      rw [h2, List.length_drop] at h3
      simp
      omega
    have HC := Lib.hid hc; clear hc hno
    go_enter Try.func10, Try.ntmps10
    go_wp2_with (go_at_call 13; refine (T1.out _ HB2.out).mono ?_; rintro e w1 ⟨at', hat, hys, rfl, hbel⟩; have k3 := K1.out.below hbel K1.out.lt; have k4 := K2.out.below hbel K2.out.lt; have c0 := k3.cell 0; have c1 := k3.cell 1; have c2 := k3.cell 2; have d0 := k4.cell 0; have d1 := k4.cell 1; have d2 := k4.cell 2; have f0 := k3.frozen 0; have f1 := k3.frozen 1; have f2 := k3.frozen 2; have g0 := k4.frozen 0; have g1 := k4.frozen 1; have g2 := k4.frozen 2; have s0 := k3.lt; have s1 := k4.lt; simp at c0 c1 c2 d0 d1 d2; have hcmp := HC.out at' hat hys; have HBEL := Lib.hid (HB2.out.trans (hbel.mono HB2.out.size)); clear hbel k3 k4; have HYS := Lib.hid hys; clear hys)
    exact bodyPost_ret (v := .tuple #[.agg #[.slice A n c, .int .i64 (at_ : Nat), .bool true], .slice none 0 0]) (by simp [results, Try.results10, go_sem, s0, s1, c0, c1, c2, d0, d1, d2]) rfl ⟨rfl, ((((HBEL.out.setCell (by simp) _).setCell (by simp) _).setCell (by simp) _).setCell (by simp) _).alloc (by simp; omega) _⟩
theorem cut_at {w : World} {B n c : Nat} {A : Option Addr} {xs : List Nat} (h : Bts w B A n xs) (i m : Nat) (hk : i + m ≤ n) (hc : n ≤ c) :
    ∃ A' c', (∀ W, (Instr.slice 22 (.slice A n c) (some (.int .i64 (i : Nat))) (some (.int .i64 ((i : Int) + (m : Int)))) none).run Try.prog W = .ok (.slice A' m c') W) ∧ Bts w B A' m ((xs.drop i).take m) := by
  obtain ⟨A', e, hb⟩ := cut_lh h i (i + m) (by omega) hk hc
  rw [Nat.add_sub_cancel_left] at hb
  refine ⟨A', c - i, fun W => ?_, hb⟩
  have := e W
  rw [Nat.add_sub_cancel_left, Int.natCast_add] at this
  exact this
set_option maxHeartbeats 1000000 in
theorem reftext_ok (A : Option Addr) (n c at_ : Nat) (s : Bool) (xs : List Nat) (w : World) (hl : at_ ≤ xs.length) (h : Sl w w.heap.size (.slice A n c) xs)
    (hok : (rnum (xs.drop at_, s) 2).1.2 = true ∧ (rnum (xs.drop at_, s) 2).2 ≤ (rnum (xs.drop at_, s) 2).1.1.length) :
    Calls Try.prog 10 #[rval (.slice A n c) at_ s] w fun e w' => ∃ at' v2, at' ≤ xs.length ∧ (rtext (xs.drop at_, s)).1.1 = xs.drop at' ∧ e = .returned (.tuple #[rval (.slice A n c) at' true, v2]) ∧ w'.ownsRow w.heap.size 5 1 v2 (rtext (xs.drop at_, s)).2.length (vals (rtext (xs.drop at_, s)).2) ∧ Below w.heap.size w w' := by
  rw [rtext_yes hok]
  obtain ⟨i0, hi, hz0, hz1, hz2⟩ := info_parts Try.info5
  have HI := Lib.hid hi; clear hi
  have HZ0 := Lib.hid hz0; clear hz0
  have HZ1 := Lib.hid hz1; clear hz1
  have HZ2 := Lib.hid hz2; clear hz2
  have t1 := fun (W : World) (hW : Below w.heap.size w W) => refread_any (.slice A n c) xs at_ s 2 W ((h.below hW (Nat.le_refl _)).more hW.size) hl
  have hle := rnum_le (st := (xs.drop at_, s)) (drop_lt h.lt at_)
  obtain ⟨A', n', c', e, hb, hnc, hcm, _⟩ := h
  injection e with e1 e2 e3
  subst e1 e2 e3
  have hxl := hb.1
  have hn := hb.2.2.1
  obtain ⟨⟨⟨ys, s2⟩, m⟩, hR⟩ : ∃ R, R = rnum (xs.drop at_, s) 2 := ⟨_, rfl⟩
  rw [← hR] at t1 hok hle ⊢
  simp only at t1 hok hle ⊢
  obtain ⟨rfl, hmy⟩ := hok
  have T1 := Lib.hid t1; clear t1
  clear hR
  have hcut := fun (at' : Nat) (h1 : at' + m ≤ n) => cut_at hb at' m h1 hnc
  have HCUT := Lib.hid hcut; clear hcut
  have hc : ∀ at' : Nat, at' ≤ xs.length → ys = xs.drop at' → at' + m ≤ n ∧ decide (((n : Int) - at') < m) = false := by
    intro at' h1 h2
    rw [h2, List.length_drop] at hmy
    refine ⟨by omega, ?_⟩
    simp
    omega
  have HC := Lib.hid hc; clear hc hmy
  have HBS := Lib.hid hb; clear hb
  have hb2 : Below w.heap.size w ((w.alloc (Obj.cells #[.slice A n c, .int .i64 (at_ : Nat), .bool (!s)] 33)).alloc (Obj.cells #[.slice none 0 0, .int .i64 0, .bool false] 33)) := ((Below.refl _ _).alloc (Nat.le_refl _) _).alloc (by simp) _
  have HB2 := Lib.hid hb2; clear hb2
  have k2 : Blk ((w.alloc (Obj.cells #[.slice A n c, .int .i64 (at_ : Nat), .bool (!s)] 33)).alloc (Obj.cells #[.slice none 0 0, .int .i64 0, .bool false] 33)) (w.heap.size + 1) 33 #[.slice none 0 0, .int .i64 0, .bool false] := by
    have := Blk.new (w.alloc (Obj.cells #[.slice A n c, .int .i64 (at_ : Nat), .bool (!s)] 33)) 33 #[.slice none 0 0, .int .i64 0, .bool false]
    simpa using this
  have K2 := Lib.hid k2; clear k2
  unfold rval at T1 ⊢
  go_enter Try.func10, Try.ntmps10
  go_wp2_with (first
    | (go_at_call 13; refine (T1.out _ HB2.out).mono ?_; rintro e w1 ⟨at', hat, hys, rfl, hbel⟩; have k4 := K2.out.below hbel K2.out.lt; have s1 := k4.lt; have K4 := Lib.hid k4; clear k4; obtain ⟨hle2, hcmp⟩ := HC.out at' hat hys; obtain ⟨A2, c2, hrun, hb3⟩ := HCUT.out at' hle2; have HB3 := Lib.hid hb3; clear hb3; have HBEL := Lib.hid (HB2.out.trans (hbel.mono HB2.out.size)); clear hbel; have HYS := Lib.hid hys; clear hys)
    | (at_builtin; (refine wpList_append_any _ rfl (.tmp 27) (.tmp 37) 22 rfl (w1.heap.size + 1) 5 i0 (.int .u8 0) 1 1 Try.underlying22 HI.out HZ0.out HZ1.out HZ2.out rfl (by decide) (.slice (some ⟨w1.heap.size + 1, 0, none⟩) 0 0) 0 [] rfl (by have := World.ownsRow_lit (base := w1.heap.size + 1) (size := 1) (e := 5) (w1.alloc (Obj.cells #[.slice A n c, .int .i64 (at' : Nat), .bool false] 33)) #[] 0 (by simp) (by unfold maxLen; omega) rfl; simpa using this) w.heap.size A2 m c2 (vals ((xs.drop at').take m)) rfl (((HB3.out.below HBEL.out (Nat.le_refl _)).alloc (by omega) _).alloc (by simp; omega) _).reads (vals_one _) (by unfold maxLen; omega) (by omega) (by simp) ?_; intro v2 w2 hown2 hg2 _; have k5 := ((Blk.new w1 33 #[.slice A n c, .int .i64 (at' : Nat), .bool false]).alloc (Obj.cells #[] 5)).grown hg2 (by simp [Value.ownBlock]); have k6 := ((K4.out.alloc (Obj.cells #[.slice A n c, .int .i64 (at' : Nat), .bool false] 33)).alloc (Obj.cells #[] 5)).grown hg2 (by simp [Value.ownBlock]; omega); have c0 := k5.cell 0; have c1 := k5.cell 1; have c2 := k5.cell 2; have d0 := k6.cell 0; have d1 := k6.cell 1; have d2 := k6.cell 2; have f0 := k5.frozen 0; have f1 := k5.frozen 1; have f2 := k5.frozen 2; have g0 := k6.frozen 0; have g1 := k6.frozen 1; have g2 := k6.frozen 2; have z0 := k5.lt; have z1 := k6.lt; simp at c0 c1 c2 d0 d1 d2; clear k5 k6; have hb4 : Below w.heap.size w w2 := ((HBEL.out.alloc (by omega) _).alloc (by simp; omega) _).grown hg2 (by simp; omega) (fun q hq => by simp [Value.ownBlock] at hq; omega); have HB4 := Lib.hid hb4; clear hb4 hg2; have HO2 := Lib.hid hown2; clear hown2)))
  have hfin : ∀ (u : Value), ((((w2.setCell ⟨w1.heap.size, 1, none⟩ (.int .i64 ((at' : Int) + (m : Int)))).setCell ⟨w.heap.size + 1, 0, none⟩ (.slice A n c)).setCell ⟨w.heap.size + 1, 1, none⟩ (.int .i64 ((at' : Int) + (m : Int)))).setCell ⟨w.heap.size + 1, 2, none⟩ u).ownsRow (w1.heap.size + 1) 5 1 v2 m (vals ((xs.drop at').take m)) := by
    intro u
    have h := HO2.out
    rw [Nat.zero_add, List.nil_append] at h
    exact ownsRow_setCell_below (ownsRow_setCell_below (ownsRow_setCell_below (ownsRow_setCell_below h (by simp) _) (by simp; omega) _) (by simp; omega) _) (by simp; omega) _
  exact bodyPost_ret (v := .tuple #[.agg #[.slice A n c, .int .i64 ((at' : Int) + (m : Int)), .bool false], v2]) (by simp [results, Try.results10, go_sem, s1, z0, z1, c0, c1, c2, d0, d1, d2]) rfl ⟨at' + m, v2, by omega, by rw [HYS.out, List.drop_drop], rfl, by rw [HYS.out]; have hf := own_mono (base' := w.heap.size) (hfin (.bool false)) (by omega); have hlen : ((xs.drop at').take m).length = m := (by rw [List.length_take, List.length_drop]; omega); rw [hlen]; exact hf, (((HB4.out.setCell (by simp; omega) _).setCell (by simp) _).setCell (by simp) _).setCell (by simp) _⟩
/-- the reference reader reads a text -/
theorem reftext_any (v : Value) (xs : List Nat) (at_ : Nat) (s : Bool) (w : World) (h : Sl w w.heap.size v xs) (hl : at_ ≤ xs.length) :
    Calls Try.prog 10 #[rval v at_ s] w fun e w' => ∃ at' v2, at' ≤ xs.length ∧ (rtext (xs.drop at_, s)).1.1 = xs.drop at' ∧ e = .returned (.tuple #[rval v at' (rtext (xs.drop at_, s)).1.2, v2]) ∧ w'.ownsRow w.heap.size 5 1 v2 (rtext (xs.drop at_, s)).2.length (vals (rtext (xs.drop at_, s)).2) ∧ Below w.heap.size w w' := by
  obtain ⟨A, n, c, rfl, hx⟩ := h
  have h : Sl w w.heap.size (.slice A n c) xs := ⟨A, n, c, rfl, hx⟩
  by_cases hok : (rnum (xs.drop at_, s) 2).1.2 = true ∧ (rnum (xs.drop at_, s) 2).2 ≤ (rnum (xs.drop at_, s) 2).1.1.length
  · have e : (rtext (xs.drop at_, s)).1.2 = true := by rw [rtext_yes hok]
    rw [e]
    exact reftext_ok A n c at_ s xs w hl h hok
  · rw [rtext_no hok]
    refine (reftext_bad A n c at_ s xs w hl h hok).mono ?_
    rintro e w' ⟨rfl, hbel⟩
    exact ⟨at_, _, hl, rfl, rfl, World.ownsRow_nil _ _ _ _, hbel⟩
end Go.Proofs.Ytidkabbogpdclaa.Oct
