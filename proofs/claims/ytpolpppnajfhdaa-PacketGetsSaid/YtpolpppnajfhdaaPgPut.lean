/- The contracts of what puts numbers and texts behind bytes (layer 2), in memory of the call; of bytes.Clone; and of Read. Condition: at most 200000 bytes each. -/
import Derived.Test.YtpolpppnajfhdaaPgReader
import Derived.LoopTactic
namespace Go.Proofs.Ytpolpppnajfhdaa.Oct
open Go.RowKit Go.Proofs.Ytpolpppnajfhdaa.Mem
set_option linter.unusedVariables false
theorem reads_new (w : World) (cs : Array Value) (t : TypeId) (g : Nat) (hg : g = w.heap.size) : Reads (w.alloc (.cells cs t)) (w.heap.size + 1) 1 (some ⟨g, 0, none⟩) cs.size cs.toList := by
  subst hg
  refine ⟨by simp, fun _ => ⟨_, rfl, by simp, fun j u hu => ?_⟩⟩
  rw [add_plain, Nat.zero_add, Joins.cell_alloc_mark_at _ _ _ _ _ _ rfl, ← hu]
  simp
set_option maxHeartbeats 1000000 in
theorem longer_any (A : Option Addr) (n c : Nat) (m : Nat) (xs : List Nat) (w : World) (hn : n ≤ 200000) (hm : m ≤ 200000) (hb : Bts w w.heap.size A n xs) :
    Calls Try.prog 44 #[.slice A n c, .int .i64 (m : Nat)] w fun e w' => ∃ v, e = .returned v ∧ w'.ownsRow w.heap.size 5 1 v n (vals xs) ∧ Below w.heap.size w w' := by
  obtain ⟨i0, hi, hz0, hz1, hz2⟩ := info_parts Try.info5
  have hr := hb.reads
  have HR := Lib.hid hr; clear hr
  have HI := Lib.hid hi; clear hi
  have HZ0 := Lib.hid hz0; clear hz0
  have HZ1 := Lib.hid hz1; clear hz1
  have HZ2 := Lib.hid hz2; clear hz2
  go_enter Try.func44, Try.ntmps44
  go_wp2_with (first
    | (at_make; refine wpList_make_own _ rfl _ _ 29 rfl w.heap.size 5 i0 (.int .u8 0) 1 Try.underlying29 HI.out HZ0.out HZ1.out _ _ _ (n + m) rfl rfl (by omega) (by rw [HZ2.out]; omega) (by unfold maxLen; omega) (Nat.le_refl _) ?_; intro w1 hown1 hg1; have hb1 : Below w.heap.size w w1 := ((Below.refl _ _).grown hg1 (Nat.le_refl _) (by simp)))
    | (at_builtin; (refine wpList_append_any _ rfl (.tmp 9) (.tmp 10) 29 rfl w.heap.size 5 i0 (.int .u8 0) 1 1 Try.underlying29 HI.out HZ0.out HZ1.out HZ2.out rfl (by decide) (.slice (some ⟨w.heap.size, 0, none⟩) 0 (n + m)) 0 [] rfl hown1 w.heap.size A n c (vals xs) rfl (HR.out.below hb1) (vals_one xs) (by unfold maxLen; omega) (by omega) hb1.size ?_; intro v2 w2 hown2 hg2 _)))
  go_ret
  rw [Nat.zero_add, List.nil_append] at hown2
  exact ⟨v2, rfl, hown2, hb1.grown hg2 hb1.size (fun k hk => (hown1.lt k hk).1)⟩
set_option maxHeartbeats 1000000 in
theorem clone_any (A : Option Addr) (n c : Nat) (xs : List Nat) (w : World) (hn : n ≤ 200000) (hA : A = none → c = 0) (hb : Bts w w.heap.size A n xs) :
    Calls Try.prog 43 #[.slice A n c] w fun e w' => ∃ v, e = .returned v ∧ w'.ownsRow w.heap.size 5 1 v n (vals xs) ∧ Below w.heap.size w w' := by
  obtain ⟨i0, hi, hz0, hz1, hz2⟩ := info_parts Try.info5
  have hr := hb.reads
  have hl := hb.1
  rcases A with _ | ad
  · have h0 : n = 0 := by
      rcases Nat.eq_zero_or_pos n with h0 | h0
      · exact h0
      · obtain ⟨_, _, e, _⟩ := hb.2.2.2 h0
        cases e
    subst h0
    have hx : xs = [] := List.eq_nil_of_length_eq_zero hl
    subst hx
    rw [hA rfl]
    have kn := fun (W : World) (a : Option Addr) (n c n' c' : Nat) => Lib.run_eql_slice_nil (P := Try.prog) W 29 _ a n c n' c' Try.underlying29
    go_enter Try.func43, Try.ntmps43
    go_wp2
    go_ret
    exact ⟨_, rfl, World.ownsRow_nil _ _ _ _, Below.refl _ _⟩
  · have HR := Lib.hid hr; clear hr
    have HI := Lib.hid hi; clear hi
    have HZ0 := Lib.hid hz0; clear hz0
    have HZ1 := Lib.hid hz1; clear hz1
    have HZ2 := Lib.hid hz2; clear hz2
    have hown1 : (w.alloc (.cells #[] 5)).ownsRow w.heap.size 5 1 (.slice (some ⟨w.heap.size, 0, none⟩) 0 0) 0 [] := World.ownsRow_lit w #[] 0 (Nat.le_refl _) (by unfold maxLen; omega) rfl
    have HO := Lib.hid hown1; clear hown1
    have hb1 : Below w.heap.size w (w.alloc (.cells #[] 5)) := (Below.refl _ _).alloc (Nat.le_refl _) _
    have HB1 := Lib.hid hb1; clear hb1
    have kn := fun (W : World) (a : Option Addr) (n c n' c' : Nat) => Lib.run_eql_slice_nil (P := Try.prog) W 29 _ a n c n' c' Try.underlying29
    go_enter Try.func43, Try.ntmps43
    go_wp2_with (at_builtin; (refine wpList_append_any _ rfl (.tmp 5) (.tmp 6) 29 rfl w.heap.size 5 i0 (.int .u8 0) 1 1 Try.underlying29 HI.out HZ0.out HZ1.out HZ2.out rfl (by decide) (.slice (some ⟨w.heap.size, 0, none⟩) 0 0) 0 [] rfl HO.out w.heap.size (some ad) n c (vals xs) rfl (HR.out.below HB1.out) (vals_one xs) (by unfold maxLen; omega) (by omega) HB1.out.size ?_; intro v2 w2 hown2 hg2 _))
    go_ret
    rw [Nat.zero_add, List.nil_append] at hown2
    exact ⟨v2, rfl, hown2, HB1.out.grown hg2 HB1.out.size (fun k hk => (HO.out.lt k hk).1)⟩
theorem reads_byte (w : World) (g : Nat) (hg : g = w.heap.size) (x : Int) (b : Nat) (h : x = (b : Int)) : Reads (w.alloc (.cells #[.int .u8 x] 5)) (w.heap.size + 1) 1 (some ⟨g, 0, none⟩) 1 (vals [b]) := by
  subst h
  exact reads_new w #[.int .u8 (b : Int)] 5 g hg
theorem two56 (N j : Nat) : ((N : Int) / 2 ^ (8 * j) % 256) = ((N / 256 ^ j % 256 : Nat) : Int) := by
  rw [show (256 : Nat) ^ j = 2 ^ (8 * j) by rw [Nat.pow_mul]]
  simp
theorem be_step (ys xs : List Nat) (j k N : Nat) (h : ys ++ be (j + 1) N = xs ++ be k N) : (ys ++ [N / 256 ^ j % 256]) ++ be j N = xs ++ be k N := by
  rw [← h, List.append_assoc]
  rfl
set_option maxHeartbeats 1000000 in
theorem num_put (A : Option Addr) (n c k N : Nat) (xs : List Nat) (w : World) (hn : n ≤ 100000) (hk : isW (k : Int) = true) (hk1 : k ≤ 8) (hk0 : 1 ≤ k) (hN : N < 18446744073709551616) (hb : Bts w w.heap.size A n xs) :
    Calls Try.prog 18 #[.slice A n c, .int .i64 (k : Nat), .int .u64 (N : Nat)] w fun e w' => ∃ v, e = .returned v ∧ w'.ownsRow w.heap.size 5 1 v (n + k) (vals (xs ++ be k N)) ∧ Below w.heap.size w w' := by
  obtain ⟨i0, hi, hz0, hz1, hz2⟩ := info_parts Try.info5
  have h1 := isWidth_any k w
  rw [hk] at h1
  have h2 := longer_any A n c k xs w (by omega) (by omega) hb
  have H1 := Lib.hid h1; clear h1
  have H2 := Lib.hid h2; clear h2
  have HI := Lib.hid hi; clear hi
  have HZ0 := Lib.hid hz0; clear hz0
  have HZ1 := Lib.hid hz1; clear hz1
  have HZ2 := Lib.hid hz2; clear hz2
  clear hk hb
  go_enter Try.func18, Try.ntmps18
  go_wp2_with (first
    | (go_at_call 42; refine (H1.out).mono ?_; rintro e w' ⟨rfl, rfl⟩)
    | (go_at_call 44; refine (H2.out).mono ?_; rintro e w1 ⟨v1, rfl, hown1, hb1⟩; have HO1 := Lib.hid hown1; clear hown1; have HB1 := Lib.hid hb1; clear hb1))
  go_loopw [7, 8] (fun v i wr => ∃ (j : Nat) (ys : List Nat), j ≤ k ∧ i = .int .i64 ((j : Int) - 1) ∧ ys ++ be j N = xs ++ be k N ∧ wr.ownsRow w.heap.size 5 1 v (n + (k - j)) (vals ys) ∧ Below w.heap.size w wr) (fun _ i _ => (intOf i + 1).toNat)
  case atStart => exact ⟨k, xs, Nat.le_refl _, rfl, rfl, by rw [Nat.sub_self]; exact HO1.out, HB1.out⟩
  case round =>
    obtain ⟨j, ys, hj, rfl, hy, hown, hbel⟩ := hrel
    have HY := Lib.hid hy; clear hy
    have HO := Lib.hid hown; clear hown
    have HB := Lib.hid hbel; clear hbel
    rcases j with _ | j
    · go_wp2
      go_ret
      have e := HY.out
      rw [show be 0 N = [] from rfl, List.append_nil] at e
      have h := HO.out
      rw [e, Nat.sub_zero] at h
      exact ⟨_, rfl, h, HB.out⟩
    · have ej : (((j + 1 : Nat) : Int) - 1) = (j : Int) := by omega
      rw [ej]
      have eb := two56 N j
      have EB := Lib.hid eb; clear eb
      go_wp2_with (at_builtin; (refine wpList_append_any _ rfl (.tmp 23) (.tmp 29) 29 rfl w.heap.size 5 i0 (.int .u8 0) 1 1 Try.underlying29 HI.out HZ0.out HZ1.out HZ2.out rfl (by decide) _ (n + (k - (j + 1))) (vals ys) rfl (HO.out.alloc _) (wr.heap.size + 1) (some ⟨wr.heap.size, 0, none⟩) 1 1 (vals [N / 256 ^ j % 256]) rfl (reads_byte wr _ rfl _ _ EB.out) (vals_one _) (by unfold maxLen; omega) (by omega) (by have := HB.out.size; simp; omega) ?_; intro v2 w2 hown2 hg2 _; have hb2 : Below w.heap.size w w2 := ((HB.out.alloc HB.out.size _).grown hg2 (by have := HB.out.size; simp; omega) (fun q hq => (HO.out.lt q hq).1)); clear hg2))
      go_roundw
      case rel =>
        rw [← vals_append] at hown2
        exact ⟨j, ys ++ [N / 256 ^ j % 256], by omega, rfl, be_step ys xs j k N HY.out, by rw [show n + (k - j) = n + (k - (j + 1)) + 1 by omega]; exact hown2, hb2⟩
      case measure => simp [intOf]
theorem putNum_length (xs : List Nat) (k : Int) (N : Nat) : (putNum xs k N).length ≤ xs.length + 8 := by
  unfold putNum
  split
  · rename_i h
    obtain ⟨m, rfl, h1, h8⟩ := isW_nat h
    rw [List.length_append, be_length]
    simp
    omega
  · omega
theorem clone_sl (v : Value) (xs : List Nat) (w : World) (h : Sl w w.heap.size v xs) (hl : xs.length ≤ 200000) :
    Calls Try.prog 43 #[v] w fun e w' => ∃ v', e = .returned v' ∧ Sl w' w'.heap.size v' xs ∧ Below w.heap.size w w' := by
  have hx := h.lt
  obtain ⟨A, n, c, rfl, hb, h1, h2, h3⟩ := h
  have hn := hb.1
  refine (clone_any A n c xs w (by omega) h3 hb).mono ?_
  rintro e w' ⟨v, rfl, hown, hbel⟩
  exact ⟨v, rfl, sl_own hown hx (by omega), hbel⟩
set_option maxHeartbeats 1000000 in
/-- a number is put behind -/
theorem put_num (v : Value) (k : Int) (N : Nat) (xs : List Nat) (w : World) (h : Sl w w.heap.size v xs) (hl : xs.length ≤ 100000) (hN : N < 18446744073709551616) :
    Calls Try.prog 18 #[v, .int .i64 k, .int .u64 (N : Nat)] w fun e w' => ∃ v', e = .returned v' ∧ Sl w' w'.heap.size v' (putNum xs k N) ∧ Below w.heap.size w w' := by
  have hlt := putNum_lt h.lt k N
  by_cases hk : isW k = true
  · obtain ⟨m, rfl, h1, h8⟩ := isW_nat hk
    have e : putNum xs (m : Int) N = xs ++ be m N := by unfold putNum; rw [if_pos hk]; rfl
    rw [e] at hlt ⊢
    obtain ⟨A, n, c, rfl, hb, h1', h2', h3'⟩ := h
    have hn := hb.1
    refine (num_put A n c m N xs w (by omega) hk h8 h1 hN hb).mono ?_
    rintro e w' ⟨v, rfl, hown, hbel⟩
    exact ⟨v, rfl, sl_own hown hlt (by omega), hbel⟩
  · have e : putNum xs k N = xs := by unfold putNum; rw [if_neg hk]
    rw [e]
    have h1 := isWidth_any k w
    rw [show isW k = false by simpa using hk] at h1
    have h2 := clone_sl v xs w h (by omega)
    have H1 := Lib.hid h1; clear h1
    have H2 := Lib.hid h2; clear h2
    clear h hk hlt e
    go_enter Try.func18, Try.ntmps18
    go_wp2_with (first
      | (go_at_call 42; refine (H1.out).mono ?_; rintro e w' ⟨rfl, rfl⟩)
      | (go_at_call 43; refine (H2.out).mono ?_; rintro e w1 ⟨v1, rfl, hs, hb⟩))
    go_ret
    exact ⟨_, rfl, hs, hb⟩
theorem reads_two (w : World) (g : Nat) (hg : g = w.heap.size) (x y : Int) (a b : Nat) (h : x = (a : Int)) (h' : y = (b : Int)) : Reads (w.alloc (.cells #[.int .u8 x, .int .u8 y] 5)) (w.heap.size + 1) 1 (some ⟨g, 0, none⟩) 2 (vals [a, b]) := by
  subst h h'
  exact reads_new w #[.int .u8 (a : Int), .int .u8 (b : Int)] 5 g hg
set_option maxHeartbeats 1000000 in
/-- a reader is made -/
theorem read_any (v : Value) (xs : List Nat) (w : World) (h : Sl w w.heap.size v xs) (hl : xs.length ≤ 200000) :
    Calls Try.prog 34 #[v] w fun e w' => ∃ g, e = .returned (ptr g) ∧ w.heap.size ≤ g ∧ Rdr w' g (xs, true) ∧ Below w.heap.size w w' := by
  have h2 := clone_sl v xs w h hl
  have H2 := Lib.hid h2; clear h2
  clear h
  go_enter Try.func34, Try.ntmps34
  go_wp2_with (go_at_call 43; refine (H2.out).mono ?_; rintro e w1 ⟨v1, rfl, hs, hb⟩; obtain ⟨A, n, c, rfl, hbt, h1, h2, h3⟩ := hs; have HBT := Lib.hid hbt; clear hbt; have HB := Lib.hid hb; clear hb)
  go_ret
  exact ⟨w1.heap.size, rfl, HB.out.size, ⟨A, n, c, Blk.new _ _ _, HBT.out.alloc (Nat.le_refl _) _, h1, h2⟩, HB.out.alloc HB.out.size _⟩
end Go.Proofs.Ytpolpppnajfhdaa.Oct
