/- Slices of bytes, one behind the other (layer 9 uses it): the contracts of slices.Grow and slices.Concat at bytes. Condition: at most 100000 bytes together. -/
import Derived.Test.YtpolpppnajfhdaaPgPut
import Derived.Test.YtpolpppnajfhdaaPgSls
import Derived.Lib.AppendZeros
namespace Go.Proofs.Ytpolpppnajfhdaa.Mem
open Go.RowKit Go.Proofs.Ytpolpppnajfhdaa.Oct
set_option linter.unusedVariables false
set_option linter.unusedSimpArgs false
theorem own_empty {w : World} {base g C : Nat} {cs : Array Value} (hg : g = w.heap.size) (hb : base ≤ w.heap.size) (hC : C ≤ maxLen) (hcs : cs.size = C) : (w.alloc (.cells cs 5)).ownsRow base 5 1 (.slice (some ⟨g, 0, none⟩) 0 C) 0 [] := by
  subst hg
  exact ⟨rfl, .inr ⟨w.heap.size, C, cs, rfl, hb, heap_alloc_new w _, Nat.zero_le _, hC, by rw [Nat.mul_one]; exact hcs, by simp⟩⟩
set_option maxRecDepth 20000 in
set_option maxHeartbeats 2000000 in
theorem grow_any (m : Nat) (w : World) (hm : m ≤ 100000) :
    Calls Try.prog 70 #[.slice none 0 0, .int .i64 (m : Nat)] w fun e w' => ∃ v, e = .returned v ∧ w'.ownsRow w.heap.size 5 1 v 0 [] ∧ Below w.heap.size w w' := by
  by_cases h0 : m = 0
  · subst h0
    go_enter Try.func70, Try.ntmps70
    go_wp2
    go_ret
    exact ⟨_, rfl, World.ownsRow_nil _ _ _ _, Below.refl _ _⟩
  · obtain ⟨i0, hi, hz0, hz1, hz2⟩ := info_parts Try.info5
    have hr := Go.Lib.run_append_nil_zeros (P := Try.prog) (ty := 29) w 29 3 5 i0 (.int .u8 0) .i64 .i64 Try.underlying29 Try.underlying3 hi hz0 m (by omega) (by omega) (by omega) (by rw [hz2]; omega)
    have hge := grownCap_ge w m 0 5
    have hle : grownCap w m 0 5 ≤ maxLen := grownCap_le_maxLen w m 0 5 (by unfold maxLen; omega)
    generalize grownCap w m 0 5 = C at *
    have hcs : (Builtin.zeroCells (Value.int .u8 0).cells m ++ Builtin.zeroCells (Value.int .u8 0).cells (C - m)).size = C := by
      simp [Builtin.zeroCells, Value.cells]
      omega
    generalize Builtin.zeroCells (Value.int .u8 0).cells m ++ Builtin.zeroCells (Value.int .u8 0).cells (C - m) = cs at *
    have hC0 : ¬ C = 0 := by omega
    have hC1 : 0 < C := by omega
    have hd : decide ((0 : Int) < (m : Int)) = true := by simp; omega
    have HR := Lib.hid hr; clear hr
    have HCS := Lib.hid hcs; clear hcs
    have HLE := Lib.hid hle; clear hle
    have h0' : 0 < m := by omega
    go_enter Try.func70, Try.ntmps70
    go_wp2_with (at_builtin; refine Go.Lib.wpList_append_run w rfl (.tmp 20) (.tmp 21) 29 3 rfl (.slice none 0 0) (.int .i64 (m : Nat)) rfl rfl _ _ HR.out ?_)
    go_ret
    exact ⟨_, rfl, own_empty (by simp) (by simp) HLE.out HCS.out, (Below.refl _ _).drew.alloc (by simp) _⟩
theorem flat_take (ss : List (List Nat)) (k : Nat) (h : k < ss.length) : (ss.take (k + 1)).flatten = (ss.take k).flatten ++ ss.getD k [] := by
  rw [List.take_succ_eq_append_getElem h, List.flatten_append]
  simp [List.getD, List.getElem?_eq_getElem h]
theorem flat_le (ss : List (List Nat)) (k : Nat) : (ss.take k).flatten.length ≤ ss.flatten.length := by
  have h : ss.flatten = (ss.take k).flatten ++ (ss.drop k).flatten := by rw [← List.flatten_append, List.take_append_drop]
  have := congrArg List.length h
  rw [List.length_append] at this
  omega
theorem own_form {w : World} {base n sz : Nat} {e : TypeId} {v : Value} {xs : List Value} (h : w.ownsRow base e sz v n xs) : ∃ A c, v = .slice A n c := by
  rcases h.2 with ⟨rfl, h0⟩ | ⟨g, cap, cur, rfl, _⟩
  · subst h0
    exact ⟨none, 0, rfl⟩
  · exact ⟨_, _, rfl⟩
set_option maxRecDepth 20000 in
set_option maxHeartbeats 4000000 in
theorem concat_any (A : Option Addr) (n c : Nat) (ss : List (List Nat)) (w : World) (h : Sls w w.heap.size (.slice A n c) ss) (hn : n ≤ 1000) (hlen : ss.flatten.length ≤ 100000) :
    Calls Try.prog 64 #[.slice A n c] w fun e w' => ∃ v, e = .returned v ∧ w'.ownsRow w.heap.size 5 1 v ss.flatten.length (vals ss.flatten) ∧ Below w.heap.size w w' := by
  obtain ⟨hsl, hnc, hcm⟩ := sls_len h
  unfold maxLen at hcm
  obtain ⟨i0, hi, hz0, hz1, hz2⟩ := info_parts Try.info5
  have HI := Lib.hid hi; clear hi
  have HZ0 := Lib.hid hz0; clear hz0
  have HZ1 := Lib.hid hz1; clear hz1
  have HZ2 := Lib.hid hz2; clear hz2
  have HSL := Lib.hid hsl; clear hsl
  have HS := Lib.hid h; clear h
  have HLEN := Lib.hid hlen; clear hlen
  go_enter Try.func64, Try.ntmps64
  go_wp2
  go_loopw [3, 11] (fun z i wr => w = wr ∧ ∃ k q : Nat, k ≤ n ∧ i = .int .i64 k ∧ z = .int .i64 q ∧ q = (ss.take k).flatten.length) (fun _ i _ => n - (intOf i).toNat)
  case atStart => exact ⟨rfl, 0, 0, Nat.zero_le _, rfl, rfl, by simp⟩
  case round =>
    obtain ⟨rfl, k, q, hk, rfl, rfl, hq⟩ := hrel
    by_cases hlt : k < n
    · obtain ⟨b, off, rfl, hb, hc⟩ := sls_at HS.out (by omega)
      obtain ⟨u, hu, hus⟩ := hc k hlt
      have hft := flat_take ss k (by have := HSL.out; omega)
      have hfl := flat_le ss (k + 1)
      rw [hft, List.length_append, ← hq] at hfl
      have hql := HLEN.out
      obtain ⟨A1, n1, c1, rfl, hb1, _⟩ := id hus
      have hn1 := hb1.1
      have hq2 : q + n1 = (ss.take (k + 1)).flatten.length := by rw [hft, List.length_append, ← hq, hn1]
      have hqn : q + n1 ≤ 100000 := by omega
      have HQ2 := Lib.hid hq2; clear hq2
      clear hft hfl hql hn1 hb1 hc hus hq
      go_wp2
      go_roundw
      case rel => exact ⟨by trivial, k + 1, q + n1, by omega, by go_num, by go_num, HQ2.out⟩
      case measure => simp [intOf]; omega
    · obtain rfl : k = n := by omega
      have hall : ss.take k = ss := List.take_of_length_le (by have := HSL.out; omega)
      rw [hall] at hq
      have hqn : q ≤ 100000 := by have := HLEN.out; omega
      have HQ := Lib.hid hq; clear hq hall
      go_wp2_with (go_at_call 70; refine (grow_any q _ hqn).mono ?_; rintro e w1 ⟨v1, rfl, ho1, hb1⟩; have HO1 := Lib.hid ho1; have HB1 := Lib.hid hb1; clear ho1 hb1)
      go_loopw [6, 27] (fun z i wr => ∃ j : Nat, j ≤ k ∧ i = .int .i64 j ∧ wr.ownsRow w.heap.size 5 1 z (ss.take j).flatten.length (vals (ss.take j).flatten) ∧ Below w.heap.size w wr) (fun _ i _ => k - (intOf i).toNat)
      case atStart => exact ⟨0, Nat.zero_le _, rfl, by simpa [vals] using HO1.out, HB1.out⟩
      case round =>
        obtain ⟨j, hj, rfl, hown, hbw⟩ := hrel
        by_cases hlt2 : j < k
        · obtain ⟨b, off, rfl, hb, hc⟩ := sls_at HS.out (by omega)
          obtain ⟨u, hu, hus⟩ := hc j hlt2
          have hft := flat_take ss j (by have := HSL.out; omega)
          have hfl := flat_le ss (j + 1)
          rw [hft, List.length_append] at hfl
          have hql := HLEN.out
          obtain ⟨A1, n1, c1, rfl, hb1, _⟩ := id hus
          have hn1 := hb1.1
          replace hu := (hbw.cell (p := ⟨b, off + j, none⟩) hb).trans hu
          have hr1 := (hb1.below hbw (Nat.le_refl _)).reads
          generalize ss.getD j [] = xs at *
          generalize (ss.take j).flatten = ys at *
          have hfit : ys.length + n1 ≤ 100000 := by omega
          obtain ⟨yn, hyn⟩ : ∃ yn, yn = ys.length := ⟨_, rfl⟩
          rw [← hyn] at hown hfit
          have HFT := Lib.hid hft; clear hft
          have HYN := Lib.hid hyn; clear hyn
          have HN1 := Lib.hid hn1; clear hn1
          have HR1 := Lib.hid hr1; clear hr1 hfl hql hb1 hc hus
          have HOW := Lib.hid hown; clear hown
          have HBW := Lib.hid hbw; clear hbw
          have hws := HBW.out.size
          obtain ⟨A3, c3, rfl⟩ := own_form HOW.out
          go_wp2_with (at_builtin; (refine wpList_append_any _ rfl (.tmp 31) (.tmp 32) 29 rfl w.heap.size 5 i0 (.int .u8 0) 1 1 Try.underlying29 HI.out HZ0.out HZ1.out HZ2.out rfl (by decide) (.slice A3 yn c3) yn (vals ys) rfl HOW.out w.heap.size A1 n1 c1 (vals xs) rfl HR1.out (vals_one xs) (by unfold maxLen; omega) (by omega) hws ?_; intro v4 w4 hown4 hg4 _))
          rw [← vals_append] at hown4
          have hlen4 : yn + n1 = (ys ++ xs).length := by rw [List.length_append, ← HYN.out, HN1.out]
          rw [hlen4, ← HFT.out] at hown4
          have HO4 := Lib.hid hown4; clear hown4 hlen4
          have HB4 := Lib.hid (HBW.out.grown hg4 hws (fun q hq => (HOW.out.lt q hq).1)); clear hg4
          go_roundw
          case rel => exact ⟨j + 1, by omega, by go_num, HO4.out, HB4.out⟩
          case measure => simp [intOf]; omega
        · obtain rfl : j = k := by omega
          have hall : ss.take j = ss := List.take_of_length_le (by have := HSL.out; omega)
          rw [hall] at hown
          have HOW := Lib.hid hown; clear hown hall
          have HBW := Lib.hid hbw; clear hbw
          go_wp2
          go_ret
          exact ⟨_, rfl, HOW.out, HBW.out⟩
end Go.Proofs.Ytpolpppnajfhdaa.Mem
