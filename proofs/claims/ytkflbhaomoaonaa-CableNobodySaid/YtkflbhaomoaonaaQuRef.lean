/- The reference of layer 15: Without and Same; and the law's awake. -/
import Derived.Test.YtkflbhaomoaonaaQuAll
import Derived.Test.YtkflbhaomoaonaaQuDo
namespace Go.Proofs.Ytkflbhaomoaonaa.Que
open Go.RowKit Go.Proofs.Ytkflbhaomoaonaa.Mem
set_option linter.unusedVariables false
set_option linter.unusedSimpArgs false
theorem sls_high {w : World} {B n c k : Nat} {A : Option Addr} {ss : List (List Nat)} (h : Sls w B (.slice A n c) ss) (hk : k ≤ n) :
    ∃ A', (∀ W, (Instr.slice 29 (.slice A n c) none (some (.int .i64 (k : Nat))) none).run Try.prog W = .ok (.slice A' k c) W) ∧ Sls w B (.slice A' k c) (ss.take k) := by
  obtain ⟨hl, hnc, hcm⟩ := sls_len h
  refine ⟨if c = 0 then A else A.map (·.add (0 * 1)), fun W => ?_, ?_⟩
  · rw [run_slice_h W _ A n c unRow .i64 (k : Nat) (by omega) (by omega), szRow]
    simp only [Result.andThen, Int.toNat_natCast, sliced, Nat.sub_zero]
  · have := h.take hk
    have e : (if c = 0 then A else A.map (·.add (0 * 1))) = A := by
      split
      · rfl
      · cases A <;> simp [Addr.add]
    rw [e]
    exact this
theorem sls_low {w : World} {B n c k : Nat} {A : Option Addr} {ss : List (List Nat)} (h : Sls w B (.slice A n c) ss) (hk : k ≤ n) :
    ∃ A', (∀ W, (Instr.slice 29 (.slice A n c) (some (.int .i64 (k : Nat))) none none).run Try.prog W = .ok (.slice A' (n - k) (c - k)) W) ∧ Sls w B (.slice A' (n - k) (c - k)) (ss.drop k) := by
  obtain ⟨hl, hnc, hcm⟩ := sls_len h
  refine ⟨if c = k then A else A.map (·.add (k * 1)), fun W => ?_, _, _, _, rfl, by simp; omega, by omega, by omega, fun h0 => ?_⟩
  · rw [run_slice_l W _ A n c unRow .i64 (k : Nat) (by omega) (by omega), szRow]
    simp only [Result.andThen, Int.toNat_natCast, sliced]
  · obtain ⟨b, off, rfl, hb, hc⟩ := sls_at h (by omega)
    refine ⟨b, off + k, by rw [if_neg (by omega)]; simp [add_plain], hb, fun j hj => ?_⟩
    obtain ⟨u, hu, hs⟩ := hc (k + j) (by omega)
    refine ⟨u, by rw [Nat.add_assoc]; exact hu, ?_⟩
    rw [show (ss.drop k).getD j [] = ss.getD (k + j) [] by simp [List.getD, List.getElem?_drop]]
    exact hs
set_option maxRecDepth 20000 in
set_option maxHeartbeats 4000000 in
theorem without_any (lv : Value) (ls : List (List Nat)) (k : Nat) (w : World) (h : Sls w w.heap.size lv ls) (hk : k < ls.length) (hl : ls.length ≤ 1000) :
    Calls Try.prog 15 #[lv, .int .i64 (k : Nat)] w fun e w' => ∃ v', e = .returned v' ∧ SlRow w' w.heap.size v' (ls.eraseIdx k) ∧ Below w.heap.size w w' := by
  obtain ⟨A, n, c, rfl, hn, h1, h2, _⟩ := id h
  obtain ⟨A1, r1, s1⟩ := sls_high h (k := k) (by omega)
  obtain ⟨A2, r2, s2⟩ := sls_low h (k := k + 1) (by omega)
  rw [show (((k + 1 : Nat)) : Int) = (k : Int) + 1 by omega] at r2
  have S1 := Lib.hid s1; clear s1
  have S2 := Lib.hid s2; clear s2
  have HL := Lib.hid hl
  have hL1 : ([] ++ ls.take k).length + (ls.drop (k + 1)).length ≤ 3000 := by simp; omega
  have hL0 : ([] : List (List Nat)).length + (ls.take k).length ≤ 3000 := by simp; omega
  have HL1 := Lib.hid hL1; clear hL1
  have HL0 := Lib.hid hL0; clear hL0
  rw [hn] at hk
  rw [List.eraseIdx_eq_take_drop_succ]
  have hk2 : k < 1000 := by omega
  have hk3 : (k : Int) ≤ n := by omega
  have hk4 : (k : Int) + 1 ≤ n := by omega
  have hw1 : IntKind.i64.wrap ((k : Int) + 1) = (k : Int) + 1 := by rw [IntKind.wrap_i64]; omega
  unfold maxLen at h2
  clear h hl hn
  have B1 := Lib.hid ((Below.refl w.heap.size w).drew.alloc (Nat.le_refl _) (.cells #[] 33))
  have R1 := Lib.hid (slRow_lit w.drew w.heap.size w.heap.size rfl (Nat.le_refl _))
  go_enter Try.func15, Try.ntmps15
  go_wp2_with (fail)
  go_region_law (first
    | (refine step_row rfl (.tmp 5) (.tmp 8) rfl w.heap.size (.slice (some ⟨w.heap.size, 0, none⟩) 0 0) [] (by simp [Act.eval, Act.put]) (by exact R1.out) A1 k c (ls.take k) (by simp [Act.eval, Act.put]) (by exact (S1.out.keep B1.out).more B1.out.size) HL0.out (by exact B1.out.size) ?_; intro v2 w2 hr2 hg2 ho2; have hb2 : Below w.heap.size w w2 := B1.out.grown hg2 B1.out.size (fun q hq => (slRow_lt R1.out q hq).1); have HB2 := Lib.hid hb2; have HR2 := Lib.hid hr2; obtain ⟨B2, n2, c2, rfl, _⟩ := slRow_form2 hr2; clear hr2 hg2 ho2 hb2)
    | (refine step_row rfl (.tmp 9) (.tmp 13) rfl w.heap.size (.slice B2 n2 c2) ([] ++ ls.take k) (by simp [Act.eval, Act.put]) (by exact HR2.out) A2 (n - (k + 1)) (c - (k + 1)) (ls.drop (k + 1)) (by simp [Act.eval, Act.put]) (by exact (S2.out.keep HB2.out).more HB2.out.size) HL1.out (by exact HB2.out.size) ?_; intro v3 w3 hr3 hg3 ho3; have HR3 := Lib.hid hr3; have HG3 := Lib.hid hg3; obtain ⟨B3, n3, c3, rfl, _⟩ := slRow_form2 hr3; clear hr3 hg3 ho3))
  all_goals
    (go_wp2
     go_ret
     exact ⟨_, rfl, HR3.out, HB2.out.grown HG3.out HB2.out.size (fun q hq => (slRow_lt HR2.out q hq).1)⟩)
/- the reference's Same, of the same texts -/
set_option maxRecDepth 20000 in
set_option maxHeartbeats 4000000 in
theorem same_yes15 (A A' : Option Addr) (n c c' : Nat) (ls : List (List Nat)) (w : World) (h : Sls w w.heap.size (.slice A n c) ls) (h' : Sls w w.heap.size (.slice A' n c') ls) :
    Calls Try.prog 20 #[.slice A n c, .slice A' n c'] w fun e w' => e = .returned (.bool true) ∧ ∃ m, w' = w.drewN m := by
  obtain ⟨hl, hn, hc⟩ := sls_len h
  unfold maxLen at hc
  have HS := Lib.hid h
  have HT := Lib.hid h'
  clear h h' hl
  go_enter Try.func20, Try.ntmps20
  go_wp2_with (fail)
  go_loopw [5] (fun i wr => (∃ k : Nat, k ≤ n ∧ i = .int .i64 k) ∧ ∃ m, wr = w.drewN m) (fun i _ => n - (intOf i).toNat)
  case atStart => exact ⟨⟨0, Nat.zero_le _, rfl⟩, 0, rfl⟩
  case round =>
    obtain ⟨⟨k, hk, rfl⟩, m, rfl⟩ := hrel
    by_cases hlt : k < n
    · obtain ⟨b, off, e1, hb, hcs⟩ := sls_at HS.out (by omega)
      obtain ⟨b', off', e2, hb', hcs'⟩ := sls_at HT.out (by omega)
      obtain ⟨u, hu, hs⟩ := hcs k hlt
      obtain ⟨u', hu', hs'⟩ := hcs' k hlt
      clear hcs hcs'
      subst e1 e2
      obtain ⟨A1, n1, c1, rfl, hb1, _⟩ := hs
      obtain ⟨A2, n2, c2, rfl, hb2, _⟩ := hs'
      obtain rfl : n1 = n2 := hb1.1.symm.trans hb2.1
      have cs : ∀ j, Calls Try.prog 14 #[.slice A1 n1 c1, .slice A2 n1 c2] (w.drewN (m + j)) fun e w' => e = .returned (.bool true) ∧ ∃ q, w' = w.drewN (m + q) := fun j =>
        (same_yes A1 A2 n1 c1 c2 _ _ _ (w.drewN (m + j)) (Bts.drewN hb1 _) (Bts.drewN hb2 _)).mono fun e w' h => by
          obtain ⟨h1, q, rfl⟩ := h
          exact ⟨h1, j + q, by rw [World.drewN_drewN, Nat.add_assoc]⟩
      have CS := Lib.hid cs; clear cs
      clear hb1 hb2
      go_wp2_with (fail)
      go_quiet (first | (go_at_call 14; exact CS.out _))
      go_wp2
      go_roundw
      case rel => exact ⟨⟨k + 1, by omega, by go_num⟩, _, rfl⟩
      case measure => simp [intOf]; omega
    · obtain rfl : k = n := by omega
      go_wp2
      go_ret
      exact ⟨rfl, _, rfl⟩
end Go.Proofs.Ytkflbhaomoaonaa.Que
