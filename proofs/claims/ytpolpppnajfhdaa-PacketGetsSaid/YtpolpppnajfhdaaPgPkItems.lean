/- Items (layer 14): the contract of the reference's Items. -/
import Derived.Test.YtpolpppnajfhdaaPgLsaMem
import Derived.Test.YtpolpppnajfhdaaPgPkPure
import Derived.BigQuiet
import Derived.Deep.QuietTactic
import Derived.IntWalk
import Derived.Lib.Hide
import Derived.WalkKit
namespace Go.Proofs.Ytpolpppnajfhdaa.Pkt
open Go.RowKit Go.Proofs.Ytpolpppnajfhdaa.Mem Go.Proofs.Ytpolpppnajfhdaa.Lsa
set_option linter.unusedVariables false
set_option linter.unusedSimpArgs false
theorem itOk_step (last : Int) (l : List Lk) (k : Nat) (h : k < l.length) : itOk last (l.drop k) = (itOne last (l.getD k (0, 0)) && itOk (l.getD k (0, 0)).1 (l.drop (k + 1))) := by
  rw [drop_at l (0, 0) k h, itOk]
theorem itOne_iff {last : Int} {x : Lk} : itOne last x = true ↔ (1 ≤ x.1 ∧ x.1 ≤ 64) ∧ (1 ≤ x.2 ∧ x.2 ≤ 4611686018427387904) ∧ last < x.1 := by simp [itOne, Lsa.win]
theorem ret_bool {a b : Bool} (h : a = b) : Ending.returned (.bool b) = .returned (.bool a) := by rw [h]
theorem no_and {a b : Bool} (h : a = true → False) : (a && b) = false := by
  cases a
  · rfl
  · exact (h rfl).elim
theorem drewN_add (w : World) (m n : Nat) : (w.drewN m).drewN n = w.drewN (m + n) := by
  simp [World.drewN, Nat.add_assoc]
set_option maxRecDepth 20000 in
set_option maxHeartbeats 2000000 in
theorem ritems_any (A : Option Addr) (n c : Nat) (l : List Lk) (w : World) (h : Lks w w.heap.size (.slice A n c) l) :
    Calls Try.prog 27 #[.slice A n c] w fun e w' => e = .returned (.bool (itOk 0 l)) ∧ ∃ m, w' = w.drewN m := by
  obtain ⟨hl, hnc, hcm, _⟩ := lks_len h
  unfold maxLen at hcm
  have HL := Lib.hid hl; clear hl
  have HS := Lib.hid h; clear h
  go_enter Try.func27, Try.ntmps27
  go_wp2
  go_loopw [3] (fun i wr => ∃ (k m : Nat), k ≤ n ∧ i = .int .i64 k ∧ itOk 0 l = itOk (lastOf l k) (l.drop k) ∧ wr = w.drewN m) (fun i _ => n - (intOf i).toNat)
  case atStart => exact ⟨0, 0, Nat.zero_le _, rfl, rfl, rfl⟩
  case round =>
    obtain ⟨k, m, hk, rfl, hok, rfl⟩ := hrel
    by_cases hlt : k < n
    · obtain ⟨b, off, rfl, hb, hc⟩ := lks_at HS.out (by omega)
      obtain ⟨c0, c1⟩ := hc k hlt
      have cp : 0 < k → (w.drewN m).cell? ⟨b, off + (k - 1) * 2, none⟩ = some (.int .i64 (lastOf l k)) := fun h0 => by
        rw [lastOf, if_neg (by omega)]
        exact (hc (k - 1) (by omega)).1
      replace c0 : (w.drewN m).cell? ⟨b, off + k * 2, none⟩ = some (.int .i64 (l.getD k (0, 0)).1) := c0
      replace c1 : (w.drewN m).cell? ⟨b, off + k * 2 + 1, none⟩ = some (.int .i64 (l.getD k (0, 0)).2) := c1
      have hst := itOk_step (lastOf l k) l k (by have := HL.out; omega)
      have hsc := lastOf_succ l k
      have hl0 : k = 0 → lastOf l k = 0 := fun e => by subst e; rfl
      rw [hst] at hok
      clear hst hc
      generalize l.getD k (0, 0) = x at *
      obtain ⟨t, u⟩ := x
      simp only at c0 c1 hok hsc
      generalize lastOf l k = last at *
      have hi : itOne last (t, u) = true ↔ (1 ≤ t ∧ t ≤ 64) ∧ (1 ≤ u ∧ u ≤ 4611686018427387904) ∧ last < t := itOne_iff
      have HI := Lib.hid hi; clear hi
      have HOK := Lib.hid hok; clear hok
      have HSC := Lib.hid hsc; clear hsc
      have HL0 := Lib.hid hl0; clear hl0
      have hwr : ∃ wr, wr = w.drewN m := ⟨_, rfl⟩
      obtain ⟨wr, hwr⟩ := hwr
      rewrite [← hwr]
      rewrite [← hwr] at c0 c1 cp
      have HWR := Lib.hid hwr; clear hwr
      rcases Nat.eq_zero_or_pos k with h0 | h0
      · have dk : decide ((0 : Int) < k) = false := by simp; omega
        have hl := HL0.out h0
        have dk2 : ¬ 0 < k := by omega
        have dk3 : decide (0 < k) = false := by simp; omega
        clear cp h0
        go_wp2
        refine wp_region_quiet_lit (by kernel_rfl) (by kernel_rfl) ?_
        repeat (any_goals (first | go_big_quiet_step (fail) | quiet_step (fail) | (refine wpQuiet_step (fun K hK => ?_); go_simp; split <;> (refine hK _ ?_; clear hK K))))
        all_goals (refine wpQuiet_nil ?_; intro _ hw'; obtain ⟨nq, hw''⟩ := hw'; subst hw'')
        all_goals go_wp2
        all_goals first
          | (go_roundw
             case rel => exact ⟨k + 1, m + nq, by omega, by go_num, by rw [HOK.out, HI.out.2 (by omega), HSC.out, Bool.true_and], by rw [HWR.out]; exact drewN_add w m nq⟩
             case measure => simp [intOf]; omega)
          | (go_ret
             exact ⟨ret_bool (HOK.out.trans (no_and (fun h => by have := HI.out.1 h; omega))), m + nq, by rw [HWR.out]; exact drewN_add w m nq⟩)
      · have dk : decide ((0 : Int) < k) = true := by simp; omega
        have dk3 : decide (0 < k) = true := by simp; omega
        have c2 := cp h0
        have i0 : (0 : Int) ≤ (k : Int) - 1 := by omega
        have i1 : ((k : Int) - 1).toNat = k - 1 := by omega
        have i2 : (k : Int) - 1 < (n : Int) := by omega
        have i3 : 1 ≤ k := by omega
        have i4 : k - 1 < n := by omega
        have i5 : k ≤ n := by omega
        have i6 : IntKind.i64.wrap ((k : Int) - 1) = (k : Int) - 1 := IntWalk.i64_in _ (by omega)
        clear cp
        go_wp2
        refine wp_region_quiet_lit (by kernel_rfl) (by kernel_rfl) ?_
        repeat (any_goals (first | go_big_quiet_step (fail) | quiet_step (fail) | (refine wpQuiet_step (fun K hK => ?_); go_simp; split <;> (refine hK _ ?_; clear hK K))))
        all_goals (refine wpQuiet_nil ?_; intro _ hw'; obtain ⟨nq, hw''⟩ := hw'; subst hw'')
        all_goals go_wp2
        all_goals first
          | (go_roundw
             case rel => exact ⟨k + 1, m + nq, by omega, by go_num, by rw [HOK.out, HI.out.2 (by omega), HSC.out, Bool.true_and], by rw [HWR.out]; exact drewN_add w m nq⟩
             case measure => simp [intOf]; omega)
          | (go_ret
             exact ⟨ret_bool (HOK.out.trans (no_and (fun h => by have := HI.out.1 h; omega))), m + nq, by rw [HWR.out]; exact drewN_add w m nq⟩)
    · obtain rfl : k = n := by omega
      go_wp2
      go_ret
      exact ⟨ret_bool (hok.trans (by rw [List.drop_eq_nil_of_le (by have := HL.out; omega)]; rfl)), m, rfl⟩
end Go.Proofs.Ytpolpppnajfhdaa.Pkt
