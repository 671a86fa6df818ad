/- How many pages a record has (layer 5): the contracts of Parts and of the reference's. -/
import Derived.Test.YtkidjlmjjfgknaaRecord
import Derived.Deep.QuietTactic
import Derived.BigQuiet
namespace Go.Proofs.Ytkidjlmjjfgknaa.Rcd
open Go.RowKit Go.Proofs.Ytkidjlmjjfgknaa.Mem Go.Proofs.Ytkidjlmjjfgknaa.Oct Go.Proofs.Ytkidjlmjjfgknaa.Pg
set_option linter.unusedVariables false
set_option linter.unusedSimpArgs false
def partsI (n : Int) : Nat := if n < 0 then 0 else parts n.toNat
theorem partsI_nat (n : Nat) : partsI (n : Int) = parts n := by unfold partsI; rw [if_neg (by omega)]; rfl
theorem partsI_low {n : Int} (h : decide (n < 0) = true) : partsI n = 0 := by unfold partsI; rw [if_pos (by simpa using h)]
theorem partsI_high {n : Int} (h : decide (7808 < n) = true) : partsI n = 0 := by
  simp only [decide_eq_true_eq] at h
  unfold partsI
  rw [if_neg (by omega), parts_zero (by omega)]
theorem partsI_in {n : Int} (h : decide (n < 0) = false) (h2 : decide (7808 < n) = false) : ∃ k : Nat, n = k ∧ k ≤ 7808 := by
  simp only [decide_eq_false_iff_not] at h h2
  exact ⟨n.toNat, by omega, by omega⟩
set_option maxRecDepth 20000 in
set_option maxHeartbeats 1000000 in
theorem parts_any (n : Int) (w : World) :
    Calls Try.prog 24 #[.int .i64 n] w fun e w' => e = .returned (.int .i64 (partsI n : Nat)) ∧ w = w' := by
  cases h0 : decide (n < 0)
  · cases h1 : decide (7808 < n)
    · obtain ⟨k, rfl, hk⟩ := partsI_in h0 h1
      have hm : (partsI k : Nat) = if k = 0 then 1 else (k + 487) / 488 := by
        rw [partsI_nat]
        unfold parts
        rw [if_pos hk]
      have HM := Lib.hid hm; clear hm
      go_enter Try.func24, Try.ntmps24
      go_wp2
      all_goals
        go_ret
        exact ⟨ret_int (by have h9 := HM.out; split at h9 <;> omega), rfl⟩
    · rw [partsI_high h1]
      go_enter Try.func24, Try.ntmps24
      go_wp2
      go_ret
      exact ⟨rfl, rfl⟩
  · rw [partsI_low h0]
    go_enter Try.func24, Try.ntmps24
    go_wp2
    go_ret
    exact ⟨rfl, rfl⟩
set_option maxHeartbeats 1000000 in
theorem rparts_any (n : Int) (w : World) :
    Calls Try.prog 27 #[.int .i64 n] w fun e w' => e = .returned (.int .i64 (partsI n : Nat)) ∧ w = w' := by
  cases h0 : decide (n < 0)
  · cases h1 : decide (7808 < n)
    · obtain ⟨k, rfl, hk⟩ := partsI_in h0 h1
      have hp : parts k = if k = 0 then 1 else (k + 487) / 488 := by unfold parts; rw [if_pos hk]
      have HP := Lib.hid hp; clear hp
      rw [partsI_nat]
      have hp16 := parts_le k
      have hp1 := parts_pos hk
      go_enter Try.func27, Try.ntmps27
      go_wp2
      go_loopw [3] (fun i wr => (∃ j : Nat, 1 ≤ j ∧ j ≤ parts k ∧ i = .int .i64 j) ∧ wr = w) (fun i _ => parts k - (intOf i).toNat)
      case atStart => exact ⟨⟨1, Nat.le_refl _, hp1, rfl⟩, rfl⟩
      case round =>
        obtain ⟨⟨j, hj1, hj2, rfl⟩, rfl⟩ := hrel
        have hj16 : j ≤ 16 := by omega
        by_cases hlt : j < parts k
        · have hb : decide ((j : Int) * 488 < (k : Int)) = true := by
            have := HP.out
            rw [this] at hlt
            simp only [decide_eq_true_eq]
            split at hlt <;> omega
          go_wp2
          go_roundw
          case rel => exact ⟨⟨j + 1, by omega, by omega, by go_num⟩, trivial⟩
          case measure => simp [intOf]; omega
        · have hb : decide ((j : Int) * 488 < (k : Int)) = false := by
            have h := HP.out
            have he : j = parts k := by omega
            rw [h] at he
            simp only [decide_eq_false_iff_not]
            split at he <;> omega
          go_wp2
          go_ret
          exact ⟨ret_int (by omega), rfl⟩
    · rw [partsI_high h1]
      go_enter Try.func27, Try.ntmps27
      go_wp2
      go_ret
      exact ⟨rfl, rfl⟩
  · rw [partsI_low h0]
    go_enter Try.func27, Try.ntmps27
    go_wp2
    go_ret
    exact ⟨rfl, rfl⟩
end Go.Proofs.Ytkidjlmjjfgknaa.Rcd
