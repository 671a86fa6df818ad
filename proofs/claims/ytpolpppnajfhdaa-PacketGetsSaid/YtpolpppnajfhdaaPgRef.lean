/- The reference of layer 2: numbers and texts as bytes, and a reader by value. Condition: at most 100000 bytes. -/
import Derived.Test.YtpolpppnajfhdaaPgPut
import Derived.Deep.RegionWith
namespace Go.Proofs.Ytpolpppnajfhdaa.Oct
open Go.RowKit Go.Proofs.Ytpolpppnajfhdaa.Mem
set_option linter.unusedVariables false
set_option linter.unusedSimpArgs false
theorem own_byte (w : World) (base g : Nat) (hg : g = w.heap.size) (hB : base ≤ w.heap.size) (x : Int) (b : Nat) (h : x = (b : Int)) : (w.alloc (.cells #[.int .u8 x] 5)).ownsRow base 5 1 (.slice (some ⟨g, 0, none⟩) 1 1) 1 (vals [b]) := by
  subst h hg
  exact World.ownsRow_lit w #[.int .u8 (b : Int)] 1 hB (by unfold maxLen; omega) rfl
theorem own_slice {w : World} {base n : Nat} {v : Value} {xs : List Value} (h : w.ownsRow base 5 1 v n xs) : ∃ A c, v = .slice A n c ∧ Reads w w.heap.size 1 A n xs := by
  rcases h.2 with ⟨rfl, rfl⟩ | ⟨g, cap, cur, rfl, hg, hh, hnc, hm, hs, ht⟩
  · exact ⟨none, 0, rfl, Reads.of_own h⟩
  · exact ⟨_, cap, rfl, Reads.of_own h⟩
theorem div_step (N i : Nat) : ((N / 256 ^ i : Nat) : Int) / 256 = ((N / 256 ^ (i + 1) : Nat) : Int) := by
  rw [Nat.pow_succ, ← Nat.div_div_eq_div_mul]
  omega
set_option maxHeartbeats 1000000 in
theorem ref_num (k N : Nat) (w : World) (hk : k ≤ 8) (hN : N < 18446744073709551616) :
    Calls Try.prog 37 #[.int .i64 (k : Nat), .int .u64 (N : Nat)] w fun e w' => ∃ v, e = .returned v ∧ w'.ownsRow w.heap.size 5 1 v k (vals (be k N)) ∧ Below w.heap.size w w' := by
  obtain ⟨i0, hi, hz0, hz1, hz2⟩ := info_parts Try.info5
  have HI := Lib.hid hi; clear hi
  have HZ0 := Lib.hid hz0; clear hz0
  have HZ1 := Lib.hid hz1; clear hz1
  have HZ2 := Lib.hid hz2; clear hz2
  have hown1 : (w.alloc (.cells #[] 5)).ownsRow w.heap.size 5 1 (.slice (some ⟨w.heap.size, 0, none⟩) 0 0) 0 [] := World.ownsRow_lit w #[] 0 (Nat.le_refl _) (by unfold maxLen; omega) rfl
  have HO1 := Lib.hid hown1; clear hown1
  have hb1 : Below w.heap.size w (w.alloc (.cells #[] 5)) := (Below.refl _ _).alloc (Nat.le_refl _) _
  have HB1 := Lib.hid hb1; clear hb1
  go_enter Try.func37, Try.ntmps37
  go_wp2
  go_loopw [1, 5, 6] (fun n v i wr => ∃ j : Nat, j ≤ k ∧ i = .int .i64 j ∧ n = .int .u64 (N / 256 ^ j : Nat) ∧ wr.ownsRow w.heap.size 5 1 v j (vals (be j N)) ∧ Below w.heap.size w wr) (fun _ _ i _ => k - (intOf i).toNat)
  case atStart => exact ⟨0, Nat.zero_le _, rfl, by simp, HO1.out, HB1.out⟩
  case round =>
    obtain ⟨j, hj, rfl, rfl, hown, hbel⟩ := hrel
    obtain ⟨A, c, rfl, hrd⟩ := own_slice hown
    have HR := Lib.hid hrd; clear hrd
    have HO := Lib.hid hown; clear hown
    have HB := Lib.hid hbel; clear hbel
    by_cases hlt : j < k
    · have hs := div_step N j
      have hq : N / 256 ^ j < 18446744073709551616 := Nat.lt_of_le_of_lt (Nat.div_le_self _ _) hN
      have hb : be (j + 1) N = (N / 256 ^ j % 256) :: be j N := rfl
      have HBE := Lib.hid hb; clear hb
      generalize N / 256 ^ j = q at *
      have HS := Lib.hid hs; clear hs
      go_wp2_with (at_builtin; (refine wpList_append_any _ rfl (.tmp 16) (.tmp 17) 29 rfl w.heap.size 5 i0 (.int .u8 0) 1 1 Try.underlying29 HI.out HZ0.out HZ1.out HZ2.out rfl (by decide) (.slice (some ⟨wr.heap.size, 0, none⟩) 1 1) 1 (vals [q % 256]) rfl (own_byte wr w.heap.size _ rfl HB.out.size _ _ (by omega)) wr.heap.size A j c (vals (be j N)) rfl (HR.out.alloc (Nat.le_refl _) _) (vals_one _) (by unfold maxLen; omega) (by omega) (by have := HB.out.size; simp; omega) ?_; intro v2 w2 hown2 hg2 _; have hb2 : Below w.heap.size w w2 := ((HB.out.alloc HB.out.size _).grown hg2 (by have := HB.out.size; simp; omega) (fun q hq => by simp [Value.ownBlock] at hq; have := HB.out.size; omega)); clear hg2))
      go_roundw
      case rel =>
        refine ⟨j + 1, by omega, by go_num, ?_, ?_, hb2⟩
        · rw [HS.out]
        · rw [HBE.out, Nat.add_comm j 1]
          exact hown2
      case measure => simp [intOf]; omega
    · obtain rfl : j = k := by omega
      go_wp2
      go_ret
      exact ⟨_, rfl, HO.out, HB.out⟩
end Go.Proofs.Ytpolpppnajfhdaa.Oct
