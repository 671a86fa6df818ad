/- Cuts of slices of changes (layer 11). -/
import Derived.Test.YtcojimbnenibnaaChgMem
import Derived.Test.YtcojimbnenibnaaBytes
namespace Go.Proofs.Ytcojimbnenibnaa.Chg
open Go.RowKit Go.Proofs.Ytcojimbnenibnaa.Mem Go.Proofs.Ytcojimbnenibnaa.Oct Go.Proofs.Ytcojimbnenibnaa.Lsa
set_option linter.unusedVariables false
set_option linter.unusedSimpArgs false
theorem szC (w : World) : (sizeOf (Try.prog.elem 26)).run Try.prog w = .ok 6 w := by kernel_rfl
theorem unC : Try.prog.underlying 26 = some (.slice (Try.prog.elem 26)) := by kernel_rfl
theorem chs_sliced {w : World} {B n cap : Nat} {A : Option Addr} {l : List Ch} (h : Chs w B (.slice A n cap) l) (i k : Nat) (hik : i ≤ k) (hk : k ≤ n) :
    ∃ A', sliced A i k cap 6 = .slice A' (k - i) (cap - i) ∧ Chs w B (.slice A' (k - i) (cap - i)) ((l.drop i).take (k - i)) := by
  obtain ⟨hl, hnc, hcm⟩ := chs_len h
  refine ⟨_, rfl, ⟨_, k - i, cap - i, rfl, by simp; omega, by omega, by omega, fun h0 => ?_⟩⟩
  obtain ⟨b, off, rfl, hb, hc⟩ := chs_at h (by omega)
  rw [if_neg (by omega)]
  refine ⟨b, off + i * 6, by simp [add_plain], hb, fun j hj => ?_⟩
  obtain ⟨u, hu, hs⟩ := hc (i + j) (by omega)
  have : ((l.drop i).take (k - i)).getD j zeroC = l.getD (i + j) zeroC := by simp [List.getD, List.getElem?_drop, hj]
  rw [this]
  refine ⟨u, ?_, hs⟩
  rw [show off + i * 6 + j * 6 = off + (i + j) * 6 by rw [Nat.add_mul]; omega]
  exact hu
theorem chs_hi {w : World} {B n cap : Nat} {A : Option Addr} {l : List Ch} (h : Chs w B (.slice A n cap) l) (k : Nat) (hk : k ≤ n) :
    ∃ A', (∀ W, (Instr.slice 26 (.slice A n cap) none (some (.int .i64 (k : Nat))) none).run Try.prog W = .ok (.slice A' k cap) W) ∧ Chs w B (.slice A' k cap) (l.take k) := by
  obtain ⟨hl, hnc, hcm⟩ := chs_len h
  obtain ⟨A', e, hb⟩ := chs_sliced h 0 k (by omega) hk
  refine ⟨A', fun W => ?_, by simpa using hb⟩
  rw [run_slice_h W _ A n cap unC .i64 k (by omega) (by omega), szC]
  simp only [Result.andThen, Int.toNat_natCast, e, Nat.sub_zero]
theorem chs_lo {w : World} {B n cap : Nat} {A : Option Addr} {l : List Ch} (h : Chs w B (.slice A n cap) l) (i : Nat) (hi : i ≤ n) :
    ∃ A', (∀ W, (Instr.slice 26 (.slice A n cap) (some (.int .i64 (i : Nat))) none none).run Try.prog W = .ok (.slice A' (n - i) (cap - i)) W) ∧ Chs w B (.slice A' (n - i) (cap - i)) (l.drop i) := by
  obtain ⟨hl, hnc, hcm⟩ := chs_len h
  obtain ⟨A', e, hb⟩ := chs_sliced h i n hi (Nat.le_refl _)
  rw [List.take_of_length_le (by rw [List.length_drop, hl]; exact Nat.le_refl _)] at hb
  refine ⟨A', fun W => ?_, hb⟩
  rw [run_slice_l W _ A n cap unC .i64 i (by omega) (by omega), szC]
  simp only [Result.andThen, Int.toNat_natCast, e]
end Go.Proofs.Ytcojimbnenibnaa.Chg
