/- A cut of a slice of bytes (layer 1): what it reads as. Condition: the cut lies within the slice. -/
import Derived.Test.YtpolpppnajfhdaaPgCrcSame
namespace Go.Proofs.Ytpolpppnajfhdaa.Crc
open Go.RowKit
theorem add_plain (b off j : Nat) : (⟨b, off, none⟩ : Addr).add j = ⟨b, off + j, none⟩ := by
  unfold Addr.add
  split
  · rename_i h0; subst h0; rfl
  · rfl
/-- a cut of bytes, whatever the address -/
theorem bts_sliced {w : World} {B n cap : Nat} {A : Option Addr} {xs : List Nat} (h : Bts w B A n xs) (i k : Nat) (hik : i ≤ k) (hk : k ≤ n) (hc : n ≤ cap) :
    ∃ A', sliced A i k cap 1 = .slice A' (k - i) (cap - i) ∧ Bts w B A' (k - i) ((xs.drop i).take (k - i)) := by
  refine ⟨_, rfl, ?_⟩
  obtain ⟨hl, hx, hn, hA⟩ := h
  refine ⟨by simp; omega, fun x hxx => hx x (List.mem_of_mem_drop (List.mem_of_mem_take hxx)), by omega, fun h0 => ?_⟩
  obtain ⟨b, off, rfl, hb, hcell⟩ := hA (by omega)
  rw [if_neg (by omega)]
  refine ⟨b, off + i, by simp [add_plain], hb, fun j hj => ?_⟩
  rw [Nat.add_assoc, hcell (i + j) (by omega)]
  have : ((xs.drop i).take (k - i)).getD j 0 = xs.getD (i + j) 0 := by simp [List.getD, List.getElem?_drop, hj]
  rw [this]
theorem size1 (w : World) : (sizeOf (Try.prog.elem 29)).run Try.prog w = .ok 1 w := by kernel_rfl
theorem under22 : Try.prog.underlying 29 = some (.slice (Try.prog.elem 29)) := by kernel_rfl
theorem cut_l {w : World} {B n cap : Nat} {A : Option Addr} {xs : List Nat} (h : Bts w B A n xs) (i : Nat) (hi : i ≤ n) (hc : n ≤ cap) :
    ∃ A', (∀ W, (Instr.slice 29 (.slice A n cap) (some (.int .i64 i)) none none).run Try.prog W = .ok (.slice A' (n - i) (cap - i)) W) ∧ Bts w B A' (n - i) (xs.drop i) := by
  obtain ⟨A', e, hb⟩ := bts_sliced h i n hi (Nat.le_refl _) hc
  rw [List.take_of_length_le (by rw [List.length_drop, h.1]; exact Nat.le_refl _)] at hb
  refine ⟨A', fun W => ?_, hb⟩
  rw [run_slice_l W _ A n cap under22 .i64 i (by omega) (by omega), size1]
  simp only [Result.andThen, Int.toNat_natCast, e]
end Go.Proofs.Ytpolpppnajfhdaa.Crc
