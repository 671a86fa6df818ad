/- check.Of of one part (layer 1), the part's block a letter: what it answers. Condition: at most 1000000 bytes. -/
import Derived.Test.YtkonbnpbojepbaaCut
namespace Go.Proofs.Ytkonbnpbojepbaa.Crc
open Go.RowKit
theorem of_at {B n c : Nat} {A : Option Addr} {xs : List Nat} (W : World) (g : Nat) (hb : Bts W B A n xs) (hB : B ≤ W.heap.size) (hg : W.heap.size = g) :
    Calls Try.prog 8 #[.slice (some ⟨g, 0, none⟩) 1 1] (W.alloc (.cells #[.slice A n c] 22)) fun e w' => e = .returned (.int .u32 (crc xs : Nat)) ∧ W.alloc (.cells #[.slice A n c] 22) = w' := by
  subst hg
  exact of_one_at W hb hB
theorem u8x (a b : Nat) (ha : a < 256) (hb : b < 256) : bits .xor .u8 (a : Int) (b : Int) = ((a ^^^ b : Nat) : Int) := u8_xor_nat a b ha hb
theorem one8 (x : Nat) : ∀ u ∈ [Value.int .u8 (x : Int)], u.oneCell' = true := by
  intro u hu
  simp only [List.mem_cons, List.not_mem_nil, or_false] at hu
  subst hu
  rfl
end Go.Proofs.Ytkonbnpbojepbaa.Crc
