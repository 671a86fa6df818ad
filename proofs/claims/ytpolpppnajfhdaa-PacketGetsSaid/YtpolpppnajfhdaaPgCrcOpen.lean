/- Open and the reference Open (layer 1): the bytes without their check, and whether it is theirs. Condition: at most 2000 bytes, the length within the capacity. -/
import Derived.Test.YtpolpppnajfhdaaPgCut
import Derived.WalkSmall
namespace Go.Proofs.Ytpolpppnajfhdaa.Crc
open Go.RowKit
set_option linter.unusedVariables false
theorem Bts.take {w : World} {B n k : Nat} {A : Option Addr} {xs : List Nat} (h : Bts w B A n xs) (hk : k ≤ n) : Bts w B A k (xs.take k) := by
  obtain ⟨hl, hx, hn, hA⟩ := h
  refine ⟨by simp; omega, take_lt hx k, by omega, fun h0 => ?_⟩
  obtain ⟨b, off, e, hb, hc⟩ := hA (by omega)
  refine ⟨b, off, e, hb, fun i hi => ?_⟩
  rw [hc i (by omega)]
  have : (xs.take k).getD i 0 = xs.getD i 0 := by simp [List.getD, hi]
  rw [this]
theorem Bts.some_ {w : World} {B n : Nat} {A : Option Addr} {xs : List Nat} (h : Bts w B A n xs) (hn : 0 < n) : ∃ ad, A = some ad := by
  obtain ⟨b, off, e, _⟩ := h.2.2.2 hn
  exact ⟨_, e⟩
def okOf (xs : List Nat) : Bool := decide (4 ≤ xs.length ∧ sealed (xs.take (xs.length - 4)) = xs)
def outOf (xs : List Nat) : List Nat := if okOf xs = true then xs.take (xs.length - 4) else []
theorem sealed_take {xs : List Nat} {k : Nat} (h : xs.length = k) : (sealed xs).take k = xs := by
  unfold sealed
  rw [List.take_append_of_le_length (by omega), List.take_of_length_le (by omega)]
/-- what Seal leaves, as bytes -/
theorem seal_bts (A : Option Addr) (n c : Nat) (xs : List Nat) (w : World) (h : n ≤ 2000) (hA : A = none → c = 0) (hb : Bts w w.heap.size A n xs) :
    Calls Try.prog 23 #[.slice A n c] w fun e w' => ∃ A' c', e = .returned (.slice A' (n + 4) c') ∧ Bts w' w'.heap.size A' (n + 4) (sealed xs) ∧ n + 4 ≤ c' ∧ c' ≤ maxLen ∧ Below w.heap.size w w' := by
  refine (seal_any A n c xs w h hA hb).mono ?_
  rintro e w' ⟨v, rfl, hown, hbel⟩
  obtain ⟨A', c', rfl, hb', hc, hm⟩ := bts_own hown (sealed_lt hb.2.1) (by omega)
  exact ⟨A', c', rfl, hb', hc, hm, hbel⟩
set_option maxHeartbeats 400000 in
theorem open_short (A : Option Addr) (n c : Nat) (w : World) (h : n < 4) :
    Calls Try.prog 33 #[.slice A n c] w fun e w' => e = .returned (.tuple #[.slice none 0 0, .bool false]) ∧ w = w' := by
  go_enter Try.func33, Try.ntmps33
  go_wp2
  go_ret2
  exact ⟨rfl, rfl⟩
theorem ok_short {xs : List Nat} (h : xs.length < 4) : okOf xs = false := by
  unfold okOf
  exact decide_eq_false (fun hh => by omega)
theorem out_of_not {xs : List Nat} (h : okOf xs = false) : outOf xs = [] := by
  unfold outOf
  rw [h]
  rfl
theorem bts_nil (w : World) (B : Nat) : Bts w B none 0 [] := ⟨rfl, by simp, by omega, fun h => absurd h (by omega)⟩
end Go.Proofs.Ytpolpppnajfhdaa.Crc
