/- Open and the reference Open (layer 1): the bytes without their check, and whether it is theirs. Condition: at most 2000 bytes, the length within the capacity. -/
import Derived.Test.YtpolpppnajfhdaaCut
import Derived.WalkSmall
namespace Go.Proofs.Ytpolpppnajfhdaa.Crc
open Go.RowKit
set_option linter.unusedVariables false
theorem Bts.take {w : World} {B n k : Nat} {A : Option Addr} {xs : List Nat} (h : Bts w B A n xs) (hk : k ≤ n) : Bts w B A k (xs.take k) := by
  obtain ⟨hl, hx, hn, hA⟩ := h
  refine ⟨by simp; omega, take_lt hx k, by omega, fun h0 => ?_⟩
  obtain ⟨b, off, e, hb, hc⟩ := hA (by omega)
  refine ⟨b, off, e, hb, fun i hi => ?_⟩
  rw [hc i (by omega)]
  have : (xs.take k).getD i 0 = xs.getD i 0 := by simp [List.getD, hi]
  rw [this]
theorem Bts.some_ {w : World} {B n : Nat} {A : Option Addr} {xs : List Nat} (h : Bts w B A n xs) (hn : 0 < n) : ∃ ad, A = some ad := by
  obtain ⟨b, off, e, _⟩ := h.2.2.2 hn
  exact ⟨_, e⟩
def okOf (xs : List Nat) : Bool := decide (4 ≤ xs.length ∧ sealed (xs.take (xs.length - 4)) = xs)
def outOf (xs : List Nat) : List Nat := if okOf xs = true then xs.take (xs.length - 4) else []
theorem sealed_take {xs : List Nat} {k : Nat} (h : xs.length = k) : (sealed xs).take k = xs := by
  unfold sealed
  rw [List.take_append_of_le_length (by omega), List.take_of_length_le (by omega)]
theorem sealed_length (xs : List Nat) : (sealed xs).length = xs.length + 4 := by simp [sealed, tail4]
/-- what Seal leaves, as bytes -/
theorem seal_bts (A : Option Addr) (n c : Nat) (xs : List Nat) (w : World) (h : n ≤ 2000) (hA : A = none → c = 0) (hb : Bts w w.heap.size A n xs) :
    Calls Try.prog 23 #[.slice A n c] w fun e w' => ∃ A' c', e = .returned (.slice A' (n + 4) c') ∧ Bts w' w'.heap.size A' (n + 4) (sealed xs) ∧ n + 4 ≤ c' ∧ c' ≤ maxLen ∧ Below w.heap.size w w' := by
  refine (seal_any A n c xs w h hA hb).mono ?_
  rintro e w' ⟨v, rfl, hown, hbel⟩
  obtain ⟨A', c', rfl, hb', hc, hm⟩ := bts_own hown (sealed_lt hb.2.1) (by omega)
  exact ⟨A', c', rfl, hb', hc, hm, hbel⟩
set_option maxHeartbeats 400000 in
theorem open_short (A : Option Addr) (n c : Nat) (w : World) (h : n < 4) :
    Calls Try.prog 33 #[.slice A n c] w fun e w' => e = .returned (.tuple #[.slice none 0 0, .bool false]) ∧ w = w' := by
  go_enter Try.func33, Try.ntmps33
  go_wp2
  go_ret2
  exact ⟨rfl, rfl⟩
set_option maxHeartbeats 400000 in
theorem open_long (ad : Addr) (k c : Nat) (xs : List Nat) (w : World) (h : k + 4 ≤ 2000) (hkc : k + 4 ≤ c) (hm : c ≤ maxLen) (hb : Bts w w.heap.size (some ad) (k + 4) xs) :
    Calls Try.prog 33 #[.slice (some ad) (k + 4) c] w fun e w' => ∃ A' k' c', e = .returned (.tuple #[.slice A' k' c', .bool (okOf xs)]) ∧ Bts w' w'.heap.size A' k' (outOf xs) ∧ Below w.heap.size w w' := by
  unfold maxLen at hm
  have hkI : (k : Int) ≤ (c : Int) := by omega
  have s1 := seal_bts (some ad) k c (xs.take k) w (by omega) (fun h => by cases h) (hb.take (by omega))
  have hlen := hb.1
  have hok : okOf xs = decide (sealed (xs.take k) = xs) := by
    unfold okOf
    rw [hlen, show k + 4 - 4 = k by omega]
    by_cases e : sealed (xs.take k) = xs
    · rw [decide_eq_true e, decide_eq_true ⟨by omega, e⟩]
    · rw [decide_eq_false e, decide_eq_false (fun h => e h.2)]
  have hout : outOf xs = if sealed (xs.take k) = xs then xs.take k else [] := by
    unfold outOf
    rw [hok, hlen, show k + 4 - 4 = k by omega]
    by_cases e : sealed (xs.take k) = xs <;> simp [e]
  have S1 := Lib.hid s1; clear s1
  have HB := Lib.hid hb; clear hb
  have HO := Lib.hid hok; clear hok
  have HU := Lib.hid hout; clear hout
  have HL := Lib.hid hlen; clear hlen
  have ceq := fun (A' : Option Addr) (c' : Nat) (w1 : World) (h1 : Bts w1 w1.heap.size A' (k + 4) (sealed (xs.take k))) (h2 : Below w.heap.size w w1) =>
    equal_any A' (some ad) (k + 4) (k + 4) c' c _ _ (sealed (xs.take k)) xs w1 h1 (HB.out.below h2 (Nat.le_refl _))
  by_cases e : sealed (xs.take k) = xs
  · rw [decide_eq_true e] at ceq
    have E := Lib.hid ceq; clear ceq
    have HE := Lib.hid e; clear e
    go_enter Try.func33, Try.ntmps33
    go_wp2_with (first
      | (go_at_call 23; refine (S1.out).mono ?_; rintro e w1 ⟨A', c', rfl, hb1, hc1, hm1, hbel1⟩; have HB1 := Lib.hid hb1; clear hb1; unfold maxLen at hm1; have hc1I : (k : Int) ≤ (c' : Int) := by omega)
      | (go_at_call 53; refine (E.out A' c' w1 HB1.out hbel1).mono ?_; rintro e w' ⟨rfl, rfl⟩))
    go_ret2
    refine ⟨A', k, k, by rw [HO.out, decide_eq_true HE.out]; rfl, ?_, hbel1⟩
    rw [HU.out, if_pos HE.out]
    have h3 := HB1.out.take (k := k) (by omega)
    rw [sealed_take (by rw [List.length_take, HL.out]; omega)] at h3
    exact h3
  · rw [decide_eq_false e] at ceq
    have E := Lib.hid ceq; clear ceq
    have HE := Lib.hid e; clear e
    go_enter Try.func33, Try.ntmps33
    go_wp2_with (first
      | (go_at_call 23; refine (S1.out).mono ?_; rintro e w1 ⟨A', c', rfl, hb1, hc1, hm1, hbel1⟩; have HB1 := Lib.hid hb1; clear hb1)
      | (go_at_call 53; refine (E.out A' c' w1 HB1.out hbel1).mono ?_; rintro e w' ⟨rfl, rfl⟩))
    go_ret2
    refine ⟨none, 0, 0, by rw [HO.out, decide_eq_false HE.out]; rfl, ?_, hbel1⟩
    rw [HU.out, if_neg HE.out]
    exact ⟨rfl, by simp, by omega, fun h => absurd h (by omega)⟩
theorem ok_short {xs : List Nat} (h : xs.length < 4) : okOf xs = false := by
  unfold okOf
  exact decide_eq_false (fun hh => by omega)
theorem out_of_not {xs : List Nat} (h : okOf xs = false) : outOf xs = [] := by
  unfold outOf
  rw [h]
  rfl
theorem bts_nil (w : World) (B : Nat) : Bts w B none 0 [] := ⟨rfl, by simp, by omega, fun h => absurd h (by omega)⟩
theorem open_any (A : Option Addr) (n c : Nat) (xs : List Nat) (w : World) (h : n ≤ 2000) (hkc : n ≤ c) (hm : c ≤ maxLen) (hb : Bts w w.heap.size A n xs) :
    Calls Try.prog 33 #[.slice A n c] w fun e w' => ∃ A' k' c', e = .returned (.tuple #[.slice A' k' c', .bool (okOf xs)]) ∧ Bts w' w'.heap.size A' k' (outOf xs) ∧ Below w.heap.size w w' := by
  rcases Nat.lt_or_ge n 4 with hn | hn
  · refine (open_short A n c w hn).mono ?_
    rintro e w' ⟨rfl, rfl⟩
    have hx := ok_short (xs := xs) (by rw [hb.1]; exact hn)
    refine ⟨none, 0, 0, by rw [hx], ?_, Below.refl _ _⟩
    rw [out_of_not hx]
    exact bts_nil _ _
  · obtain ⟨k, rfl⟩ : ∃ k, n = k + 4 := ⟨n - 4, by omega⟩
    obtain ⟨ad, rfl⟩ := hb.some_ (by omega)
    exact open_long ad k c xs w h hkc hm hb

/-! the reference Open -/
theorem rseal_bts (A : Option Addr) (n c : Nat) (xs : List Nat) (w : World) (h : n ≤ 2000) (hA : A = none → c = 0) (hb : Bts w w.heap.size A n xs) :
    Calls Try.prog 39 #[.slice A n c] w fun e w' => ∃ A' c', e = .returned (.slice A' (n + 4) c') ∧ Bts w' w'.heap.size A' (n + 4) (sealed xs) ∧ n + 4 ≤ c' ∧ c' ≤ maxLen ∧ Below w.heap.size w w' := by
  refine (rseal_any A n c xs w h hA hb).mono ?_
  rintro e w' ⟨v, rfl, hown, hbel⟩
  obtain ⟨A', c', rfl, hb', hc, hm⟩ := bts_own hown (sealed_lt hb.2.1) (by omega)
  exact ⟨A', c', rfl, hb', hc, hm, hbel⟩
end Go.Proofs.Ytpolpppnajfhdaa.Crc
