/- check.Open, its answer as a slice (layer 14's need): the bytes without their check, in memory of the call. Condition: at most 2000 bytes. -/
import Derived.Test.YtpolpppnajfhdaaCrcOpen
import Derived.Test.YtpolpppnajfhdaaBytes
namespace Go.Proofs.Ytpolpppnajfhdaa.Pkt
open Go.RowKit Go.Proofs.Ytpolpppnajfhdaa.Mem
set_option linter.unusedVariables false
set_option linter.unusedSimpArgs false
set_option maxHeartbeats 400000 in
theorem open_sl_long (ad : Addr) (k c : Nat) (xs : List Nat) (w : World) (h : k + 4 ≤ 2000) (hkc : k + 4 ≤ c) (hm : c ≤ maxLen) (hb : Crc.Bts w w.heap.size (some ad) (k + 4) xs) :
    Calls Try.prog 33 #[.slice (some ad) (k + 4) c] w fun e w' => ∃ A' k' c', e = .returned (.tuple #[.slice A' k' c', .bool (Crc.okOf xs)]) ∧ Sl w' w'.heap.size (.slice A' k' c') (Crc.outOf xs) ∧ Below w.heap.size w w' := by
  unfold maxLen at hm
  have hkI : (k : Int) ≤ (c : Int) := by omega
  have s1 := Crc.seal_bts (some ad) k c (xs.take k) w (by omega) (fun h => by cases h) (Crc.Bts.take hb (by omega))
  have hlen := hb.1
  have hok : Crc.okOf xs = decide (Crc.sealed (xs.take k) = xs) := by
    unfold Crc.okOf
    rw [hlen, show k + 4 - 4 = k by omega]
    by_cases e : Crc.sealed (xs.take k) = xs
    · rw [decide_eq_true e, decide_eq_true ⟨by omega, e⟩]
    · rw [decide_eq_false e, decide_eq_false (fun h => e h.2)]
  have hout : Crc.outOf xs = if Crc.sealed (xs.take k) = xs then xs.take k else [] := by
    unfold Crc.outOf
    rw [hok, hlen, show k + 4 - 4 = k by omega]
    by_cases e : Crc.sealed (xs.take k) = xs <;> simp [e]
  have S1 := Lib.hid s1; clear s1
  have HB := Lib.hid hb; clear hb
  have HO := Lib.hid hok; clear hok
  have HU := Lib.hid hout; clear hout
  have HL := Lib.hid hlen; clear hlen
  have ceq := fun (A' : Option Addr) (c' : Nat) (w1 : World) (h1 : Crc.Bts w1 w1.heap.size A' (k + 4) (Crc.sealed (xs.take k))) (h2 : Below w.heap.size w w1) =>
    Crc.equal_any A' (some ad) (k + 4) (k + 4) c' c _ _ (Crc.sealed (xs.take k)) xs w1 h1 (Crc.Bts.below HB.out h2 (Nat.le_refl _))
  by_cases e : Crc.sealed (xs.take k) = xs
  · rw [decide_eq_true e] at ceq
    have E := Lib.hid ceq; clear ceq
    have HE := Lib.hid e; clear e
    go_enter Try.func33, Try.ntmps33
    go_wp2_with (first
      | (go_at_call 23; refine (S1.out).mono ?_; rintro e w1 ⟨A', c', rfl, hb1, hc1, hm1, hbel1⟩; have HB1 := Lib.hid hb1; clear hb1; unfold maxLen at hm1; have hc1I : (k : Int) ≤ (c' : Int) := by omega)
      | (go_at_call 53; refine (E.out A' c' w1 HB1.out hbel1).mono ?_; rintro e w' ⟨rfl, rfl⟩))
    go_ret2
    refine ⟨A', k, k, by rw [HO.out, decide_eq_true HE.out]; rfl, ?_, hbel1⟩
    rw [HU.out, if_pos HE.out]
    have h3 := Crc.Bts.take HB1.out (k := k) (by omega)
    rw [Crc.sealed_take (by rw [List.length_take, HL.out]; omega)] at h3
    obtain ⟨ad', had'⟩ := Crc.Bts.some_ HB1.out (by omega)
    exact sl_of h3 (Nat.le_refl _) (by unfold maxLen; omega) (fun hh => by rw [had'] at hh; cases hh)
  · rw [decide_eq_false e] at ceq
    have E := Lib.hid ceq; clear ceq
    have HE := Lib.hid e; clear e
    go_enter Try.func33, Try.ntmps33
    go_wp2_with (first
      | (go_at_call 23; refine (S1.out).mono ?_; rintro e w1 ⟨A', c', rfl, hb1, hc1, hm1, hbel1⟩; have HB1 := Lib.hid hb1; clear hb1)
      | (go_at_call 53; refine (E.out A' c' w1 HB1.out hbel1).mono ?_; rintro e w' ⟨rfl, rfl⟩))
    go_ret2
    refine ⟨none, 0, 0, by rw [HO.out, decide_eq_false HE.out]; rfl, ?_, hbel1⟩
    rw [HU.out, if_neg HE.out]
    exact sl_nil _ _
theorem open_sl (v : Value) (xs : List Nat) (w : World) (h : Sl w w.heap.size v xs) (hl : xs.length ≤ 2000) :
    Calls Try.prog 33 #[v] w fun e w' => ∃ A' k' c', e = .returned (.tuple #[.slice A' k' c', .bool (Crc.okOf xs)]) ∧ Sl w' w'.heap.size (.slice A' k' c') (Crc.outOf xs) ∧ Below w.heap.size w w' := by
  obtain ⟨A, n, c, rfl, hb, hkc, hm, hA⟩ := h
  have hn := hb.1
  rcases Nat.lt_or_ge n 4 with hn4 | hn4
  · refine (Crc.open_short A n c w hn4).mono ?_
    rintro e w' ⟨rfl, rfl⟩
    have hx := Crc.ok_short (xs := xs) (by omega)
    refine ⟨none, 0, 0, by rw [hx], ?_, Below.refl _ _⟩
    rw [Crc.out_of_not hx]
    exact sl_nil _ _
  · obtain ⟨k, rfl⟩ : ∃ k, n = k + 4 := ⟨n - 4, by omega⟩
    obtain ⟨ad, rfl⟩ := Crc.Bts.some_ hb (by omega)
    exact open_sl_long ad k c xs w (by omega) hkc hm hb
end Go.Proofs.Ytpolpppnajfhdaa.Pkt
