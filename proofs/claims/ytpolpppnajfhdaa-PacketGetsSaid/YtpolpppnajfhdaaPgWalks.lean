/- The contracts of the check, of the reference check and of the known check (layer 1): what each call answers for any bytes in any memory; where it makes memory, nothing that was there has changed. Condition: each slice has at most 1000000 bytes. -/
import Derived.Test.YtpolpppnajfhdaaPgPlain
import Derived.Test.YtpolpppnajfhdaaRows
import Derived.Lib.Hide
import Derived.Lib.SmallJoins
import Derived.WalkKit
import Derived.WalkLawsBesides
import Derived.WalkSpells
namespace Go.Proofs.Ytpolpppnajfhdaa.Crc
open Go.RowKit
theorem xor32 (a b : Nat) (ha : a < 4294967296) (hb : b < 4294967296) : bits .xor .u32 (a : Int) (b : Int) = ((a ^^^ b : Nat) : Int) := u32_xor_nat a b ha hb
theorem low32 (x : Nat) (hx : x < 4294967296) : bits .and .u32 (x : Int) 1 = ((x % 2 : Nat) : Int) := by
  have h := u32_and_nat x 1 hx (by omega)
  rw [Nat.and_one_is_mod] at h
  exact h
theorem half_odd (x : Nat) (hx : x < 4294967296) (h : (bits .and .u32 (x : Int) 1 == 1) = true) :
    bits .xor .u32 ((x : Int) / 2) 3988292384 = ((half x : Nat) : Int) := by
  rw [low32 x hx] at h
  have h2 : x % 2 = 1 := by have := beq_iff_eq.1 h; omega
  have h3 := xor32 (x / 2) 3988292384 (by omega) (by omega)
  unfold half
  rw [if_pos h2, ← h3]
  rfl
theorem half_even (x : Nat) (hx : x < 4294967296) (h : (bits .and .u32 (x : Int) 1 == 1) = false) :
    ((x : Int) / 2) = ((half x : Nat) : Int) := by
  rw [low32 x hx] at h
  have h2 : ¬ x % 2 = 1 := by
    have := beq_eq_false_iff_ne.1 h
    intro hh; apply this; omega
  unfold half
  rw [if_neg h2]
  rfl
theorem u32_eq {a b : Int} (h : a = b) : Value.int .u32 a = Value.int .u32 b := by rw [h]
theorem ret_u32 {a b : Int} (h : a = b) : Ending.returned (.int .u32 a) = .returned (.int .u32 b) := by rw [h]
set_option maxHeartbeats 400000 in
theorem step_any (r b : Nat) (hr : r < 4294967296) (hb : b < 256) (w : World) :
    Calls Try.prog 65 #[.int .u32 (r : Int), .int .u8 (b : Int)] w fun e w' => e = .returned (.int .u32 (feed r b : Nat)) ∧ w = w' := by
  have h0 := xor32 r b hr (by omega)
  have hrb : r ^^^ b < 4294967296 := Nat.xor_lt_two_pow (n := 32) hr (by omega)
  go_enter Try.func65, Try.ntmps65
  go_wp2
  go_loop [0, 10] (fun x i => ∃ k : Nat, k ≤ 8 ∧ i = .int .i64 k ∧ x = .int .u32 (halves k (r ^^^ b) : Nat)) (fun _ i => 8 - (intOf i).toNat)
  case atStart => exact ⟨0, Nat.zero_le _, rfl, rfl⟩
  case round =>
    obtain ⟨k, hk, rfl, rfl⟩ := hrel
    clear h0
    have hl : halves k (r ^^^ b) < 4294967296 := halves_lt k hrb
    obtain ⟨x, hx⟩ : ∃ x, x = halves k (r ^^^ b) := ⟨_, rfl⟩
    rw [← hx] at hl ⊢
    have HX := Lib.hid hx; clear hx
    go_wp2
    · have hbit : (bits .and .u32 (x : Int) 1 == 1) = true := by assumption
      go_round
      case rel => exact ⟨k + 1, by omega, by go_num, u32_eq (by rw [half_odd x hl hbit, HX.out]; rfl)⟩
      case measure => simp [intOf]; omega
    · have hbit : (bits .and .u32 (x : Int) 1 == 1) = false := by assumption
      go_round
      case rel => exact ⟨k + 1, by omega, by go_num, u32_eq (by rw [half_even x hl hbit, HX.out]; rfl)⟩
      case measure => simp [intOf]; omega
    · go_ret
      have hk8 : k = 8 := by omega
      exact ⟨ret_u32 (by rw [HX.out, hk8]; rfl), rfl⟩
/-- bytes in memory: the slice of address A and length n reads as xs, below block B -/
def Bts (w : World) (B : Nat) (A : Option Addr) (n : Nat) (xs : List Nat) : Prop :=
  xs.length = n ∧ (∀ x ∈ xs, x < 256) ∧ n ≤ 1000000 ∧ (0 < n → ∃ b off, A = some ⟨b, off, none⟩ ∧ b < B ∧ ∀ i, i < n → w.cell? ⟨b, off + i, none⟩ = some (.int .u8 (xs.getD i 0 : Nat)))
structure Part where
  A : Option Addr
  n : Nat
  c : Nat
  xs : List Nat
def Part.val (p : Part) : Value := .slice p.A p.n p.c
def flat (ps : List Part) : List Nat := ps.flatMap Part.xs
def Pts (w : World) (B : Nat) (P : Option Addr) (n : Nat) (ps : List Part) : Prop :=
  ps.length = n ∧ n ≤ 100 ∧ (0 < n → ∃ b off, P = some ⟨b, off, none⟩ ∧ ∀ i (h : i < ps.length), w.cell? ⟨b, off + i, none⟩ = some ps[i].val) ∧ ∀ p ∈ ps, Bts w B p.A p.n p.xs
theorem flat_succ (ps : List Part) (k : Nat) (h : k < ps.length) (r : Nat) : reg (flat (ps.take (k + 1))) r = reg ps[k].xs (reg (flat (ps.take k)) r) := by
  rw [List.take_succ_eq_append_getElem h]
  unfold flat
  rw [List.flatMap_append, reg_append]
  simp
theorem reg_succ (xs : List Nat) (j : Nat) (h : j < xs.length) (r : Nat) : reg (xs.take (j + 1)) r = feed (reg (xs.take j) r) (xs.getD j 0) := by
  rw [List.take_succ_eq_append_getElem h, reg_append]
  simp [reg, List.getD, List.getElem?_eq_getElem h]
theorem take_lt {xs : List Nat} (h : ∀ x ∈ xs, x < 256) (j : Nat) : ∀ x ∈ xs.take j, x < 256 := fun x hx => h x (List.mem_of_mem_take hx)
theorem flat_lt {w : World} {B : Nat} {ps : List Part} (h : ∀ p ∈ ps, Bts w B p.A p.n p.xs) : ∀ x ∈ flat ps, x < 256 := by
  intro x hx
  simp only [flat, List.mem_flatMap] at hx
  obtain ⟨p, hp, hx⟩ := hx
  exact (h p hp).2.1 x hx
theorem full_xor (r : Nat) (h : r < 4294967296) : bits .xor .u32 IntKind.u32.max (r : Int) = ((full - r : Nat) : Int) := by
  rw [← not_eq h]
  exact xor32 4294967295 r (by omega) h

set_option maxHeartbeats 400000 in
theorem of_any (P : Option Addr) (n c B : Nat) (ps : List Part) (w : World) (h : Pts w B P n ps) :
    Calls Try.prog 46 #[.slice P n c] w fun e w' => e = .returned (.int .u32 (crc (flat ps) : Nat)) ∧ w = w' := by
  obtain ⟨hn, hn1, hP, hps⟩ := h
  have HN := Lib.hid hn; clear hn
  have HPS := Lib.hid hps; clear hps
  have HP := Lib.hid hP; clear hP
  go_enter Try.func46, Try.ntmps46
  go_wp2
  go_loop [3, 10] (fun x i => ∃ k : Nat, k ≤ n ∧ i = .int .i64 k ∧ x = .int .u32 (reg (flat (ps.take k)) full : Nat)) (fun _ i => n - (intOf i).toNat)
  case atStart => exact ⟨0, Nat.zero_le _, rfl, rfl⟩
  case round =>
    obtain ⟨k, hk, rfl, rfl⟩ := hrel
    by_cases hlt : k < n
    · obtain ⟨b, off, rfl, hcell⟩ := HP.out (by omega)
      have hk2 : k < ps.length := by have := HN.out; omega
      have hc := hcell k hk2
      clear hcell
      have hfs := flat_succ ps k hk2 full
      have hpt := HPS.out _ (List.getElem_mem hk2)
      have hR : reg (flat (ps.take k)) full < 4294967296 := reg_lt _ (flat_lt fun p hp => HPS.out p (List.mem_of_mem_take hp)) full_lt
      obtain ⟨R, hRe⟩ : ∃ R, R = reg (flat (ps.take k)) full := ⟨_, rfl⟩
      obtain ⟨S, hSe⟩ : ∃ S, S = reg (flat (ps.take (k + 1))) full := ⟨_, rfl⟩
      rw [← hRe] at hR hfs ⊢
      rw [← hSe] at hfs
      have HRE := Lib.hid hRe; clear hRe
      have HSE := Lib.hid hSe; clear hSe
      generalize ps[k] = p at *
      obtain ⟨A, m, cc, xs⟩ := p
      simp only [Part.val] at hc
      simp only at hfs hpt
      obtain ⟨hm, hx, hm1, hA⟩ := hpt
      have HM := Lib.hid hm; clear hm
      have HA := Lib.hid hA; clear hA
      have HX := Lib.hid hx; clear hx
      have HFS := Lib.hid hfs; clear hfs
      go_wp2
      go_loop [3, 16] (fun x i => ∃ j : Nat, j ≤ m ∧ i = .int .i64 j ∧ x = .int .u32 (reg (xs.take j) R : Nat)) (fun _ i => m - (intOf i).toNat)
      case atStart => exact ⟨0, Nat.zero_le _, rfl, rfl⟩
      case round =>
        obtain ⟨j, hj, rfl, rfl⟩ := hrel
        by_cases hjl : j < m
        · obtain ⟨b2, off2, rfl, _, hcell2⟩ := HA.out (by omega)
          have hc2 := hcell2 j hjl
          clear hcell2
          have hj2 : j < xs.length := by have := HM.out; omega
          have hq := getD_lt HX.out j
          have hQ : reg (xs.take j) R < 4294967296 := reg_lt _ (take_lt HX.out j) hR
          have hsucc := reg_succ xs j hj2 R
          obtain ⟨q, hqe⟩ : ∃ q, q = xs.getD j 0 := ⟨_, rfl⟩
          obtain ⟨Q, hQe⟩ : ∃ Q, Q = reg (xs.take j) R := ⟨_, rfl⟩
          rw [← hqe] at hc2 hq hsucc
          rw [← hQe] at hQ hsucc ⊢
          have HQE := Lib.hid hqe; clear hqe
          have HQ := Lib.hid hQe; clear hQe
          have HS := Lib.hid hsucc; clear hsucc
          go_wp2_with (go_at_call 65; refine (step_any Q q hQ hq _).mono ?_; rintro e w' ⟨rfl, rfl⟩)
          go_round
          case rel => exact ⟨j + 1, by omega, by go_num, u32_eq (by rw [HS.out])⟩
          case measure => simp [intOf]; omega
        · have hjm : j = m := by omega
          go_wp2
          go_round
          case rel => exact ⟨k + 1, by omega, by go_num, u32_eq (by rw [HSE.out.symm, HFS.out, hjm, List.take_of_length_le (by have := HM.out; omega)])⟩
          case measure => simp [intOf]; omega
    · have hkn : k = n := by omega
      have hR : reg (flat (ps.take k)) full < 4294967296 := reg_lt _ (flat_lt fun p hp => HPS.out p (List.mem_of_mem_take hp)) full_lt
      have hfx := full_xor _ hR
      obtain ⟨R, hRe⟩ : ∃ R, R = reg (flat (ps.take k)) full := ⟨_, rfl⟩
      rw [← hRe] at hR hfx ⊢
      have HRE := Lib.hid hRe; clear hRe
      have HFX := Lib.hid hfx; clear hfx
      have HKN := Lib.hid hkn; clear hkn
      go_wp2
      go_ret
      refine ⟨ret_u32 ?_, rfl⟩
      rw [HFX.out, HRE.out, HKN.out, List.take_of_length_le (by have := HN.out; omega)]
      rfl
theorem tmod_nat (q j : Nat) : ((q : Int) / 2 ^ j).tmod 2 = ((q / 2 ^ j % 2 : Nat) : Int) := by
  rw [show ((q : Int) / 2 ^ j) = ((q / 2 ^ j : Nat) : Int) by simp]
  rfl
theorem half_bit (R t : Nat) (ht : t < 2) : half (R ^^^ t) = if t ≠ R % 2 then (R / 2) ^^^ 3988292384 else R / 2 := by
  have h1 := @Nat.xor_mod_two_eq_one R t
  have h2 : (R ^^^ t) / 2 = R / 2 := by
    rw [Nat.xor_div_two, show t / 2 = 0 by omega, Nat.xor_zero]
  unfold half
  rw [h2]
  by_cases h : t = R % 2
  · rw [if_neg (by rw [h1]; omega), if_neg (by omega)]
  · rw [if_pos (by rw [h1]; omega), if_pos h]
theorem ref_odd (R q j : Nat) (hR : R < 4294967296) (h : (((q : Int) / 2 ^ j).tmod 2 != (R : Int) % 2) = true) :
    bits .xor .u32 ((R : Int) / 2) 3988292384 = ((half (R ^^^ (q / 2 ^ j % 2)) : Nat) : Int) := by
  rw [tmod_nat] at h
  have h2 : q / 2 ^ j % 2 ≠ R % 2 := by
    intro hh
    rw [hh] at h
    simp at h
  rw [half_bit _ _ (Nat.mod_lt _ (by omega)), if_pos h2]
  have h3 := xor32 (R / 2) 3988292384 (by omega) (by omega)
  rw [← h3]
  rfl
theorem ref_even (R q j : Nat) (h : (((q : Int) / 2 ^ j).tmod 2 != (R : Int) % 2) = false) :
    ((R : Int) / 2) = ((half (R ^^^ (q / 2 ^ j % 2)) : Nat) : Int) := by
  rw [tmod_nat] at h
  have h2 : q / 2 ^ j % 2 = R % 2 := by
    rw [bne_eq_false_iff_eq] at h
    exact_mod_cast h
  rw [half_bit _ _ (Nat.mod_lt _ (by omega)), if_neg (by omega)]
  rfl
theorem bit_at (xs : List Nat) (k j : Nat) (hj : j < 8) : bit xs (8 * k + j) = xs.getD k 0 / 2 ^ j % 2 := by
  unfold bit
  rw [show (8 * k + j) / 8 = k by omega, show (8 * k + j) % 8 = j by omega]
theorem run_next (xs : List Nat) (k j : Nat) (hj : j < 8) (R : Nat) : runFrom (bit xs) 0 (8 * k + (j + 1)) R = half (runFrom (bit xs) 0 (8 * k + j) R ^^^ (xs.getD k 0 / 2 ^ j % 2)) := by
  rw [← Nat.add_assoc]
  show half (_ ^^^ _) = _
  rw [Nat.zero_add, bit_at xs k j hj]
set_option maxHeartbeats 400000 in
theorem ref_any (A : Option Addr) (n c B : Nat) (xs : List Nat) (w : World) (h : Bts w B A n xs) :
    Calls Try.prog 61 #[.slice A n c] w fun e w' => e = .returned (.int .u32 (crc xs : Nat)) ∧ w = w' := by
  obtain ⟨hm, hx, hm1, hA⟩ := h
  have HM := Lib.hid hm; clear hm
  have HA := Lib.hid hA; clear hA
  have HX := Lib.hid hx; clear hx
  go_enter Try.func61, Try.ntmps61
  go_wp2
  go_loop [3, 4] (fun x i => ∃ k : Nat, k ≤ n ∧ i = .int .i64 k ∧ x = .int .u32 (runFrom (bit xs) 0 (8 * k) full : Nat)) (fun _ i => n - (intOf i).toNat)
  case atStart => exact ⟨0, Nat.zero_le _, rfl, rfl⟩
  case round =>
    obtain ⟨k, hk, rfl, rfl⟩ := hrel
    by_cases hlt : k < n
    · obtain ⟨b, off, rfl, _, hcell⟩ := HA.out (by omega)
      have hc := hcell k hlt
      clear hcell
      have hq := getD_lt HX.out k
      obtain ⟨q, hqe⟩ : ∃ q, q = xs.getD k 0 := ⟨_, rfl⟩
      rw [← hqe] at hc hq
      have HQE := Lib.hid hqe; clear hqe
      go_wp2
      go_loop [3, 5] (fun x i => ∃ j : Nat, j ≤ 8 ∧ i = .int .i64 j ∧ x = .int .u32 (runFrom (bit xs) 0 (8 * k + j) full : Nat)) (fun _ i => 8 - (intOf i).toNat)
      case atStart => exact ⟨0, Nat.zero_le _, rfl, rfl⟩
      case round =>
        obtain ⟨j, hj, rfl, rfl⟩ := hrel
        by_cases hjl : j < 8
        · have hR : runFrom (bit xs) 0 (8 * k + j) full < 4294967296 := run_lt _ _ full_lt (bit_lt xs)
          obtain ⟨R, hRe⟩ : ∃ R, R = runFrom (bit xs) 0 (8 * k + j) full := ⟨_, rfl⟩
          rw [← hRe] at hR ⊢
          have HRE := Lib.hid hRe; clear hRe
          go_wp2
          · have hbit : (((q : Int) / 2 ^ j).tmod 2 != (R : Int) % 2) = true := by assumption
            go_round
            case rel => exact ⟨j + 1, by omega, by go_num, u32_eq (by rw [ref_odd R q j hR hbit, run_next xs k j hjl full, ← HRE.out, ← HQE.out])⟩
            case measure => simp [intOf]; omega
          · have hbit : (((q : Int) / 2 ^ j).tmod 2 != (R : Int) % 2) = false := by assumption
            go_round
            case rel => exact ⟨j + 1, by omega, by go_num, u32_eq (by rw [ref_even R q j hbit, run_next xs k j hjl full, ← HRE.out, ← HQE.out])⟩
            case measure => simp [intOf]; omega
        · have hjm : j = 8 := by omega
          have HJM := Lib.hid hjm; clear hjm
          go_wp2
          go_round
          case rel => exact ⟨k + 1, by omega, by go_num, u32_eq (by rw [HJM.out, Nat.mul_add])⟩
          case measure => simp [intOf]; omega
    · have hkn : k = n := by omega
      have hR : runFrom (bit xs) 0 (8 * k) full < 4294967296 := run_lt _ _ full_lt (bit_lt xs)
      obtain ⟨R, hRe⟩ : ∃ R, R = runFrom (bit xs) 0 (8 * k) full := ⟨_, rfl⟩
      rw [← hRe] at hR ⊢
      have HRE := Lib.hid hRe; clear hRe
      have HKN := Lib.hid hkn; clear hkn
      go_wp2
      go_ret
      refine ⟨ret_u32 ?_, rfl⟩
      unfold crc
      rw [reg_run xs HX.out, HM.out, ← HKN.out, ← HRE.out]
      unfold full
      omega
theorem bts_row {w : World} {B g n : Nat} {xs : List Nat} (hg : g < B) (hx : ∀ x ∈ xs, x < 256) (hn : n ≤ 1000000) (hl : xs.length = n)
    (hc : ∀ i, i < n → w.cell? ⟨g, i, none⟩ = some (.int .u8 (xs.getD i 0 : Nat))) : Bts w B (some ⟨g, 0, none⟩) n xs :=
  ⟨hl, hx, hn, fun _ => ⟨g, 0, rfl, hg, fun i hi => by rw [Nat.zero_add]; exact hc i hi⟩⟩
end Go.Proofs.Ytpolpppnajfhdaa.Crc
