/- PacketTurns: for every packet, number and pattern the law returns true and its arguments read as before: a packet's bytes some of whose bits ahead of the check are turned, all within 32 in a row, are none's. No condition. -/
import Derived.Test.YtpolpppnajfhdaaPkAwake
import Derived.Test.YtpolpppnajfhdaaPkIn
import Derived.Test.YtpolpppnajfhdaaFlip
import Derived.Laws.OwnMore
import Derived.IntWalk
import Derived.WalkKit
import Derived.ProofKit
import Derived.OpenShut
import Derived.ShutString
import Derived.ChangeOld
import Derived.Below
namespace Go.Proofs.Ytpolpppnajfhdaa.Pkt
open Go.RowKit Go.Proofs.Ytpolpppnajfhdaa.Mem Go.Proofs.Ytpolpppnajfhdaa.Oct Go.Proofs.Ytpolpppnajfhdaa.Lsa Go.Proofs.Ytpolpppnajfhdaa.Bas
open Go.Proofs.Ytpolpppnajfhdaa.Crc (turned flipTo flipTo_length flipTo_lt turned_succ pow_lt256 crc_turned tail4 crc_lt)
open Go.Proofs.Ytpolpppnajfhdaa.Chg (low1 low_low low2 blk_second)
set_option linter.unusedVariables false
set_option linter.unusedSimpArgs false
theorem flip_app (xs ys : List Nat) (f P m : Nat) (h : f + m ≤ 8 * xs.length) : flipTo (xs ++ ys) f P m = flipTo xs f P m ++ ys := by
  induction m with
  | zero => rfl
  | succ m ih =>
    have ih := ih (by omega)
    have hl := flipTo_length xs f P m
    have hj : (f + m) / 8 < (flipTo xs f P m).length := by omega
    unfold flipTo
    rw [ih]
    split
    · rw [List.set_append_left _ _ hj]
      congr 2
      simp [List.getD, List.getElem?_append_left hj]
    · rfl
theorem flip_none {xs : List Nat} {f P m : Nat} (h : turned P m = false) : flipTo xs f P m = xs := by
  induction m with
  | zero => rfl
  | succ m ih =>
    rw [turned_succ] at h
    split at h
    · cases h
    · rename_i hb
      unfold flipTo
      rw [if_neg hb]
      exact ih h
theorem tail4_inj {a b : Nat} (ha : a < 4294967296) (hb : b < 4294967296) (h : tail4 a = tail4 b) : a = b := by
  unfold tail4 at h
  injection h with h1 h
  injection h with h2 h
  injection h with h3 h
  injection h with h4 _
  omega
theorem vals_set (l : List Nat) (j v : Nat) : (vals l).set j (.int .u8 (v : Int)) = vals (l.set j v) := by simp [vals, List.map_set]
theorem odd_yes (P k : Nat) (h : (((P : Int) / 2 ^ k).tmod 2 == 1) = true) : P / 2 ^ k % 2 = 1 := by
  rw [Crc.tmod_nat] at h
  have := beq_iff_eq.1 h
  omega
theorem odd_no (P k : Nat) (h : (((P : Int) / 2 ^ k).tmod 2 == 1) = false) : ¬ P / 2 ^ k % 2 = 1 := by
  rw [Crc.tmod_nat] at h
  have := beq_eq_false_iff_ne.1 h
  intro hh
  rw [hh] at this
  exact this rfl
theorem flip_yes {w wr : World} {g n cap : Nat} {xs : List Nat} {f P k j r q : Nat} (h : (((P : Int) / 2 ^ k).tmod 2 == 1) = true) (hj : j = (f + k) / 8) (hr : r = (f + k) % 8)
    (hq : q = (flipTo xs f P k).getD j 0) (hx : ∀ x ∈ xs, x < 256)
    (hown : wr.ownsRow w.heap.size 5 1 (.slice (some ⟨g, 0, none⟩) n cap) n (vals (flipTo xs f P k))) :
    (wr.setCell ⟨g, j, none⟩ (.int .u8 (bits .xor .u8 (q : Int) (2 ^ r % 256)))).ownsRow w.heap.size 5 1 (.slice (some ⟨g, 0, none⟩) n cap) n (vals (flipTo xs f P (k + 1))) := by
  have h8 : r < 8 := by omega
  have hq2 : q < 256 := by rw [hq]; exact getD_lt (flipTo_lt hx f P k) j
  have e : bits .xor .u8 (q : Int) (2 ^ r % 256) = ((q ^^^ 2 ^ r : Nat) : Int) := by
    have e3 : (2 : Int) ^ r % 256 = ((2 ^ r : Nat) : Int) := by
      have h3 := pow_lt256 r h8
      have h4 : ((2 : Int) ^ r) = ((2 ^ r : Nat) : Int) := by simp
      rw [h4]
      generalize 2 ^ r = m at h3
      exact Int.emod_eq_of_lt (Int.natCast_nonneg _) (by omega)
    rw [e3]
    exact u8_xor_nat q (2 ^ r) hq2 (pow_lt256 r h8)
  have e2 : flipTo xs f P (k + 1) = (flipTo xs f P k).set j (q ^^^ 2 ^ r) := by
    rw [hq, hj, hr]
    show (if _ then _ else _) = _
    rw [if_pos (odd_yes P k h)]
  rw [e2, e, ← vals_set]
  exact (hown.stored j _).1
theorem flip_no {xs : List Nat} {f P k : Nat} (h : (((P : Int) / 2 ^ k).tmod 2 == 1) = false) : flipTo xs f P (k + 1) = flipTo xs f P k := by
  show (if _ then _ else _) = _
  rw [if_neg (odd_no P k h)]
theorem turned_yes {P k : Nat} (h : (((P : Int) / 2 ^ k).tmod 2 == 1) = true) : Value.bool true = Value.bool (turned P (k + 1)) := by
  rw [turned_succ, if_pos (odd_yes P k h)]
theorem turned_no {P k : Nat} (h : (((P : Int) / 2 ^ k).tmod 2 == 1) = false) : Value.bool (turned P k) = Value.bool (turned P (k + 1)) := by
  rw [turned_succ, if_neg (odd_no P k h)]
theorem getC_turned {p : Pk} (hm : mayP p = true) (f Q m : Nat) (h32 : m ≤ 32) (hf : f + m ≤ 8 * (bodyP p).length) : getC (flipTo (putP p) f Q m) = if turned Q m = true then none else some p := by
  cases ht : turned Q m
  · rw [flip_none ht, getC_back hm]
    rfl
  · have hsec : putP p = bodyP p ++ tail4 (Crc.crc (bodyP p)) := rfl
    have he : flipTo (putP p) f Q m = flipTo (bodyP p) f Q m ++ tail4 (Crc.crc (bodyP p)) := by rw [hsec, flip_app _ _ _ _ _ (by omega)]
    rw [if_pos rfl]
    cases hg : getC (flipTo (putP p) f Q m) with
    | none => rfl
    | some q =>
      exfalso
      obtain ⟨hq, h2⟩ := getC_sound (flipTo_lt (putP_lt p) f Q m) hg
      have hs2 : putP q = bodyP q ++ tail4 (Crc.crc (bodyP q)) := rfl
      rw [hs2, he] at h2
      have hll := congrArg List.length h2
      simp only [List.length_append, tail4, List.length_cons, List.length_nil, flipTo_length] at hll
      obtain ⟨e1, e2⟩ := List.append_inj h2 (by rw [flipTo_length]; omega)
      rw [e1] at e2
      have e3 := tail4_inj (crc_lt _) (crc_lt _) e2
      have e4 := (crc_turned (bodyP p) (bodyP_lt p) f Q m h32 hf).1 e3.symm
      rw [ht] at e4
      cases e4
theorem bodyP_big (p : Pk) : 11 ≤ (bodyP p).length := by
  simp only [bodyP, List.length_append, headP_length]
  omega
theorem bodyP_small {p : Pk} (hm : mayP p = true) : (bodyP p).length ≤ 2000 - 4 := by
  obtain ⟨_, hh, hl, hi, _, hk⟩ := mayP_iff.1 hm
  have e1 := itOk_len (c := 0) (by omega) (by omega) hi
  have e2 := lsBytes_len p.ls (ls_all14 hl)
  have e3 : p.hd.length ≤ 16 ∧ p.ls.length ≤ 8 := by
    unfold kindOk at hk
    by_cases a : p.k = 1
    · simp [a] at hk; rw [hk.2.2]; exact ⟨hk.1, by simp⟩
    by_cases b : p.k = 2
    · simp [b] at hk; rw [hk.1, hk.2]; simp
    by_cases c : p.k = 3
    · simp [c] at hk; rw [hk.1, hk.2.2]; simp
    by_cases d : p.k = 4
    · simp [d] at hk; rw [hk.1]; exact ⟨by simp, by omega⟩
    by_cases e : p.k = 5
    · simp [e] at hk; rw [hk.1, hk.2]; simp
    · simp [a, b, c, d, e] at hk
  have e4 := midP_length p
  have e5 : (midP p).length ≤ 8 := by rw [e4]; split <;> (try split) <;> omega
  have e6 := headP_length p
  simp only [bodyP, List.length_append, linkBytes_length, itBytes_length, e6]
  omega
set_option maxRecDepth 100000 in
set_option maxHeartbeats 8000000 in
theorem turns_dark (p : Pk) (A1 A2 A3 : Option Addr) (n1 z1 n2 z2 n3 z3 : Nat) (x Q : Nat) (w : World) (h : PkM w w.heap.size (.slice A1 n1 z1) (.slice A2 n2 z2) (.slice A3 n3 z3) p) (hl : lightP p = false) :
    Calls Try.prog 5 #[pkV p (.slice A1 n1 z1) (.slice A2 n2 z2) (.slice A3 n3 z3), .int .u16 (x : Int), .int .u32 (Q : Int)] w fun e w' => e = .returned (.bool true) ∧ Below w.heap.size w w' := by
  have HB := Lib.hid (low1 (Below.refl w.heap.size w) (.cells (pkC p (.slice A1 n1 z1) (.slice A2 n2 z2) (.slice A3 n3 z3)) 26))
  have K0 := Lib.hid (Blk.new w 26 (pkC p (.slice A1 n1 z1) (.slice A2 n2 z2) (.slice A3 n3 z3)))
  have HPM := Lib.hid (fun (W : World) (hW : Below w.heap.size w W) => h.up hW)
  have lt := light14_any p A1 A2 A3 n1 z1 n2 z2 n3 z3 _ (HPM.out _ HB.out)
  rw [hl] at lt
  have LT := Lib.hid lt; clear lt hl h
  go_enter Try.func5, Try.ntmps5
  go_wp2_with (first
    | (go_at_call 6; refine (LT.out).mono ?_; rintro e w1 ⟨rfl, hb1⟩; have HB1 := Lib.hid (low_low HB.out hb1); clear hb1)
    | (go_at_call 7; refine (awake14_any _).mono ?_; rintro e w8 ⟨rfl, hb8⟩; have HB8 := Lib.hid (low_low HB1.out hb8); clear hb8))
  go_ret
  exact ⟨rfl, HB8.out⟩
set_option maxRecDepth 100000 in
set_option maxHeartbeats 8000000 in
theorem turns_not (p : Pk) (A1 A2 A3 : Option Addr) (n1 z1 n2 z2 n3 z3 : Nat) (x Q : Nat) (w : World) (h : PkM w w.heap.size (.slice A1 n1 z1) (.slice A2 n2 z2) (.slice A3 n3 z3) p) (hl : lightP p = true) (hm : mayP p = false) :
    Calls Try.prog 5 #[pkV p (.slice A1 n1 z1) (.slice A2 n2 z2) (.slice A3 n3 z3), .int .u16 (x : Int), .int .u32 (Q : Int)] w fun e w' => e = .returned (.bool true) ∧ Below w.heap.size w w' := by
  have HB := Lib.hid (low1 (Below.refl w.heap.size w) (.cells (pkC p (.slice A1 n1 z1) (.slice A2 n2 z2) (.slice A3 n3 z3)) 26))
  have K0 := Lib.hid (Blk.new w 26 (pkC p (.slice A1 n1 z1) (.slice A2 n2 z2) (.slice A3 n3 z3)))
  have HPM := Lib.hid (fun (W : World) (hW : Below w.heap.size w W) => h.up hW)
  have lt := light14_any p A1 A2 A3 n1 z1 n2 z2 n3 z3 _ (HPM.out _ HB.out)
  rw [hl] at lt
  have my := fun (W : World) (hW : Below w.heap.size w W) => rmay_pk p A1 A2 A3 n1 z1 n2 z2 n3 z3 W (HPM.out W hW)
  rw [hm] at my
  have LT := Lib.hid lt; clear lt hl h
  have MY := Lib.hid my; clear my hm
  go_enter Try.func5, Try.ntmps5
  go_wp2_with (first
    | (go_at_call 6; refine (LT.out).mono ?_; rintro e w1 ⟨rfl, hb1⟩; have HB1 := Lib.hid (low_low HB.out hb1); have K1 := Lib.hid (K0.out.below hb1 K0.out.lt); obtain ⟨x0, x1, x2, x3, x4, x5, x6, x7, x8, x9, x10⟩ := blk_cells10 K1.out; clear hb1)
    | (go_at_call 10; refine (MY.out _ HB1.out).mono ?_; rintro e w2 ⟨rfl, hb2⟩; have HB2 := Lib.hid (low_low HB1.out hb2); clear hb2)
    | (go_at_call 7; refine (awake14_any _).mono ?_; rintro e w8 ⟨rfl, hb8⟩; have HB8 := Lib.hid (low_low HB2.out hb8); clear hb8))
  go_ret
  exact ⟨rfl, HB8.out⟩
set_option maxRecDepth 100000 in
set_option maxHeartbeats 32000000 in
theorem turns_yes (p : Pk) (A1 A2 A3 : Option Addr) (n1 z1 n2 z2 n3 z3 : Nat) (x Q : Nat) (w : World) (h : PkM w w.heap.size (.slice A1 n1 z1) (.slice A2 n2 z2) (.slice A3 n3 z3) p) (hl : lightP p = true) (hm : mayP p = true) (hx : x < 65536) (hQ : Q < 4294967296) :
    Calls Try.prog 5 #[pkV p (.slice A1 n1 z1) (.slice A2 n2 z2) (.slice A3 n3 z3), .int .u16 (x : Int), .int .u32 (Q : Int)] w fun e w' => e = .returned (.bool true) ∧ Below w.heap.size w w' := by
  have HB := Lib.hid (low1 (Below.refl w.heap.size w) (.cells (pkC p (.slice A1 n1 z1) (.slice A2 n2 z2) (.slice A3 n3 z3)) 26))
  have K0 := Lib.hid (Blk.new w 26 (pkC p (.slice A1 n1 z1) (.slice A2 n2 z2) (.slice A3 n3 z3)))
  have HPM := Lib.hid (fun (W : World) (hW : Below w.heap.size w W) => h.up hW)
  have lt := light14_any p A1 A2 A3 n1 z1 n2 z2 n3 z3 _ (HPM.out _ HB.out)
  rw [hl] at lt
  have my := fun (W : World) (hW : Below w.heap.size w W) => rmay_pk p A1 A2 A3 n1 z1 n2 z2 n3 z3 W (HPM.out W hW)
  rw [hm] at my
  have pt := fun (W : World) (hW : Below w.heap.size w W) => pput_yes p A1 A2 A3 n1 z1 n2 z2 n3 z3 W (HPM.out W hW) hm
  unfold PPutOut at pt
  have LT := Lib.hid lt; clear lt hl h
  have MY := Lib.hid my; clear my
  have PT := Lib.hid pt; clear pt
  have hlo := bodyP_big p
  have hhi := bodyP_small hm
  have hpl := putP_length p
  have hgt := fun (f m : Nat) (h32 : m ≤ 32) (hf : f + m ≤ 8 * (bodyP p).length) => getC_turned hm f Q m h32 hf
  have hlt := putP_lt p
  obtain ⟨m, hmm⟩ : ∃ m, m = (bodyP p).length := ⟨_, rfl⟩
  rw [← hmm] at hlo hhi hpl hgt
  generalize putP p = sec at *
  obtain ⟨n, hn⟩ : ∃ n, n = sec.length := ⟨_, rfl⟩
  rw [← hn] at hpl
  obtain ⟨M, hM⟩ : ∃ M, M = 8 * m := ⟨_, rfl⟩
  rw [← hM] at hgt
  have en : ((n : Nat) : Int) - 4 = (m : Nat) := by omega
  have eM : (8 : Int) * (m : Nat) = (M : Nat) := by omega
  have n15 : 15 ≤ n := by omega
  have n2000 : n ≤ 2000 := by omega
  have hn0 : ((n : Int) == 0) = false := by rw [beq_eq_false_iff_ne]; omega
  have hM1 : 88 ≤ M := by omega
  have hM2 : M ≤ 16000 := by omega
  have hM0 : ((M : Int) == 0) = false := by rw [beq_eq_false_iff_ne]; omega
  have hM0' : ¬ ((M : Int) = 0) := by omega
  have hMn : M + 32 = 8 * n := by omega
  have HSL := Lib.hid hn; clear hn
  have HGT := Lib.hid hgt; clear hgt
  have HLT := Lib.hid hlt; clear hlt
  clear hmm hM hlo hhi hpl hm
  obtain ⟨f, hf⟩ : ∃ f, f = x % M := ⟨_, rfl⟩
  have htm : ((x : Nat) : Int).tmod (M : Int) = ((f : Nat) : Int) := by rw [hf]; exact (Int.ofNat_tmod x M).symm
  have hmod : ((x : Nat) : Int) % (M : Int) = ((f : Nat) : Int) := by rw [hf]; first | exact (Int.natCast_emod x M).symm | exact (Int.ofNat_emod x M).symm | simp
  have hf1 : f < M := by rw [hf]; exact Nat.mod_lt _ (by omega)
  have HFX := Lib.hid hf; clear hf
  go_enter Try.func5, Try.ntmps5
  go_wp2_with (first
    | (go_at_call 6; refine (LT.out).mono ?_; rintro e w1 ⟨rfl, hb1⟩; have HB1 := Lib.hid (low_low HB.out hb1); have K1 := Lib.hid (K0.out.below hb1 K0.out.lt); obtain ⟨x0, x1, x2, x3, x4, x5, x6, x7, x8, x9, x10⟩ := blk_cells10 K1.out; clear hb1)
    | (go_at_call 10; refine (MY.out _ HB1.out).mono ?_; rintro e w2 ⟨rfl, hb2⟩; have HB2 := Lib.hid (low_low HB1.out hb2); have K2 := Lib.hid (K1.out.below hb2 K1.out.lt); obtain ⟨y0, y1, y2, y3, y4, y5, y6, y7, y8, y9, y10⟩ := blk_cells10 K2.out; clear hb2)
    | (go_at_call 8; refine (PT.out _ HB2.out).mono ?_; rintro e w3 ⟨A4, n4, c4, rfl, hn4, hown, hb3⟩; rw [← HSL.out] at hn4; subst hn4; have OW := Lib.hid (own_mono hown HB2.out.size); have HB3 := Lib.hid (low_low HB2.out hb3); clear hb3 hown))
  obtain ⟨g, rfl⟩ : ∃ g, A4 = some ⟨g, 0, none⟩ := by
    rcases OW.out.2 with ⟨e, _⟩ | ⟨g, cap, cur, e, _⟩
    · injection e with e1 e2 e3
      omega
    · injection e with e1 e2 e3
      exact ⟨g, e1⟩
  clear x0 x1 x2 x3 x4 x5 x6 x7 x8 x9 x10 y0 y1 y2 y3 y4 y5 y6 y7 y8 y9 y10 K0 K1 K2 HB HB1 HB2 LT MY PT HPM
  go_loopw [11, 12, 13] (fun t i kk wr => ∃ k : Nat, k ≤ 32 ∧ f + k ≤ M ∧ i = .int .i64 k ∧ t = .bool (turned Q k) ∧ wr.ownsRow w.heap.size 5 1 (.slice (some ⟨g, 0, none⟩) n4 c4) n4 (vals (flipTo sec f Q k)) ∧ Below w.heap.size w wr) (fun _ i _ _ => 32 - (intOf i).toNat)
  case atStart => exact ⟨0, by omega, by omega, rfl, by simp [turned, Nat.mod_one], OW.out, HB3.out⟩
  case round =>
    clear OW HB3
    obtain ⟨k, hk, hfk, rfl, rfl, hown, hbel⟩ := hrel
    have hl := flipTo_length sec f Q k
    have HOWN := Lib.hid hown; clear hown
    have BEL := Lib.hid hbel; clear hbel
    by_cases hlt : k < 32
    · by_cases hlt2 : f + k < M
      · obtain ⟨j, hj⟩ : ∃ j, j = (f + k) / 8 := ⟨_, rfl⟩
        obtain ⟨r, hr⟩ : ∃ r, r = (f + k) % 8 := ⟨_, rfl⟩
        have hjj : ((f : Int) + (k : Int)) / 8 = (j : Int) := by omega
        have hrr : ((f : Int) + (k : Int)) % 8 = (r : Int) := by omega
        have hjn : j < n4 := by omega
        have hr8 : r < 8 := by omega
        have HJ := Lib.hid hj; clear hj
        have HR := Lib.hid hr; clear hr
        have hc := (HOWN.out.cellAt j (by omega)).trans (vals_get _ j (by have := HSL.out; omega))
        have hfz := HOWN.out.frozenAt j
        clear hl
        obtain ⟨q, hq⟩ : ∃ q, q = (flipTo sec f Q k).getD j 0 := ⟨_, rfl⟩
        rw [← hq] at hc
        have HQQ := Lib.hid hq; clear hq
        generalize hT : turned Q k = t0 at *
        have HT := Lib.hid hT; clear hT
        go_wp2
        · have hbit : (((Q : Int) / 2 ^ k).tmod 2 == 1) = true := by assumption
          go_roundw
          case rel => exact ⟨k + 1, by omega, by omega, by go_num, turned_yes hbit, flip_yes hbit HJ.out HR.out HQQ.out HLT.out HOWN.out, BEL.out.setCell (HOWN.out.lt g rfl).1 _⟩
          case measure => simp [intOf]; omega
        · have hbit : (((Q : Int) / 2 ^ k).tmod 2 == 1) = false := by assumption
          go_roundw
          case rel => exact ⟨k + 1, by omega, by omega, by go_num, by rw [← HT.out]; exact turned_no hbit, by rw [flip_no hbit]; exact HOWN.out, BEL.out⟩
          case measure => simp [intOf]; omega
      · have hgt := HGT.out f k hk hfk
        have gt := pget_any (.slice (some ⟨g, 0, none⟩) n4 c4) (flipTo sec f Q k) wr (sl_own HOWN.out (flipTo_lt HLT.out f Q k) (by omega)) (by have := HSL.out; omega)
        unfold GetOutP at gt
        rw [hgt] at gt
        clear hgt hl
        generalize turned Q k = t0 at *
        cases t0
        all_goals
          simp only [Bool.false_eq_true, if_false, if_true, Option.getD, errP, reduceIte, pkV] at gt
          have GT := Lib.hid gt; clear gt
          go_wp2_with (first
            | (go_at_call 13; refine (GT.out).mono ?_; rintro e w6 ⟨h_, i_, l_, rfl, hp6, hb⟩; obtain ⟨B1, b1, y1, rfl, _⟩ := id hp6.1; obtain ⟨B2, b2, y2, rfl, _⟩ := id hp6.2.1; obtain ⟨B3, b3, y3, rfl, _⟩ := id hp6.2.2; have HB6 := Lib.hid (low_low BEL.out hb); clear hp6 hb)
            | (go_at_call 7; refine (awake14_any _).mono ?_; rintro e w8 ⟨rfl, hb8⟩))
          go_ret
          exact ⟨rfl, low_low (low1 HB6.out _) hb8⟩
    · have hgt := HGT.out f k hk hfk
      have gt := pget_any (.slice (some ⟨g, 0, none⟩) n4 c4) (flipTo sec f Q k) wr (sl_own HOWN.out (flipTo_lt HLT.out f Q k) (by omega)) (by have := HSL.out; omega)
      unfold GetOutP at gt
      rw [hgt] at gt
      clear hgt hl
      generalize turned Q k = t0 at *
      cases t0
      all_goals
        simp only [Bool.false_eq_true, if_false, if_true, Option.getD, errP, reduceIte, pkV] at gt
        have GT := Lib.hid gt; clear gt
        go_wp2_with (first
          | (go_at_call 13; refine (GT.out).mono ?_; rintro e w6 ⟨h_, i_, l_, rfl, hp6, hb⟩; obtain ⟨B1, b1, y1, rfl, _⟩ := id hp6.1; obtain ⟨B2, b2, y2, rfl, _⟩ := id hp6.2.1; obtain ⟨B3, b3, y3, rfl, _⟩ := id hp6.2.2; have HB6 := Lib.hid (low_low BEL.out hb); clear hp6 hb)
          | (go_at_call 7; refine (awake14_any _).mono ?_; rintro e w8 ⟨rfl, hb8⟩))
        go_ret
        exact ⟨rfl, low_low (low1 HB6.out _) hb8⟩
end Go.Proofs.Ytpolpppnajfhdaa.Pkt
namespace Go.Proofs.Ytpolpppnajfhdaa.packetTurns
open Go.Proofs.Ytpolpppnajfhdaa.Mem Go.Proofs.Ytpolpppnajfhdaa.Pkt Go.Proofs.Ytpolpppnajfhdaa.Bas Go.Proofs.Ytpolpppnajfhdaa.Chg
open Go.ChangeShapes Go.WideShapes Go.ChangeAt Go.RowKit
set_option linter.unusedVariables false
theorem own : ownKnob Try.prog.godebug = none := by kernel_rfl
theorem laidOut : laidOutB Try.prog = true := by kernel_rfl
theorem walk (u0a u0b u0c u0d u0e u0f u0g u0h u0i u0j : Value) (a1 a2 : Int) (w : World) (w0a : NumOf .i64 u0a) (w0b : NumOf .i64 u0b) (w0c : NumOf .i64 u0c) (w0d : NumOf .i64 u0d) (w0e : NumOf .i64 u0e) (w0f : NumOf .i64 u0f) (w0g : NumOf .i64 u0g) (w0h : LkR w u0h) (w0i : LkR w u0i) (w0j : LasR w u0j) (w1 : (Lit.int .u16 a1).wf = true) (w2 : (Lit.int .u32 a2).wf = true) :
    Calls Try.prog 5 #[.agg #[u0a, u0b, u0c, u0d, u0e, u0f, u0g, u0h, u0i, u0j], .int .u16 a1, .int .u32 a2] w fun e w' => e = .returned (.bool true) ∧ Below w.heap.size w w' := by
  have b1 := Go.bounds_u16 w1
  have b2 := Go.bounds_u32 w2
  obtain ⟨p, A1, A2, A3, n1, z1, n2, z2, n3, z3, e, h⟩ := pk_in w0a w0b w0c w0d w0e w0f w0g w0h w0i w0j
  rw [e]
  obtain ⟨x, rfl⟩ : ∃ x : Nat, a1 = x := ⟨a1.toNat, by omega⟩
  obtain ⟨Q, rfl⟩ : ∃ Q : Nat, a2 = Q := ⟨a2.toNat, by omega⟩
  cases hl : lightP p
  · exact turns_dark p A1 A2 A3 n1 z1 n2 z2 n3 z3 x Q w h hl
  cases hm : mayP p
  · exact turns_not p A1 A2 A3 n1 z1 n2 z2 n3 z3 x Q w h hl hm
  · exact turns_yes p A1 A2 A3 n1 z1 n2 z2 n3 z3 x Q w h hl hm (by omega) (by omega)
/-! the step from the walk to the row -/
set_option maxRecDepth 100000 in
theorem lifted (os : Os) (started : os.Started) (H : Type) (enc : TypeId × Value → H) :
    ReturnsInHanded {} Try.checked os 5 .any (Rows.packetTurnsSpec.pre6 enc Try.prog Try.f5 Rows.packetTurnsRow.domain false) (Rows.packetTurnsSpec.post enc Try.prog Try.f5 false true false false) := by
  refine returnsInHanded_of_change (C := Try.checked) own started (by kernel_rfl) Try.func5
    (ChangeSpec.witness6 (enc := enc) (C := Try.checked) false ⟨#[], #[.agg #[.int .i64 0, .int .i64 0, .int .i64 0, .int .i64 0, .int .i64 0, .int .i64 0, .int .i64 0, .slice none 0 0, .slice none 0 0, .slice none 0 0], .int .u16 0, .int .u32 0], []⟩ 8 (by kernel_rfl) (by kernel_rfl) (by kernel_rfl) (by kernel_rfl)) ?_
  intro W base args ds gs before hval0 hW hcnd _
  have hval : ∀ (j : Nat) t v, Try.f5.params[j]? = some t → args[j]? = some v → Value.okWide Try.prog W .any base t v := hval0
  have hW' := hW
  obtain ⟨p, q, hA0, hV, rfl, hfz, hnd⟩ := hW
  have hA : DataW.TrodAll enc Try.prog W 0 (fun _ => true) true Try.f5.params.toList args.toList ds p := hA0
  rw [Try.params5] at hA hval
  obtain ⟨v0, vs0, d0, ds0, p0, q0, hargs, rfl, rfl, h0, r0⟩ := trodAll_cons hA
  obtain ⟨v1, vs1, d1, ds1, p1, q1, rfl, rfl, rfl, h1, r1⟩ := trodAll_cons r0
  obtain ⟨v2, vs2, d2, ds2, p2, q2, rfl, rfl, rfl, h2, r2⟩ := trodAll_cons r1
  obtain ⟨rfl, rfl, rfl⟩ := trodAll_nil r2
  obtain rfl : args = #[v0, v1, v2] := by cases args; simp_all
  obtain ⟨rfl, rfl⟩ := trodVars_none hV
  have k0 := h0
  have lt0 : ∀ x ∈ p0, x.block < W.heap.size := by obtain ⟨m, hm⟩ := k0; exact DataW.trod_lt m _ _ _ hm
  obtain ⟨u0a, u0b, u0c, u0d, u0e, u0f, u0g, u0h, u0i, u0j, rfl, w0a, w0b, w0c, w0d, w0e, w0f, w0g, w0h, w0i, w0j⟩ := open_packet_at (hval 0 26 v0 rfl rfl) h0
  obtain ⟨a1, rfl, rfl, rfl, w1⟩ := open_int Try.underlying42 (hval 1 42 v1 rfl rfl) h1
  obtain ⟨a2, rfl, rfl, rfl, w2⟩ := open_int Try.underlying43 (hval 2 43 v2 rfl rfl) h2
  clear hA0 hval0
  refine (walk u0a u0b u0c u0d u0e u0f u0g u0h u0i u0j a1 a2 W w0a w0b w0c w0d w0e w0f w0g w0h w0i w0j w1 w2).mono fun e W' ⟨he, bel⟩ => ?_
  subst he
  exact ⟨_, rfl, _, _, _, [], _, [], hW', trodAll_mk1 (shut_bool Try.underlying4 _), (trodAll_cons_mk (Below.trod laidOut (by kernel_rfl) (of_decide_eq_true (by kernel_rfl)) k0 bel lt0) (trodAll_cons_mk (shut_int Try.underlying42 w1) (trodAll_cons_mk (shut_int Try.underlying43 w2) trodAll_mk0))), rfl, bel.frame _, fun h => by cases h⟩

theorem over : Rows.packetTurnsRow.holds Try.pinned (OpenSpec.ofChange Rows.packetTurnsSpec) :=
  OpenClaim.holds_of_wide 5 Try.f5 rfl rfl rfl rfl rfl rfl rfl ⟨rfl, rfl, rfl, rfl, rfl⟩ rfl rfl rfl rfl rfl (by kernel_rfl) Try.func5 (by kernel_rfl)
    (of_decide_eq_true (by kernel_rfl)) (by unfold Func.isWrapper; first | (rw [if_pos (by decide +kernel)]; kernel_rfl) | (rw [if_neg (by decide +kernel)]; exact ⟨rfl, rfl⟩))
    (fun os started H enc _ => lifted os started H enc)

/-- the statement -/
theorem proved : Rows.PacketTurnsSaid := over
end Go.Proofs.Ytpolpppnajfhdaa.packetTurns
