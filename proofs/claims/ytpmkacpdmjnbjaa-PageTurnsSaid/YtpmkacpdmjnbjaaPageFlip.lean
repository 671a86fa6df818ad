/- A sector some of whose bits ahead of the check are turned (layer 4). Pure; and the store that turns a bit. -/
import Derived.Test.YtpmkacpdmjnbjaaPageGot
import Derived.Test.YtpmkacpdmjnbjaaFlip
import Derived.Laws.OwnMore
namespace Go.Proofs.Ytpmkacpdmjnbjaa.Pg
open Go.RowKit Go.Proofs.Ytpmkacpdmjnbjaa.Mem Go.Proofs.Ytpmkacpdmjnbjaa.Oct
open Go.Proofs.Ytpmkacpdmjnbjaa.Crc (turned flipTo flipTo_length flipTo_lt turned_succ pow_lt256 crc_turned tail4 crc_lt)
set_option linter.unusedVariables false
set_option linter.unusedSimpArgs false
theorem flip_app (xs ys : List Nat) (f P m : Nat) (h : f + m ≤ 8 * xs.length) : flipTo (xs ++ ys) f P m = flipTo xs f P m ++ ys := by
  induction m with
  | zero => rfl
  | succ m ih =>
    have ih := ih (by omega)
    have hl := flipTo_length xs f P m
    have hj : (f + m) / 8 < (flipTo xs f P m).length := by omega
    unfold flipTo
    rw [ih]
    split
    · rw [List.set_append_left _ _ hj]
      congr 2
      simp [List.getD, List.getElem?_append_left hj]
    · rfl
theorem flip_none {xs : List Nat} {f P m : Nat} (h : turned P m = false) : flipTo xs f P m = xs := by
  induction m with
  | zero => rfl
  | succ m ih =>
    rw [turned_succ] at h
    split at h
    · cases h
    · rename_i hb
      unfold flipTo
      rw [if_neg hb]
      exact ih h
theorem tail4_inj {a b : Nat} (ha : a < 4294967296) (hb : b < 4294967296) (h : tail4 a = tail4 b) : a = b := by
  unfold tail4 at h
  injection h with h1 h
  injection h with h2 h
  injection h with h3 h
  injection h with h4 _
  omega
theorem got_turned {p : P} (hm : p.May) (hb : ∀ x ∈ p.b, x < 256) (f Q m : Nat) (h32 : m ≤ 32) (hf : f + m ≤ 4064) : (got (flipTo p.sector f Q m)).isSome = !turned Q m := by
  have hl := body_length hm.l
  cases ht : turned Q m
  · rw [flip_none ht, got_sector hm]
    rfl
  · have hsec : p.sector = p.body ++ tail4 (Crc.crc p.body) := rfl
    have he : flipTo p.sector f Q m = flipTo p.body f Q m ++ tail4 (Crc.crc p.body) := by rw [hsec, flip_app _ _ _ _ _ (by omega)]
    have hn : got (flipTo p.sector f Q m) = none := by
      unfold got
      rw [if_neg]
      rintro ⟨h1, h2⟩
      obtain ⟨q, hq'⟩ : ∃ q, q = readP (flipTo p.sector f Q m) := ⟨_, rfl⟩
      rw [← hq'] at h1 h2
      clear hq'
      have hq := (may_iff q).1 h1
      have hql := body_length hq.l
      have hs2 : q.sector = q.body ++ tail4 (Crc.crc q.body) := rfl
      rw [hs2, he] at h2
      obtain ⟨e1, e2⟩ := List.append_inj h2 (by rw [hql, flipTo_length, hl])
      rw [e1] at e2
      have e3 := tail4_inj (crc_lt _) (crc_lt _) e2
      have e4 := (crc_turned p.body (body_lt hb) f Q m h32 (by omega)).1 e3.symm
      rw [ht] at e4
      cases e4
    rw [hn]
    rfl
theorem vals_set (l : List Nat) (j v : Nat) : (vals l).set j (.int .u8 (v : Int)) = vals (l.set j v) := by simp [vals, List.map_set]
theorem odd_yes (P k : Nat) (h : (((P : Int) / 2 ^ k).tmod 2 == 1) = true) : P / 2 ^ k % 2 = 1 := by
  rw [Crc.tmod_nat] at h
  have := beq_iff_eq.1 h
  omega
theorem odd_no (P k : Nat) (h : (((P : Int) / 2 ^ k).tmod 2 == 1) = false) : ¬ P / 2 ^ k % 2 = 1 := by
  rw [Crc.tmod_nat] at h
  have := beq_eq_false_iff_ne.1 h
  intro hh
  rw [hh] at this
  exact this rfl
theorem flip_yes {w wr : World} {g n cap : Nat} {xs : List Nat} {f P k j r q : Nat} (h : (((P : Int) / 2 ^ k).tmod 2 == 1) = true) (hj : j = (f + k) / 8) (hr : r = (f + k) % 8)
    (hq : q = (flipTo xs f P k).getD j 0) (hx : ∀ x ∈ xs, x < 256)
    (hown : wr.ownsRow w.heap.size 5 1 (.slice (some ⟨g, 0, none⟩) n cap) n (vals (flipTo xs f P k))) :
    (wr.setCell ⟨g, j, none⟩ (.int .u8 (bits .xor .u8 (q : Int) (2 ^ r % 256)))).ownsRow w.heap.size 5 1 (.slice (some ⟨g, 0, none⟩) n cap) n (vals (flipTo xs f P (k + 1))) := by
  have h8 : r < 8 := by omega
  have hq2 : q < 256 := by rw [hq]; exact getD_lt (flipTo_lt hx f P k) j
  have e : bits .xor .u8 (q : Int) (2 ^ r % 256) = ((q ^^^ 2 ^ r : Nat) : Int) := by
    have e3 : (2 : Int) ^ r % 256 = ((2 ^ r : Nat) : Int) := by
      have h3 := pow_lt256 r h8
      have h4 : ((2 : Int) ^ r) = ((2 ^ r : Nat) : Int) := by simp
      rw [h4]
      generalize 2 ^ r = m at h3
      exact Int.emod_eq_of_lt (Int.natCast_nonneg _) (by omega)
    rw [e3]
    exact u8_xor_nat q (2 ^ r) hq2 (pow_lt256 r h8)
  have e2 : flipTo xs f P (k + 1) = (flipTo xs f P k).set j (q ^^^ 2 ^ r) := by
    rw [hq, hj, hr]
    show (if _ then _ else _) = _
    rw [if_pos (odd_yes P k h)]
  rw [e2, e, ← vals_set]
  exact (hown.stored j _).1
theorem flip_no {xs : List Nat} {f P k : Nat} (h : (((P : Int) / 2 ^ k).tmod 2 == 1) = false) : flipTo xs f P (k + 1) = flipTo xs f P k := by
  show (if _ then _ else _) = _
  rw [if_neg (odd_no P k h)]
theorem turned_yes {P k : Nat} (h : (((P : Int) / 2 ^ k).tmod 2 == 1) = true) : Value.bool true = Value.bool (turned P (k + 1)) := by
  rw [turned_succ, if_pos (odd_yes P k h)]
theorem turned_no {P k : Nat} (h : (((P : Int) / 2 ^ k).tmod 2 == 1) = false) : Value.bool (turned P k) = Value.bool (turned P (k + 1)) := by
  rw [turned_succ, if_neg (odd_no P k h)]
end Go.Proofs.Ytpmkacpdmjnbjaa.Pg
