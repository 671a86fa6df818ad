/- A page as a value (layer 4): which there may be, its sector, and what would be the page of any bytes. Pure. -/
import Derived.Test.YtkidjlmjjfgknaaPut
import Derived.Test.YtkidjlmjjfgknaaSeal
namespace Go.Proofs.Ytkidjlmjjfgknaa.Pg
open Go.RowKit Go.Proofs.Ytkidjlmjjfgknaa.Mem Go.Proofs.Ytkidjlmjjfgknaa.Oct
set_option linter.unusedVariables false
set_option linter.unusedSimpArgs false
structure P where
  kind : Int
  gen : Int
  mark : Int
  index : Int
  part : Int
  parts : Int
  b : List Nat
  deriving DecidableEq
def win (n lo hi : Int) : Bool := decide (lo ≤ n) && decide (n ≤ hi)
theorem win_yes {n lo hi : Int} (h : win n lo hi = true) : lo ≤ n ∧ n ≤ hi := by simpa [win] using h
theorem win_of {n lo hi : Int} (h1 : lo ≤ n) (h2 : n ≤ hi) : win n lo hi = true := by simp [win, h1, h2]
def P.may (p : P) : Bool := win p.kind 1 9 && win p.gen 0 2147483648 && win p.mark 0 2147483648 && win p.index 0 2147483648 && win p.parts 1 16 && win p.part 0 (p.parts - 1) && decide (p.b.length ≤ 488)
structure P.May (p : P) : Prop where
  k : win p.kind 1 9 = true
  g : win p.gen 0 2147483648 = true
  m : win p.mark 0 2147483648 = true
  i : win p.index 0 2147483648 = true
  ps : win p.parts 1 16 = true
  pt : win p.part 0 (p.parts - 1) = true
  l : p.b.length ≤ 488
theorem may_iff (p : P) : p.may = true ↔ p.May := by
  constructor
  · intro h
    simp only [P.may, Bool.and_eq_true, decide_eq_true_eq] at h
    obtain ⟨⟨⟨⟨⟨⟨h1, h2⟩, h3⟩, h4⟩, h5⟩, h6⟩, h7⟩ := h
    exact ⟨h1, h2, h3, h4, h5, h6, h7⟩
  · rintro ⟨h1, h2, h3, h4, h5, h6, h7⟩
    simp [P.may, h1, h2, h3, h4, h5, h6, h7]
def P.head (p : P) : List Nat := ((((([87, 65, 89] ++ be 1 p.kind.toNat) ++ be 4 p.gen.toNat) ++ be 4 p.mark.toNat) ++ be 4 p.index.toNat) ++ be 1 p.part.toNat) ++ be 1 p.parts.toNat
def P.text (p : P) : List Nat := p.head ++ (be 2 p.b.length ++ p.b)
def P.body (p : P) : List Nat := p.text ++ List.replicate (508 - p.text.length) 0
def P.sector (p : P) : List Nat := Crc.sealed p.body
theorem head_length (p : P) : p.head.length = 18 := by simp [P.head, be_length]
theorem text_length (p : P) : p.text.length = 20 + p.b.length := by simp [P.text, head_length, be_length]; omega
theorem body_length {p : P} (h : p.b.length ≤ 488) : p.body.length = 508 := by simp [P.body, text_length]; omega
theorem sector_length {p : P} (h : p.b.length ≤ 488) : p.sector.length = 512 := by simp [P.sector, Crc.sealed, Crc.tail4, body_length h]
theorem app_lt {xs ys : List Nat} (h1 : ∀ x ∈ xs, x < 256) (h2 : ∀ x ∈ ys, x < 256) : ∀ x ∈ xs ++ ys, x < 256 := by
  intro x hx
  rcases List.mem_append.1 hx with hx | hx
  · exact h1 x hx
  · exact h2 x hx
theorem way_lt : ∀ x ∈ [87, 65, 89], x < 256 := by decide
theorem head_lt (p : P) : ∀ x ∈ p.head, x < 256 := app_lt (app_lt (app_lt (app_lt (app_lt (app_lt way_lt (be_lt _ _)) (be_lt _ _)) (be_lt _ _)) (be_lt _ _)) (be_lt _ _)) (be_lt _ _)
theorem text_lt {p : P} (h : ∀ x ∈ p.b, x < 256) : ∀ x ∈ p.text, x < 256 := app_lt (head_lt p) (app_lt (be_lt _ _) h)
theorem zeros_lt (n : Nat) : ∀ x ∈ List.replicate n 0, x < 256 := fun x hx => by rw [List.eq_of_mem_replicate hx]; decide
theorem body_lt {p : P} (h : ∀ x ∈ p.b, x < 256) : ∀ x ∈ p.body, x < 256 := app_lt (text_lt h) (zeros_lt _)
theorem sector_lt {p : P} (h : ∀ x ∈ p.b, x < 256) : ∀ x ∈ p.sector, x < 256 := Crc.sealed_lt (body_lt h)
/-- the page that a sector's bytes would be: by place -/
def decode (b : List Nat) : P :=
  ⟨num ((b.drop 3).take 1), num ((b.drop 4).take 4), num ((b.drop 8).take 4), num ((b.drop 12).take 4), num ((b.drop 16).take 1), num ((b.drop 17).take 1), (b.drop 20).take (num ((b.drop 18).take 2))⟩
def count (b : List Nat) : Nat := num ((b.drop 18).take 2)
/-- the page that the reader makes of any bytes -/
def readP (b : List Nat) : P :=
  let s1 := (rnum (b, true) 3).1
  let s2 := rnum s1 1
  let s3 := rnum s2.1 4
  let s4 := rnum s3.1 4
  let s5 := rnum s4.1 4
  let s6 := rnum s5.1 1
  let s7 := rnum s6.1 1
  let s8 := rtext s7.1
  ⟨s2.2, s3.2, s4.2, s5.2, s6.2, s7.2, s8.2⟩
theorem rnum_ok {xs : List Nat} {k : Int} (h : isW k = true) (hl : k.toNat ≤ xs.length) : rnum (xs, true) k = ((xs.drop k.toNat, true), num (xs.take k.toNat)) := by
  unfold rnum
  rw [if_pos (by simp [h, hl])]
theorem readP_of {b : List Nat} (h : b.length = 512) (hc : count b ≤ 492) : readP b = decode b := by
  unfold readP
  simp only
  rw [rnum_ok (k := 3) rfl (by simp; omega)]
  simp only
  rw [rnum_ok (k := 1) rfl (by simp; omega)]
  simp only
  rw [rnum_ok (k := 4) rfl (by simp; omega)]
  simp only
  rw [rnum_ok (k := 4) rfl (by simp; omega)]
  simp only
  rw [rnum_ok (k := 4) rfl (by simp; omega)]
  simp only
  rw [rnum_ok (k := 1) rfl (by simp; omega)]
  simp only
  rw [rnum_ok (k := 1) rfl (by simp; omega)]
  simp only
  unfold rtext
  rw [rnum_ok (k := 2) rfl (by simp; omega)]
  simp only [List.drop_drop]
  have hc' : num ((b.drop 18).take 2) ≤ 492 := hc
  rw [if_pos (by refine ⟨trivial, ?_⟩; rw [List.length_drop, h]; exact Nat.le_trans hc' (by decide))]
  rfl
theorem sector_app (p : P) : p.sector = p.head ++ (be 2 p.b.length ++ (p.b ++ (List.replicate (508 - p.text.length) 0 ++ Crc.tail4 (Crc.crc p.body)))) := by
  unfold P.sector Crc.sealed
  rw [show p.body = p.head ++ (be 2 p.b.length ++ p.b) ++ List.replicate (508 - p.text.length) 0 from rfl]
  simp only [List.append_assoc]
theorem num_one {n : Nat} (h : n < 256) : num (be 1 n) = n := by rw [num_be]; omega
theorem num_two {n : Nat} (h : n < 65536) : num (be 2 n) = n := by rw [num_be]; omega
theorem num_four {n : Nat} (h : n < 4294967296) : num (be 4 n) = n := by rw [num_be]; omega
theorem cut_mid {xs ys zs : List Nat} {i n : Nat} (h1 : xs.length = i) (h2 : ys.length = n) : ((xs ++ (ys ++ zs)).drop i).take n = ys := by
  subst h1 h2
  simp
theorem sector_parts (p : P) : ∃ r, p.sector = [87, 65, 89] ++ (be 1 p.kind.toNat ++ (be 4 p.gen.toNat ++ (be 4 p.mark.toNat ++ (be 4 p.index.toNat ++ (be 1 p.part.toNat ++ (be 1 p.parts.toNat ++ (be 2 p.b.length ++ (p.b ++ r)))))))) :=
  ⟨List.replicate (508 - p.text.length) 0 ++ Crc.tail4 (Crc.crc p.body), by rw [sector_app]; simp only [P.head, List.append_assoc]⟩
theorem count_sector {p : P} (h : p.b.length ≤ 488) : count p.sector = p.b.length := by
  unfold count
  rw [sector_app, cut_mid (head_length p) (be_length _ _), num_two (by omega)]
theorem decode_sector {p : P} (h : p.May) : decode p.sector = p := by
  obtain ⟨h1, h2, h3, h4, h5, h6, h7⟩ := h
  have k1 := win_yes h1
  have k2 := win_yes h2
  have k3 := win_yes h3
  have k4 := win_yes h4
  have k5 := win_yes h5
  have k6 := win_yes h6
  obtain ⟨r, hr⟩ := sector_parts p
  have hc := count_sector h7
  unfold count at hc
  unfold decode
  rw [hc]
  have e1 : num ((p.sector.drop 3).take 1) = p.kind.toNat := by
    rw [hr, cut_mid (show [87, 65, 89].length = 3 from rfl) (be_length _ _), num_one (by omega)]
  have e2 : num ((p.sector.drop 4).take 4) = p.gen.toNat := by
    rw [hr, ← List.append_assoc, cut_mid (by simp [be_length]) (be_length _ _), num_four (by omega)]
  have e3 : num ((p.sector.drop 8).take 4) = p.mark.toNat := by
    rw [hr, ← List.append_assoc, ← List.append_assoc, cut_mid (by simp [be_length]) (be_length _ _), num_four (by omega)]
  have e4 : num ((p.sector.drop 12).take 4) = p.index.toNat := by
    rw [hr, ← List.append_assoc, ← List.append_assoc, ← List.append_assoc, cut_mid (by simp [be_length]) (be_length _ _), num_four (by omega)]
  have e5 : num ((p.sector.drop 16).take 1) = p.part.toNat := by
    rw [hr, ← List.append_assoc, ← List.append_assoc, ← List.append_assoc, ← List.append_assoc, cut_mid (by simp [be_length]) (be_length _ _), num_one (by omega)]
  have e6 : num ((p.sector.drop 17).take 1) = p.parts.toNat := by
    rw [hr, ← List.append_assoc, ← List.append_assoc, ← List.append_assoc, ← List.append_assoc, ← List.append_assoc, cut_mid (by simp [be_length]) (be_length _ _), num_one (by omega)]
  have e7 : (p.sector.drop 20).take p.b.length = p.b := by
    rw [hr, ← List.append_assoc, ← List.append_assoc, ← List.append_assoc, ← List.append_assoc, ← List.append_assoc, ← List.append_assoc, ← List.append_assoc, cut_mid (by simp [be_length]) rfl]
  rw [e1, e2, e3, e4, e5, e6, e7]
  obtain ⟨kind, gen, mark, index, part, parts, b⟩ := p
  simp only at k1 k2 k3 k4 k5 k6 ⊢
  congr 1 <;> omega
/-- whose sector it is, by the reader and by place: the same -/
def isOf (b : List Nat) (p : P) : Prop := p.May ∧ p.sector = b
theorem of_decode {b : List Nat} {p : P} (h : isOf b p) : b.length = 512 ∧ count b ≤ 488 ∧ readP b = p ∧ decode b = p := by
  obtain ⟨h1, rfl⟩ := h
  have hc := count_sector h1.l
  exact ⟨sector_length h1.l, by rw [hc]; exact h1.l, by rw [readP_of (sector_length h1.l) (by rw [hc]; have := h1.l; omega), decode_sector h1], decode_sector h1⟩
/-- the answer of Get -/
def got (b : List Nat) : Option P := if (readP b).may = true ∧ (readP b).sector = b then some (readP b) else none
theorem got_place {b : List Nat} (h : b.length = 512) (hc : count b ≤ 488) : got b = if (decode b).may = true ∧ (decode b).sector = b then some (decode b) else none := by
  unfold got
  rw [readP_of h (by omega)]
theorem got_not {b : List Nat} (h : ¬ (b.length = 512 ∧ count b ≤ 488)) : got b = none := by
  unfold got
  rw [if_neg]
  rintro ⟨h1, h2⟩
  obtain ⟨g1, g2, _⟩ := of_decode (p := readP b) ⟨(may_iff _).1 h1, h2⟩
  exact h ⟨g1, g2⟩
theorem got_sector {p : P} (h : p.May) : got p.sector = some p := by
  obtain ⟨_, _, e, _⟩ := of_decode (b := p.sector) (p := p) ⟨h, rfl⟩
  unfold got
  rw [e, if_pos ⟨(may_iff p).2 h, rfl⟩]
end Go.Proofs.Ytkidjlmjjfgknaa.Pg
