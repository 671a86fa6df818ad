/- PageAll: the texts Pg, Page, PagePut, PageGet, PageGot, PageRef, PageRGet, PageRGo, PageBlank in one. (Printed by tools/mergeall.py.) -/
import Derived.Test.YtnenbocjfekmfaaGreatLowAll
import Derived.BigQuiet
import Derived.Deep.CutRange
import Derived.Deep.OwnRows
import Derived.Deep.QuietTactic
import Derived.Deep.RegionHeld3
import Derived.Lib.SlBytesConst
/- A page as a value (layer 4): which there may be, its sector, and what would be the page of any bytes. Pure. -/
namespace Go.Proofs.YtnenbocjfekmfaaGreat.Pg
open Go.RowKit Go.Proofs.YtnenbocjfekmfaaGreat.Mem Go.Proofs.YtnenbocjfekmfaaGreat.Oct
set_option linter.unusedVariables false
set_option linter.unusedSimpArgs false
structure P where
  kind : Int
  gen : Int
  mark : Int
  index : Int
  part : Int
  parts : Int
  b : List Nat
  deriving DecidableEq
def win (n lo hi : Int) : Bool := decide (lo ≤ n) && decide (n ≤ hi)
theorem win_yes {n lo hi : Int} (h : win n lo hi = true) : lo ≤ n ∧ n ≤ hi := by simpa [win] using h
theorem win_of {n lo hi : Int} (h1 : lo ≤ n) (h2 : n ≤ hi) : win n lo hi = true := by simp [win, h1, h2]
def P.may (p : P) : Bool := win p.kind 1 9 && win p.gen 0 2147483648 && win p.mark 0 2147483648 && win p.index 0 2147483648 && win p.parts 1 16 && win p.part 0 (p.parts - 1) && decide (p.b.length ≤ 488)
structure P.May (p : P) : Prop where
  k : win p.kind 1 9 = true
  g : win p.gen 0 2147483648 = true
  m : win p.mark 0 2147483648 = true
  i : win p.index 0 2147483648 = true
  ps : win p.parts 1 16 = true
  pt : win p.part 0 (p.parts - 1) = true
  l : p.b.length ≤ 488
theorem may_iff (p : P) : p.may = true ↔ p.May := by
  constructor
  · intro h
    simp only [P.may, Bool.and_eq_true, decide_eq_true_eq] at h
    obtain ⟨⟨⟨⟨⟨⟨h1, h2⟩, h3⟩, h4⟩, h5⟩, h6⟩, h7⟩ := h
    exact ⟨h1, h2, h3, h4, h5, h6, h7⟩
  · rintro ⟨h1, h2, h3, h4, h5, h6, h7⟩
    simp [P.may, h1, h2, h3, h4, h5, h6, h7]
def P.head (p : P) : List Nat := ((((([87, 65, 89] ++ be 1 p.kind.toNat) ++ be 4 p.gen.toNat) ++ be 4 p.mark.toNat) ++ be 4 p.index.toNat) ++ be 1 p.part.toNat) ++ be 1 p.parts.toNat
def P.text (p : P) : List Nat := p.head ++ (be 2 p.b.length ++ p.b)
def P.body (p : P) : List Nat := p.text ++ List.replicate (508 - p.text.length) 0
def P.sector (p : P) : List Nat := Crc.sealed p.body
theorem head_length (p : P) : p.head.length = 18 := by simp [P.head, be_length]
theorem text_length (p : P) : p.text.length = 20 + p.b.length := by simp [P.text, head_length, be_length]; omega
theorem body_length {p : P} (h : p.b.length ≤ 488) : p.body.length = 508 := by simp [P.body, text_length]; omega
theorem sector_length {p : P} (h : p.b.length ≤ 488) : p.sector.length = 512 := by simp [P.sector, Crc.sealed, Crc.tail4, body_length h]
theorem app_lt {xs ys : List Nat} (h1 : ∀ x ∈ xs, x < 256) (h2 : ∀ x ∈ ys, x < 256) : ∀ x ∈ xs ++ ys, x < 256 := by
  intro x hx
  rcases List.mem_append.1 hx with hx | hx
  · exact h1 x hx
  · exact h2 x hx
theorem way_lt : ∀ x ∈ [87, 65, 89], x < 256 := by decide
theorem head_lt (p : P) : ∀ x ∈ p.head, x < 256 := app_lt (app_lt (app_lt (app_lt (app_lt (app_lt way_lt (be_lt _ _)) (be_lt _ _)) (be_lt _ _)) (be_lt _ _)) (be_lt _ _)) (be_lt _ _)
theorem text_lt {p : P} (h : ∀ x ∈ p.b, x < 256) : ∀ x ∈ p.text, x < 256 := app_lt (head_lt p) (app_lt (be_lt _ _) h)
theorem zeros_lt (n : Nat) : ∀ x ∈ List.replicate n 0, x < 256 := fun x hx => by rw [List.eq_of_mem_replicate hx]; decide
theorem body_lt {p : P} (h : ∀ x ∈ p.b, x < 256) : ∀ x ∈ p.body, x < 256 := app_lt (text_lt h) (zeros_lt _)
/-- the page that a sector's bytes would be: by place -/
def decode (b : List Nat) : P :=
  ⟨num ((b.drop 3).take 1), num ((b.drop 4).take 4), num ((b.drop 8).take 4), num ((b.drop 12).take 4), num ((b.drop 16).take 1), num ((b.drop 17).take 1), (b.drop 20).take (num ((b.drop 18).take 2))⟩
def count (b : List Nat) : Nat := num ((b.drop 18).take 2)
/-- the page that the reader makes of any bytes -/
def readP (b : List Nat) : P :=
  let s1 := (rnum (b, true) 3).1
  let s2 := rnum s1 1
  let s3 := rnum s2.1 4
  let s4 := rnum s3.1 4
  let s5 := rnum s4.1 4
  let s6 := rnum s5.1 1
  let s7 := rnum s6.1 1
  let s8 := rtext s7.1
  ⟨s2.2, s3.2, s4.2, s5.2, s6.2, s7.2, s8.2⟩
theorem rnum_ok {xs : List Nat} {k : Int} (h : isW k = true) (hl : k.toNat ≤ xs.length) : rnum (xs, true) k = ((xs.drop k.toNat, true), num (xs.take k.toNat)) := by
  unfold rnum
  rw [if_pos (by simp [h, hl])]
theorem readP_of {b : List Nat} (h : b.length = 512) (hc : count b ≤ 492) : readP b = decode b := by
  unfold readP
  simp only
  rw [rnum_ok (k := 3) rfl (by simp; omega)]
  simp only
  rw [rnum_ok (k := 1) rfl (by simp; omega)]
  simp only
  rw [rnum_ok (k := 4) rfl (by simp; omega)]
  simp only
  rw [rnum_ok (k := 4) rfl (by simp; omega)]
  simp only
  rw [rnum_ok (k := 4) rfl (by simp; omega)]
  simp only
  rw [rnum_ok (k := 1) rfl (by simp; omega)]
  simp only
  rw [rnum_ok (k := 1) rfl (by simp; omega)]
  simp only
  unfold rtext
  rw [rnum_ok (k := 2) rfl (by simp; omega)]
  simp only [List.drop_drop]
  have hc' : num ((b.drop 18).take 2) ≤ 492 := hc
  rw [if_pos (by refine ⟨trivial, ?_⟩; rw [List.length_drop, h]; exact Nat.le_trans hc' (by decide))]
  rfl
theorem sector_app (p : P) : p.sector = p.head ++ (be 2 p.b.length ++ (p.b ++ (List.replicate (508 - p.text.length) 0 ++ Crc.tail4 (Crc.crc p.body)))) := by
  unfold P.sector Crc.sealed
  rw [show p.body = p.head ++ (be 2 p.b.length ++ p.b) ++ List.replicate (508 - p.text.length) 0 from rfl]
  simp only [List.append_assoc]
theorem num_one {n : Nat} (h : n < 256) : num (be 1 n) = n := by rw [num_be]; omega
theorem num_two {n : Nat} (h : n < 65536) : num (be 2 n) = n := by rw [num_be]; omega
theorem num_four {n : Nat} (h : n < 4294967296) : num (be 4 n) = n := by rw [num_be]; omega
theorem cut_mid {xs ys zs : List Nat} {i n : Nat} (h1 : xs.length = i) (h2 : ys.length = n) : ((xs ++ (ys ++ zs)).drop i).take n = ys := by
  subst h1 h2
  simp
theorem sector_parts (p : P) : ∃ r, p.sector = [87, 65, 89] ++ (be 1 p.kind.toNat ++ (be 4 p.gen.toNat ++ (be 4 p.mark.toNat ++ (be 4 p.index.toNat ++ (be 1 p.part.toNat ++ (be 1 p.parts.toNat ++ (be 2 p.b.length ++ (p.b ++ r)))))))) :=
  ⟨List.replicate (508 - p.text.length) 0 ++ Crc.tail4 (Crc.crc p.body), by rw [sector_app]; simp only [P.head, List.append_assoc]⟩
theorem count_sector {p : P} (h : p.b.length ≤ 488) : count p.sector = p.b.length := by
  unfold count
  rw [sector_app, cut_mid (head_length p) (be_length _ _), num_two (by omega)]
theorem decode_sector {p : P} (h : p.May) : decode p.sector = p := by
  obtain ⟨h1, h2, h3, h4, h5, h6, h7⟩ := h
  have k1 := win_yes h1
  have k2 := win_yes h2
  have k3 := win_yes h3
  have k4 := win_yes h4
  have k5 := win_yes h5
  have k6 := win_yes h6
  obtain ⟨r, hr⟩ := sector_parts p
  have hc := count_sector h7
  unfold count at hc
  unfold decode
  rw [hc]
  have e1 : num ((p.sector.drop 3).take 1) = p.kind.toNat := by
    rw [hr, cut_mid (show [87, 65, 89].length = 3 from rfl) (be_length _ _), num_one (by omega)]
  have e2 : num ((p.sector.drop 4).take 4) = p.gen.toNat := by
    rw [hr, ← List.append_assoc, cut_mid (by simp [be_length]) (be_length _ _), num_four (by omega)]
  have e3 : num ((p.sector.drop 8).take 4) = p.mark.toNat := by
    rw [hr, ← List.append_assoc, ← List.append_assoc, cut_mid (by simp [be_length]) (be_length _ _), num_four (by omega)]
  have e4 : num ((p.sector.drop 12).take 4) = p.index.toNat := by
    rw [hr, ← List.append_assoc, ← List.append_assoc, ← List.append_assoc, cut_mid (by simp [be_length]) (be_length _ _), num_four (by omega)]
  have e5 : num ((p.sector.drop 16).take 1) = p.part.toNat := by
    rw [hr, ← List.append_assoc, ← List.append_assoc, ← List.append_assoc, ← List.append_assoc, cut_mid (by simp [be_length]) (be_length _ _), num_one (by omega)]
  have e6 : num ((p.sector.drop 17).take 1) = p.parts.toNat := by
    rw [hr, ← List.append_assoc, ← List.append_assoc, ← List.append_assoc, ← List.append_assoc, ← List.append_assoc, cut_mid (by simp [be_length]) (be_length _ _), num_one (by omega)]
  have e7 : (p.sector.drop 20).take p.b.length = p.b := by
    rw [hr, ← List.append_assoc, ← List.append_assoc, ← List.append_assoc, ← List.append_assoc, ← List.append_assoc, ← List.append_assoc, ← List.append_assoc, cut_mid (by simp [be_length]) rfl]
  rw [e1, e2, e3, e4, e5, e6, e7]
  obtain ⟨kind, gen, mark, index, part, parts, b⟩ := p
  simp only at k1 k2 k3 k4 k5 k6 ⊢
  congr 1 <;> omega
/-- whose sector it is, by the reader and by place: the same -/
def isOf (b : List Nat) (p : P) : Prop := p.May ∧ p.sector = b
theorem of_decode {b : List Nat} {p : P} (h : isOf b p) : b.length = 512 ∧ count b ≤ 488 ∧ readP b = p ∧ decode b = p := by
  obtain ⟨h1, rfl⟩ := h
  have hc := count_sector h1.l
  exact ⟨sector_length h1.l, by rw [hc]; exact h1.l, by rw [readP_of (sector_length h1.l) (by rw [hc]; have := h1.l; omega), decode_sector h1], decode_sector h1⟩
/-- the answer of Get -/
def got (b : List Nat) : Option P := if (readP b).may = true ∧ (readP b).sector = b then some (readP b) else none
theorem got_place {b : List Nat} (h : b.length = 512) (hc : count b ≤ 488) : got b = if (decode b).may = true ∧ (decode b).sector = b then some (decode b) else none := by
  unfold got
  rw [readP_of h (by omega)]
theorem got_not {b : List Nat} (h : ¬ (b.length = 512 ∧ count b ≤ 488)) : got b = none := by
  unfold got
  rw [if_neg]
  rintro ⟨h1, h2⟩
  obtain ⟨g1, g2, _⟩ := of_decode (p := readP b) ⟨(may_iff _).1 h1, h2⟩
  exact h ⟨g1, g2⟩
theorem got_sector {p : P} (h : p.May) : got p.sector = some p := by
  obtain ⟨_, _, e, _⟩ := of_decode (b := p.sector) (p := p) ⟨h, rfl⟩
  unfold got
  rw [e, if_pos ⟨(may_iff p).2 h, rfl⟩]
end Go.Proofs.YtnenbocjfekmfaaGreat.Pg
/- Which pages there may be, and which are alike (layer 4): the contracts of mayBe and Same, and of the reference's. -/
namespace Go.Proofs.YtnenbocjfekmfaaGreat.Pg
open Go.RowKit Go.Proofs.YtnenbocjfekmfaaGreat.Mem Go.Proofs.YtnenbocjfekmfaaGreat.Oct
set_option linter.unusedVariables false
set_option linter.unusedSimpArgs false
def pgV (p : P) (v : Value) : Value := .agg #[.int .i64 p.kind, .int .i64 p.gen, .int .i64 p.mark, .int .i64 p.index, .int .i64 p.part, .int .i64 p.parts, v]
abbrev pgC (p : P) (v : Value) : Array Value := #[.int .i64 p.kind, .int .i64 p.gen, .int .i64 p.mark, .int .i64 p.index, .int .i64 p.part, .int .i64 p.parts, v]
def In64 (n : Int) : Prop := -9223372036854775808 ≤ n ∧ n ≤ 9223372036854775807
/-- a slice of bytes, whatever its capacity says -/
def Sb (w : World) (B : Nat) (v : Value) (xs : List Nat) : Prop := ∃ (A : Option Addr) (n c : Nat), v = .slice A n c ∧ Bts w B A n xs
theorem sb_of {w : World} {B : Nat} {v : Value} {xs : List Nat} (h : Sl w B v xs) : Sb w B v xs := by
  obtain ⟨A, n, c, e, hb, _⟩ := h
  exact ⟨A, n, c, e, hb⟩
theorem sb_bts {w : World} {B n c : Nat} {A : Option Addr} {xs : List Nat} (h : Sb w B (.slice A n c) xs) : Bts w B A n xs := by
  obtain ⟨A', n', c', e, hb⟩ := h
  injection e with e1 e2 e3
  subst e1 e2 e3
  exact hb
theorem Sb.below {w w' : World} {B B' : Nat} {v : Value} {xs : List Nat} (h : Sb w B v xs) (hb : Below B' w w') (hB : B ≤ B') : Sb w' B v xs := by
  obtain ⟨A, n, c, e, h⟩ := h
  exact ⟨A, n, c, e, h.below hb hB⟩
theorem Sb.more {w : World} {B B' : Nat} {v : Value} {xs : List Nat} (h : Sb w B v xs) (hB : B ≤ B') : Sb w B' v xs := by
  obtain ⟨A, n, c, e, h⟩ := h
  exact ⟨A, n, c, e, h.more hB⟩
theorem Sb.alloc {w : World} {B : Nat} {v : Value} {xs : List Nat} (h : Sb w B v xs) (hB : B ≤ w.heap.size) (o : Obj) : Sb (w.alloc o) B v xs := by
  obtain ⟨A, n, c, e, h⟩ := h
  exact ⟨A, n, c, e, h.alloc hB o⟩
theorem Sb.lt {w : World} {B : Nat} {v : Value} {xs : List Nat} (h : Sb w B v xs) : ∀ x ∈ xs, x < 256 := by
  obtain ⟨A, n, c, e, h⟩ := h
  exact h.2.1
/-- a page as a value: its bytes lie below B -/
def PgAt (w : World) (B : Nat) (v : Value) (p : P) : Prop := ∃ vb, v = pgV p vb ∧ Sb w B vb p.b
theorem PgAt.below {w w' : World} {B B' : Nat} {v : Value} {p : P} (h : PgAt w B v p) (hb : Below B' w w') (hB : B ≤ B') : PgAt w' B v p := by
  obtain ⟨vb, e, hs⟩ := h
  exact ⟨vb, e, hs.below hb hB⟩
theorem PgAt.more {w : World} {B B' : Nat} {v : Value} {p : P} (h : PgAt w B v p) (hB : B ≤ B') : PgAt w B' v p := by
  obtain ⟨vb, e, hs⟩ := h
  exact ⟨vb, e, hs.more hB⟩
set_option maxHeartbeats 400000 in
theorem within_any (n lo hi : Int) (w : World) :
    Calls Tryz.prog 110 #[.int .i64 n, .int .i64 lo, .int .i64 hi] w fun e w' => e = .returned (.bool (win n lo hi)) ∧ w = w' := by
  unfold win
  cases h1 : decide (lo ≤ n)
  · go_enter Tryz.func110, Tryz.ntmps110
    go_wp2
    go_ret
    exact ⟨rfl, rfl⟩
  · go_enter Tryz.func110, Tryz.ntmps110
    go_wp2
    go_ret
    exact ⟨ret_bool (by simp), rfl⟩
set_option maxHeartbeats 400000 in
theorem in_any (n hi : Int) (w : World) :
    Calls Tryz.prog 124 #[.int .i64 n, .int .i64 hi] w fun e w' => e = .returned (.bool (win n 0 hi)) ∧ w = w' := by
  unfold win
  cases h1 : decide (0 ≤ n)
  · go_enter Tryz.func124, Tryz.ntmps124
    go_wp2
    go_ret
    exact ⟨rfl, rfl⟩
  · go_enter Tryz.func124, Tryz.ntmps124
    go_wp2
    go_ret
    exact ⟨ret_bool (by simp), rfl⟩
set_option maxHeartbeats 4000000 in
theorem mayBe_any (p : P) (v : Value) (w : World) (hv : Sb w w.heap.size v p.b) :
    Calls Tryz.prog 81 #[pgV p v] w fun e w' => e = .returned (.bool p.may) ∧ Below w.heap.size w w' := by
  obtain ⟨kind, gen, mark, index, part, parts, b⟩ := p
  obtain ⟨A, n, c, rfl, hbt⟩ := hv
  have hl := hbt.1
  simp only at hl ⊢
  unfold pgV P.may
  simp only
  rw [hl]
  clear hbt
  cases h1 : win kind 1 9
  · go_enter Tryz.func81, Tryz.ntmps81
    go_wp2_with (go_at_call 110; refine (within_any _ _ _ _).mono ?_; rintro e w' ⟨rfl, rfl⟩)
    go_ret
    exact ⟨ret_bool (by simp [h1, *]), (Below.refl w.heap.size w).alloc (Nat.le_refl _) _⟩
  · skip
    cases h2 : win gen 0 2147483648
    · go_enter Tryz.func81, Tryz.ntmps81
      go_wp2_with (go_at_call 110; refine (within_any _ _ _ _).mono ?_; rintro e w' ⟨rfl, rfl⟩)
      go_ret
      exact ⟨ret_bool (by simp [h1, *]), (Below.refl w.heap.size w).alloc (Nat.le_refl _) _⟩
    · skip
      cases h3 : win mark 0 2147483648
      · go_enter Tryz.func81, Tryz.ntmps81
        go_wp2_with (go_at_call 110; refine (within_any _ _ _ _).mono ?_; rintro e w' ⟨rfl, rfl⟩)
        go_ret
        exact ⟨ret_bool (by simp [h1, *]), (Below.refl w.heap.size w).alloc (Nat.le_refl _) _⟩
      · skip
        cases h4 : win index 0 2147483648
        · go_enter Tryz.func81, Tryz.ntmps81
          go_wp2_with (go_at_call 110; refine (within_any _ _ _ _).mono ?_; rintro e w' ⟨rfl, rfl⟩)
          go_ret
          exact ⟨ret_bool (by simp [h1, *]), (Below.refl w.heap.size w).alloc (Nat.le_refl _) _⟩
        · skip
          cases h5 : win parts 1 16
          · go_enter Tryz.func81, Tryz.ntmps81
            go_wp2_with (go_at_call 110; refine (within_any _ _ _ _).mono ?_; rintro e w' ⟨rfl, rfl⟩)
            go_ret
            exact ⟨ret_bool (by simp [h1, *]), (Below.refl w.heap.size w).alloc (Nat.le_refl _) _⟩
          · skip
            have hp := win_yes h5
            cases h6 : win part 0 (parts - 1)
            · go_enter Tryz.func81, Tryz.ntmps81
              go_wp2_with (go_at_call 110; refine (within_any _ _ _ _).mono ?_; rintro e w' ⟨rfl, rfl⟩)
              go_ret
              exact ⟨ret_bool (by simp [h1, *]), (Below.refl w.heap.size w).alloc (Nat.le_refl _) _⟩
            · skip
              · go_enter Tryz.func81, Tryz.ntmps81
                go_wp2_with (go_at_call 110; refine (within_any _ _ _ _).mono ?_; rintro e w' ⟨rfl, rfl⟩)
                go_ret
                exact ⟨ret_bool (by rw [show decide ((n : Int) ≤ 488) = decide (n ≤ 488) from decide_eq_decide.2 (by omega)]; simp [*]), (Below.refl w.heap.size w).alloc (Nat.le_refl _) _⟩
theorem may_eq (kind gen mark index part parts : Int) (n : Nat) : (win kind 1 9 && win gen 0 2147483648 && win mark 0 2147483648 && win index 0 2147483648 && win parts 1 16 && win part 0 (parts - 1) && decide (n ≤ 488)) =
    (decide (1 ≤ kind) && (decide (kind ≤ 9) && (win gen 0 2147483648 && (win mark 0 2147483648 && (win index 0 2147483648 && (decide (1 ≤ parts) && (decide (parts ≤ 16) && (decide (0 ≤ part) && (decide (part < parts) && decide (n ≤ 488)))))))))) := by
  have e : decide (part ≤ parts - 1) = decide (part < parts) := decide_eq_decide.2 (by omega)
  simp [win, e, Bool.and_assoc]
set_option maxHeartbeats 8000000 in
theorem may_any (p : P) (v : Value) (w : World) (hv : Sb w w.heap.size v p.b) :
    Calls Tryz.prog 104 #[pgV p v] w fun e w' => e = .returned (.bool p.may) ∧ Below w.heap.size w w' := by
  obtain ⟨kind, gen, mark, index, part, parts, b⟩ := p
  obtain ⟨A, n, c, rfl, hbt⟩ := hv
  have hl := hbt.1
  simp only at hl ⊢
  unfold pgV P.may
  simp only
  rw [hl, may_eq]
  clear hbt
  cases h1 : decide (1 ≤ kind)
  · go_enter Tryz.func104, Tryz.ntmps104
    go_wp2_with (go_at_call 124; refine (in_any _ _ _).mono ?_; rintro e w' ⟨rfl, rfl⟩)
    go_ret
    exact ⟨ret_bool (by simp [*]), (Below.refl w.heap.size w).alloc (Nat.le_refl _) _⟩
  · skip
    cases h2 : decide (kind ≤ 9)
    · go_enter Tryz.func104, Tryz.ntmps104
      go_wp2_with (go_at_call 124; refine (in_any _ _ _).mono ?_; rintro e w' ⟨rfl, rfl⟩)
      go_ret
      exact ⟨ret_bool (by simp [*]), (Below.refl w.heap.size w).alloc (Nat.le_refl _) _⟩
    · skip
      cases h3 : win gen 0 2147483648
      · go_enter Tryz.func104, Tryz.ntmps104
        go_wp2_with (go_at_call 124; refine (in_any _ _ _).mono ?_; rintro e w' ⟨rfl, rfl⟩)
        go_ret
        exact ⟨ret_bool (by simp [*]), (Below.refl w.heap.size w).alloc (Nat.le_refl _) _⟩
      · skip
        cases h4 : win mark 0 2147483648
        · go_enter Tryz.func104, Tryz.ntmps104
          go_wp2_with (go_at_call 124; refine (in_any _ _ _).mono ?_; rintro e w' ⟨rfl, rfl⟩)
          go_ret
          exact ⟨ret_bool (by simp [*]), (Below.refl w.heap.size w).alloc (Nat.le_refl _) _⟩
        · skip
          cases h5 : win index 0 2147483648
          · go_enter Tryz.func104, Tryz.ntmps104
            go_wp2_with (go_at_call 124; refine (in_any _ _ _).mono ?_; rintro e w' ⟨rfl, rfl⟩)
            go_ret
            exact ⟨ret_bool (by simp [*]), (Below.refl w.heap.size w).alloc (Nat.le_refl _) _⟩
          · skip
            cases h6 : decide (1 ≤ parts)
            · go_enter Tryz.func104, Tryz.ntmps104
              go_wp2_with (go_at_call 124; refine (in_any _ _ _).mono ?_; rintro e w' ⟨rfl, rfl⟩)
              go_ret
              exact ⟨ret_bool (by simp [*]), (Below.refl w.heap.size w).alloc (Nat.le_refl _) _⟩
            · skip
              cases h7 : decide (parts ≤ 16)
              · go_enter Tryz.func104, Tryz.ntmps104
                go_wp2_with (go_at_call 124; refine (in_any _ _ _).mono ?_; rintro e w' ⟨rfl, rfl⟩)
                go_ret
                exact ⟨ret_bool (by simp [*]), (Below.refl w.heap.size w).alloc (Nat.le_refl _) _⟩
              · skip
                cases h8 : decide (0 ≤ part)
                · go_enter Tryz.func104, Tryz.ntmps104
                  go_wp2_with (go_at_call 124; refine (in_any _ _ _).mono ?_; rintro e w' ⟨rfl, rfl⟩)
                  go_ret
                  exact ⟨ret_bool (by simp [*]), (Below.refl w.heap.size w).alloc (Nat.le_refl _) _⟩
                · skip
                  cases h9 : decide (part < parts)
                  · go_enter Tryz.func104, Tryz.ntmps104
                    go_wp2_with (go_at_call 124; refine (in_any _ _ _).mono ?_; rintro e w' ⟨rfl, rfl⟩)
                    go_ret
                    exact ⟨ret_bool (by simp [*]), (Below.refl w.heap.size w).alloc (Nat.le_refl _) _⟩
                  · skip
                    · go_enter Tryz.func104, Tryz.ntmps104
                      go_wp2_with (go_at_call 124; refine (in_any _ _ _).mono ?_; rintro e w' ⟨rfl, rfl⟩)
                      go_ret
                      exact ⟨ret_bool (by rw [show decide ((n : Int) ≤ 488) = decide (n ≤ 488) from decide_eq_decide.2 (by omega)]; simp [*]), (Below.refl w.heap.size w).alloc (Nat.le_refl _) _⟩
set_option maxHeartbeats 8000000 in
theorem same_any (p q : P) (v u : Value) (w : World) (hv : Sb w w.heap.size v p.b) (hu : Sb w w.heap.size u q.b) :
    Calls Tryz.prog 102 #[pgV p v, pgV q u] w fun e w' => e = .returned (.bool (decide (p = q))) ∧ Below w.heap.size w w' := by
  obtain ⟨kind, gen, mark, index, part, parts, b⟩ := p
  obtain ⟨kind', gen', mark', index', part', parts', b'⟩ := q
  obtain ⟨A, n, c, rfl, hbt⟩ := hv
  obtain ⟨A', n', c', rfl, hbt'⟩ := hu
  simp only at hbt hbt'
  unfold pgV
  simp only
  have hbel : Below w.heap.size w ((w.alloc (.cells (pgC ⟨kind, gen, mark, index, part, parts, b⟩ (.slice A n c)) 93)).alloc (.cells (pgC ⟨kind', gen', mark', index', part', parts', b'⟩ (.slice A' n' c')) 93)) := ((Below.refl _ w).alloc (Nat.le_refl _) _).alloc (by simp) _
  have HB := Lib.hid hbel; clear hbel
  have cs := Crc.equal_any A A' n n' c c' _ _ b b' _ (hbt.below HB.out (Nat.le_refl _)) (hbt'.below HB.out (Nat.le_refl _))
  have CS := Lib.hid cs; clear cs hbt hbt'
  have he : (decide ((⟨kind, gen, mark, index, part, parts, b⟩ : P) = ⟨kind', gen', mark', index', part', parts', b'⟩)) = ((kind == kind') && ((gen == gen') && ((mark == mark') && ((index == index') && ((part == part') && ((parts == parts') && decide (b = b'))))))) := by
    rw [Bool.eq_iff_iff]
    simp
  rw [he]
  clear he
  cases h0 : (kind == kind')
  · go_enter Tryz.func102, Tryz.ntmps102
    go_wp2
    go_ret
    exact ⟨ret_bool (by simp [*]), HB.out⟩
  · skip
    cases h1 : (gen == gen')
    · go_enter Tryz.func102, Tryz.ntmps102
      go_wp2
      go_ret
      exact ⟨ret_bool (by simp [*]), HB.out⟩
    · skip
      cases h2 : (mark == mark')
      · go_enter Tryz.func102, Tryz.ntmps102
        go_wp2
        go_ret
        exact ⟨ret_bool (by simp [*]), HB.out⟩
      · skip
        cases h3 : (index == index')
        · go_enter Tryz.func102, Tryz.ntmps102
          go_wp2
          go_ret
          exact ⟨ret_bool (by simp [*]), HB.out⟩
        · skip
          cases h4 : (part == part')
          · go_enter Tryz.func102, Tryz.ntmps102
            go_wp2
            go_ret
            exact ⟨ret_bool (by simp [*]), HB.out⟩
          · skip
            cases h5 : (parts == parts')
            · go_enter Tryz.func102, Tryz.ntmps102
              go_wp2
              go_ret
              exact ⟨ret_bool (by simp [*]), HB.out⟩
            · skip
              · go_enter Tryz.func102, Tryz.ntmps102
                go_wp2_with (go_at_call 94; refine (CS.out).mono ?_; rintro e w' ⟨rfl, rfl⟩; have HB9 := HB)
                go_ret
                exact ⟨ret_bool (by simp [*]), HB9.out⟩
set_option maxHeartbeats 8000000 in
theorem refsame_any (p q : P) (v u : Value) (w : World) (hv : Sb w w.heap.size v p.b) (hu : Sb w w.heap.size u q.b) :
    Calls Tryz.prog 106 #[pgV p v, pgV q u] w fun e w' => e = .returned (.bool (decide (p = q))) ∧ Below w.heap.size w w' := by
  obtain ⟨kind, gen, mark, index, part, parts, b⟩ := p
  obtain ⟨kind', gen', mark', index', part', parts', b'⟩ := q
  obtain ⟨A, n, c, rfl, hbt⟩ := hv
  obtain ⟨A', n', c', rfl, hbt'⟩ := hu
  simp only at hbt hbt'
  unfold pgV
  simp only
  have hbel : Below w.heap.size w ((w.alloc (.cells (pgC ⟨kind, gen, mark, index, part, parts, b⟩ (.slice A n c)) 93)).alloc (.cells (pgC ⟨kind', gen', mark', index', part', parts', b'⟩ (.slice A' n' c')) 93)) := ((Below.refl _ w).alloc (Nat.le_refl _) _).alloc (by simp) _
  have HB := Lib.hid hbel; clear hbel
  have cs := rsame_any A A' n n' c c' _ _ b b' _ (hbt.below HB.out (Nat.le_refl _)) (hbt'.below HB.out (Nat.le_refl _))
  have CS := Lib.hid cs; clear cs hbt hbt'
  have he : (decide ((⟨kind, gen, mark, index, part, parts, b⟩ : P) = ⟨kind', gen', mark', index', part', parts', b'⟩)) = ((kind == kind') && ((gen == gen') && ((mark == mark') && ((index == index') && ((part == part') && ((parts == parts') && decide (b = b'))))))) := by
    rw [Bool.eq_iff_iff]
    simp
  rw [he]
  clear he
  cases h0 : (kind == kind')
  · go_enter Tryz.func106, Tryz.ntmps106
    go_wp2
    go_ret
    exact ⟨ret_bool (by simp [*]), HB.out⟩
  · skip
    cases h1 : (gen == gen')
    · go_enter Tryz.func106, Tryz.ntmps106
      go_wp2
      go_ret
      exact ⟨ret_bool (by simp [*]), HB.out⟩
    · skip
      cases h2 : (mark == mark')
      · go_enter Tryz.func106, Tryz.ntmps106
        go_wp2
        go_ret
        exact ⟨ret_bool (by simp [*]), HB.out⟩
      · skip
        cases h3 : (index == index')
        · go_enter Tryz.func106, Tryz.ntmps106
          go_wp2
          go_ret
          exact ⟨ret_bool (by simp [*]), HB.out⟩
        · skip
          cases h4 : (part == part')
          · go_enter Tryz.func106, Tryz.ntmps106
            go_wp2
            go_ret
            exact ⟨ret_bool (by simp [*]), HB.out⟩
          · skip
            cases h5 : (parts == parts')
            · go_enter Tryz.func106, Tryz.ntmps106
              go_wp2
              go_ret
              exact ⟨ret_bool (by simp [*]), HB.out⟩
            · skip
              · go_enter Tryz.func106, Tryz.ntmps106
                go_wp2_with (go_at_call 21; refine (CS.out).mono ?_; rintro e w' ⟨rfl, q9, rfl⟩; have HB9 := Lib.hid (below_drewN HB.out q9))
                go_ret
                exact ⟨ret_bool (by simp [*]), HB9.out⟩
end Go.Proofs.YtnenbocjfekmfaaGreat.Pg
/- The contract of page.Put (layer 4). -/
namespace Go.Proofs.YtnenbocjfekmfaaGreat.Pg
open Go.RowKit Go.Proofs.YtnenbocjfekmfaaGreat.Mem Go.Proofs.YtnenbocjfekmfaaGreat.Oct
set_option linter.unusedVariables false
set_option linter.unusedSimpArgs false
theorem sl_bts {w : World} {B n c : Nat} {A : Option Addr} {xs : List Nat} (h : Sl w B (.slice A n c) xs) : Bts w B A n xs := by
  obtain ⟨A', n', c', e, hb, _⟩ := h
  injection e with e1 e2 e3
  subst e1 e2 e3
  exact hb
theorem lit_way (W : World) : Sl (W.alloc (.cells #[.int .u8 87, .int .u8 65, .int .u8 89] 5 (3, 4))) (W.alloc (.cells #[.int .u8 87, .int .u8 65, .int .u8 89] 5 (3, 4))).heap.size (.slice (some ⟨W.heap.size, 0, none⟩) 3 3) [87, 65, 89] := by
  refine ⟨_, 3, 3, rfl, ⟨rfl, by decide, by omega, fun _ => ⟨W.heap.size, 0, rfl, by simp, fun i hi => ?_⟩⟩, by omega, by unfold maxLen; omega, fun e => by cases e⟩
  have hB := fun j => cell_of_row (W.alloc (.cells #[.int .u8 87, .int .u8 65, .int .u8 89] 5 (3, 4))) W.heap.size j #[.int .u8 87, .int .u8 65, .int .u8 89] 5 (3, 4) (heap_alloc_new W _)
  match i, hi with
  | 0, _ => exact hB 0
  | 1, _ => exact hB 1
  | 2, _ => exact hB 2
theorem nat_of {p : P} (h : p.May) : ∃ K G M I T S : Nat, p = ⟨K, G, M, I, T, S, p.b⟩ ∧ K ≤ 9 ∧ G ≤ 2147483648 ∧ M ≤ 2147483648 ∧ I ≤ 2147483648 ∧ T < 16 ∧ S ≤ 16 := by
  obtain ⟨kind, gen, mark, index, part, parts, b⟩ := p
  obtain ⟨h1, h2, h3, h4, h5, h6, _⟩ := h
  have k1 := win_yes h1
  have k2 := win_yes h2
  have k3 := win_yes h3
  have k4 := win_yes h4
  have k5 := win_yes h5
  have k6 := win_yes h6
  simp only at k1 k2 k3 k4 k5 k6
  refine ⟨kind.toNat, gen.toNat, mark.toNat, index.toNat, part.toNat, parts.toNat, ?_, by omega, by omega, by omega, by omega, by omega, by omega⟩
  congr 1 <;> omega
theorem own_form {w : World} {base n size : Nat} {e : TypeId} {v : Value} {xs : List Value} (h : w.ownsRow base e size v n xs) : ∃ A c, v = .slice A n c := by
  rcases h.2 with ⟨rfl, rfl⟩ | ⟨g, cap, cur, rfl, _⟩
  · exact ⟨none, 0, rfl⟩
  · exact ⟨_, _, rfl⟩
theorem len_put {W : World} {B c N : Nat} {k : Int} {v : Value} {xs : List Nat} (h : Sl W B v (putNum xs k N)) (hl : xs.length ≤ c) : (putNum xs k N).length ≤ c + 8 := Nat.le_trans (putNum_length xs k N) (Nat.add_le_add_right hl 8)
set_option maxRecDepth 20000 in
set_option maxHeartbeats 8000000 in
theorem put_no (p : P) (v : Value) (w : World) (hm : p.may = false) (hv : Sb w w.heap.size v p.b) :
    Calls Tryz.prog 50 #[pgV p v] w fun e w' => e = .returned (.tuple #[.slice none 0 0, .int .i64 1]) ∧ Below w.heap.size w w' := by
  have mb := mayBe_any p v (w.alloc (.cells (pgC p v) 93)) ((hv.alloc (Nat.le_refl _) _).more (by simp))
  rw [hm] at mb
  have MB := Lib.hid mb; clear mb hm
  obtain ⟨A, n, c, rfl, _⟩ := id hv
  unfold pgV at MB ⊢
  obtain ⟨kind, gen, mark, index, part, parts, b⟩ := p
  simp only at MB ⊢
  go_enter Tryz.func50, Tryz.ntmps50
  go_wp2_with (go_at_call 81; refine (MB.out).mono ?_; rintro e w' ⟨rfl, hb⟩)
  go_ret2
  exact ⟨rfl, ((Below.refl w.heap.size w).alloc (Nat.le_refl _) _).trans (hb.mono (by simp))⟩
set_option maxRecDepth 20000 in
set_option maxHeartbeats 16000000 in
theorem put_ok (p : P) (v : Value) (w : World) (hm : p.May) (hv : Sb w w.heap.size v p.b) :
    Calls Tryz.prog 50 #[pgV p v] w fun e w' => ∃ v', e = .returned (.tuple #[v', .int .i64 0]) ∧ Sl w' w'.heap.size v' p.sector ∧ Below w.heap.size w w' := by
  have hl := hm.l
  obtain ⟨K, G, M, I, T, S, hp, hK, hG, hM, hI, hT, hS⟩ := nat_of hm
  have mb := mayBe_any p v (w.alloc (.cells (pgC p v) 93)) ((hv.alloc (Nat.le_refl _) _).more (by simp))
  rw [(may_iff p).2 hm] at mb
  have hblt := hv.lt
  obtain ⟨b, hb⟩ : ∃ b, b = p.b := ⟨_, rfl⟩
  rw [← hb] at hl hp hblt hv
  subst hp
  clear hb
  obtain ⟨Ab, nb, cb, rfl, _⟩ := id hv
  have hnb := (sb_bts hv).1
  have hk : ∃ k : Nat, (508 : Int) - ((20 + nb : Nat) : Int) = (k : Nat) ∧ k = 488 - nb := ⟨488 - nb, by omega, rfl⟩
  obtain ⟨k, hk1, hk2⟩ := hk
  generalize htl : 20 + nb = tl at hk1
  have hkb : k ≤ 488 := by omega
  have htb : tl ≤ 508 := by omega
  have HTL := Lib.hid htl; clear htl
  have HK2 := Lib.hid hk2; clear hk2
  have MB := Lib.hid mb; clear mb
  have HM := Lib.hid hm; clear hm
  have HBL := Lib.hid hblt; clear hblt
  have HV := Lib.hid hv; clear hv
  have HNB := Lib.hid hnb; clear hnb
  unfold pgV at MB ⊢
  unfold pgC at MB
  simp only at MB ⊢
  have KP0 := Lib.hid (Blk.new w 93 #[.int .i64 (K : Nat), .int .i64 (G : Nat), .int .i64 (M : Nat), .int .i64 (I : Nat), .int .i64 (T : Nat), .int .i64 (S : Nat), .slice Ab nb cb])
  have HB0 := Lib.hid ((Below.refl w.heap.size w).alloc (Nat.le_refl _) (Obj.cells #[.int .i64 (K : Nat), .int .i64 (G : Nat), .int .i64 (M : Nat), .int .i64 (I : Nat), .int .i64 (T : Nat), .int .i64 (S : Nat), .slice Ab nb cb] 93))
  obtain ⟨i1, hi, hz0, hz1, hz2⟩ := info_parts Tryz.info5
  have HJ := Lib.hid hi; clear hi
  have HY0 := Lib.hid hz0; clear hz0
  have HY1 := Lib.hid hz1; clear hz1
  have HY2 := Lib.hid hz2; clear hz2
  have kc := fun (w : World) (C : Array Value) (n c : Nat) => Lib.run_convert_bytes_const (P := Tryz.prog) w 31 5 C n c Tryz.underlying31 Tryz.underlying5
  go_enter Tryz.func50, Tryz.ntmps50
  go_wp2_with (first
    | (go_at_call 81; refine (MB.out).mono ?_; rintro e w1 ⟨rfl, hb⟩; have kp1 := KP0.out.below hb (by simp); have KP1 := Lib.hid kp1; have z0 := KP1.out.cell 0; have z1 := KP1.out.cell 1; have z2 := KP1.out.cell 2; have z3 := KP1.out.cell 3; have z4 := KP1.out.cell 4; have z5 := KP1.out.cell 5; have z6 := KP1.out.cell 6; simp at z0 z1 z2 z3 z4 z5 z6; have KP := Lib.hid (kp1.alloc (.cells #[.int .u8 87, .int .u8 65, .int .u8 89] 5 (3, 4))); have a0 := KP.out.cell 0; have a1 := KP.out.cell 1; have a2 := KP.out.cell 2; have a3 := KP.out.cell 3; have a4 := KP.out.cell 4; have a5 := KP.out.cell 5; have a6 := KP.out.cell 6; simp at a0 a1 a2 a3 a4 a5 a6; have HB := Lib.hid ((HB0.out.trans (hb.mono (by simp))).alloc (by have := hb.size; simp at this; omega) (.cells #[.int .u8 87, .int .u8 65, .int .u8 89] 5 (3, 4))); have SL := Lib.hid (lit_way w1); have LN : Hid (([87, 65, 89] : List Nat).length ≤ 3) := Nat.le_refl _; have nu := fun (k : Int) (N : Nat) (hN : N < 18446744073709551616) => put_num _ k N _ _ SL.out (Nat.le_trans LN.out (by decide)) hN; have NU := Lib.hid nu; clear nu; have hzl := kp1.lt; have hal := KP.out.lt; clear kp1 hb KP1)
    | (go_at_call 82; refine (NU.out _ _ (by omega)).mono ?_; rintro e w2 ⟨v2, rfl, hs, hb⟩; obtain ⟨A2, n2, c2, rfl, _⟩ := id hs; have KP2 := Lib.hid (KP.out.below hb KP.out.lt); clear a0 a1 a2 a3 a4 a5 a6 KP hal; have KP := KP2; clear KP2; have a0 := KP.out.cell 0; have a1 := KP.out.cell 1; have a2 := KP.out.cell 2; have a3 := KP.out.cell 3; have a4 := KP.out.cell 4; have a5 := KP.out.cell 5; have a6 := KP.out.cell 6; simp at a0 a1 a2 a3 a4 a5 a6; have hal := KP.out.lt; have HB2 := Lib.hid (HB.out.trans (hb.mono HB.out.size)); clear HB; have HB := HB2; clear HB2; clear SL; have SL := Lib.hid hs; have LN2 := Lib.hid (len_put SL.out LN.out); clear LN; have LN := LN2; clear LN2 hb hs NU; have nu := fun (k : Int) (N : Nat) (hN : N < 18446744073709551616) => put_num _ k N _ _ SL.out (Nat.le_trans LN.out (by decide)) hN; have NU := Lib.hid nu; clear nu))
  have hsl : Sl w2 w2.heap.size (.slice A2 n2 c2) (P.head ⟨K, G, M, I, T, S, b⟩) := SL.out
  have h18 : n2 = 18 := by have := (sl_bts hsl).1; rw [head_length] at this; omega
  subst h18
  clear SL LN NU
  refine (text_ok A2 Ab 18 nb c2 cb _ b w2 (by omega) (by have := HNB.out; omega) (sl_bts hsl) (sb_bts ((HV.out.below HB.out (Nat.le_refl _)).more HB.out.size))).mono ?_
  rintro e w3 ⟨v3, rfl, hown, hb3⟩
  obtain ⟨A3, c3, rfl⟩ := own_form hown
  have e18 : 18 + 2 + nb = tl := by have := HTL.out; omega
  have hnn := HNB.out
  rw [e18] at hown ⊢
  rw [← hnn] at hown
  have htext : P.head ⟨K, G, M, I, T, S, b⟩ ++ (be 2 b.length ++ b) = P.text ⟨K, G, M, I, T, S, b⟩ := rfl
  rw [htext] at hown
  have OW := Lib.hid hown; clear hown htext hsl
  have HB3 := Lib.hid (HB.out.trans (hb3.mono HB.out.size))
  have hz23 : w2.heap.size ≤ w3.heap.size := hb3.size
  clear hb3 a0 a1 a2 a3 a4 a5 a6 hnn
  have HE18 := Lib.hid e18; clear e18
  have htl0 : 0 < tl := by have := HTL.out; omega
  go_wp2_with (first
    | (at_builtin; refine wpList_append_zeros w3 rfl (.tmp 46) (.tmp 49) 31 3 rfl w2.heap.size 5 i1 (.int .u8 0) .i64 Tryz.underlying31 Tryz.underlying3 HJ.out HY0.out HY1.out HY2.out rfl rfl (.slice A3 tl c3) tl k _ rfl rfl OW.out htl0 (by omega) (by omega) hz23 ?_; intro v4 w4 hown4 hg4; obtain ⟨A4, c4, rfl⟩ := own_form hown4))
  have hbody : vals (P.text ⟨K, G, M, I, T, S, b⟩) ++ List.replicate k (.int .u8 0) = vals (P.body ⟨K, G, M, I, T, S, b⟩) := by
    have e1 := text_length ⟨K, G, M, I, T, S, b⟩
    have e2 := HK2.out
    have e3 := HNB.out
    have e4 := HTL.out
    have e5 : 508 - (P.text ⟨K, G, M, I, T, S, b⟩).length = k := by simp only at e1; omega
    unfold P.body
    rw [e5, vals_append]
    simp [vals]
  rw [hbody] at hown4
  have hlt4 := body_lt (p := ⟨K, G, M, I, T, S, b⟩) HBL.out
  have hs4 := sl_own hown4 hlt4 (by omega)
  have HO3 := OW.out
  have hb4 : Below w.heap.size w w4 := HB3.out.grown hg4 HB3.out.size (fun q hq => Nat.le_trans HB.out.size (HO3.lt q hq).1)
  obtain ⟨A', n', c', e', hbt4, _, _, hA4⟩ := id hs4
  injection e' with q1 q2 q3
  subst q1 q2 q3
  refine (Crc.seal_any A4 (tl + k) c4 _ w4 (by omega) hA4 hbt4).mono ?_
  rintro e w5 ⟨v5, rfl, hown5, hb5⟩
  obtain ⟨A5, c5, rfl⟩ := own_form hown5
  have hlt5 := Crc.sealed_lt hlt4
  go_wp2
  go_ret2
  exact ⟨_, rfl, sl_own hown5 hlt5 (by omega), hb4.trans (hb5.mono hb4.size)⟩
theorem put_any (p : P) (v : Value) (w : World) (hv : Sb w w.heap.size v p.b) :
    Calls Tryz.prog 50 #[pgV p v] w fun e w' => ∃ v', e = .returned (.tuple #[v', .int .i64 (if p.may = true then 0 else 1)]) ∧ Sl w' w'.heap.size v' (if p.may = true then p.sector else []) ∧ Below w.heap.size w w' := by
  cases h : p.may
  · refine (put_no p v w h hv).mono ?_
    rintro e w' ⟨rfl, hb⟩
    exact ⟨_, rfl, sl_nil _ _, hb⟩
  · exact put_ok p v w ((may_iff p).1 h) hv
end Go.Proofs.YtnenbocjfekmfaaGreat.Pg
/- The contracts of page.read, Get and Blank (layer 4). -/
namespace Go.Proofs.YtnenbocjfekmfaaGreat.Pg
open Go.RowKit Go.Proofs.YtnenbocjfekmfaaGreat.Mem Go.Proofs.YtnenbocjfekmfaaGreat.Oct
set_option linter.unusedVariables false
set_option linter.unusedSimpArgs false
def NoU8 (w : World) (g : Nat) : Prop := ∀ i x, w.cell? ⟨g, i, none⟩ ≠ some (.int .u8 x)
theorem bts_grownU {w w' : World} {B g n : Nat} {A : Option Addr} {xs : List Nat} (h : Bts w B A n xs) (hn : NoU8 w g) (hg : w.grownBy w' (some g)) : Bts w' B A n xs := by
  obtain ⟨h1, h2, h3, h4⟩ := h
  refine ⟨h1, h2, h3, fun h0 => ?_⟩
  obtain ⟨b, off, e, hb, hc⟩ := h4 h0
  have hne : b ≠ g := fun e => hn (off + 0) _ (e ▸ hc 0 h0)
  refine ⟨b, off, e, hb, fun i hi => ?_⟩
  rw [← hc i hi]
  exact World.cell?_of_block (hg.block b (block_lt_of_cell (hc i hi)) (by simpa using hne))
theorem noU8_blk {w : World} {g : Nat} {a b c d e f : Int} {A : Option Addr} {n m : Nat} (h : Blk w g 93 #[.int .i64 a, .int .i64 b, .int .i64 c, .int .i64 d, .int .i64 e, .int .i64 f, .slice A n m]) : NoU8 w g := by
  intro i x hx
  rw [h.cell] at hx
  match i, hx with
  | 0, hx => simp at hx
  | 1, hx => simp at hx
  | 2, hx => simp at hx
  | 3, hx => simp at hx
  | 4, hx => simp at hx
  | 5, hx => simp at hx
  | 6, hx => simp at hx
  | i + 7, hx => simp at hx
theorem set7_grown (w : World) (g : Nat) (a b c d e f h : Value) : w.grownBy (((((((w.setCell ⟨g, 0, none⟩ a).setCell ⟨g, 1, none⟩ b).setCell ⟨g, 2, none⟩ c).setCell ⟨g, 3, none⟩ d).setCell ⟨g, 4, none⟩ e).setCell ⟨g, 5, none⟩ f).setCell ⟨g, 6, none⟩ h) (some g) :=
  grown_trans (grown_trans (grown_trans (grown_trans (grown_trans (grown_trans (grown_set _ _ _) (grown_set _ ⟨g, 1, none⟩ _)) (grown_set _ ⟨g, 2, none⟩ _)) (grown_set _ ⟨g, 3, none⟩ _)) (grown_set _ ⟨g, 4, none⟩ _)) (grown_set _ ⟨g, 5, none⟩ _)) (grown_set _ ⟨g, 6, none⟩ _)
theorem rnum_lt {st : St} {k : Int} (h : ∀ x ∈ st.1, x < 256) (hk : k ≤ 4) : (rnum st k).2 < 4294967296 := by
  unfold rnum
  split
  · have h1 := num_lt (st.1.take k.toNat) (fun x hx => h x (List.mem_of_mem_take hx))
    have h2 : (st.1.take k.toNat).length ≤ 4 := by have := List.length_take_le k.toNat st.1; omega
    have h3 : 256 ^ (st.1.take k.toNat).length ≤ 256 ^ 4 := Nat.pow_le_pow_right (by decide) h2
    exact Nat.lt_of_lt_of_le h1 h3
  · show 0 < 4294967296
    omega
theorem rnum_b (g : Nat) (st : St) (k : Int) (w : World) (h : Rdr w g st) (hk : k ≤ 4) :
    Calls Tryz.prog 118 #[Oct.ptr g, .int .i64 k] w fun e w' => e = .returned (.int .u64 ((rnum st k).2 : Nat)) ∧ Rdr w' g (rnum st k).1 ∧ w.grownBy w' (some g) ∧ (rnum st k).2 < 4294967296 :=
  (rnum_any g st k w h).mono fun e w' ⟨h1, h2, h3⟩ => ⟨h1, h2, h3, rnum_lt h.lt hk⟩
def zeroP : P := ⟨0, 0, 0, 0, 0, 0, []⟩
set_option maxRecDepth 20000 in
set_option maxHeartbeats 16000000 in
theorem read_page (v : Value) (xs : List Nat) (w : World) (h : Sl w w.heap.size v xs) (hl : xs.length ≤ 1000) :
    Calls Tryz.prog 93 #[v] w fun e w' => ∃ v', e = .returned v' ∧ PgAt w' w'.heap.size v' (readP xs) ∧ Below w.heap.size w w' := by
  have kp := Blk.new w 93 #[.int .i64 0, .int .i64 0, .int .i64 0, .int .i64 0, .int .i64 0, .int .i64 0, .slice none 0 0]
  have hb0 := (Below.refl w.heap.size w).alloc (Nat.le_refl _) (Obj.cells #[.int .i64 0, .int .i64 0, .int .i64 0, .int .i64 0, .int .i64 0, .int .i64 0, .slice none 0 0] 93)
  have rd := read_any v xs (w.alloc (.cells #[.int .i64 0, .int .i64 0, .int .i64 0, .int .i64 0, .int .i64 0, .int .i64 0, .slice none 0 0] 93)) ((h.below hb0 (Nat.le_refl _)).more (by simp)) (by omega)
  have KP0 := Lib.hid kp; clear kp
  have HB0 := Lib.hid hb0; clear hb0
  have RR := Lib.hid rd; clear rd
  go_enter Tryz.func93, Tryz.ntmps93
  go_wp2_with (first
    | (go_at_call 117; refine (RR.out).mono ?_; rintro e w1 ⟨g, rfl, hge, hr, hb⟩; have hgs : w.heap.size < g := Nat.lt_of_lt_of_le (by simp) hge; have RD := Lib.hid hr; have KP := Lib.hid (KP0.out.below hb (by simp)); have HB := Lib.hid (HB0.out.trans (hb.mono (by simp))); clear hr hb hge)
    | (go_at_call 118; refine (rnum_b g _ _ _ RD.out (by decide)).mono ?_; rintro e w2 ⟨rfl, hr, hg, hlt⟩; have KPn := Lib.hid (KP.out.grown hg (by simp; omega)); clear KP; have KP := KPn; clear KPn; have HBn := Lib.hid (HB.out.grown hg HB.out.size (fun q hq => by cases hq; omega)); clear HB; have HB := HBn; clear HBn RD; have RD := Lib.hid hr; clear hr hg))
  refine (rtext_any g _ _ RD.out).mono ?_
  rintro e w3 ⟨A3, k3, c3, rfl, hbt, hk3, hc3, hr3, hg3⟩
  have kp3 := KP.out.grown hg3 (by simp; omega)
  have hb3 := HB.out.grown hg3 HB.out.size (fun q hq => by cases hq; omega)
  have KP3 := Lib.hid kp3
  have HB3 := Lib.hid hb3
  have hgz : g < w3.heap.size := hr3.size
  have HBT := Lib.hid (hbt.more (Nat.le_of_lt hgz))
  clear kp3 hb3 hbt hr3 hg3 RD KP HB
  have a0 := KP3.out.cell 0
  have a1 := KP3.out.cell 1
  have a2 := KP3.out.cell 2
  have a3 := KP3.out.cell 3
  have a4 := KP3.out.cell 4
  have a5 := KP3.out.cell 5
  have a6 := KP3.out.cell 6
  have f0 := KP3.out.frozen 0
  have f1 := KP3.out.frozen 1
  have f2 := KP3.out.frozen 2
  have f3 := KP3.out.frozen 3
  have f4 := KP3.out.frozen 4
  have f5 := KP3.out.frozen 5
  have f6 := KP3.out.frozen 6
  have al := KP3.out.lt
  simp at a0 a1 a2 a3 a4 a5 a6
  go_wp2
  have hgr := set7_grown w3 w.heap.size (.int .i64 ((readP xs).kind)) (.int .i64 ((readP xs).gen)) (.int .i64 ((readP xs).mark)) (.int .i64 ((readP xs).index)) (.int .i64 ((readP xs).part)) (.int .i64 ((readP xs).parts)) (.slice A3 k3 c3)
  refine bodyPost_ret (v := pgV (readP xs) (.slice A3 k3 c3)) ?_ rfl ⟨_, rfl, ⟨.slice A3 k3 c3, rfl, A3, k3, c3, rfl, ?_⟩, ?_⟩
  · simp [results, Tryz.results93, go_sem, a0, a1, a2, a3, a4, a5, a6, al, pgV, readP]
  · exact (bts_grownU HBT.out (noU8_blk KP3.out) hgr).more hgr.size
  · exact HB3.out.grown hgr HB3.out.size (fun q hq => by cases hq; exact Nat.le_refl _)
end Go.Proofs.YtnenbocjfekmfaaGreat.Pg
/- The contracts of page.Get and Blank (layer 4). -/
namespace Go.Proofs.YtnenbocjfekmfaaGreat.Pg
open Go.RowKit Go.Proofs.YtnenbocjfekmfaaGreat.Mem Go.Proofs.YtnenbocjfekmfaaGreat.Oct
set_option linter.unusedVariables false
set_option linter.unusedSimpArgs false
set_option maxRecDepth 20000 in
set_option maxHeartbeats 16000000 in
theorem get_may (A : Option Addr) (n c : Nat) (xs : List Nat) (q : P) (w : World) (h : Sl w w.heap.size (.slice A n c) xs) (hl : xs.length ≤ 1000) (hq : readP xs = q) (hm : q.may = false) :
    Calls Tryz.prog 63 #[.slice A n c] w fun e w' => ∃ v', e = .returned (.tuple #[v', .int .i64 2]) ∧ PgAt w' w'.heap.size v' zeroP ∧ Below w.heap.size w w' := by
  have kp := Blk.new w 93 #[.int .i64 0, .int .i64 0, .int .i64 0, .int .i64 0, .int .i64 0, .int .i64 0, .slice none 0 0]
  have hb0 := (Below.refl w.heap.size w).alloc (Nat.le_refl _) (Obj.cells #[.int .i64 0, .int .i64 0, .int .i64 0, .int .i64 0, .int .i64 0, .int .i64 0, .slice none 0 0] 93)
  have rp := read_page (.slice A n c) xs (w.alloc (.cells #[.int .i64 0, .int .i64 0, .int .i64 0, .int .i64 0, .int .i64 0, .int .i64 0, .slice none 0 0] 93)) ((h.below hb0 (Nat.le_refl _)).more (by simp)) hl
  rw [hq] at rp
  have KP0 := Lib.hid kp; clear kp
  have HB0 := Lib.hid hb0; clear hb0
  have RP := Lib.hid rp; clear rp
  have HX := Lib.hid h; clear h
  have HQ := Lib.hid hq; clear hq
  have HM := Lib.hid hm; clear hm
  have h0 : w.heap.size < (w.alloc (.cells #[.int .i64 0, .int .i64 0, .int .i64 0, .int .i64 0, .int .i64 0, .int .i64 0, .slice none 0 0] 93)).heap.size := by simp
  go_enter Tryz.func63, Tryz.ntmps63
  go_wp2_with (first
    | (go_at_call 93; refine (RP.out).mono ?_; rintro e w1 ⟨v1, rfl, ⟨vb, rfl, A3, k3, c3, rfl, hbt⟩, hb⟩; have hb1 := HB0.out.trans (hb.mono HB0.out.size); have KP1 := Lib.hid (KP0.out.below hb h0); have hz1 := KP1.out.lt; have HB1 := Lib.hid (hb1.alloc hb1.size (.cells #[.int .i64 q.kind, .int .i64 q.gen, .int .i64 q.mark, .int .i64 q.index, .int .i64 q.part, .int .i64 q.parts, .slice A3 k3 c3] 93)); have KP2 := Lib.hid (KP1.out.alloc (.cells #[.int .i64 q.kind, .int .i64 q.gen, .int .i64 q.mark, .int .i64 q.index, .int .i64 q.part, .int .i64 q.parts, .slice A3 k3 c3] 93)); have KQ := Lib.hid (Blk.new w1 93 #[.int .i64 q.kind, .int .i64 q.gen, .int .i64 q.mark, .int .i64 q.index, .int .i64 q.part, .int .i64 q.parts, .slice A3 k3 c3]); have b0 := KQ.out.cell 0; have b1 := KQ.out.cell 1; have b2 := KQ.out.cell 2; have b3 := KQ.out.cell 3; have b4 := KQ.out.cell 4; have b5 := KQ.out.cell 5; have b6 := KQ.out.cell 6; simp at b0 b1 b2 b3 b4 b5 b6; have hz2 := KP2.out.lt; have hzq := KQ.out.lt; have HBT := Lib.hid ((hbt.alloc (Nat.le_refl _) (.cells #[.int .i64 q.kind, .int .i64 q.gen, .int .i64 q.mark, .int .i64 q.index, .int .i64 q.part, .int .i64 q.parts, .slice A3 k3 c3] 93)).more (Nat.le_of_lt hzq)); have pu := put_no q (.slice A3 k3 c3) (w1.alloc (.cells #[.int .i64 q.kind, .int .i64 q.gen, .int .i64 q.mark, .int .i64 q.index, .int .i64 q.part, .int .i64 q.parts, .slice A3 k3 c3] 93)) HM.out ⟨A3, k3, c3, rfl, HBT.out⟩; have PU := Lib.hid pu; clear pu hb1 hb hbt; unfold pgV)
    | (go_at_call 50; refine (PU.out).mono ?_; rintro e w2 ⟨rfl, hb⟩; have KP3 := Lib.hid (KP2.out.below hb hz2); have KQ3 := Lib.hid (KQ.out.below hb hzq); have hz3 := KP3.out.lt; have hzq3 := KQ3.out.lt; have a0 := KP3.out.cell 0; have a1 := KP3.out.cell 1; have a2 := KP3.out.cell 2; have a3 := KP3.out.cell 3; have a4 := KP3.out.cell 4; have a5 := KP3.out.cell 5; have a6 := KP3.out.cell 6; simp at a0 a1 a2 a3 a4 a5 a6; have f0 := KP3.out.frozen 0; have f1 := KP3.out.frozen 1; have f2 := KP3.out.frozen 2; have f3 := KP3.out.frozen 3; have f4 := KP3.out.frozen 4; have f5 := KP3.out.frozen 5; have f6 := KP3.out.frozen 6; have d0 := KQ3.out.cell 0; have d1 := KQ3.out.cell 1; have d2 := KQ3.out.cell 2; have d3 := KQ3.out.cell 3; have d4 := KQ3.out.cell 4; have d5 := KQ3.out.cell 5; have d6 := KQ3.out.cell 6; simp at d0 d1 d2 d3 d4 d5 d6; have HB3 := Lib.hid (HB1.out.trans (hb.mono HB1.out.size)); have HBT3 := Lib.hid ((HBT.out.below hb (Nat.le_refl _)).more hb.size); clear hb))
  have hgr := set7_grown w2 w.heap.size (.int .i64 0) (.int .i64 0) (.int .i64 0) (.int .i64 0) (.int .i64 0) (.int .i64 0) (.slice none 0 0)
  refine bodyPost_ret (v := .tuple #[.agg #[.int .i64 0, .int .i64 0, .int .i64 0, .int .i64 0, .int .i64 0, .int .i64 0, .slice none 0 0], .int .i64 2]) ?_ rfl ⟨_, rfl, ⟨.slice none 0 0, rfl, sb_of (sl_nil _ _)⟩, ?_⟩
  · simp [results, Tryz.results63, go_sem, a0, a1, a2, a3, a4, a5, a6, hz3]
  · exact HB3.out.grown hgr HB3.out.size (fun q hq => by cases hq; exact Nat.le_refl _)
set_option maxRecDepth 20000 in
set_option maxHeartbeats 16000000 in
theorem get_other (A : Option Addr) (n c : Nat) (xs : List Nat) (q : P) (w : World) (h : Sl w w.heap.size (.slice A n c) xs) (hl : xs.length ≤ 1000) (hq : readP xs = q) (hm : q.May ∧ q.sector ≠ xs) :
    Calls Tryz.prog 63 #[.slice A n c] w fun e w' => ∃ v', e = .returned (.tuple #[v', .int .i64 2]) ∧ PgAt w' w'.heap.size v' zeroP ∧ Below w.heap.size w w' := by
  have kp := Blk.new w 93 #[.int .i64 0, .int .i64 0, .int .i64 0, .int .i64 0, .int .i64 0, .int .i64 0, .slice none 0 0]
  have hb0 := (Below.refl w.heap.size w).alloc (Nat.le_refl _) (Obj.cells #[.int .i64 0, .int .i64 0, .int .i64 0, .int .i64 0, .int .i64 0, .int .i64 0, .slice none 0 0] 93)
  have rp := read_page (.slice A n c) xs (w.alloc (.cells #[.int .i64 0, .int .i64 0, .int .i64 0, .int .i64 0, .int .i64 0, .int .i64 0, .slice none 0 0] 93)) ((h.below hb0 (Nat.le_refl _)).more (by simp)) hl
  rw [hq] at rp
  have KP0 := Lib.hid kp; clear kp
  have HB0 := Lib.hid hb0; clear hb0
  have RP := Lib.hid rp; clear rp
  have HX := Lib.hid h; clear h
  have HQ := Lib.hid hq; clear hq
  have HM := Lib.hid hm; clear hm
  have h0 : w.heap.size < (w.alloc (.cells #[.int .i64 0, .int .i64 0, .int .i64 0, .int .i64 0, .int .i64 0, .int .i64 0, .slice none 0 0] 93)).heap.size := by simp
  go_enter Tryz.func63, Tryz.ntmps63
  go_wp2_with (first
    | (go_at_call 93; refine (RP.out).mono ?_; rintro e w1 ⟨v1, rfl, ⟨vb, rfl, A3, k3, c3, rfl, hbt⟩, hb⟩; have hb1 := HB0.out.trans (hb.mono HB0.out.size); have KP1 := Lib.hid (KP0.out.below hb h0); have hz1 := KP1.out.lt; have HB1 := Lib.hid (hb1.alloc hb1.size (.cells #[.int .i64 q.kind, .int .i64 q.gen, .int .i64 q.mark, .int .i64 q.index, .int .i64 q.part, .int .i64 q.parts, .slice A3 k3 c3] 93)); have KP2 := Lib.hid (KP1.out.alloc (.cells #[.int .i64 q.kind, .int .i64 q.gen, .int .i64 q.mark, .int .i64 q.index, .int .i64 q.part, .int .i64 q.parts, .slice A3 k3 c3] 93)); have KQ := Lib.hid (Blk.new w1 93 #[.int .i64 q.kind, .int .i64 q.gen, .int .i64 q.mark, .int .i64 q.index, .int .i64 q.part, .int .i64 q.parts, .slice A3 k3 c3]); have b0 := KQ.out.cell 0; have b1 := KQ.out.cell 1; have b2 := KQ.out.cell 2; have b3 := KQ.out.cell 3; have b4 := KQ.out.cell 4; have b5 := KQ.out.cell 5; have b6 := KQ.out.cell 6; simp at b0 b1 b2 b3 b4 b5 b6; have hz2 := KP2.out.lt; have hzq := KQ.out.lt; have HBT := Lib.hid ((hbt.alloc (Nat.le_refl _) (.cells #[.int .i64 q.kind, .int .i64 q.gen, .int .i64 q.mark, .int .i64 q.index, .int .i64 q.part, .int .i64 q.parts, .slice A3 k3 c3] 93)).more (Nat.le_of_lt hzq)); have pu := put_ok q (.slice A3 k3 c3) (w1.alloc (.cells #[.int .i64 q.kind, .int .i64 q.gen, .int .i64 q.mark, .int .i64 q.index, .int .i64 q.part, .int .i64 q.parts, .slice A3 k3 c3] 93)) HM.out.1 ⟨A3, k3, c3, rfl, HBT.out⟩; have PU := Lib.hid pu; clear pu hb1 hb hbt; unfold pgV)
    | (go_at_call 50; refine (PU.out).mono ?_; rintro e w2 ⟨v2, rfl, hs, hb⟩; obtain ⟨A4, n4, c4, rfl, hbt4, _⟩ := hs; have KP3 := Lib.hid (KP2.out.below hb hz2); have KQ3 := Lib.hid (KQ.out.below hb hzq); have hz3 := KP3.out.lt; have hzq3 := KQ3.out.lt; have a0 := KP3.out.cell 0; have a1 := KP3.out.cell 1; have a2 := KP3.out.cell 2; have a3 := KP3.out.cell 3; have a4 := KP3.out.cell 4; have a5 := KP3.out.cell 5; have a6 := KP3.out.cell 6; simp at a0 a1 a2 a3 a4 a5 a6; have f0 := KP3.out.frozen 0; have f1 := KP3.out.frozen 1; have f2 := KP3.out.frozen 2; have f3 := KP3.out.frozen 3; have f4 := KP3.out.frozen 4; have f5 := KP3.out.frozen 5; have f6 := KP3.out.frozen 6; have d0 := KQ3.out.cell 0; have d1 := KQ3.out.cell 1; have d2 := KQ3.out.cell 2; have d3 := KQ3.out.cell 3; have d4 := KQ3.out.cell 4; have d5 := KQ3.out.cell 5; have d6 := KQ3.out.cell 6; simp at d0 d1 d2 d3 d4 d5 d6; have HB3 := Lib.hid (HB1.out.trans (hb.mono HB1.out.size)); have HBT3 := Lib.hid ((HBT.out.below hb (Nat.le_refl _)).more hb.size); have eq := Crc.equal_any A4 A n4 n c4 c _ _ _ xs w2 hbt4 (sl_bts (HX.out.below HB3.out (Nat.le_refl _))); rw [decide_eq_false HM.out.2] at eq; have EQ := Lib.hid eq; clear eq hbt4; clear hb)
    | (go_at_call 94; refine (EQ.out).mono ?_; rintro e w' ⟨rfl, rfl⟩))
  have hgr := set7_grown w2 w.heap.size (.int .i64 0) (.int .i64 0) (.int .i64 0) (.int .i64 0) (.int .i64 0) (.int .i64 0) (.slice none 0 0)
  refine bodyPost_ret (v := .tuple #[.agg #[.int .i64 0, .int .i64 0, .int .i64 0, .int .i64 0, .int .i64 0, .int .i64 0, .slice none 0 0], .int .i64 2]) ?_ rfl ⟨_, rfl, ⟨.slice none 0 0, rfl, sb_of (sl_nil _ _)⟩, ?_⟩
  · simp [results, Tryz.results63, go_sem, a0, a1, a2, a3, a4, a5, a6, hz3]
  · exact HB3.out.grown hgr HB3.out.size (fun q hq => by cases hq; exact Nat.le_refl _)
set_option maxRecDepth 20000 in
set_option maxHeartbeats 16000000 in
theorem get_ok (A : Option Addr) (n c : Nat) (xs : List Nat) (q : P) (w : World) (h : Sl w w.heap.size (.slice A n c) xs) (hl : xs.length ≤ 1000) (hq : readP xs = q) (hm : q.May ∧ q.sector = xs) :
    Calls Tryz.prog 63 #[.slice A n c] w fun e w' => ∃ v', e = .returned (.tuple #[v', .int .i64 0]) ∧ PgAt w' w'.heap.size v' q ∧ Below w.heap.size w w' := by
  have kp := Blk.new w 93 #[.int .i64 0, .int .i64 0, .int .i64 0, .int .i64 0, .int .i64 0, .int .i64 0, .slice none 0 0]
  have hb0 := (Below.refl w.heap.size w).alloc (Nat.le_refl _) (Obj.cells #[.int .i64 0, .int .i64 0, .int .i64 0, .int .i64 0, .int .i64 0, .int .i64 0, .slice none 0 0] 93)
  have rp := read_page (.slice A n c) xs (w.alloc (.cells #[.int .i64 0, .int .i64 0, .int .i64 0, .int .i64 0, .int .i64 0, .int .i64 0, .slice none 0 0] 93)) ((h.below hb0 (Nat.le_refl _)).more (by simp)) hl
  rw [hq] at rp
  have KP0 := Lib.hid kp; clear kp
  have HB0 := Lib.hid hb0; clear hb0
  have RP := Lib.hid rp; clear rp
  have HX := Lib.hid h; clear h
  have HQ := Lib.hid hq; clear hq
  have HM := Lib.hid hm; clear hm
  have h0 : w.heap.size < (w.alloc (.cells #[.int .i64 0, .int .i64 0, .int .i64 0, .int .i64 0, .int .i64 0, .int .i64 0, .slice none 0 0] 93)).heap.size := by simp
  go_enter Tryz.func63, Tryz.ntmps63
  go_wp2_with (first
    | (go_at_call 93; refine (RP.out).mono ?_; rintro e w1 ⟨v1, rfl, ⟨vb, rfl, A3, k3, c3, rfl, hbt⟩, hb⟩; have hb1 := HB0.out.trans (hb.mono HB0.out.size); have KP1 := Lib.hid (KP0.out.below hb h0); have hz1 := KP1.out.lt; have HB1 := Lib.hid (hb1.alloc hb1.size (.cells #[.int .i64 q.kind, .int .i64 q.gen, .int .i64 q.mark, .int .i64 q.index, .int .i64 q.part, .int .i64 q.parts, .slice A3 k3 c3] 93)); have KP2 := Lib.hid (KP1.out.alloc (.cells #[.int .i64 q.kind, .int .i64 q.gen, .int .i64 q.mark, .int .i64 q.index, .int .i64 q.part, .int .i64 q.parts, .slice A3 k3 c3] 93)); have KQ := Lib.hid (Blk.new w1 93 #[.int .i64 q.kind, .int .i64 q.gen, .int .i64 q.mark, .int .i64 q.index, .int .i64 q.part, .int .i64 q.parts, .slice A3 k3 c3]); have b0 := KQ.out.cell 0; have b1 := KQ.out.cell 1; have b2 := KQ.out.cell 2; have b3 := KQ.out.cell 3; have b4 := KQ.out.cell 4; have b5 := KQ.out.cell 5; have b6 := KQ.out.cell 6; simp at b0 b1 b2 b3 b4 b5 b6; have hz2 := KP2.out.lt; have hzq := KQ.out.lt; have HBT := Lib.hid ((hbt.alloc (Nat.le_refl _) (.cells #[.int .i64 q.kind, .int .i64 q.gen, .int .i64 q.mark, .int .i64 q.index, .int .i64 q.part, .int .i64 q.parts, .slice A3 k3 c3] 93)).more (Nat.le_of_lt hzq)); have pu := put_ok q (.slice A3 k3 c3) (w1.alloc (.cells #[.int .i64 q.kind, .int .i64 q.gen, .int .i64 q.mark, .int .i64 q.index, .int .i64 q.part, .int .i64 q.parts, .slice A3 k3 c3] 93)) HM.out.1 ⟨A3, k3, c3, rfl, HBT.out⟩; have PU := Lib.hid pu; clear pu hb1 hb hbt; unfold pgV)
    | (go_at_call 50; refine (PU.out).mono ?_; rintro e w2 ⟨v2, rfl, hs, hb⟩; obtain ⟨A4, n4, c4, rfl, hbt4, _⟩ := hs; have KP3 := Lib.hid (KP2.out.below hb hz2); have KQ3 := Lib.hid (KQ.out.below hb hzq); have hz3 := KP3.out.lt; have hzq3 := KQ3.out.lt; have a0 := KP3.out.cell 0; have a1 := KP3.out.cell 1; have a2 := KP3.out.cell 2; have a3 := KP3.out.cell 3; have a4 := KP3.out.cell 4; have a5 := KP3.out.cell 5; have a6 := KP3.out.cell 6; simp at a0 a1 a2 a3 a4 a5 a6; have f0 := KP3.out.frozen 0; have f1 := KP3.out.frozen 1; have f2 := KP3.out.frozen 2; have f3 := KP3.out.frozen 3; have f4 := KP3.out.frozen 4; have f5 := KP3.out.frozen 5; have f6 := KP3.out.frozen 6; have d0 := KQ3.out.cell 0; have d1 := KQ3.out.cell 1; have d2 := KQ3.out.cell 2; have d3 := KQ3.out.cell 3; have d4 := KQ3.out.cell 4; have d5 := KQ3.out.cell 5; have d6 := KQ3.out.cell 6; simp at d0 d1 d2 d3 d4 d5 d6; have HB3 := Lib.hid (HB1.out.trans (hb.mono HB1.out.size)); have HBT3 := Lib.hid ((HBT.out.below hb (Nat.le_refl _)).more hb.size); have eq := Crc.equal_any A4 A n4 n c4 c _ _ _ xs w2 hbt4 (sl_bts (HX.out.below HB3.out (Nat.le_refl _))); rw [decide_eq_true HM.out.2] at eq; have EQ := Lib.hid eq; clear eq hbt4; clear hb)
    | (go_at_call 94; refine (EQ.out).mono ?_; rintro e w' ⟨rfl, rfl⟩))
  have hgr := set7_grown w2 w.heap.size (.int .i64 q.kind) (.int .i64 q.gen) (.int .i64 q.mark) (.int .i64 q.index) (.int .i64 q.part) (.int .i64 q.parts) (.slice A3 k3 c3)
  refine bodyPost_ret (v := .tuple #[.agg #[.int .i64 q.kind, .int .i64 q.gen, .int .i64 q.mark, .int .i64 q.index, .int .i64 q.part, .int .i64 q.parts, .slice A3 k3 c3], .int .i64 0]) ?_ rfl ⟨_, rfl, ⟨.slice A3 k3 c3, rfl, A3, k3, c3, rfl, (bts_grownU HBT3.out (noU8_blk KP3.out) hgr).more hgr.size⟩, ?_⟩
  · simp [results, Tryz.results63, go_sem, a0, a1, a2, a3, a4, a5, a6, hz3]
  · exact HB3.out.grown hgr HB3.out.size (fun q hq => by cases hq; exact Nat.le_refl _)
theorem get_any (v : Value) (xs : List Nat) (w : World) (h : Sl w w.heap.size v xs) (hl : xs.length ≤ 1000) :
    Calls Tryz.prog 63 #[v] w fun e w' => ∃ v', e = .returned (.tuple #[v', .int .i64 (if (got xs).isSome = true then 0 else 2)]) ∧ PgAt w' w'.heap.size v' ((got xs).getD zeroP) ∧ Below w.heap.size w w' := by
  obtain ⟨A, n, c, rfl, _⟩ := id h
  cases hm : (readP xs).may
  · have e : got xs = none := by unfold got; rw [if_neg (by rw [hm]; simp)]
    rw [e]
    exact get_may A n c xs _ w h hl rfl hm
  · by_cases hs : (readP xs).sector = xs
    · have e : got xs = some (readP xs) := by unfold got; rw [if_pos ⟨hm, hs⟩]
      rw [e]
      exact get_ok A n c xs _ w h hl rfl ⟨(may_iff _).1 hm, hs⟩
    · have e : got xs = none := by unfold got; rw [if_neg (fun h => hs h.2)]
      rw [e]
      exact get_other A n c xs _ w h hl rfl ⟨(may_iff _).1 hm, hs⟩
end Go.Proofs.YtnenbocjfekmfaaGreat.Pg
/- The reference's sector of a page (layer 4). -/
namespace Go.Proofs.YtnenbocjfekmfaaGreat.Pg
open Go.RowKit Go.Proofs.YtnenbocjfekmfaaGreat.Mem Go.Proofs.YtnenbocjfekmfaaGreat.Oct
set_option linter.unusedVariables false
set_option linter.unusedSimpArgs false
theorem own_four (w : World) (base g : Nat) (hg : g = w.heap.size) (hB : base ≤ w.heap.size) (x : Nat) : (w.alloc (.cells #[.int .u8 87, .int .u8 65, .int .u8 89, .int .u8 (x : Nat)] 5)).ownsRow base 5 1 (.slice (some ⟨g, 0, none⟩) 4 4) 4 (vals [87, 65, 89, x]) := by
  subst hg
  exact World.ownsRow_lit w #[.int .u8 87, .int .u8 65, .int .u8 89, .int .u8 (x : Nat)] 4 hB (by unfold maxLen; omega) rfl
theorem be_one {n : Nat} (h : n < 256) : be 1 n = [n] := by simp [be]; omega
theorem text_of (K G M I T S : Nat) (b : List Nat) (hK : K ≤ 9) (hT : T < 16) (hS : S ≤ 16) : ((((([87, 65, 89, K] ++ be 4 G) ++ be 4 M) ++ be 4 I) ++ [T, S]) ++ (be 2 b.length ++ b)) = P.text ⟨K, G, M, I, T, S, b⟩ := by
  unfold P.text P.head
  simp only [Int.toNat_natCast]
  rw [be_one (by omega), be_one (n := T) (by omega), be_one (n := S) (by omega)]
  simp [List.append_assoc]
set_option maxRecDepth 20000 in
set_option maxHeartbeats 16000000 in
theorem ref_put (p : P) (v : Value) (w : World) (hm : p.May) (hv : Sl w w.heap.size v p.b) :
    Calls Tryz.prog 47 #[pgV p v] w fun e w' => ∃ v', e = .returned v' ∧ Sl w' w'.heap.size v' p.sector ∧ Below w.heap.size w w' := by
  have hl := hm.l
  obtain ⟨K, G, M, I, T, S, hp, hK, hG, hM, hI, hT, hS⟩ := nat_of hm
  have hblt := hv.lt
  obtain ⟨b, hb⟩ : ∃ b, b = p.b := ⟨_, rfl⟩
  rw [← hb] at hl hp hblt hv
  subst hp
  clear hb
  obtain ⟨Ab, nb, cb, rfl, _⟩ := id hv
  have hnb := (sl_bts hv).1
  have HM := Lib.hid hm; clear hm
  have HBL := Lib.hid hblt; clear hblt
  have HV := Lib.hid hv; clear hv
  have hl2 : nb ≤ 488 := by omega
  have HNB := Lib.hid hnb; clear hnb
  have HL := Lib.hid hl; clear hl
  have hsec : P.sector ⟨K, G, M, I, T, S, b⟩ = Crc.sealed (P.body ⟨K, G, M, I, T, S, b⟩) := rfl
  rw [hsec]
  clear hsec
  obtain ⟨sec, hsec⟩ : ∃ sec, sec = Crc.sealed (P.body ⟨K, G, M, I, T, S, b⟩) := ⟨_, rfl⟩
  rw [← hsec]
  have HSEC := Lib.hid hsec; clear hsec
  unfold pgV
  simp only
  have kp := Blk.new w 93 #[.int .i64 (K : Nat), .int .i64 (G : Nat), .int .i64 (M : Nat), .int .i64 (I : Nat), .int .i64 (T : Nat), .int .i64 (S : Nat), .slice Ab nb cb]
  have KP1 := Lib.hid kp
  have z0 := KP1.out.cell 0; have z1 := KP1.out.cell 1; have z2 := KP1.out.cell 2; have z3 := KP1.out.cell 3; have z4 := KP1.out.cell 4; have z5 := KP1.out.cell 5; have z6 := KP1.out.cell 6; simp at z0 z1 z2 z3 z4 z5 z6
  have hzl := kp.lt
  have KP := Lib.hid (kp.alloc (.cells #[.int .u8 87, .int .u8 65, .int .u8 89, .int .u8 (K : Nat)] 5)); clear kp
  have HB := Lib.hid (((Below.refl w.heap.size w).alloc (Nat.le_refl _) (Obj.cells #[.int .i64 (K : Nat), .int .i64 (G : Nat), .int .i64 (M : Nat), .int .i64 (I : Nat), .int .i64 (T : Nat), .int .i64 (S : Nat), .slice Ab nb cb] 93)).alloc (by simp) (.cells #[.int .u8 87, .int .u8 65, .int .u8 89, .int .u8 (K : Nat)] 5))
  have OW := Lib.hid (own_four (w.alloc (Obj.cells #[.int .i64 (K : Nat), .int .i64 (G : Nat), .int .i64 (M : Nat), .int .i64 (I : Nat), .int .i64 (T : Nat), .int .i64 (S : Nat), .slice Ab nb cb] 93)) (w.heap.size + 1) (w.heap.size + 1) (by simp) (by simp) K)
  have a0 := KP.out.cell 0; have a1 := KP.out.cell 1; have a2 := KP.out.cell 2; have a3 := KP.out.cell 3; have a4 := KP.out.cell 4; have a5 := KP.out.cell 5; have a6 := KP.out.cell 6; simp at a0 a1 a2 a3 a4 a5 a6
  have hal := KP.out.lt
  obtain ⟨i1, hi, hz0, hz1, hz2⟩ := info_parts Tryz.info5
  have HJ := Lib.hid hi; clear hi
  have HY0 := Lib.hid hz0; clear hz0
  have HY1 := Lib.hid hz1; clear hz1
  have HY2 := Lib.hid hz2; clear hz2
  go_enter Tryz.func47, Tryz.ntmps47
  go_wp2_with (first
    | (go_at_call 75; refine (ref_num 4 _ _ (by decide) (by omega)).mono ?_; rintro e w2 ⟨u2, rfl, hnum, hb⟩; obtain ⟨An, cn, rfl, hrd⟩ := own_slice hnum; clear hnum; have OWn := Lib.hid (own_below OW.out hb); clear OW; have OW := OWn; clear OWn; have KPn := Lib.hid (KP.out.below hb KP.out.lt); clear KP a0 a1 a2 a3 a4 a5 a6 hal; have KP := KPn; clear KPn; have a0 := KP.out.cell 0; have a1 := KP.out.cell 1; have a2 := KP.out.cell 2; have a3 := KP.out.cell 3; have a4 := KP.out.cell 4; have a5 := KP.out.cell 5; have a6 := KP.out.cell 6; simp at a0 a1 a2 a3 a4 a5 a6; have hal := KP.out.lt; have HBn := Lib.hid (HB.out.trans (hb.mono HB.out.size)); clear HB; have HB := HBn; clear HBn; have RD := Lib.hid hrd; clear hrd hb)
    | (at_builtin; refine wpList_append_any _ rfl (.tmp 8) (.tmp 12) 31 rfl (w.heap.size + 1) 5 i1 (.int .u8 0) 1 1 Tryz.underlying31 HJ.out HY0.out HY1.out HY2.out rfl (by decide) _ _ _ rfl OW.out _ _ _ _ _ rfl (RD.out) (vals_one _) (by unfold maxLen; omega) (by omega) (by omega) ?_; intro v5 w5 hown5 hg5 _; rw [← vals_append] at hown5; obtain ⟨A5, c5, rfl⟩ := own_form hown5; have KPn := Lib.hid (KP.out.grown hg5 (fun e => own_blk_ne OW.out KP.out (by decide) e.symm)); clear KP a0 a1 a2 a3 a4 a5 a6 hal; have KP := KPn; clear KPn; have a0 := KP.out.cell 0; have a1 := KP.out.cell 1; have a2 := KP.out.cell 2; have a3 := KP.out.cell 3; have a4 := KP.out.cell 4; have a5 := KP.out.cell 5; have a6 := KP.out.cell 6; simp at a0 a1 a2 a3 a4 a5 a6; have hal := KP.out.lt; have HBn := Lib.hid (HB.out.grown hg5 HB.out.size (fun q hq => Nat.le_trans (Nat.le_succ _) (OW.out.lt q hq).1)); clear HB; have HB := HBn; clear HBn OW RD; have OW := Lib.hid hown5; clear hown5 hg5)
    | (at_builtin; refine wpList_append_any _ rfl (.tmp 14) (.tmp 18) 31 rfl (w.heap.size + 1) 5 i1 (.int .u8 0) 1 1 Tryz.underlying31 HJ.out HY0.out HY1.out HY2.out rfl (by decide) _ _ _ rfl OW.out _ _ _ _ _ rfl (RD.out) (vals_one _) (by unfold maxLen; omega) (by omega) (by omega) ?_; intro v5 w5 hown5 hg5 _; rw [← vals_append] at hown5; obtain ⟨A5, c5, rfl⟩ := own_form hown5; have KPn := Lib.hid (KP.out.grown hg5 (fun e => own_blk_ne OW.out KP.out (by decide) e.symm)); clear KP a0 a1 a2 a3 a4 a5 a6 hal; have KP := KPn; clear KPn; have a0 := KP.out.cell 0; have a1 := KP.out.cell 1; have a2 := KP.out.cell 2; have a3 := KP.out.cell 3; have a4 := KP.out.cell 4; have a5 := KP.out.cell 5; have a6 := KP.out.cell 6; simp at a0 a1 a2 a3 a4 a5 a6; have hal := KP.out.lt; have HBn := Lib.hid (HB.out.grown hg5 HB.out.size (fun q hq => Nat.le_trans (Nat.le_succ _) (OW.out.lt q hq).1)); clear HB; have HB := HBn; clear HBn OW RD; have OW := Lib.hid hown5; clear hown5 hg5)
    | (at_builtin; refine wpList_append_any _ rfl (.tmp 20) (.tmp 24) 31 rfl (w.heap.size + 1) 5 i1 (.int .u8 0) 1 1 Tryz.underlying31 HJ.out HY0.out HY1.out HY2.out rfl (by decide) _ _ _ rfl OW.out _ _ _ _ _ rfl (RD.out) (vals_one _) (by unfold maxLen; omega) (by omega) (by omega) ?_; intro v5 w5 hown5 hg5 _; rw [← vals_append] at hown5; obtain ⟨A5, c5, rfl⟩ := own_form hown5; have KPn := Lib.hid (KP.out.grown hg5 (fun e => own_blk_ne OW.out KP.out (by decide) e.symm)); clear KP a0 a1 a2 a3 a4 a5 a6 hal; have KP := KPn; clear KPn; have a0 := KP.out.cell 0; have a1 := KP.out.cell 1; have a2 := KP.out.cell 2; have a3 := KP.out.cell 3; have a4 := KP.out.cell 4; have a5 := KP.out.cell 5; have a6 := KP.out.cell 6; simp at a0 a1 a2 a3 a4 a5 a6; have hal := KP.out.lt; have HBn := Lib.hid (HB.out.grown hg5 HB.out.size (fun q hq => Nat.le_trans (Nat.le_succ _) (OW.out.lt q hq).1)); clear HB; have HB := HBn; clear HBn OW RD; have OW := Lib.hid hown5; clear hown5 hg5)
    | (at_builtin; have OWA := Lib.hid (OW.out.alloc (Obj.cells #[.int .u8 (T : Nat), .int .u8 (S : Nat)] 5)); have KPA := Lib.hid (KP.out.alloc (Obj.cells #[.int .u8 (T : Nat), .int .u8 (S : Nat)] 5)); have HBA := Lib.hid (HB.out.alloc HB.out.size (Obj.cells #[.int .u8 (T : Nat), .int .u8 (S : Nat)] 5)); have hal2 := KPA.out.lt; refine wpList_append_any _ rfl (.tmp 26) (.tmp 33) 31 rfl (w.heap.size + 1) 5 i1 (.int .u8 0) 1 1 Tryz.underlying31 HJ.out HY0.out HY1.out HY2.out rfl (by decide) _ _ _ rfl OWA.out _ _ _ _ _ rfl (reads_two _ _ rfl _ _ T S rfl rfl) (vals_one _) (by unfold maxLen; omega) (by omega) (by omega) ?_; intro v5 w5 hown5 hg5 _; rw [← vals_append] at hown5; obtain ⟨A5, c5, rfl⟩ := own_form hown5; have KPn := Lib.hid (KPA.out.grown hg5 (fun e => own_blk_ne OWA.out KPA.out (by decide) e.symm)); clear KP a0 a1 a2 a3 a4 a5 a6 hal; have KP := KPn; clear KPn; have a0 := KP.out.cell 0; have a1 := KP.out.cell 1; have a2 := KP.out.cell 2; have a3 := KP.out.cell 3; have a4 := KP.out.cell 4; have a5 := KP.out.cell 5; have a6 := KP.out.cell 6; simp at a0 a1 a2 a3 a4 a5 a6; have hal := KP.out.lt; have HBn := Lib.hid (HBA.out.grown hg5 HBA.out.size (fun q hq => Nat.le_trans (Nat.le_succ _) (OWA.out.lt q hq).1)); clear HB; have HB := HBn; clear HBn OW OWA KPA HBA hal2; have OW := Lib.hid hown5; clear hown5 hg5)
    | (go_at_call 76; refine (ref_text (.slice Ab nb cb) b _ ((HV.out.below HB.out (Nat.le_refl _)).more HB.out.size) (by have := HL.out; omega)).mono ?_; rintro e w2 ⟨u2, rfl, hnum, hb⟩; rw [HNB.out] at hnum; obtain ⟨An, cn, rfl, hrd⟩ := own_slice hnum; clear hnum; have OWn := Lib.hid (own_below OW.out hb); clear OW; have OW := OWn; clear OWn; have KPn := Lib.hid (KP.out.below hb KP.out.lt); clear KP a0 a1 a2 a3 a4 a5 a6 hal; have KP := KPn; clear KPn; have a0 := KP.out.cell 0; have a1 := KP.out.cell 1; have a2 := KP.out.cell 2; have a3 := KP.out.cell 3; have a4 := KP.out.cell 4; have a5 := KP.out.cell 5; have a6 := KP.out.cell 6; simp at a0 a1 a2 a3 a4 a5 a6; have hal := KP.out.lt; have HBn := Lib.hid (HB.out.trans (hb.mono HB.out.size)); clear HB; have HB := HBn; clear HBn; have RD := Lib.hid hrd; clear hrd hb)
    | (at_builtin; refine wpList_append_any _ rfl (.tmp 35) (.tmp 38) 31 rfl (w.heap.size + 1) 5 i1 (.int .u8 0) 1 1 Tryz.underlying31 HJ.out HY0.out HY1.out HY2.out rfl (by decide) _ _ _ rfl OW.out _ _ _ _ _ rfl (RD.out) (vals_one _) (by unfold maxLen; omega) (by omega) (by omega) ?_; intro v5 w5 hown5 hg5 _; rw [← vals_append] at hown5; obtain ⟨A5, c5, rfl⟩ := own_form hown5; have KPn := Lib.hid (KP.out.grown hg5 (fun e => own_blk_ne OW.out KP.out (by decide) e.symm)); clear KP a0 a1 a2 a3 a4 a5 a6 hal; have KP := KPn; clear KPn; have a0 := KP.out.cell 0; have a1 := KP.out.cell 1; have a2 := KP.out.cell 2; have a3 := KP.out.cell 3; have a4 := KP.out.cell 4; have a5 := KP.out.cell 5; have a6 := KP.out.cell 6; simp at a0 a1 a2 a3 a4 a5 a6; have hal := KP.out.lt; have HBn := Lib.hid (HB.out.grown hg5 HB.out.size (fun q hq => Nat.le_trans (Nat.le_succ _) (OW.out.lt q hq).1)); clear HB; have HB := HBn; clear HBn OW RD; have OW := Lib.hid hown5; clear hown5 hg5))
  have hlt := body_lt (p := ⟨K, G, M, I, T, S, b⟩) HBL.out
  have hltt := text_lt (p := ⟨K, G, M, I, T, S, b⟩) HBL.out
  have htx := text_length ⟨K, G, M, I, T, S, b⟩
  simp only at htx
  have hn1 := HNB.out
  have how := OW.out
  have e0 : 4 + 4 + 4 + 4 + 2 + (2 + nb) = (P.text ⟨K, G, M, I, T, S, b⟩).length := by omega
  rw [e0] at how ⊢
  rw [← hn1, text_of K G M I T S b hK hT hS] at how
  have OWT := Lib.hid how; clear how OW
  have htl : (P.text ⟨K, G, M, I, T, S, b⟩).length ≤ 508 := by omega
  clear e0 hn1
  have hbd : P.body ⟨K, G, M, I, T, S, b⟩ = P.text ⟨K, G, M, I, T, S, b⟩ ++ List.replicate (508 - (P.text ⟨K, G, M, I, T, S, b⟩).length) 0 := rfl
  generalize P.body ⟨K, G, M, I, T, S, b⟩ = bd at *
  generalize P.text ⟨K, G, M, I, T, S, b⟩ = tx at *
  have HBD := Lib.hid hbd; clear hbd
  have HLT := Lib.hid hlt; clear hlt
  have HLTT := Lib.hid hltt; clear hltt
  clear htx
  generalize htl' : tx.length = tl at *
  have HTL := Lib.hid htl'; clear htl'
  have hz5 : w.heap.size + 1 ≤ w5.heap.size := hal
  clear a0 a1 a2 a3 a4 a5 a6 z0 z1 z2 z3 z4 z5 z6 hal hzl KP KP1
  have h0w := HB.out.size
  go_loopw [3] (fun v wr => ∃ (j : Nat) (A : Option Addr) (n c : Nat), v = .slice A n c ∧ n = tl + j ∧ n ≤ 508 ∧ wr.ownsRow (w.heap.size + 1) 5 1 (.slice A n c) n (vals (tx ++ List.replicate j 0)) ∧ Below w.heap.size w wr ∧ w.heap.size + 1 ≤ wr.heap.size) (fun v _ => match v with | .slice _ n _ => 508 - n | _ => 0)
  case atStart => exact ⟨0, A5, tl, c5, rfl, by omega, htl, by simpa using OWT.out, HB.out, hz5⟩
  case round =>
    obtain ⟨j, A, n, c, rfl, hn, hn8, hown, hbel, hsz⟩ := hrel
    have HN := Lib.hid hn; clear hn
    have OW := Lib.hid hown; clear hown
    have HL2 := Lib.hid hbel; clear hbel
    by_cases hlt : n < 508
    · have OWA := Lib.hid (OW.out.alloc (.cells #[.int .u8 0] 5))
      have hsz2 : w.heap.size + 1 ≤ (wr.alloc (.cells #[.int .u8 0] 5)).heap.size := by simp; omega
      go_wp2_with (at_builtin; refine wpList_append_any _ rfl (.tmp 43) (.tmp 44) 31 rfl (w.heap.size + 1) 5 i1 (.int .u8 0) 1 1 Tryz.underlying31 HJ.out HY0.out HY1.out HY2.out rfl (by decide) _ _ _ rfl OWA.out _ _ _ _ _ rfl (reads_byte wr wr.heap.size rfl 0 0 rfl) (vals_one _) (by unfold maxLen; omega) (by omega) hsz2 ?_; intro v5 w5 hown5 hg5 _; rw [← vals_append] at hown5; obtain ⟨A6, c6, rfl⟩ := own_form hown5; have HB6 := Lib.hid ((HL2.out.alloc HL2.out.size (.cells #[.int .u8 0] 5)).grown hg5 (by simp; omega) (fun q hq => Nat.le_trans (Nat.le_succ _) (OWA.out.lt q hq).1)); have hsz6 := Nat.le_trans hsz2 hg5.size; have OW6 := Lib.hid hown5; clear hown5 hg5)
      go_roundw
      case rel =>
        refine ⟨j + 1, A6, n + 1, c6, rfl, by have := HN.out; omega, by omega, ?_, HB6.out, hsz6⟩
        have h := OW6.out
        rw [List.append_assoc] at h
        rw [List.replicate_succ']
        exact h
      case measure => simp; omega
    · have hd : decide ((n : Int) < 508) = false := by simp; omega
      have hj : 508 - tl = j := by have := HN.out; omega
      have hn2 : n ≤ 2000 := by omega
      clear hlt
      have hb := HBD.out
      rw [hj] at hb
      have how := OW.out
      rw [← hb] at how
      have hs := sl_own how HLT.out (by omega)
      obtain ⟨A', n', c', e', hbt4, _, _, hA4⟩ := id hs
      injection e' with q1 q2 q3
      subst q1 q2 q3
      have SE := Lib.hid (Crc.rseal_any A n c bd wr hn2 hA4 hbt4)
      have hlt5 := Crc.sealed_lt HLT.out
      have HL5 := Lib.hid hlt5; clear hlt5 hs hbt4 hA4 how hb
      go_wp2_with (go_at_call 77; refine (SE.out).mono ?_; rintro e w6 ⟨v6, rfl, hown6, hb6⟩; obtain ⟨A6, c6, rfl⟩ := own_form hown6; have OW6 := Lib.hid hown6; have HB6 := Lib.hid hb6; clear hown6 hb6)
      go_ret
      exact ⟨_, rfl, by rw [HSEC.out]; exact sl_own OW6.out HL5.out (by omega), HL2.out.trans (HB6.out.mono HL2.out.size)⟩
end Go.Proofs.YtnenbocjfekmfaaGreat.Pg
/- The reference's Get (layer 4): the page whose sector any bytes are. -/
namespace Go.Proofs.YtnenbocjfekmfaaGreat.Pg
open Go.RowKit Go.Proofs.YtnenbocjfekmfaaGreat.Mem Go.Proofs.YtnenbocjfekmfaaGreat.Oct
set_option linter.unusedVariables false
set_option linter.unusedSimpArgs false
theorem num_four_of {xs : List Nat} (h : 4 ≤ xs.length) : num (xs.take 4) = xs.getD 0 0 * 16777216 + xs.getD 1 0 * 65536 + xs.getD 2 0 * 256 + xs.getD 3 0 := by
  rw [num_take_succ xs 3 (by omega), num_take_succ xs 2 (by omega), num_take_succ xs 1 (by omega), num_take_succ xs 0 (by omega)]
  simp [num]
  omega
set_option maxRecDepth 20000 in
set_option maxHeartbeats 4000000 in
theorem number_any (A : Option Addr) (n c B : Nat) (xs : List Nat) (w : World) (h : Bts w B A n xs) (h4 : 4 ≤ n) :
    Calls Tryz.prog 103 #[.slice A n c] w fun e w' => e = .returned (.int .i64 (num (xs.take 4) : Nat)) ∧ ∃ m, w' = w.drewN m := by
  have hl := h.1
  rw [num_four_of (by omega)]
  have q0 := getD_lt h.2.1 0
  have q1 := getD_lt h.2.1 1
  have q2 := getD_lt h.2.1 2
  have q3 := getD_lt h.2.1 3
  obtain ⟨b, off, rfl, hb, hc⟩ := h.2.2.2 (by omega)
  have c0 := hc 0 (by omega)
  have c1 := hc 1 (by omega)
  have c2 := hc 2 (by omega)
  have c3 := hc 3 (by omega)
  rw [Nat.add_zero] at c0
  clear hc hl h
  generalize xs.getD 0 0 = x0 at *
  generalize xs.getD 1 0 = x1 at *
  generalize xs.getD 2 0 = x2 at *
  generalize xs.getD 3 0 = x3 at *
  go_enter Tryz.func103, Tryz.ntmps103
  go_wp2
  go_quiet (fail)
  go_wp2
  go_ret
  exact ⟨ret_int (by omega), _, rfl⟩
theorem count_two {xs : List Nat} (h : 20 ≤ xs.length) : count xs = xs.getD 18 0 * 256 + xs.getD 19 0 := by
  unfold count
  rw [num_take_succ (xs.drop 18) 1 (by rw [List.length_drop]; omega), num_take_succ (xs.drop 18) 0 (by rw [List.length_drop]; omega)]
  simp [num, List.getD]
theorem balloc {w w' : World} (h : Below w.heap.size w w') (o : Obj) : Below w.heap.size w (w'.alloc o) := h.alloc h.size o
theorem bdrew {w w' : World} (h : Below w.heap.size w w') : Below w.heap.size w w'.drew := h.drew
theorem bts_drop {w : World} {B n b off : Nat} {xs : List Nat} (h : Bts w B (some ⟨b, off, none⟩) n xs) (i : Nat) (hi : i < n) : Bts w B (some ⟨b, off + i, none⟩) (n - i) (xs.drop i) := by
  obtain ⟨h1, h2, h3, h4⟩ := h
  refine ⟨by rw [List.length_drop]; omega, drop_lt h2 i, by omega, fun _ => ?_⟩
  obtain ⟨b', off', e, hb, hc⟩ := h4 (by omega)
  injection e with e
  injection e with e1 e2 _
  subst e1 e2
  refine ⟨b, off + i, rfl, hb, fun j hj => ?_⟩
  have := hc (i + j) (by omega)
  rw [← Nat.add_assoc] at this
  rw [this]
  simp [List.getD]
theorem lit0 (W : World) (base g : Nat) (h : g = W.heap.size) (hB : base ≤ W.heap.size) : (W.alloc (.cells #[] 5)).ownsRow base 5 1 (.slice (some ⟨g, 0, none⟩) 0 0) 0 [] := by
  subst h
  exact World.ownsRow_lit W #[] 0 hB (by unfold maxLen; omega) rfl
theorem own_al {w : World} {base n : Nat} {v : Value} {xs : List Value} (h : w.ownsRow base 5 1 v n xs) (o : Obj) : (w.alloc o).ownsRow base 5 1 v n xs := h.alloc o
theorem own_dr {w : World} {base n : Nat} {v : Value} {xs : List Value} (h : w.ownsRow base 5 1 v n xs) : w.drew.ownsRow base 5 1 v n xs := h.drew
theorem own_drN {w : World} {base n : Nat} {v : Value} {xs : List Value} (h : w.ownsRow base 5 1 v n xs) (m : Nat) : (w.drewN m).ownsRow base 5 1 v n xs := h
theorem blk_dr {w : World} {g : Nat} {t : TypeId} {cs : Array Value} (h : Blk w g t cs) : Blk w.drew g t cs := h
theorem blk_drN {w : World} {g : Nat} {t : TypeId} {cs : Array Value} (h : Blk w g t cs) (m : Nat) : Blk (w.drewN m) g t cs := h
theorem blk_al {w : World} {g : Nat} {t : TypeId} {cs : Array Value} (h : Blk w g t cs) (o : Obj) : Blk (w.alloc o) g t cs := h.alloc o
theorem blk_nw (W : World) (g : Nat) (t : TypeId) (cs : Array Value) (h : g = W.heap.size) : Blk (W.alloc (.cells cs t)) g t cs := by
  subst h
  exact Blk.new W t cs
theorem set7_keep {w : World} {g b o : Nat} {a c d e f h i : Value} (hb : b < w.heap.size) (hn : b ≠ g) : (((((((w.setCell ⟨g, 0, none⟩ a).setCell ⟨g, 1, none⟩ c).setCell ⟨g, 2, none⟩ d).setCell ⟨g, 3, none⟩ e).setCell ⟨g, 4, none⟩ f).setCell ⟨g, 5, none⟩ h).setCell ⟨g, 6, none⟩ i).cell? ⟨b, o, none⟩ = w.cell? ⟨b, o, none⟩ := World.cell?_of_block ((set7_grown w g a c d e f h i).block b hb (by simpa using hn))
theorem kt_intro {W w5 : World} {row : Option Nat} {g : Nat} {t : TypeId} {cs : Array Value} {G : Prop} (hg : W.grownBy w5 row) (h : Blk W g t cs) (hne : some g ≠ row) (k : Blk w5 g t cs → G) : G := k (h.grown hg hne)
theorem below_of {w W w5 : World} {row : Option Nat} (hg : W.grownBy w5 row) (h : Below w.heap.size w W) : Below w.heap.size w W := h
theorem slice_lo {b off n c i : Nat} (hi : i ≤ n) (hnc : n ≤ c) (hc : i < c) (W : World) : (Instr.slice 31 (.slice (some ⟨b, off, none⟩) n c) (some (.int .i64 (i : Nat))) none none).run Tryz.prog W = .ok (.slice (some ⟨b, off + i, none⟩) (n - i) (c - i)) W := by
  rw [run_slice_l W _ (some ⟨b, off, none⟩) n c under22 .i64 i (by omega) (by omega), size1]
  simp only [Result.andThen, Int.toNat_natCast, sliced, Nat.mul_one, add_plain, Option.map_some]
  rw [if_neg (by omega)]
theorem slice_mid {b off n c i k : Nat} (hik : i ≤ k) (hk : k ≤ n) (hnc : n ≤ c) (hc : i < c) (W : World) : (Instr.slice 31 (.slice (some ⟨b, off, none⟩) n c) (some (.int .i64 (i : Nat))) (some (.int .i64 (k : Nat))) none).run Tryz.prog W = .ok (.slice (some ⟨b, off + i, none⟩) (k - i) (c - i)) W := by
  rw [run_slice_lh W _ (some ⟨b, off, none⟩) n c under22 .i64 .i64 i k (by omega) (by omega) (by omega), size1]
  simp only [Result.andThen, Int.toNat_natCast, sliced, Nat.mul_one, add_plain, Option.map_some]
  rw [if_neg (by omega)]
theorem sb_grownU {W W' : World} {m g : Nat} {v : Value} {ys : List Nat} (h : Sb W W.heap.size v ys) (hn : NoU8 W g) (hg : (W.drewN m).grownBy W' (some g)) : Sb W' W'.heap.size v ys := by
  obtain ⟨A, k, c, e, hb⟩ := h
  have hb2 : Bts (W.drewN m) W.heap.size A k ys := hb
  exact ⟨A, k, c, e, (bts_grownU hb2 hn hg).more hg.size⟩
theorem one_at {xs : List Nat} {i : Nat} (h : i < xs.length) : num ((xs.drop i).take 1) = xs.getD i 0 := by
  rw [num_take_succ (xs.drop i) 0 (by rw [List.length_drop]; omega)]
  simp [num, List.getD]
def RR (w : World) (base : Nat) (x3 g4 g8 g12 x16 x17 : Nat) (xs : List Nat) (cn : Nat) (s : Value) (wx : World) : Prop :=
  ∃ (g : Nat) (A5 : Option Addr) (c5 : Nat), s = .pointer (some ⟨g, 0, none⟩) ∧ Blk wx g 93 #[.int .i64 (x3 : Nat), .int .i64 (g4 : Nat), .int .i64 (g8 : Nat), .int .i64 (g12 : Nat), .int .i64 (x16 : Nat), .int .i64 (x17 : Nat), .slice A5 cn c5] ∧
    wx.ownsRow base 5 1 (.slice A5 cn c5) cn (vals ((xs.drop 20).take cn)) ∧ Blk wx w.heap.size 93 #[.int .i64 0, .int .i64 0, .int .i64 0, .int .i64 0, .int .i64 0, .int .i64 0, .slice none 0 0] ∧ Below w.heap.size w wx ∧ w.heap.size < g
theorem set7_blk {W : World} {g : Nat} {a b c d e f h : Value} (k : Blk W g 93 #[.int .i64 0, .int .i64 0, .int .i64 0, .int .i64 0, .int .i64 0, .int .i64 0, .slice none 0 0]) : Blk (((((((W.setCell ⟨g, 0, none⟩ a).setCell ⟨g, 1, none⟩ b).setCell ⟨g, 2, none⟩ c).setCell ⟨g, 3, none⟩ d).setCell ⟨g, 4, none⟩ e).setCell ⟨g, 5, none⟩ f).setCell ⟨g, 6, none⟩ h) g 93 #[a, b, c, d, e, f, h] := by
  have h9 := ((((((k.set_ 0 a).set_ 1 b).set_ 2 c).set_ 3 d).set_ 4 e).set_ 5 f).set_ 6 h
  simpa using h9
theorem rr_set {w W : World} {base g x3 g4 g8 g12 x16 x17 cn c5 : Nat} {A5 : Option Addr} {xs : List Nat} (k : Blk W g 93 #[.int .i64 0, .int .i64 0, .int .i64 0, .int .i64 0, .int .i64 0, .int .i64 0, .slice none 0 0]) (ho : W.ownsRow base 5 1 (.slice A5 cn c5) cn (vals ((xs.drop 20).take cn)))
    (hp : Blk W w.heap.size 93 #[.int .i64 0, .int .i64 0, .int .i64 0, .int .i64 0, .int .i64 0, .int .i64 0, .slice none 0 0]) (hb : Below w.heap.size w W) (hg : w.heap.size < g) :
    RR w base x3 g4 g8 g12 x16 x17 xs cn (.pointer (some ⟨g, 0, none⟩)) (((((((W.setCell ⟨g, 0, none⟩ (.int .i64 (x3 : Nat))).setCell ⟨g, 1, none⟩ (.int .i64 (g4 : Nat))).setCell ⟨g, 2, none⟩ (.int .i64 (g8 : Nat))).setCell ⟨g, 3, none⟩ (.int .i64 (g12 : Nat))).setCell ⟨g, 4, none⟩ (.int .i64 (x16 : Nat))).setCell ⟨g, 5, none⟩ (.int .i64 (x17 : Nat))).setCell ⟨g, 6, none⟩ (.slice A5 cn c5)) :=
  have hgr := set7_grown W g (.int .i64 (x3 : Nat)) (.int .i64 (g4 : Nat)) (.int .i64 (g8 : Nat)) (.int .i64 (g12 : Nat)) (.int .i64 (x16 : Nat)) (.int .i64 (x17 : Nat)) (.slice A5 cn c5)
  ⟨g, A5, c5, rfl, set7_blk k, ho.kept hgr (.inr (own_blk_ne ho k (by decide))), hp.grown hgr (by simp; omega), hb.grown hgr hb.size (fun q hq => by cases hq; omega), hg⟩
theorem rr_new {w W : World} {base x3 g4 g8 g12 x16 x17 cn c5 g : Nat} {A5 : Option Addr} {xs : List Nat} (ho : W.ownsRow base 5 1 (.slice A5 cn c5) cn (vals ((xs.drop 20).take cn)))
    (hp : Blk W w.heap.size 93 #[.int .i64 0, .int .i64 0, .int .i64 0, .int .i64 0, .int .i64 0, .int .i64 0, .slice none 0 0]) (hb : Below w.heap.size w W) (hg : g = W.heap.size) :
    RR w base x3 g4 g8 g12 x16 x17 xs cn (.pointer (some ⟨g, 0, none⟩)) (W.alloc (.cells #[.int .i64 (x3 : Nat), .int .i64 (g4 : Nat), .int .i64 (g8 : Nat), .int .i64 (g12 : Nat), .int .i64 (x16 : Nat), .int .i64 (x17 : Nat), .slice A5 cn c5] 93)) := by
  subst hg
  exact ⟨W.heap.size, A5, c5, rfl, Blk.new W _ _, ho.alloc _, hp.alloc _, hb.alloc hb.size _, hp.lt⟩
set_option maxRecDepth 20000 in
set_option maxHeartbeats 32000000 in
theorem rget_in (A : Option Addr) (n c : Nat) (xs : List Nat) (w : World) (h : Bts w w.heap.size A n xs) (hnc : n ≤ c) (hcm : c ≤ maxLen) (hn1 : n ≤ 512) (hn2 : 512 ≤ n) (hcn : count xs ≤ 488) :
    Calls Tryz.prog 72 #[.slice A n c] w fun e w' => ∃ v', e = .returned (.tuple #[v', .bool (got xs).isSome]) ∧ PgAt w' w'.heap.size v' ((got xs).getD zeroP) ∧ Below w.heap.size w w' := by
  have hl := h.1
  have hd : ((n : Int) != 512) = false := by rw [show n = 512 by omega]; rfl
  have hcc := count_two (xs := xs) (by omega)
  have hdec : decode xs = ⟨(xs.getD 3 0 : Nat), (num ((xs.drop 4).take 4) : Nat), (num ((xs.drop 8).take 4) : Nat), (num ((xs.drop 12).take 4) : Nat), (xs.getD 16 0 : Nat), (xs.getD 17 0 : Nat), (xs.drop 20).take (count xs)⟩ := by
    unfold decode count
    rw [one_at (by omega), one_at (by omega), one_at (by omega)]
  have hgot := got_place (b := xs) (by omega) hcn
  rw [hdec] at hgot
  clear hdec
  generalize count xs = cn at *
  have y3 := getD_lt h.2.1 3
  have y16 := getD_lt h.2.1 16
  have y17 := getD_lt h.2.1 17
  have y18 := getD_lt h.2.1 18
  have y19 := getD_lt h.2.1 19
  have hH := h
  obtain ⟨b, off, rfl, hb, hc⟩ := h.2.2.2 (by omega)
  have h4 := bts_drop hH 4 (by omega)
  have h8 := bts_drop hH 8 (by omega)
  have h12 := bts_drop hH 12 (by omega)
  have hb0 := (Below.refl w.heap.size w).alloc (Nat.le_refl _) (Obj.cells #[.int .i64 0, .int .i64 0, .int .i64 0, .int .i64 0, .int .i64 0, .int .i64 0, .slice none 0 0] 93)
  have hcc' := fun i (hi : i < n) => (hb0.cell (p := ⟨b, off + i, none⟩) hb).trans (hc i hi)
  have c3 := hcc' 3 (by omega)
  have c16 := hcc' 16 (by omega)
  have c17 := hcc' 17 (by omega)
  have c18 := hcc' 18 (by omega)
  have c19 := hcc' 19 (by omega)
  have kw3 := hc 3 (by omega)
  have kw16 := hc 16 (by omega)
  have kw17 := hc 17 (by omega)
  clear hc hcc' h
  generalize xs.getD 3 0 = x3 at *
  generalize xs.getD 16 0 = x16 at *
  generalize xs.getD 17 0 = x17 at *
  generalize xs.getD 18 0 = x18 at *
  generalize xs.getD 19 0 = x19 at *
  have hcv : (x18 : Int) * 256 + (x19 : Int) = (cn : Int) := by omega
  have hdc : decide (488 < (cn : Int)) = false := by simp; omega
  have n4 := fun (W : World) (hW : Below w.heap.size w W) => number_any (some ⟨b, off + 4, none⟩) (n - 4) (c - 4) _ (xs.drop 4) W (h4.below hW (Nat.le_refl _)) (by omega)
  have n8 := fun (W : World) (hW : Below w.heap.size w W) => number_any (some ⟨b, off + 8, none⟩) (n - 8) (c - 8) _ (xs.drop 8) W (h8.below hW (Nat.le_refl _)) (by omega)
  have n12 := fun (W : World) (hW : Below w.heap.size w W) => number_any (some ⟨b, off + 12, none⟩) (n - 12) (c - 12) _ (xs.drop 12) W (h12.below hW (Nat.le_refl _)) (by omega)
  have l4 : num ((xs.drop 4).take 4) < 4294967296 := by
    have h1 := num_lt ((xs.drop 4).take 4) (take_lt (drop_lt hH.2.1 4) 4)
    rw [show ((xs.drop 4).take 4).length = 4 by simp; omega] at h1
    exact h1
  have l8 : num ((xs.drop 8).take 4) < 4294967296 := by
    have h1 := num_lt ((xs.drop 8).take 4) (take_lt (drop_lt hH.2.1 8) 4)
    rw [show ((xs.drop 8).take 4).length = 4 by simp; omega] at h1
    exact h1
  have l12 : num ((xs.drop 12).take 4) < 4294967296 := by
    have h1 := num_lt ((xs.drop 12).take 4) (take_lt (drop_lt hH.2.1 12) 4)
    rw [show ((xs.drop 12).take 4).length = 4 by simp; omega] at h1
    exact h1
  generalize num ((xs.drop 4).take 4) = g4 at *
  generalize num ((xs.drop 8).take 4) = g8 at *
  generalize num ((xs.drop 12).take 4) = g12 at *
  have h20 : Bts w w.heap.size (some ⟨b, off + 20, none⟩) cn ((xs.drop 20).take cn) := (bts_drop hH 20 (by omega)).take (by omega)
  have H20 := Lib.hid h20; clear h20
  have KP0 := Lib.hid (Blk.new w 93 #[.int .i64 0, .int .i64 0, .int .i64 0, .int .i64 0, .int .i64 0, .int .i64 0, .slice none 0 0])
  obtain ⟨i1, hi, hz0, hz1, hz2⟩ := info_parts Tryz.info5
  have HJ := Lib.hid hi; clear hi
  have HY0 := Lib.hid hz0; clear hz0
  have HY1 := Lib.hid hz1; clear hz1
  have HY2 := Lib.hid hz2; clear hz2
  have N4 := Lib.hid n4; clear n4
  have N8 := Lib.hid n8; clear n8
  have N12 := Lib.hid n12; clear n12
  have HB0 := Lib.hid hb0; clear hb0
  have HCC := Lib.hid hcc; clear hcc
  have HGOT := Lib.hid hgot; clear hgot
  obtain ⟨gb, hgb⟩ : ∃ gb, gb = (got xs).isSome := ⟨_, rfl⟩
  obtain ⟨gp, hgp⟩ : ∃ gp, gp = (got xs).getD zeroP := ⟨_, rfl⟩
  rw [← hgb, ← hgp]
  have HGB := Lib.hid hgb; clear hgb
  have HGP := Lib.hid hgp; clear hgp
  go_enter Tryz.func72, Tryz.ntmps72
  go_wp2
  go_quiet (fail)
  go_wp2
  generalize hw1 : World.drewN (w.alloc (Obj.cells #[.int .i64 0, .int .i64 0, .int .i64 0, .int .i64 0, .int .i64 0, .int .i64 0, .slice none 0 0] 93)) _ = w1
  have HB1 := Lib.hid (show Below w.heap.size w w1 by rw [← hw1]; exact below_drewN HB0.out _)
  have k3 : w1.cell? ⟨b, off + 3, none⟩ = some (.int .u8 (x3 : Nat)) := by rw [← hw1]; exact c3
  have k16 : w1.cell? ⟨b, off + 16, none⟩ = some (.int .u8 (x16 : Nat)) := by rw [← hw1]; exact c16
  have k17 : w1.cell? ⟨b, off + 17, none⟩ = some (.int .u8 (x17 : Nat)) := by rw [← hw1]; exact c17
  have KP1 := Lib.hid (show Blk w1 w.heap.size 93 #[.int .i64 0, .int .i64 0, .int .i64 0, .int .i64 0, .int .i64 0, .int .i64 0, .slice none 0 0] by rw [← hw1]; exact KP0.out)
  have hw1s : w.heap.size < w1.heap.size := KP1.out.lt
  have hsub : 20 + cn - 20 = cn := by omega
  have hq1 : b ≠ w1.heap.size := by omega
  have hq2 : b ≠ w1.heap.size + 1 := by omega
  have b3 : 3 < n := by omega
  have b16 : 16 < n := by omega
  have b17 : 17 < n := by omega
  have b4 : 4 ≤ n := by omega
  have b8 : 8 ≤ n := by omega
  have b12 : 12 ≤ n := by omega
  have b20 : 20 + cn ≤ c := by omega
  have b21 : 20 ≤ 20 + cn := by omega
  have sl4 : ∀ W, (Instr.slice 31 (.slice (some ⟨b, off, none⟩) n c) (some (.int .i64 4)) none none).run Tryz.prog W = .ok (.slice (some ⟨b, off + 4, none⟩) (n - 4) (c - 4)) W := fun W => slice_lo (i := 4) (by omega) hnc (by omega) W
  have sl8 : ∀ W, (Instr.slice 31 (.slice (some ⟨b, off, none⟩) n c) (some (.int .i64 8)) none none).run Tryz.prog W = .ok (.slice (some ⟨b, off + 8, none⟩) (n - 8) (c - 8)) W := fun W => slice_lo (i := 8) (by omega) hnc (by omega) W
  have sl12 : ∀ W, (Instr.slice 31 (.slice (some ⟨b, off, none⟩) n c) (some (.int .i64 12)) none none).run Tryz.prog W = .ok (.slice (some ⟨b, off + 12, none⟩) (n - 12) (c - 12)) W := fun W => slice_lo (i := 12) (by omega) hnc (by omega) W
  have sl20 : ∀ W, (Instr.slice 31 (.slice (some ⟨b, off, none⟩) n c) (some (.int .i64 20)) (some (.int .i64 (20 + (cn : Int)))) none).run Tryz.prog W = .ok (.slice (some ⟨b, off + 20, none⟩) cn (c - 20)) W := fun W => by
    have h9 := slice_mid (b := b) (off := off) (n := n) (c := c) (i := 20) (k := 20 + cn) (by omega) (by omega) hnc (by omega) W
    rw [show 20 + cn - 20 = cn by omega] at h9
    exact h9
  have wr20 : IntKind.i64.wrap (20 + (cn : Int)) = 20 + cn := by rw [IntKind.wrap_i64]; omega
  have j3 : (3 : Int) < (n : Int) := by omega
  have wx3 : IntKind.i64.wrap ((x3 : Nat) : Int) = x3 := by rw [IntKind.wrap_i64]; omega
  have wx16 : IntKind.i64.wrap ((x16 : Nat) : Int) = x16 := by rw [IntKind.wrap_i64]; omega
  have wx17 : IntKind.i64.wrap ((x17 : Nat) : Int) = x17 := by rw [IntKind.wrap_i64]; omega
  have j16 : (16 : Int) < (n : Int) := by omega
  have j17 : (17 : Int) < (n : Int) := by omega
  clear hw1 c3 c16 c17 c18 c19
  go_cut [5] from 23 to 50 (fun s5 wx => RR w w1.heap.size x3 g4 g8 g12 x16 x17 xs cn s5 wx)
  case first =>
    go_region_held3 (fun W => W.cell? ⟨b, off + 3, none⟩ = some (.int .u8 (x3 : Nat)) ∧ W.cell? ⟨b, off + 16, none⟩ = some (.int .u8 (x16 : Nat)) ∧ W.cell? ⟨b, off + 17, none⟩ = some (.int .u8 (x17 : Nat)))
      (first
        | with_reducible exact ⟨k3, k16, k17⟩
        | with_reducible exact ⟨m3, m16, m17⟩
        | with_reducible exact ⟨(set7_keep hb5 hq1).trans m3, (set7_keep hb5 hq1).trans m16, (set7_keep hb5 hq1).trans m17⟩
        | with_reducible exact ⟨(set7_keep hb5 hq2).trans m3, (set7_keep hb5 hq2).trans m16, (set7_keep hb5 hq2).trans m17⟩
        | go_keep)
      (first
        | (go_at_call 103; first
          | (with_reducible refine (N4.out _ (by first | exact HB1.out | exact bdrew HB1.out | (repeat (first | exact HB1.out | refine below_drewN ?_ _ | refine bdrew ?_ | refine balloc ?_ _)))).mono ?_; rintro e w' ⟨rfl, m, rfl⟩)
          | (with_reducible refine (N8.out _ (by first | exact HB1.out | exact bdrew HB1.out | (repeat (first | exact HB1.out | refine below_drewN ?_ _ | refine bdrew ?_ | refine balloc ?_ _)))).mono ?_; rintro e w' ⟨rfl, m, rfl⟩)
          | (with_reducible refine (N12.out _ (by first | exact HB1.out | exact bdrew HB1.out | (repeat (first | exact HB1.out | refine below_drewN ?_ _ | refine bdrew ?_ | refine balloc ?_ _)))).mono ?_; rintro e w' ⟨rfl, m, rfl⟩))
        | (refine step_append_any _ rfl (.tmp 44) (.tmp 48) 31 rfl w1.heap.size 5 i1 (.int .u8 0) 1 1 Tryz.underlying31 HJ.out HY0.out HY1.out HY2.out rfl (by decide) (.slice (some ⟨_, 0, none⟩) 0 0) 0 [] rfl ?own w.heap.size (some ⟨b, off + 20, none⟩) cn (c - 20) (vals ((xs.drop 20).take cn)) ?hx (Bts.reads (Bts.below H20.out ?bw (Nat.le_refl _))) (vals_one _) ?h63 ?hby ?hbase ?_; (case own => with_reducible repeat (first | exact lit0 _ _ _ (by simp <;> omega) (by simp <;> omega) | refine own_drN ?_ _ | refine own_dr ?_ | refine own_al ?_ _)); (case bw => with_reducible repeat (first | exact HB1.out | refine below_drewN ?_ _ | refine bdrew ?_ | refine balloc ?_ _)); (case hx => first | rfl | (show Value.slice _ _ _ = _; rw [hsub])); (case h63 => unfold maxLen; omega); (case hby => omega); (case hbase => (simp <;> omega)); intro v5 w5 hown5 hg5 _; (first | (refine kt_intro hg5 ?kk ?ne (g := w1.heap.size) (t := 93) (cs := #[.int .i64 0, .int .i64 0, .int .i64 0, .int .i64 0, .int .i64 0, .int .i64 0, .slice none 0 0]) ?_; (case ne => (first | (simp only [Value.ownBlock, ne_eq, Option.some.injEq]; omega) | (simp [Value.ownBlock]; done) | (simp [Value.ownBlock]; omega))); (case kk => ((repeat (first | (with_reducible refine blk_nw _ _ _ _ ?_; first | (simp; done) | (simp; omega)) | with_reducible refine blk_al ?_ _ | with_reducible refine blk_dr ?_ | with_reducible refine blk_drN ?_ _)); done)); intro kt5; have KT5 := Lib.hid kt5; clear kt5; have t_0 := KT5.out.cell 0; have t_1 := KT5.out.cell 1; have t_2 := KT5.out.cell 2; have t_3 := KT5.out.cell 3; have t_4 := KT5.out.cell 4; have t_5 := KT5.out.cell 5; have t_6 := KT5.out.cell 6; simp at t_0 t_1 t_2 t_3 t_4 t_5 t_6; have tf_0 := KT5.out.frozen 0; have tf_1 := KT5.out.frozen 1; have tf_2 := KT5.out.frozen 2; have tf_3 := KT5.out.frozen 3; have tf_4 := KT5.out.frozen 4; have tf_5 := KT5.out.frozen 5; have tf_6 := KT5.out.frozen 6; have t_l := KT5.out.lt) | (refine kt_intro hg5 ?kk ?ne (g := w1.heap.size + 1) (t := 93) (cs := #[.int .i64 0, .int .i64 0, .int .i64 0, .int .i64 0, .int .i64 0, .int .i64 0, .slice none 0 0]) ?_; (case ne => (first | (simp only [Value.ownBlock, ne_eq, Option.some.injEq]; omega) | (simp [Value.ownBlock]; done) | (simp [Value.ownBlock]; omega))); (case kk => ((repeat (first | (with_reducible refine blk_nw _ _ _ _ ?_; first | (simp; done) | (simp; omega)) | with_reducible refine blk_al ?_ _ | with_reducible refine blk_dr ?_ | with_reducible refine blk_drN ?_ _)); done)); intro kt5; have KT5 := Lib.hid kt5; clear kt5; have t_0 := KT5.out.cell 0; have t_1 := KT5.out.cell 1; have t_2 := KT5.out.cell 2; have t_3 := KT5.out.cell 3; have t_4 := KT5.out.cell 4; have t_5 := KT5.out.cell 5; have t_6 := KT5.out.cell 6; simp at t_0 t_1 t_2 t_3 t_4 t_5 t_6; have tf_0 := KT5.out.frozen 0; have tf_1 := KT5.out.frozen 1; have tf_2 := KT5.out.frozen 2; have tf_3 := KT5.out.frozen 3; have tf_4 := KT5.out.frozen 4; have tf_5 := KT5.out.frozen 5; have tf_6 := KT5.out.frozen 6; have t_l := KT5.out.lt) | skip); rw [Nat.zero_add, List.nil_append] at hown5; obtain ⟨A5, c5, rfl⟩ := own_form hown5; have hbw := below_of hg5 (w := w) (by with_reducible repeat (first | exact HB1.out | refine below_drewN ?_ _ | refine bdrew ?_ | refine balloc ?_ _)); have HB5 := Lib.hid (hbw.grown hg5 hbw.size (fun q hq => by simp [Value.ownBlock] at hq; omega)); have kp5 : Blk w5 w.heap.size 93 #[.int .i64 0, .int .i64 0, .int .i64 0, .int .i64 0, .int .i64 0, .int .i64 0, .slice none 0 0] := (Blk.grown (by with_reducible repeat (first | exact KP1.out | refine blk_drN ?_ _ | refine blk_dr ?_ | refine blk_al ?_ _)) hg5 (by simp [Value.ownBlock]; omega)); have KP5 := Lib.hid kp5; clear kp5; have OW5 := Lib.hid hown5; have m3 := (HB5.out.cell (p := ⟨b, off + 3, none⟩) hb).trans kw3; have m16 := (HB5.out.cell (p := ⟨b, off + 16, none⟩) hb).trans kw16; have m17 := (HB5.out.cell (p := ⟨b, off + 17, none⟩) hb).trans kw17; have hb5 := Nat.lt_of_lt_of_le hb HB5.out.size; clear hown5 hg5 hbw))
    all_goals
      go_wp2_with fail
      go_meet
      case rel =>
        first
          | (with_reducible refine rr_new OW5.out KP5.out HB5.out ?_; rfl)
          | (with_reducible refine rr_set KT5.out OW5.out KP5.out HB5.out ?_; omega)
  case rest =>
    obtain ⟨g, A5, c5, rfl, hblk, hown, hkp, hbel, hgg⟩ := hcut
    have hx20 : ∀ x ∈ (xs.drop 20).take cn, x < 256 := fun x hx => hH.2.1 x (List.mem_of_mem_drop (List.mem_of_mem_take hx))
    have hsl := sl_own hown hx20 (by omega)
    have HSL := Lib.hid hsl; clear hsl hown hx20
    have KQ := Lib.hid hblk; clear hblk
    have KP := Lib.hid hkp; clear hkp
    have HB := Lib.hid hbel; clear hbel
    have hzl := KQ.out.lt
    have hpl := KP.out.lt
    have z_0 := KQ.out.cell 0
    have z_1 := KQ.out.cell 1
    have z_2 := KQ.out.cell 2
    have z_3 := KQ.out.cell 3
    have z_4 := KQ.out.cell 4
    have z_5 := KQ.out.cell 5
    have z_6 := KQ.out.cell 6
    simp at z_0 z_1 z_2 z_3 z_4 z_5 z_6
    clear k3 k16 k17 sl4 sl8 sl12 sl20 wr20 N4 N8 N12 H20 HB0 KP0 KP1 HB1 HCC
    have HH := Lib.hid hH; clear hH
    cases hm : (P.mk (x3 : Nat) (g4 : Nat) (g8 : Nat) (g12 : Nat) (x16 : Nat) (x17 : Nat) ((xs.drop 20).take cn)).may
    · have hn : got xs = none := by rw [HGOT.out, hm, if_neg (by simp)]
      have o1 : gb = false := by rw [HGB.out, hn]; rfl
      have o2 : gp = zeroP := by rw [HGP.out, hn]; rfl
      have O1 := Lib.hid o1; clear o1
      have O2 := Lib.hid o2; clear o2 hn
      go_wp2_with (first
        | (go_at_call 104; refine (may_any ⟨(x3 : Nat), (g4 : Nat), (g8 : Nat), (g12 : Nat), (x16 : Nat), (x17 : Nat), (xs.drop 20).take cn⟩ (.slice A5 cn c5) _ (sb_of HSL.out)).mono ?_; rintro e w3 ⟨rfl, hb3⟩; rw [hm]; have HB3 := Lib.hid (HB.out.trans (hb3.mono HB.out.size)); have KP3 := Lib.hid (KP.out.below hb3 hpl); have hp3 := KP3.out.lt; have KQ3 := Lib.hid (KQ.out.below hb3 hzl); have hz3 := KQ3.out.lt; have HSL3 := Lib.hid ((HSL.out.below hb3 (Nat.le_refl _)).more hb3.size); have a_0 := KP3.out.cell 0; have a_1 := KP3.out.cell 1; have a_2 := KP3.out.cell 2; have a_3 := KP3.out.cell 3; have a_4 := KP3.out.cell 4; have a_5 := KP3.out.cell 5; have a_6 := KP3.out.cell 6; simp at a_0 a_1 a_2 a_3 a_4 a_5 a_6; have f_0 := KP3.out.frozen 0; have f_1 := KP3.out.frozen 1; have f_2 := KP3.out.frozen 2; have f_3 := KP3.out.frozen 3; have f_4 := KP3.out.frozen 4; have f_5 := KP3.out.frozen 5; have f_6 := KP3.out.frozen 6; clear hb3))
      have o1 := O1.out
      have o2 := O2.out
      have hgr := set7_grown w3 w.heap.size (.int .i64 0) (.int .i64 0) (.int .i64 0) (.int .i64 0) (.int .i64 0) (.int .i64 0) (.slice none 0 0)
      rw [o1, o2]
      refine bodyPost_ret (v := .tuple #[.agg #[.int .i64 0, .int .i64 0, .int .i64 0, .int .i64 0, .int .i64 0, .int .i64 0, .slice none 0 0], .bool false]) ?_ rfl ⟨_, rfl, ⟨.slice none 0 0, rfl, sb_of (sl_nil _ _)⟩, ?_⟩
      · simp [results, Tryz.results72, go_sem, a_0, a_1, a_2, a_3, a_4, a_5, a_6, hp3]
      · exact HB3.out.grown hgr HB3.out.size (fun q hq => by cases hq; exact Nat.le_refl _)
    · cases hs : decide ((P.mk (x3 : Nat) (g4 : Nat) (g8 : Nat) (g12 : Nat) (x16 : Nat) (x17 : Nat) ((xs.drop 20).take cn)).sector = xs)
      · have hn : got xs = none := by rw [HGOT.out, if_neg (fun h => absurd (decide_eq_true h.2) (by rw [hs]; simp))]
        have o1 : gb = false := by rw [HGB.out, hn]; rfl
        have o2 : gp = zeroP := by rw [HGP.out, hn]; rfl
        have O1 := Lib.hid o1; clear o1
        have O2 := Lib.hid o2; clear o2 hn
        go_wp2_with (first
          | (go_at_call 104; refine (may_any ⟨(x3 : Nat), (g4 : Nat), (g8 : Nat), (g12 : Nat), (x16 : Nat), (x17 : Nat), (xs.drop 20).take cn⟩ (.slice A5 cn c5) _ (sb_of HSL.out)).mono ?_; rintro e w3 ⟨rfl, hb3⟩; rw [hm]; have HB3 := Lib.hid (HB.out.trans (hb3.mono HB.out.size)); have KP3 := Lib.hid (KP.out.below hb3 hpl); have hp3 := KP3.out.lt; have KQ3 := Lib.hid (KQ.out.below hb3 hzl); have hz3 := KQ3.out.lt; have HSL3 := Lib.hid ((HSL.out.below hb3 (Nat.le_refl _)).more hb3.size); have y_0 := KQ3.out.cell 0; have y_1 := KQ3.out.cell 1; have y_2 := KQ3.out.cell 2; have y_3 := KQ3.out.cell 3; have y_4 := KQ3.out.cell 4; have y_5 := KQ3.out.cell 5; have y_6 := KQ3.out.cell 6; simp at y_0 y_1 y_2 y_3 y_4 y_5 y_6; clear hb3)
          | (go_at_call 47; refine (ref_put ⟨(x3 : Nat), (g4 : Nat), (g8 : Nat), (g12 : Nat), (x16 : Nat), (x17 : Nat), (xs.drop 20).take cn⟩ (.slice A5 cn c5) _ ((may_iff _).1 hm) HSL3.out).mono ?_; rintro e w4 ⟨v4, rfl, hs4, hb4⟩; obtain ⟨A6, n6, c6, rfl, hbt6, _⟩ := hs4; have HS6 := Lib.hid hbt6; have HB4 := Lib.hid (HB3.out.trans (hb4.mono HB3.out.size)); have KP4 := Lib.hid (KP3.out.below hb4 hp3); have hp4 := KP4.out.lt; have KQ4 := Lib.hid (KQ3.out.below hb4 hz3); have hz4 := KQ4.out.lt; have HSL4 := Lib.hid ((HSL3.out.below hb4 (Nat.le_refl _)).more hb4.size); have a_0 := KP4.out.cell 0; have a_1 := KP4.out.cell 1; have a_2 := KP4.out.cell 2; have a_3 := KP4.out.cell 3; have a_4 := KP4.out.cell 4; have a_5 := KP4.out.cell 5; have a_6 := KP4.out.cell 6; simp at a_0 a_1 a_2 a_3 a_4 a_5 a_6; have f_0 := KP4.out.frozen 0; have f_1 := KP4.out.frozen 1; have f_2 := KP4.out.frozen 2; have f_3 := KP4.out.frozen 3; have f_4 := KP4.out.frozen 4; have f_5 := KP4.out.frozen 5; have f_6 := KP4.out.frozen 6; have y_0 := KQ4.out.cell 0; have y_1 := KQ4.out.cell 1; have y_2 := KQ4.out.cell 2; have y_3 := KQ4.out.cell 3; have y_4 := KQ4.out.cell 4; have y_5 := KQ4.out.cell 5; have y_6 := KQ4.out.cell 6; simp at y_0 y_1 y_2 y_3 y_4 y_5 y_6; clear hb4 hbt6)
          | (go_at_call 21; refine (rsame_any A6 (some ⟨b, off, none⟩) n6 n c6 c _ _ (P.mk (x3 : Nat) (g4 : Nat) (g8 : Nat) (g12 : Nat) (x16 : Nat) (x17 : Nat) ((xs.drop 20).take cn)).sector xs _ HS6.out (HH.out.below HB4.out (Nat.le_refl _))).mono ?_; rintro e w5 ⟨rfl, m5, rfl⟩; rw [hs]))
        have o1 := O1.out
        have o2 := O2.out
        have hgr := set7_grown (World.drewN w4 m5) w.heap.size (.int .i64 0) (.int .i64 0) (.int .i64 0) (.int .i64 0) (.int .i64 0) (.int .i64 0) (.slice none 0 0)
        rw [o1, o2]
        refine bodyPost_ret (v := .tuple #[.agg #[.int .i64 0, .int .i64 0, .int .i64 0, .int .i64 0, .int .i64 0, .int .i64 0, .slice none 0 0], .bool false]) ?_ rfl ⟨_, rfl, ⟨.slice none 0 0, rfl, sb_of (sl_nil _ _)⟩, ?_⟩
        · simp [results, Tryz.results72, go_sem, a_0, a_1, a_2, a_3, a_4, a_5, a_6, hp4]
        · exact (below_drewN HB4.out m5).grown hgr (below_drewN HB4.out m5).size (fun q hq => by cases hq; exact Nat.le_refl _)
      · have hn : got xs = some (P.mk (x3 : Nat) (g4 : Nat) (g8 : Nat) (g12 : Nat) (x16 : Nat) (x17 : Nat) ((xs.drop 20).take cn)) := by rw [HGOT.out, if_pos ⟨hm, of_decide_eq_true hs⟩]
        have o1 : gb = true := by rw [HGB.out, hn]; rfl
        have o2 : gp = (P.mk (x3 : Nat) (g4 : Nat) (g8 : Nat) (g12 : Nat) (x16 : Nat) (x17 : Nat) ((xs.drop 20).take cn)) := by rw [HGP.out, hn]; rfl
        have O1 := Lib.hid o1; clear o1
        have O2 := Lib.hid o2; clear o2 hn
        go_wp2_with (first
          | (go_at_call 104; refine (may_any ⟨(x3 : Nat), (g4 : Nat), (g8 : Nat), (g12 : Nat), (x16 : Nat), (x17 : Nat), (xs.drop 20).take cn⟩ (.slice A5 cn c5) _ (sb_of HSL.out)).mono ?_; rintro e w3 ⟨rfl, hb3⟩; rw [hm]; have HB3 := Lib.hid (HB.out.trans (hb3.mono HB.out.size)); have KP3 := Lib.hid (KP.out.below hb3 hpl); have hp3 := KP3.out.lt; have KQ3 := Lib.hid (KQ.out.below hb3 hzl); have hz3 := KQ3.out.lt; have HSL3 := Lib.hid ((HSL.out.below hb3 (Nat.le_refl _)).more hb3.size); have y_0 := KQ3.out.cell 0; have y_1 := KQ3.out.cell 1; have y_2 := KQ3.out.cell 2; have y_3 := KQ3.out.cell 3; have y_4 := KQ3.out.cell 4; have y_5 := KQ3.out.cell 5; have y_6 := KQ3.out.cell 6; simp at y_0 y_1 y_2 y_3 y_4 y_5 y_6; clear hb3)
          | (go_at_call 47; refine (ref_put ⟨(x3 : Nat), (g4 : Nat), (g8 : Nat), (g12 : Nat), (x16 : Nat), (x17 : Nat), (xs.drop 20).take cn⟩ (.slice A5 cn c5) _ ((may_iff _).1 hm) HSL3.out).mono ?_; rintro e w4 ⟨v4, rfl, hs4, hb4⟩; obtain ⟨A6, n6, c6, rfl, hbt6, _⟩ := hs4; have HS6 := Lib.hid hbt6; have HB4 := Lib.hid (HB3.out.trans (hb4.mono HB3.out.size)); have KP4 := Lib.hid (KP3.out.below hb4 hp3); have hp4 := KP4.out.lt; have KQ4 := Lib.hid (KQ3.out.below hb4 hz3); have hz4 := KQ4.out.lt; have HSL4 := Lib.hid ((HSL3.out.below hb4 (Nat.le_refl _)).more hb4.size); have a_0 := KP4.out.cell 0; have a_1 := KP4.out.cell 1; have a_2 := KP4.out.cell 2; have a_3 := KP4.out.cell 3; have a_4 := KP4.out.cell 4; have a_5 := KP4.out.cell 5; have a_6 := KP4.out.cell 6; simp at a_0 a_1 a_2 a_3 a_4 a_5 a_6; have f_0 := KP4.out.frozen 0; have f_1 := KP4.out.frozen 1; have f_2 := KP4.out.frozen 2; have f_3 := KP4.out.frozen 3; have f_4 := KP4.out.frozen 4; have f_5 := KP4.out.frozen 5; have f_6 := KP4.out.frozen 6; have y_0 := KQ4.out.cell 0; have y_1 := KQ4.out.cell 1; have y_2 := KQ4.out.cell 2; have y_3 := KQ4.out.cell 3; have y_4 := KQ4.out.cell 4; have y_5 := KQ4.out.cell 5; have y_6 := KQ4.out.cell 6; simp at y_0 y_1 y_2 y_3 y_4 y_5 y_6; clear hb4 hbt6)
          | (go_at_call 21; refine (rsame_any A6 (some ⟨b, off, none⟩) n6 n c6 c _ _ (P.mk (x3 : Nat) (g4 : Nat) (g8 : Nat) (g12 : Nat) (x16 : Nat) (x17 : Nat) ((xs.drop 20).take cn)).sector xs _ HS6.out (HH.out.below HB4.out (Nat.le_refl _))).mono ?_; rintro e w5 ⟨rfl, m5, rfl⟩; rw [hs]))
        have hgr := set7_grown (World.drewN w4 m5) w.heap.size (.int .i64 (x3 : Nat)) (.int .i64 (g4 : Nat)) (.int .i64 (g8 : Nat)) (.int .i64 (g12 : Nat)) (.int .i64 (x16 : Nat)) (.int .i64 (x17 : Nat)) (.slice A5 cn c5)
        rw [O1.out, O2.out]
        refine bodyPost_ret (v := .tuple #[.agg #[.int .i64 (x3 : Nat), .int .i64 (g4 : Nat), .int .i64 (g8 : Nat), .int .i64 (g12 : Nat), .int .i64 (x16 : Nat), .int .i64 (x17 : Nat), .slice A5 cn c5], .bool true]) ?_ rfl ⟨_, rfl, ⟨.slice A5 cn c5, rfl, sb_grownU (sb_of HSL4.out) (noU8_blk KP4.out) hgr⟩, ?_⟩
        · simp [results, Tryz.results72, go_sem, a_0, a_1, a_2, a_3, a_4, a_5, a_6, hp4]
        · exact (below_drewN HB4.out m5).grown hgr (below_drewN HB4.out m5).size (fun q hq => by cases hq; exact Nat.le_refl _)
end Go.Proofs.YtnenbocjfekmfaaGreat.Pg
/- The reference's Get (layer 4) at bytes that can be no sector. -/
namespace Go.Proofs.YtnenbocjfekmfaaGreat.Pg
open Go.RowKit Go.Proofs.YtnenbocjfekmfaaGreat.Mem Go.Proofs.YtnenbocjfekmfaaGreat.Oct
set_option linter.unusedVariables false
set_option linter.unusedSimpArgs false
set_option maxRecDepth 20000 in
set_option maxHeartbeats 4000000 in
theorem rget_len (A : Option Addr) (n c : Nat) (xs : List Nat) (w : World) (h : Bts w w.heap.size A n xs) (hn : n ≠ 512) :
    Calls Tryz.prog 72 #[.slice A n c] w fun e w' => ∃ v', e = .returned (.tuple #[v', .bool (got xs).isSome]) ∧ PgAt w' w'.heap.size v' ((got xs).getD zeroP) ∧ Below w.heap.size w w' := by
  have hl := h.1
  have hgot : got xs = none := got_not (fun h => hn (by omega))
  rw [hgot]
  have hd : ((n : Int) != 512) = true := by rw [bne_iff_ne]; omega
  have KP := Lib.hid (Blk.new w 93 #[.int .i64 0, .int .i64 0, .int .i64 0, .int .i64 0, .int .i64 0, .int .i64 0, .slice none 0 0])
  have HB := Lib.hid ((Below.refl w.heap.size w).alloc (Nat.le_refl _) (Obj.cells #[.int .i64 0, .int .i64 0, .int .i64 0, .int .i64 0, .int .i64 0, .int .i64 0, .slice none 0 0] 93))
  clear hl hgot h
  go_enter Tryz.func72, Tryz.ntmps72
  go_wp2
  refine bodyPost_ret (v := .tuple #[.agg #[.int .i64 0, .int .i64 0, .int .i64 0, .int .i64 0, .int .i64 0, .int .i64 0, .slice none 0 0], .bool false]) ?_ rfl ⟨_, rfl, ⟨.slice none 0 0, rfl, sb_of (sl_nil _ _)⟩, ?_⟩
  · simp [results, Tryz.results72, go_sem]
  · exact HB.out
set_option maxRecDepth 20000 in
set_option maxHeartbeats 4000000 in
theorem rget_count (A : Option Addr) (n c : Nat) (xs : List Nat) (w : World) (h : Bts w w.heap.size A n xs) (hn1 : n ≤ 512) (hn2 : 512 ≤ n) (hcn : 488 < count xs) :
    Calls Tryz.prog 72 #[.slice A n c] w fun e w' => ∃ v', e = .returned (.tuple #[v', .bool (got xs).isSome]) ∧ PgAt w' w'.heap.size v' ((got xs).getD zeroP) ∧ Below w.heap.size w w' := by
  have hl := h.1
  have hgot : got xs = none := got_not (fun h => by omega)
  rw [hgot]
  have hd : ((n : Int) != 512) = false := by rw [show n = 512 by omega]; rfl
  have hcc := count_two (xs := xs) (by omega)
  generalize count xs = cn at *
  have y18 := getD_lt h.2.1 18
  have y19 := getD_lt h.2.1 19
  obtain ⟨b, off, rfl, hb, hc⟩ := h.2.2.2 (by omega)
  have hb0 := (Below.refl w.heap.size w).alloc (Nat.le_refl _) (Obj.cells #[.int .i64 0, .int .i64 0, .int .i64 0, .int .i64 0, .int .i64 0, .int .i64 0, .slice none 0 0] 93)
  have c18 := (hb0.cell (p := ⟨b, off + 18, none⟩) hb).trans (hc 18 (by omega))
  have c19 := (hb0.cell (p := ⟨b, off + 19, none⟩) hb).trans (hc 19 (by omega))
  clear hc h
  generalize xs.getD 18 0 = x18 at *
  generalize xs.getD 19 0 = x19 at *
  have hcv : (x18 : Int) * 256 + (x19 : Int) = (cn : Int) := by omega
  have hdc : decide (488 < (cn : Int)) = true := by simp; omega
  have HB := Lib.hid hb0; clear hb0
  have HCC := Lib.hid hcc; clear hcc
  clear hgot
  go_enter Tryz.func72, Tryz.ntmps72
  go_wp2
  go_quiet (fail)
  go_wp2
  refine bodyPost_ret (v := .tuple #[.agg #[.int .i64 0, .int .i64 0, .int .i64 0, .int .i64 0, .int .i64 0, .int .i64 0, .slice none 0 0], .bool false]) ?_ rfl ⟨_, rfl, ⟨.slice none 0 0, rfl, sb_of (sl_nil _ _)⟩, ?_⟩
  · simp [results, Tryz.results72, go_sem]
  · exact (below_drewN HB.out _).grown (set7_grown _ w.heap.size _ _ _ _ _ _ _) (below_drewN HB.out _).size (fun q hq => by cases hq; exact Nat.le_refl _)
end Go.Proofs.YtnenbocjfekmfaaGreat.Pg
/- The contract of page.Blank (layer 4). -/
namespace Go.Proofs.YtnenbocjfekmfaaGreat.Pg
open Go.RowKit Go.Proofs.YtnenbocjfekmfaaGreat.Mem Go.Proofs.YtnenbocjfekmfaaGreat.Oct
set_option linter.unusedVariables false
set_option linter.unusedSimpArgs false
def noughts : List Nat := List.replicate 512 0
theorem made_all (z : Value) (n : Nat) : madeCells #[z] n = (List.replicate n z).toArray := by
  apply Array.ext
  · simp [madeCells]
  · intro i h1 h2
    simp [madeCells, Nat.mod_one]
theorem made512 : madeCells #[.int .u8 0] 512 = (vals noughts).toArray := by
  rw [made_all]
  simp only [vals, noughts, List.map_replicate]
  rfl
theorem make512 (w : World) : (Instr.makeSlice 31 (.int .i64 512) (.int .i64 512)).run Tryz.prog w = .ok (.slice (some ⟨w.heap.size, 0, none⟩) 512 512) (w.alloc (.cells (vals noughts).toArray 5)) := by
  have := run_make_row' (P := Tryz.prog) 31 5 (.int .u8 0) 1 Tryz.underlying31 Tryz.info5 rfl .i64 .i64 512 (by omega) (by omega) w
  rw [made512] at this
  exact this
theorem blk_bts {w : World} {g : Nat} {xs : List Nat} (h : Blk w g 5 (vals xs).toArray) (hx : ∀ x ∈ xs, x < 256) (hl : xs.length ≤ 1000000) : Bts w w.heap.size (some ⟨g, 0, none⟩) xs.length xs :=
  bts_row h.lt hx hl rfl fun i hi => by
    rw [h.cell]
    simpa using vals_get xs i hi
set_option maxHeartbeats 2000000 in
theorem blank_any (A : Option Addr) (n c B : Nat) (xs : List Nat) (w : World) (h : Bts w B A n xs) (hB : B ≤ w.heap.size) :
    Calls Tryz.prog 99 #[.slice A n c] w fun e w' => e = .returned (.bool (decide (xs = noughts))) ∧ Below w.heap.size w w' := by
  have hmk := make512
  have hz := blk_bts (Blk.new w 5 (vals noughts).toArray) (zeros_lt 512) (by rw [show noughts.length = 512 from List.length_replicate]; omega)
  have hl : noughts.length = 512 := List.length_replicate
  rw [hl] at hz
  obtain ⟨N, hN⟩ : ∃ N, N = 512 := ⟨_, rfl⟩
  rw [show (512 : Nat) = N from hN.symm] at hmk hz
  clear hl hN
  have eq := Crc.equal_any A (some ⟨w.heap.size, 0, none⟩) n N c N _ _ xs noughts _ (h.alloc hB (.cells (vals noughts).toArray 5)) hz
  generalize noughts = zs at *
  have EQ := Lib.hid eq; clear eq hz h
  go_enter Tryz.func99, Tryz.ntmps99
  go_wp2_with (go_at_call 94; refine (EQ.out).mono ?_; rintro e w' ⟨rfl, rfl⟩)
  go_ret
  exact ⟨rfl, (Below.refl _ w).alloc (Nat.le_refl _) _⟩
end Go.Proofs.YtnenbocjfekmfaaGreat.Pg
