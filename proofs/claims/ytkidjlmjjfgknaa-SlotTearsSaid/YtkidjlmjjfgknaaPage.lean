/- Which pages there may be, and which are alike (layer 4): the contracts of mayBe and Same, and of the reference's. -/
import Derived.Test.YtkidjlmjjfgknaaPg
import Derived.Test.YtkidjlmjjfgknaaCrcSame
import Derived.Test.YtkidjlmjjfgknaaSame
namespace Go.Proofs.Ytkidjlmjjfgknaa.Pg
open Go.RowKit Go.Proofs.Ytkidjlmjjfgknaa.Mem Go.Proofs.Ytkidjlmjjfgknaa.Oct
set_option linter.unusedVariables false
set_option linter.unusedSimpArgs false
def pgV (p : P) (v : Value) : Value := .agg #[.int .i64 p.kind, .int .i64 p.gen, .int .i64 p.mark, .int .i64 p.index, .int .i64 p.part, .int .i64 p.parts, v]
abbrev pgC (p : P) (v : Value) : Array Value := #[.int .i64 p.kind, .int .i64 p.gen, .int .i64 p.mark, .int .i64 p.index, .int .i64 p.part, .int .i64 p.parts, v]
def In64 (n : Int) : Prop := -9223372036854775808 ≤ n ∧ n ≤ 9223372036854775807
/-- a slice of bytes, whatever its capacity says -/
def Sb (w : World) (B : Nat) (v : Value) (xs : List Nat) : Prop := ∃ (A : Option Addr) (n c : Nat), v = .slice A n c ∧ Bts w B A n xs
theorem sb_of {w : World} {B : Nat} {v : Value} {xs : List Nat} (h : Sl w B v xs) : Sb w B v xs := by
  obtain ⟨A, n, c, e, hb, _⟩ := h
  exact ⟨A, n, c, e, hb⟩
theorem sb_bts {w : World} {B n c : Nat} {A : Option Addr} {xs : List Nat} (h : Sb w B (.slice A n c) xs) : Bts w B A n xs := by
  obtain ⟨A', n', c', e, hb⟩ := h
  injection e with e1 e2 e3
  subst e1 e2 e3
  exact hb
theorem Sb.below {w w' : World} {B B' : Nat} {v : Value} {xs : List Nat} (h : Sb w B v xs) (hb : Below B' w w') (hB : B ≤ B') : Sb w' B v xs := by
  obtain ⟨A, n, c, e, h⟩ := h
  exact ⟨A, n, c, e, h.below hb hB⟩
theorem Sb.more {w : World} {B B' : Nat} {v : Value} {xs : List Nat} (h : Sb w B v xs) (hB : B ≤ B') : Sb w B' v xs := by
  obtain ⟨A, n, c, e, h⟩ := h
  exact ⟨A, n, c, e, h.more hB⟩
theorem Sb.alloc {w : World} {B : Nat} {v : Value} {xs : List Nat} (h : Sb w B v xs) (hB : B ≤ w.heap.size) (o : Obj) : Sb (w.alloc o) B v xs := by
  obtain ⟨A, n, c, e, h⟩ := h
  exact ⟨A, n, c, e, h.alloc hB o⟩
theorem Sb.lt {w : World} {B : Nat} {v : Value} {xs : List Nat} (h : Sb w B v xs) : ∀ x ∈ xs, x < 256 := by
  obtain ⟨A, n, c, e, h⟩ := h
  exact h.2.1
/-- a page as a value: its bytes lie below B -/
def PgAt (w : World) (B : Nat) (v : Value) (p : P) : Prop := ∃ vb, v = pgV p vb ∧ Sb w B vb p.b
theorem PgAt.below {w w' : World} {B B' : Nat} {v : Value} {p : P} (h : PgAt w B v p) (hb : Below B' w w') (hB : B ≤ B') : PgAt w' B v p := by
  obtain ⟨vb, e, hs⟩ := h
  exact ⟨vb, e, hs.below hb hB⟩
theorem PgAt.more {w : World} {B B' : Nat} {v : Value} {p : P} (h : PgAt w B v p) (hB : B ≤ B') : PgAt w B' v p := by
  obtain ⟨vb, e, hs⟩ := h
  exact ⟨vb, e, hs.more hB⟩
set_option maxHeartbeats 400000 in
theorem within_any (n lo hi : Int) (w : World) :
    Calls Try.prog 52 #[.int .i64 n, .int .i64 lo, .int .i64 hi] w fun e w' => e = .returned (.bool (win n lo hi)) ∧ w = w' := by
  unfold win
  cases h1 : decide (lo ≤ n)
  · go_enter Try.func52, Try.ntmps52
    go_wp2
    go_ret
    exact ⟨rfl, rfl⟩
  · go_enter Try.func52, Try.ntmps52
    go_wp2
    go_ret
    exact ⟨ret_bool (by simp), rfl⟩
set_option maxHeartbeats 400000 in
theorem in_any (n hi : Int) (w : World) :
    Calls Try.prog 47 #[.int .i64 n, .int .i64 hi] w fun e w' => e = .returned (.bool (win n 0 hi)) ∧ w = w' := by
  unfold win
  cases h1 : decide (0 ≤ n)
  · go_enter Try.func47, Try.ntmps47
    go_wp2
    go_ret
    exact ⟨rfl, rfl⟩
  · go_enter Try.func47, Try.ntmps47
    go_wp2
    go_ret
    exact ⟨ret_bool (by simp), rfl⟩
set_option maxHeartbeats 4000000 in
theorem mayBe_any (p : P) (v : Value) (w : World) (hv : Sb w w.heap.size v p.b) :
    Calls Try.prog 40 #[pgV p v] w fun e w' => e = .returned (.bool p.may) ∧ Below w.heap.size w w' := by
  obtain ⟨kind, gen, mark, index, part, parts, b⟩ := p
  obtain ⟨A, n, c, rfl, hbt⟩ := hv
  have hl := hbt.1
  simp only at hl ⊢
  unfold pgV P.may
  simp only
  rw [hl]
  clear hbt
  cases h1 : win kind 1 9
  · go_enter Try.func40, Try.ntmps40
    go_wp2_with (go_at_call 52; refine (within_any _ _ _ _).mono ?_; rintro e w' ⟨rfl, rfl⟩)
    go_ret
    exact ⟨ret_bool (by simp [h1, *]), (Below.refl w.heap.size w).alloc (Nat.le_refl _) _⟩
  · skip
    cases h2 : win gen 0 2147483648
    · go_enter Try.func40, Try.ntmps40
      go_wp2_with (go_at_call 52; refine (within_any _ _ _ _).mono ?_; rintro e w' ⟨rfl, rfl⟩)
      go_ret
      exact ⟨ret_bool (by simp [h1, *]), (Below.refl w.heap.size w).alloc (Nat.le_refl _) _⟩
    · skip
      cases h3 : win mark 0 2147483648
      · go_enter Try.func40, Try.ntmps40
        go_wp2_with (go_at_call 52; refine (within_any _ _ _ _).mono ?_; rintro e w' ⟨rfl, rfl⟩)
        go_ret
        exact ⟨ret_bool (by simp [h1, *]), (Below.refl w.heap.size w).alloc (Nat.le_refl _) _⟩
      · skip
        cases h4 : win index 0 2147483648
        · go_enter Try.func40, Try.ntmps40
          go_wp2_with (go_at_call 52; refine (within_any _ _ _ _).mono ?_; rintro e w' ⟨rfl, rfl⟩)
          go_ret
          exact ⟨ret_bool (by simp [h1, *]), (Below.refl w.heap.size w).alloc (Nat.le_refl _) _⟩
        · skip
          cases h5 : win parts 1 16
          · go_enter Try.func40, Try.ntmps40
            go_wp2_with (go_at_call 52; refine (within_any _ _ _ _).mono ?_; rintro e w' ⟨rfl, rfl⟩)
            go_ret
            exact ⟨ret_bool (by simp [h1, *]), (Below.refl w.heap.size w).alloc (Nat.le_refl _) _⟩
          · skip
            have hp := win_yes h5
            cases h6 : win part 0 (parts - 1)
            · go_enter Try.func40, Try.ntmps40
              go_wp2_with (go_at_call 52; refine (within_any _ _ _ _).mono ?_; rintro e w' ⟨rfl, rfl⟩)
              go_ret
              exact ⟨ret_bool (by simp [h1, *]), (Below.refl w.heap.size w).alloc (Nat.le_refl _) _⟩
            · skip
              · go_enter Try.func40, Try.ntmps40
                go_wp2_with (go_at_call 52; refine (within_any _ _ _ _).mono ?_; rintro e w' ⟨rfl, rfl⟩)
                go_ret
                exact ⟨ret_bool (by rw [show decide ((n : Int) ≤ 488) = decide (n ≤ 488) from decide_eq_decide.2 (by omega)]; simp [*]), (Below.refl w.heap.size w).alloc (Nat.le_refl _) _⟩
theorem may_eq (kind gen mark index part parts : Int) (n : Nat) : (win kind 1 9 && win gen 0 2147483648 && win mark 0 2147483648 && win index 0 2147483648 && win parts 1 16 && win part 0 (parts - 1) && decide (n ≤ 488)) =
    (decide (1 ≤ kind) && (decide (kind ≤ 9) && (win gen 0 2147483648 && (win mark 0 2147483648 && (win index 0 2147483648 && (decide (1 ≤ parts) && (decide (parts ≤ 16) && (decide (0 ≤ part) && (decide (part < parts) && decide (n ≤ 488)))))))))) := by
  have e : decide (part ≤ parts - 1) = decide (part < parts) := decide_eq_decide.2 (by omega)
  simp [win, e, Bool.and_assoc]
set_option maxHeartbeats 8000000 in
theorem may_any (p : P) (v : Value) (w : World) (hv : Sb w w.heap.size v p.b) :
    Calls Try.prog 32 #[pgV p v] w fun e w' => e = .returned (.bool p.may) ∧ Below w.heap.size w w' := by
  obtain ⟨kind, gen, mark, index, part, parts, b⟩ := p
  obtain ⟨A, n, c, rfl, hbt⟩ := hv
  have hl := hbt.1
  simp only at hl ⊢
  unfold pgV P.may
  simp only
  rw [hl, may_eq]
  clear hbt
  cases h1 : decide (1 ≤ kind)
  · go_enter Try.func32, Try.ntmps32
    go_wp2_with (go_at_call 47; refine (in_any _ _ _).mono ?_; rintro e w' ⟨rfl, rfl⟩)
    go_ret
    exact ⟨ret_bool (by simp [*]), (Below.refl w.heap.size w).alloc (Nat.le_refl _) _⟩
  · skip
    cases h2 : decide (kind ≤ 9)
    · go_enter Try.func32, Try.ntmps32
      go_wp2_with (go_at_call 47; refine (in_any _ _ _).mono ?_; rintro e w' ⟨rfl, rfl⟩)
      go_ret
      exact ⟨ret_bool (by simp [*]), (Below.refl w.heap.size w).alloc (Nat.le_refl _) _⟩
    · skip
      cases h3 : win gen 0 2147483648
      · go_enter Try.func32, Try.ntmps32
        go_wp2_with (go_at_call 47; refine (in_any _ _ _).mono ?_; rintro e w' ⟨rfl, rfl⟩)
        go_ret
        exact ⟨ret_bool (by simp [*]), (Below.refl w.heap.size w).alloc (Nat.le_refl _) _⟩
      · skip
        cases h4 : win mark 0 2147483648
        · go_enter Try.func32, Try.ntmps32
          go_wp2_with (go_at_call 47; refine (in_any _ _ _).mono ?_; rintro e w' ⟨rfl, rfl⟩)
          go_ret
          exact ⟨ret_bool (by simp [*]), (Below.refl w.heap.size w).alloc (Nat.le_refl _) _⟩
        · skip
          cases h5 : win index 0 2147483648
          · go_enter Try.func32, Try.ntmps32
            go_wp2_with (go_at_call 47; refine (in_any _ _ _).mono ?_; rintro e w' ⟨rfl, rfl⟩)
            go_ret
            exact ⟨ret_bool (by simp [*]), (Below.refl w.heap.size w).alloc (Nat.le_refl _) _⟩
          · skip
            cases h6 : decide (1 ≤ parts)
            · go_enter Try.func32, Try.ntmps32
              go_wp2_with (go_at_call 47; refine (in_any _ _ _).mono ?_; rintro e w' ⟨rfl, rfl⟩)
              go_ret
              exact ⟨ret_bool (by simp [*]), (Below.refl w.heap.size w).alloc (Nat.le_refl _) _⟩
            · skip
              cases h7 : decide (parts ≤ 16)
              · go_enter Try.func32, Try.ntmps32
                go_wp2_with (go_at_call 47; refine (in_any _ _ _).mono ?_; rintro e w' ⟨rfl, rfl⟩)
                go_ret
                exact ⟨ret_bool (by simp [*]), (Below.refl w.heap.size w).alloc (Nat.le_refl _) _⟩
              · skip
                cases h8 : decide (0 ≤ part)
                · go_enter Try.func32, Try.ntmps32
                  go_wp2_with (go_at_call 47; refine (in_any _ _ _).mono ?_; rintro e w' ⟨rfl, rfl⟩)
                  go_ret
                  exact ⟨ret_bool (by simp [*]), (Below.refl w.heap.size w).alloc (Nat.le_refl _) _⟩
                · skip
                  cases h9 : decide (part < parts)
                  · go_enter Try.func32, Try.ntmps32
                    go_wp2_with (go_at_call 47; refine (in_any _ _ _).mono ?_; rintro e w' ⟨rfl, rfl⟩)
                    go_ret
                    exact ⟨ret_bool (by simp [*]), (Below.refl w.heap.size w).alloc (Nat.le_refl _) _⟩
                  · skip
                    · go_enter Try.func32, Try.ntmps32
                      go_wp2_with (go_at_call 47; refine (in_any _ _ _).mono ?_; rintro e w' ⟨rfl, rfl⟩)
                      go_ret
                      exact ⟨ret_bool (by rw [show decide ((n : Int) ≤ 488) = decide (n ≤ 488) from decide_eq_decide.2 (by omega)]; simp [*]), (Below.refl w.heap.size w).alloc (Nat.le_refl _) _⟩
set_option maxHeartbeats 8000000 in
theorem same_any (p q : P) (v u : Value) (w : World) (hv : Sb w w.heap.size v p.b) (hu : Sb w w.heap.size u q.b) :
    Calls Try.prog 35 #[pgV p v, pgV q u] w fun e w' => e = .returned (.bool (decide (p = q))) ∧ Below w.heap.size w w' := by
  obtain ⟨kind, gen, mark, index, part, parts, b⟩ := p
  obtain ⟨kind', gen', mark', index', part', parts', b'⟩ := q
  obtain ⟨A, n, c, rfl, hbt⟩ := hv
  obtain ⟨A', n', c', rfl, hbt'⟩ := hu
  simp only at hbt hbt'
  unfold pgV
  simp only
  have hbel : Below w.heap.size w ((w.alloc (.cells (pgC ⟨kind, gen, mark, index, part, parts, b⟩ (.slice A n c)) 43)).alloc (.cells (pgC ⟨kind', gen', mark', index', part', parts', b'⟩ (.slice A' n' c')) 43)) := ((Below.refl _ w).alloc (Nat.le_refl _) _).alloc (by simp) _
  have HB := Lib.hid hbel; clear hbel
  have cs := Crc.equal_any A A' n n' c c' _ _ b b' _ (hbt.below HB.out (Nat.le_refl _)) (hbt'.below HB.out (Nat.le_refl _))
  have CS := Lib.hid cs; clear cs hbt hbt'
  have he : (decide ((⟨kind, gen, mark, index, part, parts, b⟩ : P) = ⟨kind', gen', mark', index', part', parts', b'⟩)) = ((kind == kind') && ((gen == gen') && ((mark == mark') && ((index == index') && ((part == part') && ((parts == parts') && decide (b = b'))))))) := by
    rw [Bool.eq_iff_iff]
    simp
  rw [he]
  clear he
  cases h0 : (kind == kind')
  · go_enter Try.func35, Try.ntmps35
    go_wp2
    go_ret
    exact ⟨ret_bool (by simp [*]), HB.out⟩
  · skip
    cases h1 : (gen == gen')
    · go_enter Try.func35, Try.ntmps35
      go_wp2
      go_ret
      exact ⟨ret_bool (by simp [*]), HB.out⟩
    · skip
      cases h2 : (mark == mark')
      · go_enter Try.func35, Try.ntmps35
        go_wp2
        go_ret
        exact ⟨ret_bool (by simp [*]), HB.out⟩
      · skip
        cases h3 : (index == index')
        · go_enter Try.func35, Try.ntmps35
          go_wp2
          go_ret
          exact ⟨ret_bool (by simp [*]), HB.out⟩
        · skip
          cases h4 : (part == part')
          · go_enter Try.func35, Try.ntmps35
            go_wp2
            go_ret
            exact ⟨ret_bool (by simp [*]), HB.out⟩
          · skip
            cases h5 : (parts == parts')
            · go_enter Try.func35, Try.ntmps35
              go_wp2
              go_ret
              exact ⟨ret_bool (by simp [*]), HB.out⟩
            · skip
              · go_enter Try.func35, Try.ntmps35
                go_wp2_with (go_at_call 38; refine (CS.out).mono ?_; rintro e w' ⟨rfl, rfl⟩; have HB9 := HB)
                go_ret
                exact ⟨ret_bool (by simp [*]), HB9.out⟩
set_option maxHeartbeats 8000000 in
theorem refsame_any (p q : P) (v u : Value) (w : World) (hv : Sb w w.heap.size v p.b) (hu : Sb w w.heap.size u q.b) :
    Calls Try.prog 36 #[pgV p v, pgV q u] w fun e w' => e = .returned (.bool (decide (p = q))) ∧ Below w.heap.size w w' := by
  obtain ⟨kind, gen, mark, index, part, parts, b⟩ := p
  obtain ⟨kind', gen', mark', index', part', parts', b'⟩ := q
  obtain ⟨A, n, c, rfl, hbt⟩ := hv
  obtain ⟨A', n', c', rfl, hbt'⟩ := hu
  simp only at hbt hbt'
  unfold pgV
  simp only
  have hbel : Below w.heap.size w ((w.alloc (.cells (pgC ⟨kind, gen, mark, index, part, parts, b⟩ (.slice A n c)) 43)).alloc (.cells (pgC ⟨kind', gen', mark', index', part', parts', b'⟩ (.slice A' n' c')) 43)) := ((Below.refl _ w).alloc (Nat.le_refl _) _).alloc (by simp) _
  have HB := Lib.hid hbel; clear hbel
  have cs := rsame_any A A' n n' c c' _ _ b b' _ (hbt.below HB.out (Nat.le_refl _)) (hbt'.below HB.out (Nat.le_refl _))
  have CS := Lib.hid cs; clear cs hbt hbt'
  have he : (decide ((⟨kind, gen, mark, index, part, parts, b⟩ : P) = ⟨kind', gen', mark', index', part', parts', b'⟩)) = ((kind == kind') && ((gen == gen') && ((mark == mark') && ((index == index') && ((part == part') && ((parts == parts') && decide (b = b'))))))) := by
    rw [Bool.eq_iff_iff]
    simp
  rw [he]
  clear he
  cases h0 : (kind == kind')
  · go_enter Try.func36, Try.ntmps36
    go_wp2
    go_ret
    exact ⟨ret_bool (by simp [*]), HB.out⟩
  · skip
    cases h1 : (gen == gen')
    · go_enter Try.func36, Try.ntmps36
      go_wp2
      go_ret
      exact ⟨ret_bool (by simp [*]), HB.out⟩
    · skip
      cases h2 : (mark == mark')
      · go_enter Try.func36, Try.ntmps36
        go_wp2
        go_ret
        exact ⟨ret_bool (by simp [*]), HB.out⟩
      · skip
        cases h3 : (index == index')
        · go_enter Try.func36, Try.ntmps36
          go_wp2
          go_ret
          exact ⟨ret_bool (by simp [*]), HB.out⟩
        · skip
          cases h4 : (part == part')
          · go_enter Try.func36, Try.ntmps36
            go_wp2
            go_ret
            exact ⟨ret_bool (by simp [*]), HB.out⟩
          · skip
            cases h5 : (parts == parts')
            · go_enter Try.func36, Try.ntmps36
              go_wp2
              go_ret
              exact ⟨ret_bool (by simp [*]), HB.out⟩
            · skip
              · go_enter Try.func36, Try.ntmps36
                go_wp2_with (go_at_call 17; refine (CS.out).mono ?_; rintro e w' ⟨rfl, q9, rfl⟩; have HB9 := Lib.hid (below_drewN HB.out q9))
                go_ret
                exact ⟨ret_bool (by simp [*]), HB9.out⟩
end Go.Proofs.Ytkidjlmjjfgknaa.Pg
