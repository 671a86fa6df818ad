/- The steps of the law's loop (layer 16), told by LC and Rows16. -/
import Derived.Test.YtkflbhaomoaonaaCabLaw
namespace Go.Proofs.Ytkflbhaomoaonaa.Cab
open Go.RowKit Go.Proofs.Ytkflbhaomoaonaa.Mem Go.Proofs.Ytkflbhaomoaonaa.Que
set_option linter.unusedVariables false
set_option linter.unusedSimpArgs false
theorem sl_same {A A' : Option Addr} {n n' c c' B B' : Nat} {xs : List Nat} {w : World} (h : Sl w B (.slice A n c) xs) (h' : Sl w B' (.slice A' n' c') xs) :
    Calls Try.prog 14 #[.slice A n c, .slice A' n' c'] w fun e w' => e = .returned (.bool true) ∧ ∃ m, w' = w.drewN m := by
  obtain ⟨_, _, _, e, hb, _⟩ := h
  obtain ⟨_, _, _, e', hb', _⟩ := h'
  cases e
  cases e'
  obtain rfl : n = n' := hb.1.symm.trans hb'.1
  exact same_yes A A' n c c' _ _ xs w hb hb'
/-- the cable behind something, and what its blocks may be -/
def Did (w0 w w' : World) (x g1 g2 : Nat) (v1 v2 : Value) (c' : Cb) : Prop := ∃ v1' v2', LC w0 w' x g1 g2 v1' v2' c' ∧ KS w w' (CS x g1 g2 v1 v2) ∧ ∀ q, CS x g1 g2 v1' v2' q → CS x g1 g2 v1 v2 q ∨ w.heap.size ≤ q
section
variable {w0 w : World} {x g1 g2 : Nat} {v1 v2 u v bs : Value} {c cc c' : Cb} {xs : List Nat} {i f : Int}
theorem lsend {a b p0 q0 a2 b2 p2 q2 : Int} {up0 up2 : Bool} {ta tb ta2 tb2 : List (List Nat)} {Au Av Ax : Option Addr} {nu nv nx cu cv cx : Nat} (h : LC w0 w x g1 g2 v1 v2 cc) (r : Rows16 w w0.heap.size (CS x g1 g2 v1 v2) ⟨a, b, up0, p0, q0, ta, tb⟩ (.slice Au nu cu) (.slice Av nv cv)) (hx : Sl w w.heap.size (.slice Ax nx cx) xs) (hS : sendP ⟨a, b, up0, p0, q0, ta, tb⟩ i xs = (⟨a2, b2, up2, p2, q2, ta2, tb2⟩, f)) :
    Calls Try.prog 8 #[.agg #[.int .i64 a, .int .i64 b, .bool up0, .int .i64 p0, .int .i64 q0, .slice Au nu cu, .slice Av nv cv], .int .i64 i, .slice Ax nx cx] w fun e w' => ∃ A n k A' n' k', e = .returned (.tuple #[.agg #[.int .i64 a2, .int .i64 b2, .bool up2, .int .i64 p2, .int .i64 q2, .slice A n k, .slice A' n' k'], .int .i64 f]) ∧ Below w.heap.size w w' ∧ Rows16 w' w0.heap.size (CS x g1 g2 v1 v2) ⟨a2, b2, up2, p2, q2, ta2, tb2⟩ (.slice A n k) (.slice A' n' k') :=
  (rsend_any ⟨a, b, up0, p0, q0, ta, tb⟩ Au Av Ax nu nv nx cu cv cx i xs w (slRow_sls r.a) (slRow_sls r.b) hx).mono fun e w' he => by
    obtain ⟨u', v', h1, h2, h3, h4⟩ := he
    have hr := rows_send h r h2 h3 h4
    rw [hS] at h1 hr
    obtain ⟨A, n, k, rfl, _⟩ := slRow_form2 hr.a
    obtain ⟨A', n', k', rfl, _⟩ := slRow_form2 hr.b
    exact ⟨A, n, k, A', n', k', h1, h4, hr⟩
theorem lcsend (h : LC w0 w x g1 g2 v1 v2 c) (hx : Sl w w.heap.size bs xs) (hl : xs.length ≤ 200) (hs : SmallC c) (hS : sendP c i xs = (c', f)) :
    Calls Try.prog 9 #[ptr x, .int .i64 i, bs] w fun e w' => e = .returned (.int .i64 f) ∧ Did w0 w w' x g1 g2 v1 v2 c' :=
  (send_any i h.c hx (by omega) hs.1.1 hs.2.1 h.low.size).mono fun e w' he => by
    obtain ⟨h1, h2⟩ := he
    rw [sendTo_eq, hS] at h1 h2
    exact ⟨h1, h.did h2⟩
theorem lset {a b p0 q0 a2 b2 p2 q2 : Int} {up0 up2 : Bool} {ta tb ta2 tb2 : List (List Nat)} {Au Av : Option Addr} {nu nv cu cv : Nat} {up : Bool} {p q : Int} {S : Nat → Prop} (r : Rows16 w w0.heap.size S ⟨a, b, up0, p0, q0, ta, tb⟩ (.slice Au nu cu) (.slice Av nv cv)) (hS : setP ⟨a, b, up0, p0, q0, ta, tb⟩ up p q = (⟨a2, b2, up2, p2, q2, ta2, tb2⟩, f)) :
    Calls Try.prog 10 #[.agg #[.int .i64 a, .int .i64 b, .bool up0, .int .i64 p0, .int .i64 q0, .slice Au nu cu, .slice Av nv cv], .bool up, .agg #[.int .i64 p, .int .i64 q]] w fun e w' => ∃ A n k A' n' k', e = .returned (.tuple #[.agg #[.int .i64 a2, .int .i64 b2, .bool up2, .int .i64 p2, .int .i64 q2, .slice A n k, .slice A' n' k'], .int .i64 f]) ∧ Below w.heap.size w w' ∧ Rows16 w' w0.heap.size S ⟨a2, b2, up2, p2, q2, ta2, tb2⟩ (.slice A n k) (.slice A' n' k') :=
  (rset_any ⟨a, b, up0, p0, q0, ta, tb⟩ Au Av nu nv cu cv up p q w).mono fun e w' he => by
    obtain ⟨h1, h4⟩ := he
    have hr := rows_set (up := up) (p := p) (q := q) r h4
    obtain ⟨A, n, k, e1, _⟩ := slRow_form2 hr.a
    obtain ⟨A', n', k', e2, _⟩ := slRow_form2 hr.b
    rw [e1, e2] at h1 hr
    rw [hS] at h1 hr
    exact ⟨A, n, k, A', n', k', h1, h4, hr⟩
theorem lcset {up : Bool} {p q : Int} (h : LC w0 w x g1 g2 v1 v2 c) (hS : setP c up p q = (c', f)) :
    Calls Try.prog 11 #[ptr x, .bool up, .agg #[.int .i64 p, .int .i64 q]] w fun e w' => e = .returned (.int .i64 f) ∧ Did w0 w w' x g1 g2 v1 v2 c' :=
  (set_any up p q h.c h.low.size).mono fun e w' he => by
    obtain ⟨h1, h2⟩ := he
    rw [hS] at h1 h2
    exact ⟨h1, h.did h2⟩
theorem ltakeA_yes {j : Nat} (h : LC w0 w x g1 g2 v1 v2 c) (hj : j < c.ta.length) (hl : c.ta.length ≤ 32) :
    Calls Try.prog 13 #[ptr g1, .int .i64 (j : Nat)] w fun e w' => ∃ A n k, e = .returned (.tuple #[.slice A n k, .int .i64 0]) ∧ Sl w' w'.heap.size (.slice A n k) (c.ta.getD j []) ∧ Did w0 w w' x g1 g2 v1 v2 { c with ta := c.ta.eraseIdx j } :=
  (take_any w0.heap.size g1 v1 c.ta (j : Nat) w h.c.qa hl).mono fun e w' he => by
    obtain ⟨A, n, k, h1, h2, h3⟩ := he
    simp only [there_iff.2 ⟨j, rfl, hj⟩, if_true, Int.toNat_natCast] at h1 h2 h3
    exact ⟨A, n, k, h1, h2, h.did (h.c.didA h3)⟩
theorem ltakeB_yes {j : Nat} (h : LC w0 w x g1 g2 v1 v2 c) (hj : j < c.tb.length) (hl : c.tb.length ≤ 32) :
    Calls Try.prog 13 #[ptr g2, .int .i64 (j : Nat)] w fun e w' => ∃ A n k, e = .returned (.tuple #[.slice A n k, .int .i64 0]) ∧ Sl w' w'.heap.size (.slice A n k) (c.tb.getD j []) ∧ Did w0 w w' x g1 g2 v1 v2 { c with tb := c.tb.eraseIdx j } :=
  (take_any w0.heap.size g2 v2 c.tb (j : Nat) w h.c.qb hl).mono fun e w' he => by
    obtain ⟨A, n, k, h1, h2, h3⟩ := he
    simp only [there_iff.2 ⟨j, rfl, hj⟩, if_true, Int.toNat_natCast] at h1 h2 h3
    exact ⟨A, n, k, h1, h2, h.did (h.c.didB h3)⟩
theorem ltakeA_no {q : Int} (h : LC w0 w x g1 g2 v1 v2 c) (ht : there q c.ta = false) (hl : c.ta.length ≤ 32) :
    Calls Try.prog 13 #[ptr g1, .int .i64 q] w fun e w' => ∃ A n k, e = .returned (.tuple #[.slice A n k, .int .i64 3]) ∧ Did w0 w w' x g1 g2 v1 v2 c :=
  (take_any w0.heap.size g1 v1 c.ta q w h.c.qa hl).mono fun e w' he => by
    obtain ⟨A, n, k, h1, h2, h3⟩ := he
    simp only [ht, Bool.false_eq_true, if_false] at h1 h2 h3
    exact ⟨A, n, k, h1, h.did (h.c.didA h3)⟩
theorem ltakeB_no {q : Int} (h : LC w0 w x g1 g2 v1 v2 c) (ht : there q c.tb = false) (hl : c.tb.length ≤ 32) :
    Calls Try.prog 13 #[ptr g2, .int .i64 q] w fun e w' => ∃ A n k, e = .returned (.tuple #[.slice A n k, .int .i64 3]) ∧ Did w0 w w' x g1 g2 v1 v2 c :=
  (take_any w0.heap.size g2 v2 c.tb q w h.c.qb hl).mono fun e w' he => by
    obtain ⟨A, n, k, h1, h2, h3⟩ := he
    simp only [ht, Bool.false_eq_true, if_false] at h1 h2 h3
    exact ⟨A, n, k, h1, h.did (h.c.didB h3)⟩
end
/-- all that the law holds: the cable, the reference's box and rows, the act's box -/
structure LA (w0 w : World) (x g1 g2 y z : Nat) (v1 v2 : Value) (cc c : Cb) (u v : Value) (act : Array Value) : Prop where
  lc : LC w0 w x g1 g2 v1 v2 cc
  yb : Blk w y 31 #[.int .i64 c.a, .int .i64 c.b, .bool c.up, .int .i64 c.p, .int .i64 c.q, u, v]
  rows : Rows16 w w0.heap.size (CS x g1 g2 v1 v2) c u v
  zb : Blk w z 35 act
  lo : w0.heap.size ≤ y
section
variable {w0 w w' : World} {x g1 g2 y z : Nat} {v1 v2 u v : Value} {c cc c' : Cb} {act : Array Value}
theorem LA.up (h : LA w0 w x g1 g2 y z v1 v2 cc c u v act) (hb : Below w.heap.size w w') : LA w0 w' x g1 g2 y z v1 v2 cc c u v act := ⟨h.lc.up hb, h.yb.below hb h.yb.lt, h.rows.up hb, h.zb.below hb h.zb.lt, h.lo⟩
theorem LA.did (h : LA w0 w x g1 g2 y z v1 v2 cc c u v act) (d : Did w0 w w' x g1 g2 v1 v2 c') : ∃ v1' v2', LA w0 w' x g1 g2 y z v1' v2' c' c u v act ∧ KS w w' (CS x g1 g2 v1 v2) ∧ ∀ q, CS x g1 g2 v1' v2' q → CS x g1 g2 v1 v2 q ∨ w.heap.size ≤ q := by
  obtain ⟨v1', v2', h1, h2, h3⟩ := d
  exact ⟨v1', v2', ⟨h1, h2.blk h.yb (h.lc.out h.yb (by decide) (by decide) (by decide)), h.rows.did h.lc h2 h3, h2.blk h.zb (h.lc.out h.zb (by decide) (by decide) (by decide)), h.lo⟩, h2, h3⟩
theorem row_slice {base : Nat} {ss : List (List Nat)} (h : SlRow w base u ss) : isBy u = false := by
  obtain ⟨A, n, k, rfl, _⟩ := slRow_form2 h
  rfl
theorem LA.nob (h : LA w0 w x g1 g2 y z v1 v2 cc c u v act) : (#[.int .i64 c.a, .int .i64 c.b, .bool c.up, .int .i64 c.p, .int .i64 c.q, u, v] : Array Value).all (fun u => !isBy u) = true := by
  have h1 := row_slice h.rows.a
  have h2 := row_slice h.rows.b
  simp [isBy] at h1 h2 ⊢
  exact ⟨h1, h2⟩
/-- the box gets another cable, whose rows lie apart -/
theorem LA.store (h : LA w0 w x g1 g2 y z v1 v2 cc c u v act) {c2 : Cb} {u2 v2' : Value} (r : Rows16 w w0.heap.size (CS x g1 g2 v1 v2) c2 u2 v2') (hg : w.grownBy w' (some y)) (hb : Blk w' y 31 #[.int .i64 c2.a, .int .i64 c2.b, .bool c2.up, .int .i64 c2.p, .int .i64 c2.q, u2, v2']) : LA w0 w' x g1 g2 y z v1 v2 cc c2 u2 v2' act :=
  ⟨h.lc.box h.yb h.nob h.lo (by decide) (by decide) (by decide) hg, hb, r.box h.yb h.nob (by decide) hg, h.zb.grown hg (fun e => by cases e; exact Blk.ne_ h.zb h.yb (by decide) rfl), h.lo⟩
end
theorem set5_blk {w : World} {y : Nat} {t : TypeId} {a b c d e f g n : Value} (h : Blk w y t #[a, b, c, d, e, f, g]) : Blk (w.setCell ⟨y, 5, none⟩ n) y t #[a, b, c, d, e, n, g] := by
  have k := h.set_ 5 n
  simp only [List.setIfInBounds_toArray, List.set_cons_zero, List.set_cons_succ] at k
  exact k
theorem set6_blk {w : World} {y : Nat} {t : TypeId} {a b c d e f g n : Value} (h : Blk w y t #[a, b, c, d, e, f, g]) : Blk (w.setCell ⟨y, 6, none⟩ n) y t #[a, b, c, d, e, f, n] := by
  have k := h.set_ 6 n
  simp only [List.setIfInBounds_toArray, List.set_cons_zero, List.set_cons_succ] at k
  exact k
end Go.Proofs.Ytkflbhaomoaonaa.Cab
