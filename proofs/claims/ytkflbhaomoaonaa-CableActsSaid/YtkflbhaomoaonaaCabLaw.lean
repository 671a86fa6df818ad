/- What holds at the head of the law's loop (layer 16): the cable, and the reference's cable in a box. -/
import Derived.Test.YtkflbhaomoaonaaCabAwake
import Derived.Test.YtkflbhaomoaonaaCabIn
namespace Go.Proofs.Ytkflbhaomoaonaa.Cab
open Go.RowKit Go.Proofs.Ytkflbhaomoaonaa.Mem Go.Proofs.Ytkflbhaomoaonaa.Que
set_option linter.unusedVariables false
set_option linter.unusedSimpArgs false
/-- rows of the reference lie apart from the cable -/
structure Rows16 (w : World) (base : Nat) (S : Nat → Prop) (c : Cb) (u v : Value) : Prop where
  a : SlRow w base u c.ta
  b : SlRow w base v c.tb
  sa : ∀ q, u.ownBlock = some q → ¬ S q
  sb : ∀ q, v.ownBlock = some q → ¬ S q
/-- the cable as it is in the code -/
structure LC (w0 w : World) (x g1 g2 : Nat) (v1 v2 : Value) (c : Cb) : Prop where
  c : CAt w w0.heap.size x g1 g2 v1 v2 c
  low : Below w0.heap.size w0 w
section
variable {w0 w w' : World} {x g1 g2 y : Nat} {v1 v2 v1' v2' u v : Value} {c c' : Cb} {S : Nat → Prop} {cs : Array Value}
theorem LC.up (h : LC w0 w x g1 g2 v1 v2 c) (hb : Below w.heap.size w w') : LC w0 w' x g1 g2 v1 v2 c := ⟨h.c.below hb, h.low.trans (hb.mono h.low.size)⟩
theorem Rows16.up {base : Nat} (h : Rows16 w base S c u v) (hb : Below w.heap.size w w') : Rows16 w' base S c u v := ⟨h.a.below hb, h.b.below hb, h.sa, h.sb⟩
theorem LC.out (h : LC w0 w x g1 g2 v1 v2 c) {t : TypeId} (hy : Blk w y t cs) (h1 : t ≠ 56) (h2 : t ≠ 64) (h3 : 33 ≠ t) : ¬ CS x g1 g2 v1 v2 y := by
  obtain ⟨_, _, o1, _⟩ := h.c.qa.row
  obtain ⟨_, _, o2, _⟩ := h.c.qb.row
  rintro (rfl | rfl | rfl | e | e)
  · exact Blk.ne_ hy h.c.blk h1 rfl
  · exact Blk.ne_ hy h.c.qa.blk h2 rfl
  · exact Blk.ne_ hy h.c.qb.blk h2 rfl
  · exact own_blk_ne o1.1 hy h3 e
  · exact own_blk_ne o2.1 hy h3 e
/-- something is done with the cable -/
theorem LC.did (h : LC w0 w x g1 g2 v1 v2 c) (o : COut w w0.heap.size x g1 g2 v1 v2 w' c') : ∃ v1' v2', LC w0 w' x g1 g2 v1' v2' c' ∧ KS w w' (CS x g1 g2 v1 v2) ∧ ∀ q, CS x g1 g2 v1' v2' q → CS x g1 g2 v1 v2 q ∨ w.heap.size ≤ q := by
  obtain ⟨a1, a2, h1, h2, h3⟩ := o
  exact ⟨a1, a2, ⟨h1, h2.low h.low h.low.size (fun q e => (h.c.from_ q e).1)⟩, h2, h3⟩
theorem Rows16.did {base : Nat} {c1 : Cb} (r : Rows16 w base (CS x g1 g2 v1 v2) c1 u v) (h : LC w0 w x g1 g2 v1 v2 c) (k : KS w w' (CS x g1 g2 v1 v2)) (hl : ∀ q, CS x g1 g2 v1' v2' q → CS x g1 g2 v1 v2 q ∨ w.heap.size ≤ q) : Rows16 w' base (CS x g1 g2 v1' v2') c1 u v := by
  refine ⟨row_ks r.a k h.c.nob r.sa, row_ks r.b k h.c.nob r.sb, fun q e e2 => ?_, fun q e e2 => ?_⟩
  · rcases hl q e2 with h1 | h1
    · exact r.sa q e h1
    · have := (slRow_lt r.a q e).2
      omega
  · rcases hl q e2 with h1 | h1
    · exact r.sb q e h1
    · have := (slRow_lt r.b q e).2
      omega
theorem row_new {base b2 : Nat} {ss : List (List Nat)} (hr : SlRow w' b2 u ss) (hS : ∀ q, S q → q < b2) : ∀ q, u.ownBlock = some q → ¬ S q := fun q e e2 => by
  have := (slRow_lt hr q e).1
  have := hS q e2
  omega
/-- behind the reference's Send -/
theorem rows_send {i : Int} {xs : List Nat} {u' v' : Value} (h : LC w0 w x g1 g2 v1 v2 c') (r : Rows16 w w0.heap.size (CS x g1 g2 v1 v2) c u v) (hu : (u' = u ∧ (sendP c i xs).1.ta = c.ta) ∨ SlRow w' w.heap.size u' (sendP c i xs).1.ta) (hv : (v' = v ∧ (sendP c i xs).1.tb = c.tb) ∨ SlRow w' w.heap.size v' (sendP c i xs).1.tb) (hb : Below w.heap.size w w') :
    Rows16 w' w0.heap.size (CS x g1 g2 v1 v2) (sendP c i xs).1 u' v' := by
  have hS : ∀ q, CS x g1 g2 v1 v2 q → q < w.heap.size := fun q e => (h.c.from_ q e).2
  have ha : SlRow w' w0.heap.size u' (sendP c i xs).1.ta ∧ ∀ q, u'.ownBlock = some q → ¬ CS x g1 g2 v1 v2 q := by
    rcases hu with ⟨rfl, e⟩ | hu
    · rw [e]; exact ⟨r.a.below hb, r.sa⟩
    · exact ⟨slRow_mono hu h.low.size, row_new (base := 0) hu hS⟩
  have hb' : SlRow w' w0.heap.size v' (sendP c i xs).1.tb ∧ ∀ q, v'.ownBlock = some q → ¬ CS x g1 g2 v1 v2 q := by
    rcases hv with ⟨rfl, e⟩ | hv
    · rw [e]; exact ⟨r.b.below hb, r.sb⟩
    · exact ⟨slRow_mono hv h.low.size, row_new (base := 0) hv hS⟩
  exact ⟨ha.1, hb'.1, ha.2, hb'.2⟩
theorem rows_set {up : Bool} {p q : Int} (r : Rows16 w w0.heap.size S c u v) (hb : Below w.heap.size w w') :
    Rows16 w' w0.heap.size S (setP c up p q).1 (if costOk p q = true then setU up u else u) (if costOk p q = true then setU up v else v) := by
  have r := r.up hb
  unfold setP setU
  cases costOk p q
  · exact r
  · cases up
    · exact ⟨slRow_nil _ _, slRow_nil _ _, fun q e => by simp [Value.ownBlock] at e, fun q e => by simp [Value.ownBlock] at e⟩
    · exact ⟨r.a, r.b, r.sa, r.sb⟩
theorem sendP_ab (c : Cb) (i : Int) (xs : List Nat) : (sendP c i xs).1.a = c.a ∧ (sendP c i xs).1.b = c.b := by
  unfold sendP
  repeat' split
  all_goals exact ⟨rfl, rfl⟩
theorem setP_ab (c : Cb) (up : Bool) (p q : Int) : (setP c up p q).1.a = c.a ∧ (setP c up p q).1.b = c.b := by
  unfold setP
  split <;> exact ⟨rfl, rfl⟩
def SmallC (c : Cb) : Prop := Small c.ta ∧ Small c.tb
theorem small_app {ts : List (List Nat)} {xs : List Nat} (h : Small ts) (hl : ts.length < 32) (hx : xs.length ≤ 200) : Small (ts ++ [xs]) := by
  have := small_put h hx
  rw [show putQ ts xs = ts ++ [xs] from if_pos hl] at this
  exact this
theorem small_send {i : Int} {xs : List Nat} (h : SmallC c) (hx : xs.length ≤ 200) : SmallC (sendP c i xs).1 := by
  unfold sendP
  repeat' split
  all_goals first | exact h | exact ⟨h.1, small_app h.2 (by assumption) hx⟩ | exact ⟨small_app h.1 (by assumption) hx, h.2⟩
theorem small_set {up : Bool} {p q : Int} (h : SmallC c) : SmallC (setP c up p q).1 := by
  unfold setP
  split
  · cases up
    · exact ⟨⟨by simp, by simp⟩, ⟨by simp, by simp⟩⟩
    · exact h
  · exact h
end
/-- the box stored anew, whole -/
abbrev boxed (w : World) (y : Nat) (a0 a1 a2 a3 a4 a5 a6 : Value) : World :=
  ((((((w.setCell ⟨y, 0, none⟩ a0).setCell ⟨y, 1, none⟩ a1).setCell ⟨y, 2, none⟩ a2).setCell ⟨y, 3, none⟩ a3).setCell ⟨y, 4, none⟩ a4).setCell ⟨y, 5, none⟩ a5).setCell ⟨y, 6, none⟩ a6
theorem boxed_blk {w : World} {y : Nat} {t : TypeId} {a0 a1 a2 a3 a4 a5 a6 z0 z1 z2 z3 z4 z5 z6 : Value} (h : Blk w y t #[z0, z1, z2, z3, z4, z5, z6]) : Blk (boxed w y a0 a1 a2 a3 a4 a5 a6) y t #[a0, a1, a2, a3, a4, a5, a6] := by
  have k := ((((((h.set_ 0 a0).set_ 1 a1).set_ 2 a2).set_ 3 a3).set_ 4 a4).set_ 5 a5).set_ 6 a6
  simp only [List.setIfInBounds_toArray, List.set_cons_zero, List.set_cons_succ] at k
  exact k
theorem boxed_grown (w : World) (y : Nat) (a0 a1 a2 a3 a4 a5 a6 : Value) : w.grownBy (boxed w y a0 a1 a2 a3 a4 a5 a6) (some y) :=
  grown_trans (grown_trans (grown_trans (grown_trans (grown_trans (grown_trans (grown_set w ⟨y, 0, none⟩ a0) (grown_set _ ⟨y, 1, none⟩ a1)) (grown_set _ ⟨y, 2, none⟩ a2)) (grown_set _ ⟨y, 3, none⟩ a3)) (grown_set _ ⟨y, 4, none⟩ a4)) (grown_set _ ⟨y, 5, none⟩ a5)) (grown_set _ ⟨y, 6, none⟩ a6)
section
variable {w0 w w' : World} {x g1 g2 y : Nat} {v1 v2 u v : Value} {c c' : Cb} {S : Nat → Prop} {cs : Array Value}
theorem ks_grown {row : Option Nat} (h : w.grownBy w' row) (hr : ∀ q, row = some q → S q) : KS w w' S := ⟨h.os, h.tape, h.output, h.size, fun k hk hn => h.block k hk (fun e => hn (hr k e.symm))⟩
/-- a store into a box of the law's own, that holds no bytes -/
theorem LC.box {t : TypeId} (h : LC w0 w x g1 g2 v1 v2 c) (hy : Blk w y t cs) (hn : cs.all (fun u => !isBy u) = true) (hlow : w0.heap.size ≤ y) (h1 : t ≠ 56) (h2 : t ≠ 64) (h3 : 33 ≠ t) (hg : w.grownBy w' (some y)) : LC w0 w' x g1 g2 v1 v2 c := by
  have ho := h.out hy h1 h2 h3
  have ks : KS w w' (fun k => k = y) := ks_grown hg (fun q e => by cases e; rfl)
  have nb : ∀ q, (fun k => k = y) q → NoBy w (some q) := fun q e => by
    have e : q = y := e
    rw [e]; exact noBy7 hy hn
  have o1 : x ≠ y := fun e => ho (e ▸ .inl rfl)
  have o2 : g1 ≠ y := fun e => ho (e ▸ .inr (.inl rfl))
  have o3 : g2 ≠ y := fun e => ho (e ▸ .inr (.inr (.inl rfl)))
  exact ⟨⟨ks.blk h.c.blk o1, h.c.low, ⟨ks.blk h.c.qa.blk o2, h.c.qa.low, row_ks h.c.qa.row ks nb (fun q e e2 => by
    have e2 : q = y := e2
    exact ho (e2 ▸ .inr (.inr (.inr (.inl e)))))⟩, ⟨ks.blk h.c.qb.blk o3, h.c.qb.low, row_ks h.c.qb.row ks nb (fun q e e2 => by
    have e2 : q = y := e2
    exact ho (e2 ▸ .inr (.inr (.inr (.inr e)))))⟩, h.c.ne, h.c.row⟩, h.low.grown hg h.low.size (fun q e => by cases e; exact hlow)⟩
theorem Rows16.box {base : Nat} {t : TypeId} (r : Rows16 w base S c u v) (hy : Blk w y t cs) (hn : cs.all (fun u => !isBy u) = true) (h3 : 33 ≠ t) (hg : w.grownBy w' (some y)) : Rows16 w' base S c u v := by
  have ks : KS w w' (fun k => k = y) := ks_grown hg (fun q e => by cases e; rfl)
  have nb : ∀ q, (fun k => k = y) q → NoBy w (some q) := fun q e => by
    have e : q = y := e
    rw [e]; exact noBy7 hy hn
  have na : ∀ {z : Value} {ss : List (List Nat)}, SlRow w base z ss → ∀ q, z.ownBlock = some q → ¬ (fun k => k = y) q := fun hr q e e2 => by
    have e2 : q = y := e2
    obtain ⟨_, _, o, _⟩ := hr
    exact own_blk_ne o.1 hy h3 (e2 ▸ e)
  exact ⟨row_ks r.a ks nb (na r.a), row_ks r.b ks nb (na r.b), r.sa, r.sb⟩
end
/-- an act that came in -/
theorem act16_at {w : World} {A : Option Addr} {n c k : Nat} (h : IsRecs w A n c 7 (Act16R w)) (hk : k < n) : ∃ (b off : Nat) (d of_ q : Int) (B : Option Addr) (m cb : Nat) (up : Bool) (r s : Int), A = some ⟨b, off, none⟩ ∧ b < w.heap.size ∧ w.cell? ⟨b, off + k * 7, none⟩ = some (.int .i64 d) ∧ w.cell? ⟨b, off + k * 7 + 1, none⟩ = some (.int .i64 of_) ∧ w.cell? ⟨b, off + k * 7 + 2, none⟩ = some (.int .i64 q) ∧ w.cell? ⟨b, off + k * 7 + 3, none⟩ = some (.slice B m cb) ∧ w.cell? ⟨b, off + k * 7 + 4, none⟩ = some (.bool up) ∧ w.cell? ⟨b, off + k * 7 + 5, none⟩ = some (.int .i64 r) ∧ w.cell? ⟨b, off + k * 7 + 6, none⟩ = some (.int .i64 s) ∧
    (m ≤ 200 → ∃ xs, Sl w w.heap.size (.slice B m cb) xs ∧ xs.length = m) := by
  obtain ⟨b, off, rfl, hb, hc⟩ := rec_at h (by omega) (by omega)
  obtain ⟨_, h0, d, rfl, _⟩ := hc k hk 0 (by omega)
  obtain ⟨_, h1, of_, rfl, _⟩ := hc k hk 1 (by omega)
  obtain ⟨_, h2, q, rfl, _⟩ := hc k hk 2 (by omega)
  obtain ⟨_, h3, B, m, cb, zs, rfl, hr⟩ := hc k hk 3 (by omega)
  obtain ⟨_, h4, up, rfl⟩ := hc k hk 4 (by omega)
  obtain ⟨_, h5, r, rfl, _⟩ := hc k hk 5 (by omega)
  obtain ⟨_, h6, s, rfl, _⟩ := hc k hk 6 (by omega)
  exact ⟨b, off, d, of_, q, B, m, cb, up, r, s, rfl, hb, h0, h1, h2, h3, h4, h5, h6, fun hm => sl_of_row hr (by omega)⟩
end Go.Proofs.Ytkflbhaomoaonaa.Cab
