/- A cable in memory (layer 16): its block, its two queues; what is done with one leaves the rest as it was. -/
import Derived.Test.YtkflbhaomoaonaaCabRef
import Derived.Test.YtkflbhaomoaonaaQuLaw
namespace Go.Proofs.Ytkflbhaomoaonaa.Cab
open Go.RowKit Go.Proofs.Ytkflbhaomoaonaa.Mem Go.Proofs.Ytkflbhaomoaonaa.Que
set_option linter.unusedVariables false
set_option linter.unusedSimpArgs false
/-- but for these blocks all is as it was -/
structure KS (w w' : World) (S : Nat → Prop) : Prop where
  os : w'.os = w.os
  tape : w'.tape = w.tape
  output : w'.output = w.output
  size : w.heap.size ≤ w'.heap.size
  block : ∀ k, k < w.heap.size → ¬ S k → w'.heap[k]? = w.heap[k]?
section
variable {w w' w1 w2 : World} {S T : Nat → Prop} {base : Nat}
theorem KS.of_below (h : Below w.heap.size w w') : KS w w' S := ⟨h.os, h.tape, h.output, h.size, fun k hk _ => h.block k hk⟩
theorem KS.of_kq {g : Nat} {row : Option Nat} (h : KQ w w' g row) (hg : S g) (hr : ∀ q, row = some q → S q) : KS w w' S := ⟨h.os, h.tape, h.output, h.size, fun k hk hn => h.block k hk (fun e => hn (e ▸ hg)) (fun e => hn (hr k e.symm))⟩
theorem KS.trans (h : KS w w1 S) (k : KS w1 w2 T) (hT : ∀ q, T q → S q ∨ w.heap.size ≤ q) : KS w w2 S :=
  ⟨k.os.trans h.os, k.tape.trans h.tape, k.output.trans h.output, Nat.le_trans h.size k.size, fun b hb hn => (k.block b (Nat.lt_of_lt_of_le hb h.size) (fun e => by rcases hT b e with h1 | h1; exact hn h1; omega)).trans (h.block b hb hn)⟩
theorem KS.back (h : KS w w1 S) (k : Below w1.heap.size w1 w2) : KS w w2 S := h.trans (T := fun _ => False) (KS.of_below k) (fun q e => e.elim)
theorem KS.set (h : KS w w1 S) {p : Addr} (hp : S p.block) (u : Value) : KS w (w1.setCell p u) S :=
  ⟨h.os, h.tape, h.output, by simpa [World.setCell] using h.size, fun b hb hn => (Below.heap_setCell w1 p u b (fun e => hn (e ▸ hp))).trans (h.block b hb hn)⟩
theorem KS.low {w0 : World} {B : Nat} (h : KS w w' S) (hb : Below B w0 w) (hB : B ≤ w.heap.size) (hS : ∀ q, S q → B ≤ q) : Below B w0 w' :=
  hb.trans ⟨h.os, h.tape, h.output, h.size, fun b hb' => h.block b (by omega) (fun e => by have := hS b e; omega)⟩
theorem KS.blk {q : Nat} {t : TypeId} {cs : Array Value} (h : KS w w' S) (k : Blk w q t cs) (h1 : ¬ S q) : Blk w' q t cs := (h.block q k.lt h1).trans k
theorem sl_ks {B : Nat} {u : Value} {xs : List Nat} (h : Sl w B u xs) (k : KS w w' S) (hB : B ≤ w.heap.size) (hS : ∀ q, S q → NoBy w (some q)) : Sl w' B u xs := by
  obtain ⟨A, n, c, e, ⟨h1, h2, h3, h4⟩, h5⟩ := h
  refine ⟨A, n, c, e, ⟨h1, h2, h3, fun h0 => ?_⟩, h5⟩
  obtain ⟨b, off, e1, hb, hc⟩ := h4 h0
  refine ⟨b, off, e1, hb, fun i hi => ?_⟩
  have hne : ¬ S b := fun e => by
    have := hS b e b rfl (off + 0) _ (hc 0 h0)
    simp [isBy] at this
  rw [← hc i hi]
  exact World.cell?_of_block (k.block b (by omega) hne)
theorem row_ks {v : Value} {ss : List (List Nat)} (h : SlRow w base v ss) (k : KS w w' S) (hS : ∀ q, S q → NoBy w (some q)) (hs : ∀ q, v.ownBlock = some q → ¬ S q) : SlRow w' base v ss := by
  obtain ⟨vs, h1, ⟨h2, h3⟩, h4⟩ := h
  have hlt := h2.lt
  refine ⟨vs, h1, ⟨⟨h2.1, ?_⟩, fun x e i u hu => ?_⟩, fun i hi => (sl_ks (h4 i hi) k (Nat.le_refl _) hS).more k.size⟩
  · rcases h2.2 with h5 | ⟨q, cap, cur, e1, h6, h7, h8⟩
    · exact .inl h5
    · subst e1
      exact .inr ⟨q, cap, cur, rfl, h6, (k.block q (hlt q rfl).2 (hs q rfl)).trans h7, h8⟩
  · exact h3 x e i u (by rw [← World.cell?_of_block (a := ⟨x, i, none⟩) (k.block x (hlt x e).2 (hs x e))]; exact hu)
end
theorem blk_cells8 {w : World} {g : Nat} {t : TypeId} {m a b c d e f h : Value} (k : Blk w g t #[m, a, b, c, d, e, f, h]) : w.cell? ⟨g, 0, none⟩ = some m ∧ w.cell? ⟨g, 1, none⟩ = some a ∧ w.cell? ⟨g, 2, none⟩ = some b ∧ w.cell? ⟨g, 3, none⟩ = some c ∧ w.cell? ⟨g, 4, none⟩ = some d ∧ w.cell? ⟨g, 5, none⟩ = some e ∧ w.cell? ⟨g, 6, none⟩ = some f ∧ w.cell? ⟨g, 7, none⟩ = some h ∧ g < w.heap.size ∧ (w.frozen? ⟨g, 3, none⟩ = false ∧ w.frozen? ⟨g, 4, none⟩ = false ∧ w.frozen? ⟨g, 5, none⟩ = false) :=
  ⟨k.cell 0, k.cell 1, k.cell 2, k.cell 3, k.cell 4, k.cell 5, k.cell 6, k.cell 7, k.lt, k.frozen 3, k.frozen 4, k.frozen 5⟩
/-- the cable's own block -/
abbrev CBlk (w : World) (x g1 g2 : Nat) (c : Cb) : Prop := Blk w x 56 #[.bool true, .int .i64 c.a, .int .i64 c.b, .bool c.up, .int .i64 c.p, .int .i64 c.q, ptr g1, ptr g2]
/-- the blocks of a cable -/
def CS (x g1 g2 : Nat) (v1 v2 : Value) (k : Nat) : Prop := k = x ∨ k = g1 ∨ k = g2 ∨ v1.ownBlock = some k ∨ v2.ownBlock = some k
structure CAt (w : World) (base x g1 g2 : Nat) (v1 v2 : Value) (c : Cb) : Prop where
  blk : CBlk w x g1 g2 c
  low : base ≤ x
  qa : QAt w base g1 v1 c.ta
  qb : QAt w base g2 v2 c.tb
  ne : g1 ≠ g2
  row : ∀ q, v1.ownBlock = some q → v2.ownBlock ≠ some q
section
variable {w w' : World} {base x g1 g2 : Nat} {v1 v2 : Value} {c c' : Cb}
theorem CAt.nob (h : CAt w base x g1 g2 v1 v2 c) : ∀ q, CS x g1 g2 v1 v2 q → NoBy w (some q) := by
  rintro q (rfl | rfl | rfl | e | e)
  · exact noBy_cells h.blk (by intro u hu; simp at hu; rcases hu with rfl | rfl | rfl | rfl | rfl | rfl | rfl | rfl <;> rfl)
  · exact h.qa.nob
  · exact h.qb.nob
  · exact e ▸ slRow_nob h.qa.row
  · exact e ▸ slRow_nob h.qb.row
theorem CAt.from_ (h : CAt w base x g1 g2 v1 v2 c) : ∀ q, CS x g1 g2 v1 v2 q → base ≤ q ∧ q < w.heap.size := by
  rintro q (rfl | rfl | rfl | e | e)
  · exact ⟨h.low, h.blk.lt⟩
  · exact ⟨h.qa.low, h.qa.blk.lt⟩
  · exact ⟨h.qb.low, h.qb.blk.lt⟩
  · exact slRow_lt h.qa.row q e
  · exact slRow_lt h.qb.row q e
theorem CAt.below (h : CAt w base x g1 g2 v1 v2 c) (hb : Below w.heap.size w w') : CAt w' base x g1 g2 v1 v2 c := ⟨h.blk.below hb h.blk.lt, h.low, h.qa.below hb, h.qb.below hb, h.ne, h.row⟩
/-- what a call leaves -/
def COut (w : World) (base x g1 g2 : Nat) (v1 v2 : Value) (w' : World) (c' : Cb) : Prop :=
  ∃ v1' v2', CAt w' base x g1 g2 v1' v2' c' ∧ KS w w' (CS x g1 g2 v1 v2) ∧ ∀ q, CS x g1 g2 v1' v2' q → CS x g1 g2 v1 v2 q ∨ w.heap.size ≤ q
theorem CAt.same (h : CAt w base x g1 g2 v1 v2 c) (hb : Below w.heap.size w w') : COut w base x g1 g2 v1 v2 w' c := ⟨v1, v2, h.below hb, KS.of_below hb, fun q e => .inl e⟩
theorem CAt.xrow (h : CAt w base x g1 g2 v1 v2 c) : some x ≠ v1.ownBlock ∧ some x ≠ v2.ownBlock ∧ x ≠ g1 ∧ x ≠ g2 := by
  obtain ⟨_, _, o1, _⟩ := h.qa.row
  obtain ⟨_, _, o2, _⟩ := h.qb.row
  exact ⟨fun e => own_blk_ne o1.1 h.blk (by decide) e.symm, fun e => own_blk_ne o2.1 h.blk (by decide) e.symm, Blk.ne_ h.blk h.qa.blk (by decide), Blk.ne_ h.blk h.qb.blk (by decide)⟩
/-- something is done with the queue to the first one -/
theorem CAt.didA {ta' : List (List Nat)} (h : CAt w base x g1 g2 v1 v2 c) (o : QOut w base g1 v1 w' ta') : COut w base x g1 g2 v1 v2 w' { c with ta := ta' } := by
  obtain ⟨v1', q1, k, hl⟩ := o
  obtain ⟨e1, e2, e3, e4⟩ := h.xrow
  have hsep : ∀ q, v2.ownBlock = some q → q ≠ g1 ∧ some q ≠ v1.ownBlock := fun q e => ⟨fun e2 => by
    obtain ⟨_, _, o2, _⟩ := h.qb.row
    exact own_blk_ne o2.1 h.qa.blk (by decide) (e2 ▸ e), fun e2 => h.row q e2.symm e⟩
  have hg2 : some g2 ≠ v1.ownBlock := fun e => by
    obtain ⟨_, _, o1, _⟩ := h.qa.row
    exact own_blk_ne o1.1 h.qb.blk (by decide) e.symm
  refine ⟨v1', v2, ⟨k.blk h.blk e3 e1, h.low, q1, ⟨k.blk h.qb.blk (Ne.symm h.ne) hg2, h.qb.low, row_kq h.qb.row k h.qa.nob (slRow_nob h.qa.row) hsep⟩, h.ne, fun q e e2 => ?_⟩, KS.of_kq k (.inr (.inl rfl)) (fun q e => .inr (.inr (.inr (.inl e)))), fun q e => ?_⟩
  · rcases hl q e with h3 | h3
    · exact h.row q h3 e2
    · have := (slRow_lt h.qb.row q e2).2
      omega
  · rcases e with e | e | e | e | e
    · exact .inl (.inl e)
    · exact .inl (.inr (.inl e))
    · exact .inl (.inr (.inr (.inl e)))
    · rcases hl q e with h3 | h3
      · exact .inl (.inr (.inr (.inr (.inl h3))))
      · exact .inr h3
    · exact .inl (.inr (.inr (.inr (.inr e))))
/-- something is done with the queue to the second one -/
theorem CAt.didB {tb' : List (List Nat)} (h : CAt w base x g1 g2 v1 v2 c) (o : QOut w base g2 v2 w' tb') : COut w base x g1 g2 v1 v2 w' { c with tb := tb' } := by
  obtain ⟨v2', q2, k, hl⟩ := o
  obtain ⟨e1, e2, e3, e4⟩ := h.xrow
  have hsep : ∀ q, v1.ownBlock = some q → q ≠ g2 ∧ some q ≠ v2.ownBlock := fun q e => ⟨fun e2 => by
    obtain ⟨_, _, o1, _⟩ := h.qa.row
    exact own_blk_ne o1.1 h.qb.blk (by decide) (e2 ▸ e), fun e2 => h.row q e e2.symm⟩
  have hg1 : some g1 ≠ v2.ownBlock := fun e => by
    obtain ⟨_, _, o2, _⟩ := h.qb.row
    exact own_blk_ne o2.1 h.qa.blk (by decide) e.symm
  refine ⟨v1, v2', ⟨k.blk h.blk e4 e2, h.low, ⟨k.blk h.qa.blk h.ne hg1, h.qa.low, row_kq h.qa.row k h.qb.nob (slRow_nob h.qb.row) hsep⟩, q2, h.ne, fun q e e2 => ?_⟩, KS.of_kq k (.inr (.inr (.inl rfl))) (fun q e => .inr (.inr (.inr (.inr e)))), fun q e => ?_⟩
  · rcases hl q e2 with h3 | h3
    · exact h.row q e h3
    · have := (slRow_lt h.qa.row q e).2
      omega
  · rcases e with e | e | e | e | e
    · exact .inl (.inl e)
    · exact .inl (.inr (.inl e))
    · exact .inl (.inr (.inr (.inl e)))
    · exact .inl (.inr (.inr (.inr (.inl e))))
    · rcases hl q e with h3 | h3
      · exact .inl (.inr (.inr (.inr (.inr h3))))
      · exact .inr h3
theorem COut.trans {w1 : World} {u1 u2 : Value} {c1 : Cb} (hk : KS w w1 (CS x g1 g2 v1 v2)) (hl : ∀ q, CS x g1 g2 u1 u2 q → CS x g1 g2 v1 v2 q ∨ w.heap.size ≤ q) (o : COut w1 base x g1 g2 u1 u2 w' c1) : COut w base x g1 g2 v1 v2 w' c1 := by
  obtain ⟨a1, a2, h1, h2, h3⟩ := o
  refine ⟨a1, a2, h1, hk.trans h2 hl, fun q e => ?_⟩
  rcases h3 q e with h4 | h4
  · exact hl q h4
  · have := hk.size
    exact .inr (by omega)
end
end Go.Proofs.Ytkflbhaomoaonaa.Cab
