/- A queue in memory (layer 15): its row of texts, what a call on it leaves as it was, and rows of texts: append, make, cut. -/
import Derived.Test.YtkflbhaomoaonaaSls
import Derived.Test.YtkflbhaomoaonaaSame
import Derived.Laws.MakeOwn
import Derived.Deep.RegionLaw
namespace Go.Proofs.Ytkflbhaomoaonaa.Que
open Go.RowKit Go.Proofs.Ytkflbhaomoaonaa.Mem
set_option linter.unusedVariables false
set_option linter.unusedSimpArgs false
abbrev ptr (g : Nat) : Value := .pointer (some ⟨g, 0, none⟩)
/-- but for block g and one row, all blocks are as they were -/
structure KQ (w w' : World) (g : Nat) (row : Option Nat) : Prop where
  os : w'.os = w.os
  tape : w'.tape = w.tape
  output : w'.output = w.output
  size : w.heap.size ≤ w'.heap.size
  block : ∀ k, k < w.heap.size → k ≠ g → some k ≠ row → w'.heap[k]? = w.heap[k]?
section
variable {w w' w1 w2 : World} {g : Nat} {row row' : Option Nat}
theorem KQ.of_below (h : Below w.heap.size w w') : KQ w w' g row := ⟨h.os, h.tape, h.output, h.size, fun k hk _ _ => h.block k hk⟩
theorem KQ.of_grown (h : w.grownBy w' row) : KQ w w' g row := ⟨h.os, h.tape, h.output, h.size, fun k hk _ hr => h.block k hk hr⟩
theorem KQ.trans (h : KQ w w1 g row) (k : KQ w1 w2 g row') (hr : ∀ q, row' = some q → row = some q ∨ w.heap.size ≤ q) : KQ w w2 g row :=
  ⟨k.os.trans h.os, k.tape.trans h.tape, k.output.trans h.output, Nat.le_trans h.size k.size, fun b hb h1 h2 => (k.block b (Nat.lt_of_lt_of_le hb h.size) h1 (fun e => by
    rcases hr b e.symm with h3 | h3
    · exact h2 h3.symm
    · omega)).trans (h.block b hb h1 h2)⟩
theorem KQ.back (h : KQ w w1 g row) (k : Below w1.heap.size w1 w2) : KQ w w2 g row := h.trans (KQ.of_below (row := none) k) (fun q e => by cases e)
theorem KQ.set (h : KQ w w1 g row) (i : Nat) (u : Value) : KQ w (w1.setCell ⟨g, i, none⟩ u) g row :=
  ⟨h.os, h.tape, h.output, by simpa [World.setCell] using h.size, fun b hb h1 h2 => (Below.heap_setCell w1 ⟨g, i, none⟩ u b h1).trans (h.block b hb h1 h2)⟩
theorem KQ.low {w0 : World} {B : Nat} (h : KQ w w' g row) (hb : Below B w0 w) (hB : B ≤ w.heap.size) (hg : B ≤ g) (hr : ∀ q, row = some q → B ≤ q) : Below B w0 w' :=
  hb.trans ⟨h.os, h.tape, h.output, h.size, fun b hb' => h.block b (by omega) (by omega) (fun e => by have := hr b e.symm; omega)⟩
theorem KQ.blk {q : Nat} {t : TypeId} {cs : Array Value} (h : KQ w w' g row) (k : Blk w q t cs) (h1 : q ≠ g) (h2 : some q ≠ row) : Blk w' q t cs := (h.block q k.lt h1 h2).trans k
theorem sl_kq {B : Nat} {u : Value} {xs : List Nat} (h : Sl w B u xs) (k : KQ w w' g row) (hB : B ≤ w.heap.size) (hg : NoBy w (some g)) (hr : NoBy w row) : Sl w' B u xs := by
  obtain ⟨A, n, c, e, ⟨h1, h2, h3, h4⟩, h5⟩ := h
  refine ⟨A, n, c, e, ⟨h1, h2, h3, fun h0 => ?_⟩, h5⟩
  obtain ⟨b, off, e1, hb, hc⟩ := h4 h0
  refine ⟨b, off, e1, hb, fun i hi => ?_⟩
  have hne : b ≠ g := fun e => by
    have := hg b (by rw [e]) (off + 0) _ (hc 0 h0)
    simp [isBy] at this
  have hne2 : some b ≠ row := fun e => by
    have := hr b e.symm (off + 0) _ (hc 0 h0)
    simp [isBy] at this
  rw [← hc i hi]
  exact World.cell?_of_block (k.block b (by omega) hne hne2)
theorem own_kq {base size n : Nat} {e : TypeId} {v : Value} {xs : List Value} (h : w.ownsRow base e size v n xs) (k : KQ w w' g row) (hs : ∀ q, v.ownBlock = some q → q ≠ g ∧ some q ≠ row) : w'.ownsRow base e size v n xs := by
  refine ⟨h.1, ?_⟩
  have hlt := h.lt
  rcases h.2 with h2 | ⟨q, cap, cur, e1, h3, h4, h5⟩
  · exact .inl h2
  · subst e1
    obtain ⟨s1, s2⟩ := hs q rfl
    exact .inr ⟨q, cap, cur, rfl, h3, (k.block q (hlt q rfl).2 s1 s2).trans h4, h5⟩
theorem noBy_kq {q : Option Nat} (h : NoBy w q) (k : KQ w w' g row) (hlt : ∀ x, q = some x → x < w.heap.size) (hs : ∀ x, q = some x → x ≠ g ∧ some x ≠ row) : NoBy w' q := fun x e i u hu => by
  obtain ⟨s1, s2⟩ := hs x e
  exact h x e i u (by rw [← World.cell?_of_block (a := ⟨x, i, none⟩) (k.block x (hlt x e) s1 s2)]; exact hu)
/-- another row stays -/
theorem row_kq {base : Nat} {v : Value} {ss : List (List Nat)} (h : SlRow w base v ss) (k : KQ w w' g row) (hg : NoBy w (some g)) (hr : NoBy w row) (hs : ∀ q, v.ownBlock = some q → q ≠ g ∧ some q ≠ row) : SlRow w' base v ss := by
  obtain ⟨vs, h1, ⟨h2, h3⟩, h4⟩ := h
  exact ⟨vs, h1, ⟨own_kq h2 k hs, noBy_kq h3 k (fun x e => (h2.lt x e).2) hs⟩, fun i hi => (sl_kq (h4 i hi) k (Nat.le_refl _) hg hr).more k.size⟩
end
theorem slRow_nob {w : World} {base : Nat} {v : Value} {ss : List (List Nat)} (h : SlRow w base v ss) : NoBy w v.ownBlock := by
  obtain ⟨vs, _, hown, _⟩ := h
  exact hown.2
theorem slRow_lt {w : World} {base : Nat} {v : Value} {ss : List (List Nat)} (h : SlRow w base v ss) : ∀ q, v.ownBlock = some q → base ≤ q ∧ q < w.heap.size := by
  obtain ⟨vs, _, hown, _⟩ := h
  exact hown.1.lt
theorem slRow_form {w : World} {base : Nat} {v : Value} {ss : List (List Nat)} (h : SlRow w base v ss) : ∃ A c, v = .slice A ss.length c ∧ ss.length ≤ c ∧ c ≤ maxLen := by
  obtain ⟨A, n, c, rfl, hl, h2, h3, _⟩ := slRow_sls h
  exact ⟨A, c, by rw [hl], by omega, h3⟩
theorem slRow_form2 {w : World} {base : Nat} {v : Value} {ss : List (List Nat)} (h : SlRow w base v ss) : ∃ A n c, v = .slice A n c ∧ ss.length = n ∧ n ≤ c ∧ c ≤ 9223372036854775807 := by
  obtain ⟨A, c, e, h1, h2⟩ := slRow_form h
  unfold maxLen at h2
  exact ⟨A, _, c, e, rfl, h1, by omega⟩
theorem slRow_mono {w : World} {base base' : Nat} {v : Value} {ss : List (List Nat)} (h : SlRow w base v ss) (hb : base' ≤ base) : SlRow w base' v ss := by
  obtain ⟨vs, h1, h2, h3⟩ := h
  exact ⟨vs, h1, ⟨own_mono h2.1 hb, h2.2⟩, h3⟩
/-- the queue in block g has the texts ts, in the row v -/
structure QAt (w : World) (base g : Nat) (v : Value) (ts : List (List Nat)) : Prop where
  blk : Blk w g 64 #[.bool true, v]
  low : base ≤ g
  row : SlRow w base v ts
section
variable {w w' w1 : World} {base g : Nat} {v : Value} {ts : List (List Nat)}
theorem QAt.nob (h : QAt w base g v ts) : NoBy w (some g) := by
  obtain ⟨A, c, e, _⟩ := slRow_form h.row
  refine noBy_cells h.blk fun u hu => ?_
  simp at hu
  rcases hu with rfl | rfl
  · rfl
  · rw [e]; rfl
theorem QAt.below (h : QAt w base g v ts) (hb : Below w.heap.size w w') : QAt w' base g v ts := ⟨h.blk.below hb h.blk.lt, h.low, h.row.below hb⟩
theorem QAt.ne (h : QAt w base g v ts) : some g ≠ v.ownBlock := by
  obtain ⟨vs, _, hown, _⟩ := h.row
  exact fun e => own_blk_ne hown.1 h.blk (by decide) e.symm
theorem QAt.from_ (h : QAt w base g v ts) : ∀ q, v.ownBlock = some q → base ≤ q := fun q hq => (slRow_lt h.row q hq).1
theorem QAt.cells (h : QAt w base g v ts) : w.cell? ⟨g, 0, none⟩ = some (.bool true) ∧ w.cell? ⟨g, 1, none⟩ = some v ∧ w.frozen? ⟨g, 1, none⟩ = false ∧ g < w.heap.size := ⟨h.blk.cell 0, h.blk.cell 1, h.blk.frozen 1, h.blk.lt⟩
/-- behind an append or a cut of the row, and the store of it -/
theorem QAt.put {v1 : Value} {ts1 : List (List Nat)} (h : QAt w base g v ts) (k : KQ w w1 g v.ownBlock) (hb : Blk w1 g 64 #[.bool true, v]) (hr : SlRow w1 base v1 ts1) : QAt (w1.setCell ⟨g, 1, none⟩ v1) base g v1 ts1 := by
  have hq : ∀ q, v1.ownBlock = some q → q ≠ g := fun q e e2 => by
    subst e2
    obtain ⟨vs, _, hown, _⟩ := hr
    exact own_blk_ne hown.1 hb (by decide) e
  have hn : NoBy w1 (some g) := by
    obtain ⟨A, c, e, _⟩ := slRow_form h.row
    refine noBy_cells hb fun u hu => ?_
    simp at hu
    rcases hu with rfl | rfl
    · rfl
    · rw [e]; rfl
  refine ⟨hb.set_ 1 v1, h.low, row_kq hr ((KQ.of_below (g := g) (row := none) (Below.refl _ w1)).set 1 v1) hn (noBy_none _) (fun q e => ⟨hq q e, by simp⟩)⟩
/-- what a call leaves -/
def QOut (w : World) (base g : Nat) (v : Value) (w' : World) (ts' : List (List Nat)) : Prop := ∃ v', QAt w' base g v' ts' ∧ KQ w w' g v.ownBlock ∧ ∀ q, v'.ownBlock = some q → v.ownBlock = some q ∨ w.heap.size ≤ q
theorem QAt.same (h : QAt w base g v ts) (hb : Below w.heap.size w w') : QOut w base g v w' ts := ⟨v, h.below hb, KQ.of_below hb, fun q e => .inl e⟩
theorem QOut.kept {lv : Value} {ls ts' : List (List Nat)} {b2 : Nat} (h : QAt w base g v ts) (k : KQ w w' g v.ownBlock) (hl : SlRow w b2 lv ls) (hs : ∀ q, lv.ownBlock = some q → q ≠ g ∧ some q ≠ v.ownBlock) : SlRow w' b2 lv ls :=
  row_kq hl k h.nob (slRow_nob h.row) hs
end
/-- an append of texts onto a row of texts of one's own -/
theorem wp_row {o : Oper} {a : Act} {w : World} {K : Act → World → Prop} {Q : Exit → Act → World → Prop} (s x : Operand)
    (ho : o.op = .call { callee := .builtin .append, args := #[s, x], argTypes := #[29, 29] }) (base : Nat) (v : Value) (ss : List (List Nat)) (hs : a.eval s = v) (hrow : SlRow w base v ss)
    (A : Option Addr) (m c : Nat) (ts : List (List Nat)) (hx : a.eval x = .slice A m c) (hsrc : Sls w w.heap.size (.slice A m c) ts) (hn : ss.length + ts.length ≤ 3000) (hbase : base ≤ w.heap.size)
    (h : ∀ v' w', SlRow w' base v' (ss ++ ts) → w.grownBy w' v.ownBlock → (v'.ownBlock = v.ownBlock ∨ v'.ownBlock = some w.heap.size) → K (a.put o.dst v') w') : o.wp Try.prog a w K Q := by
  obtain ⟨i0, hi, hz0, hz1, hz2⟩ := info_parts info25
  obtain ⟨hl, _, _⟩ := sls_len hsrc
  obtain ⟨us, src⟩ := slSrc_of hsrc
  obtain ⟨vs, hvl, hown, hvs⟩ := hrow
  refine wp_append_n w s x 29 ho base 33 i0 (.slice none 0 0) 1 24 Try.underlying29 hi hz0 hz1 hz2 rfl (by decide) (by decide) v ss.length vs hs hown w.heap.size A m c us hx src.reads src.ones src.nob (by unfold maxLen; omega) (by omega) hbase ?_
  intro v' w' h2 h3 h4
  exact h v' w' (slRow_app hvl src.len hown.2 hvs (fun i hi => src.sl i hi) (by rw [src.num]; exact h2) h3) h3 h4
theorem wpList_row {ops : Array Oper} {rest : List Oper} {o : Oper} {a : Act} {w : World} {Q : Exit → Act → World → Prop} (hgd : o.guard = none) (s x : Operand)
    (ho : o.op = .call { callee := .builtin .append, args := #[s, x], argTypes := #[29, 29] }) (base : Nat) (v : Value) (ss : List (List Nat)) (hs : a.eval s = v) (hrow : SlRow w base v ss)
    (A : Option Addr) (m c : Nat) (ts : List (List Nat)) (hx : a.eval x = .slice A m c) (hsrc : Sls w w.heap.size (.slice A m c) ts) (hn : ss.length + ts.length ≤ 3000) (hbase : base ≤ w.heap.size)
    (h : ∀ v' w', SlRow w' base v' (ss ++ ts) → w.grownBy w' v.ownBlock → (v'.ownBlock = v.ownBlock ∨ v'.ownBlock = some w.heap.size) → wpList Try.prog ops Q rest (a.put o.dst v') w') : wpList Try.prog ops Q (o :: rest) a w :=
  wpList_plain hgd fun _ hK => wp_row s x ho base v ss hs hrow A m c ts hx hsrc hn hbase fun v' w' h2 h3 h4 => hK _ _ (h v' w' h2 h3 h4)
theorem step_row {ops : Array Oper} {o : Oper} {a : Act} {w : World} {K : Act → World → Prop} {Q : Exit → Act → World → Prop} {E : Prop} (hgd : o.guard = none) (s x : Operand)
    (ho : o.op = .call { callee := .builtin .append, args := #[s, x], argTypes := #[29, 29] }) (base : Nat) (v : Value) (ss : List (List Nat)) (hs : a.eval s = v) (hrow : SlRow w base v ss)
    (A : Option Addr) (m c : Nat) (ts : List (List Nat)) (hx : a.eval x = .slice A m c) (hsrc : Sls w w.heap.size (.slice A m c) ts) (hn : ss.length + ts.length ≤ 3000) (hbase : base ≤ w.heap.size)
    (h : ∀ v' w', SlRow w' base v' (ss ++ ts) → w.grownBy w' v.ownBlock → (v'.ownBlock = v.ownBlock ∨ v'.ownBlock = some w.heap.size) → K (a.put o.dst v') w') : if Region.wanted o (yielded ops a.tmps) = true then Oper.wp Try.prog o a w K Q else E := by
  have hw : Region.wanted o (yielded ops a.tmps) = true := by simp [Region.wanted, hgd]
  rw [if_pos hw]
  exact wp_row s x ho base v ss hs hrow A m c ts hx hsrc hn hbase h
/-- one text, boxed as a row -/
theorem sls_one {w : World} {g : Nat} {u : Value} {xs : List Nat} (h : Blk w g 33 #[u]) (hs : Sl w w.heap.size u xs) : Sls w w.heap.size (.slice (some ⟨g, 0, none⟩) 1 1) [xs] := by
  refine ⟨_, 1, 1, rfl, rfl, Nat.le_refl _, by unfold maxLen; omega, fun _ => ⟨g, 0, rfl, h.lt, fun i hi => ?_⟩⟩
  obtain rfl : i = 0 := by omega
  exact ⟨u, by rw [h.cell]; rfl, hs⟩
theorem sls_boxed {w : World} {u : Value} {xs : List Nat} (g : Nat) (hg : g = w.heap.size) (hs : Sl w w.heap.size u xs) : Sls (w.alloc (.cells #[u] 33)) (w.alloc (.cells #[u] 33)).heap.size (.slice (some ⟨g, 0, none⟩) 1 1) [xs] := by
  subst hg
  exact sls_one (Blk.new w _ _) ((hs.alloc (Nat.le_refl _) _).more (by simp))
/-- make([][]byte, 0, n) -/
theorem made_row (w : World) (n : Nat) (hn : n ≤ 1000) : ∃ w', (Instr.makeSlice 29 (.int .i64 0) (.int .i64 (n : Nat))).run Try.prog w = .ok (.slice (some ⟨w.heap.size, 0, none⟩) 0 n) w' ∧ SlRow w' w.heap.size (.slice (some ⟨w.heap.size, 0, none⟩) 0 n) [] ∧ Below w.heap.size w w' := by
  obtain ⟨i, hi, hz0, hz1, hz2⟩ := info_parts info25
  have hr := run_make (P := Try.prog) w 29 33 i (.slice none 0 0) Try.underlying29 hi hz0 .i64 .i64 0 n (Int.le_refl _) (by omega) (by rw [hz2]; omega) (by omega)
  simp only [Int.toNat_zero, Int.toNat_natCast] at hr
  refine ⟨_, hr, ⟨[], rfl, ⟨World.ownsRow_made w _ n (Nat.le_refl _) (by unfold maxLen; omega) (by rw [size_madeCells, hz1]), noBy_cells (heap_alloc_new w _) fun u hu => ?_⟩, fun i hi => absurd hi (by simp)⟩, (Below.refl _ _).alloc (Nat.le_refl _) _⟩
  simp [madeCells] at hu
  obtain ⟨x, _, rfl⟩ := hu
  simp [Value.cells, Nat.mod_one, isBy]
end Go.Proofs.Ytkflbhaomoaonaa.Que
