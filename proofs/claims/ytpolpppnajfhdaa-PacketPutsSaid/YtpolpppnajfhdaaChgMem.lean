/- Changes in memory (layer 10): a change by value, a slice of changes wherever it lies, a row of changes of the call's own that grows by append, changes that came in. -/
import Derived.Test.YtpolpppnajfhdaaChgPure
import Derived.Test.YtpolpppnajfhdaaLsaMem
import Derived.Deep.MidRow
import Derived.Lib.SmallJoins
namespace Go.Proofs.Ytpolpppnajfhdaa.Chg
open Go.RowKit Go.Proofs.Ytpolpppnajfhdaa.Mem Go.Proofs.Ytpolpppnajfhdaa.Oct Go.Proofs.Ytpolpppnajfhdaa.Lsa
set_option linter.unusedVariables false
set_option linter.unusedSimpArgs false
abbrev chV (c : Ch) (v : Value) : Value := .agg #[.int .i64 c.k, .int .i64 c.o, .int .i64 c.s, v, .int .i64 c.n, .int .i64 c.f]
def rowC (c : Ch) (v : Value) : List Value := [.int .i64 c.k, .int .i64 c.o, .int .i64 c.s, v, .int .i64 c.n, .int .i64 c.f]
theorem rowC_length (c : Ch) (v : Value) : (rowC c v).length = 6 := rfl
theorem rangeC_below {w w' : World} {B b o : Nat} {cs : List Value} (h : w.rangeAt b o cs) (hb : Below B w w') (hlt : b < B) : w'.rangeAt b o cs := fun j v hv => (hb.cell (p := ⟨b, o + j, none⟩) hlt).trans (h j v hv)
/-- a slice of changes -/
def Chs (w : World) (B : Nat) (v : Value) (cs : List Ch) : Prop :=
  ∃ (A : Option Addr) (n c : Nat), v = .slice A n c ∧ cs.length = n ∧ n ≤ c ∧ c ≤ maxLen ∧
    (0 < n → ∃ b off, A = some ⟨b, off, none⟩ ∧ b < B ∧ ∀ i, i < n → ∃ u, w.rangeAt b (off + i * 6) (rowC (cs.getD i zeroC) u) ∧ Lks w B u (cs.getD i zeroC).ls)
section
variable {w w' : World} {B B' : Nat} {v : Value} {cs : List Ch}
theorem Chs.keep (h : Chs w B v cs) (hb : Below B w w') : Chs w' B v cs := by
  obtain ⟨A, n, c, e, h1, h2, h3, h4⟩ := h
  refine ⟨A, n, c, e, h1, h2, h3, fun hn => ?_⟩
  obtain ⟨b, off, e1, hlt, h5⟩ := h4 hn
  refine ⟨b, off, e1, hlt, fun i hi => ?_⟩
  obtain ⟨u, h6, h7⟩ := h5 i hi
  exact ⟨u, rangeC_below h6 hb hlt, h7.below hb (Nat.le_refl _)⟩
theorem Chs.more (h : Chs w B v cs) (hB : B ≤ B') : Chs w B' v cs := by
  obtain ⟨A, n, c, e, h1, h2, h3, h4⟩ := h
  refine ⟨A, n, c, e, h1, h2, h3, fun hn => ?_⟩
  obtain ⟨b, off, e1, hlt, h5⟩ := h4 hn
  refine ⟨b, off, e1, by omega, fun i hi => ?_⟩
  obtain ⟨u, h6, h7⟩ := h5 i hi
  exact ⟨u, h6, h7.more hB⟩
theorem Chs.up (h : Chs w w.heap.size v cs) (hb : Below w.heap.size w w') : Chs w' w'.heap.size v cs := (h.keep hb).more hb.size
theorem chs_nil (w : World) (B : Nat) : Chs w B (.slice none 0 0) [] := ⟨none, 0, 0, rfl, rfl, Nat.le_refl _, by unfold maxLen; omega, fun h => absurd h (by omega)⟩
theorem chs_len {A : Option Addr} {n c : Nat} (h : Chs w B (.slice A n c) cs) : cs.length = n ∧ n ≤ c ∧ c ≤ maxLen := by
  obtain ⟨A', n', c', e, h1, h2, h3, h4⟩ := h
  injection e with e1 e2 e3
  subst e1 e2 e3
  exact ⟨h1, h2, h3⟩
theorem chs_at {A : Option Addr} {n c : Nat} (h : Chs w B (.slice A n c) cs) (hn : 0 < n) :
    ∃ b off, A = some ⟨b, off, none⟩ ∧ b < B ∧ ∀ i, i < n → ∃ u, w.rangeAt b (off + i * 6) (rowC (cs.getD i zeroC) u) ∧ Lks w B u (cs.getD i zeroC).ls := by
  obtain ⟨A', n', c', e, h1, h2, h3, h4⟩ := h
  injection e with e1 e2 e3
  subst e1 e2 e3
  exact h4 hn
end
/-! ### a row of one's own -/
def flatC : List Ch → List Value → List Value
  | c :: cs, u :: us => rowC c u ++ flatC cs us
  | _, _ => []
theorem flatC_len : ∀ (cs : List Ch) (us : List Value), us.length = cs.length → (flatC cs us).length = cs.length * 6
  | [], [], _ => rfl
  | c :: cs, u :: us, h => by
    rw [flatC, List.length_append, flatC_len cs us (by simpa using h), rowC_length, List.length_cons]
    omega
theorem flatC_app : ∀ (cs ds : List Ch) (us vs : List Value), us.length = cs.length → flatC (cs ++ ds) (us ++ vs) = flatC cs us ++ flatC ds vs
  | [], ds, [], vs, _ => rfl
  | c :: cs, ds, u :: us, vs, h => by
    rw [List.cons_append, List.cons_append, flatC, flatC, flatC_app cs ds us vs (by simpa using h), List.append_assoc]
theorem flatC_get : ∀ (cs : List Ch) (us : List Value) (i j : Nat), us.length = cs.length → i < cs.length → j < 6 → (flatC cs us)[i * 6 + j]? = (rowC (cs.getD i zeroC) (us.getD i undef))[j]?
  | [], _, i, j, _, hi, _ => absurd hi (by simp)
  | c :: cs, u :: us, 0, j, h, hi, hj => by
    rw [flatC, Nat.zero_mul, Nat.zero_add, List.getElem?_append_left (by rw [rowC_length]; exact hj)]
    rfl
  | c :: cs, u :: us, i + 1, j, h, hi, hj => by
    rw [flatC, List.getElem?_append_right (by rw [rowC_length]; omega), rowC_length, show (i + 1) * 6 + j - 6 = i * 6 + j by omega, flatC_get cs us i j (by simpa using h) (by simpa using hi) hj]
    rfl
theorem flatC_one (c : Ch) (u : Value) : flatC [c] [u] = rowC c u := by simp [flatC]
theorem rowC_one (c : Ch) (A : Option Addr) (n k : Nat) : ∀ u ∈ rowC c (.slice A n k), u.oneCell' = true := by
  intro u hu
  simp only [rowC, List.mem_cons, List.not_mem_nil, or_false] at hu
  rcases hu with rfl | rfl | rfl | rfl | rfl | rfl <;> rfl
/-- links that lie behind a certain place, in a row of links, and not in a certain block -/
def LkA (w : World) (lo : Nat) (g : Option Nat) (u : Value) (ls : List Lk) : Prop := Lks w w.heap.size u ls ∧ ∀ A n c, u = .slice A n c → 0 < n → ∀ ad, A = some ad → lo ≤ ad.block ∧ some ad.block ≠ g ∧ ∃ cs, Blk w ad.block 85 cs
theorem LkA.below {w w' : World} {lo : Nat} {g : Option Nat} {u : Value} {ls : List Lk} (h : LkA w lo g u ls) (hb : Below w.heap.size w w') : LkA w' lo g u ls := ⟨h.1.up hb, fun A n c e h0 ad had => by obtain ⟨q1, q2, cs, q3⟩ := h.2 A n c e h0 ad had; exact ⟨q1, q2, cs, q3.below hb q3.lt⟩⟩
theorem LkA.kept {w w' : World} {lo q : Nat} {g : Option Nat} {u : Value} {ls : List Lk} (h : LkA w lo g u ls) (hg : w.grownBy w' (some q)) (hq : q < lo) : LkA w' lo g u ls := by
  obtain ⟨⟨A, n, c, rfl, h1, h2, h3, h4, h5⟩, h6⟩ := h
  refine ⟨⟨A, n, c, rfl, h1, h2, h3, h4, fun h0 => ?_⟩, fun A' n' c' e h0 ad had => by obtain ⟨q1, q2, cs, q3⟩ := h6 A' n' c' e h0 ad had; exact ⟨q1, q2, cs, q3.grown hg (by simp only [ne_eq, Option.some.injEq]; omega)⟩⟩
  obtain ⟨b, off, rfl, hb, hc⟩ := h5 h0
  have hl := (h6 _ _ _ rfl h0 _ rfl).1
  have hne : some b ≠ some q := fun e => by cases e; simp only at hl; omega
  refine ⟨b, off, rfl, Nat.lt_of_lt_of_le hb hg.size, fun i hi => ⟨?_, ?_⟩⟩
  · rw [← (hc i hi).1]; exact World.cell?_of_block (hg.block b hb hne)
  · rw [← (hc i hi).2]; exact World.cell?_of_block (hg.block b hb hne)
theorem LkA.grown {w w' : World} {lo : Nat} {g g' : Option Nat} {u : Value} {ls : List Lk} (h : LkA w lo g u ls) (hg : w.grownBy w' g) (hn : g' = g ∨ g' = some w.heap.size) : LkA w' lo g' u ls := by
  obtain ⟨⟨A, n, c, rfl, h1, h2, h3, h4, h5⟩, h6⟩ := h
  refine ⟨⟨A, n, c, rfl, h1, h2, h3, h4, fun h0 => ?_⟩, fun A' n' c' e h0 ad had => ?_⟩
  · obtain ⟨b, off, rfl, hb, hc⟩ := h5 h0
    have hne := (h6 _ _ _ rfl h0 _ rfl).2.1
    refine ⟨b, off, rfl, Nat.lt_of_lt_of_le hb hg.size, fun i hi => ⟨?_, ?_⟩⟩
    · rw [← (hc i hi).1]; exact World.cell?_of_block (hg.block b hb hne)
    · rw [← (hc i hi).2]; exact World.cell?_of_block (hg.block b hb hne)
  · injection e with e1 e2 e3
    subst e1 e2 e3
    obtain ⟨b, off, e2, hb, hc⟩ := h5 h0
    obtain ⟨q1, q2, cs, q3⟩ := h6 _ _ _ rfl h0 ad had
    refine ⟨q1, ?_, cs, q3.grown hg q2⟩
    rcases hn with rfl | rfl
    · exact q2
    · rw [e2] at had
      cases had
      intro e
      have := Option.some.inj e
      simp only at this
      omega
/-- links made by a call, behind the row -/
theorem lkA_new {w : World} {lo base n : Nat} {g : Option Nat} {u : Value} {ls : List Lk} (h : w.ownsRow base 85 2 u n (lkCells ls)) (hlo : lo ≤ base) (hg : ∀ k, g = some k → k < base) : LkA w lo g u ls := by
  refine ⟨lks_own h, fun A n' c e h0 ad had => ?_⟩
  subst e
  rcases h.2 with ⟨e, _⟩ | ⟨q, cap, cur, e, hq, hh, _⟩
  · injection e with e1 e2 e3
    omega
  · injection e with e1 e3 e4
    rw [e1] at had
    cases had
    refine ⟨Nat.le_trans hlo hq, fun e2 => ?_, cur, hh⟩
    have := hg _ e2.symm
    simp only at this
    omega
theorem getD_app_l {α : Type} (a b : List α) (i : Nat) (d : α) (h : i < a.length) : (a ++ b).getD i d = a.getD i d := by simp [List.getD, List.getElem?_append_left h]
theorem getD_app_r {α : Type} (a b : List α) (i : Nat) (d : α) (h : a.length ≤ i) : (a ++ b).getD i d = b.getD (i - a.length) d := by simp [List.getD, List.getElem?_append_right h]
section
open Go.ChangeShapes Go.WideShapes Go.Deep Go.Joins
variable {H : Type} {enc : TypeId × Value → H} {P : Program} {w : World} {base : Nat} {spare : Nat → Bool} {held : Bool}
theorem list6 {α : Type} {cs : List α} (h : cs.length = 6) : ∃ c0 c1 c2 c3 c4 c5, cs = [c0, c1, c2, c3, c4, c5] := by
  match cs, h with
  | [c0, c1, c2, c3, c4, c5], _ => exact ⟨c0, c1, c2, c3, c4, c5, rfl⟩
/-- a struct of four fields, the second of which is one of three -/
theorem trod_nest {t : TypeId} {f0 f1 f2 f3 g0 g1 g2 : Field} {fuel : Nat} {cs : List Value} {x : DataW H × List MemPlace} (hs : P.underlying t = some (.struct #[f0, f1, f2, f3])) (hl : P.underlying f1.type = some (.struct #[g0, g1, g2]))
    (ho : f0.offset = 0 ∧ f1.offset = 1 ∧ f2.offset = 4 ∧ f3.offset = 5) (hk : P.cellsOf f0.type = 1 ∧ P.cellsOf f1.type = 3 ∧ P.cellsOf f2.type = 1 ∧ P.cellsOf f3.type = 1) (hone : oneCellFields P #[g0, g1, g2] = true) (hC : P.cellsOf t = 6)
    (h : DataW.trod enc P w base spare held fuel t cs = some x) :
    ∃ (c0 c1 c2 c3 c4 c5 : Value) (n m : Nat) (y0 y1 y2 y3 y4 y5 : DataW H × List MemPlace), cs = [c0, c1, c2, c3, c4, c5] ∧ DataW.trod enc P w base spare held n f0.type [c0] = some y0 ∧ DataW.trod enc P w base spare held m g0.type [c1] = some y1 ∧ DataW.trod enc P w base spare held m g1.type [c2] = some y2 ∧ DataW.trod enc P w base spare held m g2.type [c3] = some y3 ∧ DataW.trod enc P w base spare held n f2.type [c4] = some y4 ∧ DataW.trod enc P w base spare held n f3.type [c5] = some y5 := by
  obtain ⟨xs, n, _, _, hlen, hxl, hf⟩ := DataW.trod_struct hs h
  obtain ⟨c0, c1, c2, c3, c4, c5, rfl⟩ := list6 (hlen.trans hC)
  obtain ⟨o0, o1, o2, o3⟩ := ho
  obtain ⟨k0, k1, k2, k3⟩ := hk
  match xs, hxl with
  | [y0, y1, y2, y3], _ =>
    have q0 := hf 0 f0 rfl
    have q1 := hf 1 f1 rfl
    have q2 := hf 2 f2 rfl
    have q3 := hf 3 f3 rfl
    rw [o0, k0] at q0
    rw [o1, k1] at q1
    rw [o2, k2] at q2
    rw [o3, k3] at q3
    simp only [List.drop_zero, List.drop_succ_cons, List.take_succ_cons, List.take_zero] at q0 q1 q2 q3
    obtain ⟨ys, m, _, _, hlen', hyl, hg⟩ := DataW.trod_struct hl q1
    match ys, hyl with
    | [z0, z1, z2], _ =>
      obtain ⟨p0, j0⟩ := hone_of hone 0 g0 rfl
      obtain ⟨p1, j1⟩ := hone_of hone 1 g1 rfl
      obtain ⟨p2, j2⟩ := hone_of hone 2 g2 rfl
      have r0 := hg 0 g0 rfl
      have r1 := hg 1 g1 rfl
      have r2 := hg 2 g2 rfl
      rw [p0, j0] at r0
      rw [p1, j1] at r1
      rw [p2, j2] at r2
      exact ⟨c0, c1, c2, c3, c4, c5, n, m, y0, z0, z1, z2, y2, y3, rfl, q0, r0, r1, r2, q2, q3⟩
end
/-- what a law is told of a change's cells -/
def LkR (w : World) (v : Value) : Prop := ∃ A l c, v = .slice A l c ∧ IsRecs w A l c 2 (fun _ v => NumOf .i64 v)
def ChR (w : World) (j : Nat) (v : Value) : Prop := if j = 3 then LkR w v else NumOf .i64 v
section
open Go.ChangeShapes Go.WideShapes Go.Deep Go.Joins
variable {H : Type} {enc : TypeId × Value → H} {W : World} {base : Nat} {held : Bool}
theorem open_links_at {fuel : Nat} {v : Value} {y : DataW H × List MemPlace} (h : DataW.trod enc Try.prog W base (fun _ => true) held fuel 47 [v] = some y) : LkR W v := by
  rcases open_slice_fields Try.underlying47 Try.underlying85 (by kernel_rfl) (by kernel_rfl) h with ⟨hcs, _⟩ | ⟨x, l, c, m, D, Pl, hcs, _, hl, hm, hmm, _, hh⟩
  · injection hcs with hcs _
    exact ⟨none, 0, 0, hcs, .inl ⟨rfl, rfl, rfl⟩⟩
  · injection hcs with hcs _
    refine ⟨some x, l, c, hcs, .inr ⟨_, rfl, hl, hm, fun i hi j hj => ?_⟩⟩
    obtain ⟨ys, n, _, _, _, hg⟩ := hh i (by rw [hmm, if_pos rfl]; exact hi)
    match j, hj with
    | 0, _ =>
      obtain ⟨v, y, hc, _, ht⟩ := hg 0 _ rfl
      exact ⟨v, hc, open_num_at Try.underlying3 ht⟩
    | 1, _ =>
      obtain ⟨v, y, hc, _, ht⟩ := hg 1 _ rfl
      exact ⟨v, hc, open_num_at Try.underlying3 ht⟩
end
theorem chs_in {w : World} {A : Option Addr} {n c : Nat} (h : IsRecs w A n c 6 (ChR w)) : ∃ cs, Chs w w.heap.size (.slice A n c) cs := by
  have hnc : n ≤ c ∧ c ≤ maxLen := by
    rcases h with ⟨rfl, rfl, rfl⟩ | ⟨x, rfl, h1, h2, _⟩
    · exact ⟨Nat.le_refl _, by unfold maxLen; omega⟩
    · exact ⟨h1, h2⟩
  by_cases h0 : n = 0
  · subst h0
    exact ⟨[], ⟨A, 0, c, rfl, rfl, hnc.1, hnc.2, fun h => absurd h (by omega)⟩⟩
  · obtain ⟨b, off, rfl, hb, hc⟩ := rec_at h (by omega) (by omega)
    have hch : ∀ i, i < n → ∃ (q : Ch) (u : Value), w.rangeAt b (off + i * 6) (rowC q u) ∧ Lks w w.heap.size u q.ls := fun i hi => by
      obtain ⟨v0, e0, z0, rfl, _⟩ := hc i hi 0 (by omega)
      obtain ⟨v1, e1, z1, rfl, _⟩ := hc i hi 1 (by omega)
      obtain ⟨v2, e2, z2, rfl, _⟩ := hc i hi 2 (by omega)
      obtain ⟨v3, e3, A3, l3, c3, rfl, hr⟩ := hc i hi 3 (by omega)
      obtain ⟨v4, e4, z4, rfl, _⟩ := hc i hi 4 (by omega)
      obtain ⟨v5, e5, z5, rfl, _⟩ := hc i hi 5 (by omega)
      obtain ⟨ls, hls⟩ := lks_in hr
      refine ⟨⟨z0, z1, z2, ls, z4, z5⟩, .slice A3 l3 c3, fun j v hv => ?_, hls⟩
      rw [Nat.add_assoc]
      match j, hv with
      | 0, hv => simp [rowC] at hv; subst hv; exact e0
      | 1, hv => simp [rowC] at hv; subst hv; exact e1
      | 2, hv => simp [rowC] at hv; subst hv; exact e2
      | 3, hv => simp [rowC] at hv; subst hv; exact e3
      | 4, hv => simp [rowC] at hv; subst hv; exact e4
      | 5, hv => simp [rowC] at hv; subst hv; exact e5
      | j + 6, hv => simp [rowC] at hv
    obtain ⟨f, hf⟩ : ∃ f : Nat → Ch, ∀ i, i < n → ∃ u, w.rangeAt b (off + i * 6) (rowC (f i) u) ∧ Lks w w.heap.size u (f i).ls :=
      ⟨fun i => if h : i < n then Classical.choose (hch i h) else zeroC, fun i hi => by simp only [hi, dif_pos]; exact Classical.choose_spec (hch i hi)⟩
    have hg : ∀ i, i < n → ((List.range n).map f).getD i zeroC = f i := fun i hi => by simp [List.getD, hi]
    refine ⟨(List.range n).map f, ⟨_, n, c, rfl, by simp, hnc.1, hnc.2, fun _ => ⟨b, off, rfl, hb, fun i hi => ?_⟩⟩⟩
    rw [hg i hi]
    exact hf i hi
end Go.Proofs.Ytpolpppnajfhdaa.Chg
