/- A row of pages of the call's own that is filled from its head on (layer 5). -/
import Derived.Test.YtkidjlmjjfgknaaPart
namespace Go.Proofs.Ytkidjlmjjfgknaa.Rcd
open Go.RowKit Go.Proofs.Ytkidjlmjjfgknaa.Mem Go.Proofs.Ytkidjlmjjfgknaa.Oct Go.Proofs.Ytkidjlmjjfgknaa.Pg
set_option linter.unusedVariables false
set_option linter.unusedSimpArgs false
def zPg : Value := .agg #[.int .i64 0, .int .i64 0, .int .i64 0, .int .i64 0, .int .i64 0, .int .i64 0, .slice none 0 0]
theorem info24 : (Try.prog.info? 43).map (fun i => (i.zero, i.size, i.bytes)) = some (some zPg, 7, 72) := by kernel_rfl
theorem Sf.more {w : World} {lo lo' : Nat} {v : Value} {xs : List Nat} (h : Sf w lo v xs) (hl : lo' ≤ lo) : Sf w lo' v xs := by
  obtain ⟨A, n, c, e, hb, h1⟩ := h
  exact ⟨A, n, c, e, hb, fun ad e => Nat.le_trans hl (h1 ad e)⟩
theorem Sf.below {w w' : World} {lo : Nat} {v : Value} {xs : List Nat} (h : Sf w lo v xs) (hb : Below w.heap.size w w') : Sf w' lo v xs := by
  obtain ⟨A, n, c, e, h1, h2⟩ := h
  exact ⟨A, n, c, e, (h1.below hb (Nat.le_refl _)).more hb.size, h2⟩
theorem setCells_grown (g : Nat) : ∀ (vs : List Value) (o : Nat) (w : World), w.grownBy (w.setCells g o vs) (some g)
  | [], _, w => ⟨rfl, rfl, rfl, Nat.le_refl _, fun _ _ _ => rfl⟩
  | v :: r, o, w => grown_trans (grown_set w ⟨g, o, none⟩ v) (setCells_grown g r (o + 1) _)
theorem Sf.grown {w w' : World} {g lo : Nat} {v : Value} {xs : List Nat} (h : Sf w lo v xs) (hg : w.grownBy w' (some g)) (hlo : g < lo) : Sf w' lo v xs := by
  obtain ⟨A, n, c, e, ⟨h1, h2, h3, h4⟩, h5⟩ := h
  refine ⟨A, n, c, e, ⟨h1, h2, h3, fun h0 => ?_⟩, h5⟩
  obtain ⟨b, off, e1, hb, hc⟩ := h4 h0
  have hne : b ≠ g := by
    have h6 : lo ≤ b := h5 _ e1
    omega
  refine ⟨b, off, e1, Nat.lt_of_lt_of_le hb hg.size, fun i hi => ?_⟩
  rw [← hc i hi]
  exact World.cell?_of_block (hg.block b hb (by simpa using hne))
structure Filled (w : World) (g m k : Nat) (F : Nat → P) : Prop where
  lt : g < w.heap.size
  there : ∀ j, j < m → w.there g (j * 7) 7
  rows : ∀ j, j < k → ∃ vb, w.rangeAt g (j * 7) (row (F j) vb) ∧ Sf w (g + 1) vb (F j).b
theorem Filled.below {w w' : World} {g m k : Nat} {F : Nat → P} (h : Filled w g m k F) (hb : Below w.heap.size w w') : Filled w' g m k F :=
  ⟨Nat.lt_of_lt_of_le h.lt hb.size, fun j hj => there_below (h.there j hj) hb h.lt, fun j hj => by
    obtain ⟨vb, h1, h2⟩ := h.rows j hj
    exact ⟨vb, rangeAt_below h1 hb h.lt, h2.below hb⟩⟩
theorem Filled.step {w : World} {g m k : Nat} {F : Nat → P} {vb : Value} (h : Filled w g m k F) (hk : k < m) (hs : Sf w (g + 1) vb (F k).b) : Filled (w.setCells g (k * 7) (row (F k) vb)) g m (k + 1) F := by
  have hg := setCells_grown g (row (F k) vb) (k * 7) w
  refine ⟨Nat.lt_of_lt_of_le h.lt hg.size, fun j hj => World.there_setCells (h.there j hj) _ _ _, fun j hj => ?_⟩
  by_cases e : j = k
  · subst e
    exact ⟨vb, World.rangeAt_setCells_same _ _ _ _ (h.there j hk), hs.grown hg (Nat.lt_succ_self _)⟩
  · obtain ⟨vb', h1, h2⟩ := h.rows j (by omega)
    exact ⟨vb', World.rangeAt_setCells_apart h1 _ _ _ (.inr (by rw [row_length, row_length]; omega)), h2.grown hg (Nat.lt_succ_self _)⟩
theorem Filled.pgs {w : World} {g m : Nat} {F : Nat → P} {ps : List P} (h : Filled w g m m F) (hm : m ≤ maxLen) (hl : ps.length = m) (hp : ∀ i, i < m → ps.getD i noP = F i) : Pgs w w.heap.size (.slice (some ⟨g, 0, none⟩) m m) ps := by
  refine ⟨_, _, _, rfl, hl, Nat.le_refl _, hm, fun _ => ⟨g, 0, rfl, h.lt, fun i hi => ?_⟩⟩
  obtain ⟨vb, h1, h2⟩ := h.rows i hi
  rw [Nat.zero_add, hp i hi]
  exact ⟨vb, h1, h2.sb⟩
theorem filled_made {w : World} {base m : Nat} {g : Nat} {xs : List Value} (h : w.ownsRow base 43 7 (.slice (some ⟨g, 0, none⟩) m m) m xs) (hm : 0 < m) (F : Nat → P) : Filled w g m 0 F := by
  have hl : xs.length = m * 7 := h.1
  refine ⟨(h.lt g rfl).2, fun j hj i hi => ⟨?_, h.frozenAt _⟩, fun j hj => absurd hj (by omega)⟩
  rw [h.cellAt _ (by omega), List.getElem?_eq_getElem (by omega)]
  rfl
theorem fits_yes {p : P} {b : List Nat} (h1 : 1 ≤ parts b.length) (h : ∀ j, j < parts b.length → (nth p b (parts b.length) j).may = true) : fits p b = true := by
  simp only [fits, Bool.and_eq_true, decide_eq_true_eq, List.all_eq_true]
  refine ⟨h1, fun x hx => ?_⟩
  simp only [pages, List.mem_map, List.mem_range] at hx
  obtain ⟨j, hj, rfl⟩ := hx
  exact h j hj
theorem fits_no {p : P} {b : List Nat} {j : Nat} (hj : j < parts b.length) (h : (nth p b (parts b.length) j).may = false) : fits p b = false := by
  cases hf : fits p b
  · rfl
  · simp only [fits, Bool.and_eq_true, List.all_eq_true] at hf
    have := hf.2 (nth p b (parts b.length) j) (by simp only [pages, List.mem_map, List.mem_range]; exact ⟨j, hj, rfl⟩)
    rw [h] at this
    cases this
theorem fits_none {p : P} {b : List Nat} (h : parts b.length = 0) : fits p b = false := by simp [fits, h]
theorem pages_getD (p : P) (b : List Nat) (i : Nat) (h : i < parts b.length) : (pages p b).getD i noP = nth p b (parts b.length) i := by
  have h2 : i < (pages p b).length := by rw [pages_length]; exact h
  simp [List.getD, List.getElem?_eq_getElem h2, pages_get]
theorem part_any (p : P) (v : Value) (A : Option Addr) (n c i m : Nat) (bs : List Nat) (w : World) (h : Sl w w.heap.size (.slice A n c) bs) (hik : i * 488 ≤ n) (hn : n ≤ 7808) (hm : m ≤ 16)
    (hx0 : -9223372036854775808 ≤ p.index + i) (hx1 : p.index + i ≤ 9223372036854775807) :
    Calls Try.prog 39 #[pgV p v, .slice A n c, .int .i64 (i : Nat), .int .i64 (m : Nat)] w fun e w' =>
      ∃ v', e = .returned (pgV (nth p bs m i) v') ∧ Sf w' w.heap.size v' (nth p bs m i).b ∧ Below w.heap.size w w' := by
  have hl : bs.length = n := by
    obtain ⟨A', n', c', e, h1, _⟩ := h
    injection e with e1 e2 e3
    subst e1 e2 e3
    exact h1.1
  by_cases hc : n ≤ i * 488 + 488
  · have hp := part_at p v A n c i n m bs w h hik (Nat.le_refl _) hn (by omega) hm hx0 hx1 (by omega)
    have e : (bs.drop (i * 488)).take (n - i * 488) = (bs.drop (i * 488)).take 488 := by
      rw [List.take_of_length_le (by rw [List.length_drop]; omega), List.take_of_length_le (by rw [List.length_drop]; omega)]
    rw [e] at hp
    exact hp
  · obtain ⟨k, hk⟩ : ∃ k, k = i * 488 + 488 := ⟨_, rfl⟩
    have hp := part_at p v A n c i k m bs w h (by omega) (by omega) hn (by omega) hm hx0 hx1 (by omega)
    rw [show k - i * 488 = 488 by omega] at hp
    exact hp
end Go.Proofs.Ytkidjlmjjfgknaa.Rcd
