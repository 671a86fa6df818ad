/- Slices of slices of bytes: those that may be read, and rows of the call's own that grow by append (layer 7). -/
import Derived.Test.YtkflbhaomoaonaaOwnN
import Derived.Test.YtkflbhaomoaonaaRecs
namespace Go.Proofs.Ytkflbhaomoaonaa.Mem
open Go.RowKit
set_option linter.unusedVariables false
set_option linter.unusedSimpArgs false
theorem info25 : (Try.prog.info? 33).map (fun i => (i.zero, i.size, i.bytes)) = some (some (.slice none 0 0), 1, 24) := by kernel_rfl
theorem size25 : (Try.prog.info? 33).map (·.size) = some 1 := by kernel_rfl
def Sls (w : World) (B : Nat) (v : Value) (ss : List (List Nat)) : Prop := ∃ (A : Option Addr) (n c : Nat), v = .slice A n c ∧ ss.length = n ∧ n ≤ c ∧ c ≤ maxLen ∧
  (0 < n → ∃ b off, A = some ⟨b, off, none⟩ ∧ b < B ∧ ∀ i, i < n → ∃ u, w.cell? ⟨b, off + i, none⟩ = some u ∧ Sl w B u (ss.getD i []))
theorem Sls.keep {w w' : World} {B : Nat} {v : Value} {ss : List (List Nat)} (h : Sls w B v ss) (hb : Below B w w') : Sls w' B v ss := by
  obtain ⟨A, n, c, e, h1, h2, h3, h4⟩ := h
  refine ⟨A, n, c, e, h1, h2, h3, fun hn => ?_⟩
  obtain ⟨b, off, e1, hlt, h5⟩ := h4 hn
  refine ⟨b, off, e1, hlt, fun i hi => ?_⟩
  obtain ⟨u, h6, h7⟩ := h5 i hi
  exact ⟨u, by rw [hb.cell (p := ⟨b, off + i, none⟩) hlt]; exact h6, h7.below hb (Nat.le_refl _)⟩
theorem Sls.more {w : World} {B B' : Nat} {v : Value} {ss : List (List Nat)} (h : Sls w B v ss) (hB : B ≤ B') : Sls w B' v ss := by
  obtain ⟨A, n, c, e, h1, h2, h3, h4⟩ := h
  refine ⟨A, n, c, e, h1, h2, h3, fun hn => ?_⟩
  obtain ⟨b, off, e1, hlt, h5⟩ := h4 hn
  refine ⟨b, off, e1, by omega, fun i hi => ?_⟩
  obtain ⟨u, h6, h7⟩ := h5 i hi
  exact ⟨u, h6, h7.more hB⟩
theorem Sls.below {w w' : World} {B B' : Nat} {v : Value} {ss : List (List Nat)} (h : Sls w B v ss) (hb : Below B' w w') (hB : B ≤ B') : Sls w' B v ss := h.keep (hb.mono hB)
theorem Sls.up {w w' : World} {v : Value} {ss : List (List Nat)} (h : Sls w w.heap.size v ss) (hb : Below w.heap.size w w') : Sls w' w'.heap.size v ss := (h.keep hb).more hb.size
theorem sls_nil (w : World) (B : Nat) : Sls w B (.slice none 0 0) [] := ⟨none, 0, 0, rfl, rfl, Nat.le_refl _, by unfold maxLen; omega, fun h => absurd h (by omega)⟩
theorem sls_len {w : World} {B n c : Nat} {A : Option Addr} {ss : List (List Nat)} (h : Sls w B (.slice A n c) ss) : ss.length = n ∧ n ≤ c ∧ c ≤ maxLen := by
  obtain ⟨A', n', c', e, h1, h2, h3, h4⟩ := h
  injection e with e1 e2 e3
  subst e1 e2 e3
  exact ⟨h1, h2, h3⟩
theorem sls_at {w : World} {B n c : Nat} {A : Option Addr} {ss : List (List Nat)} (h : Sls w B (.slice A n c) ss) (hn : 0 < n) :
    ∃ b off, A = some ⟨b, off, none⟩ ∧ b < B ∧ ∀ i, i < n → ∃ u, w.cell? ⟨b, off + i, none⟩ = some u ∧ Sl w B u (ss.getD i []) := by
  obtain ⟨A', n', c', e, h1, h2, h3, h4⟩ := h
  injection e with e1 e2 e3
  subst e1 e2 e3
  exact h4 hn
theorem sls_form {w : World} {B : Nat} {v : Value} {ss : List (List Nat)} (h : Sls w B v ss) : ∃ A c, v = .slice A ss.length c := by
  obtain ⟨A, n, c, e, h1, _⟩ := h
  exact ⟨A, c, by rw [e, h1]⟩
/-- the first k of them -/
theorem Sls.take {w : World} {B n c k : Nat} {A : Option Addr} {ss : List (List Nat)} (h : Sls w B (.slice A n c) ss) (hk : k ≤ n) : Sls w B (.slice A k c) (ss.take k) := by
  obtain ⟨h1, h2, h3⟩ := sls_len h
  refine ⟨A, k, c, rfl, by rw [List.length_take]; omega, by omega, h3, fun h0 => ?_⟩
  obtain ⟨b, off, e, hlt, h5⟩ := sls_at h (by omega)
  refine ⟨b, off, e, hlt, fun i hi => ?_⟩
  obtain ⟨u, h6, h7⟩ := h5 i (by omega)
  have : (ss.take k).getD i [] = ss.getD i [] := by simp [List.getD, List.getElem?_take, hi]
  rw [this]
  exact ⟨u, h6, h7⟩
theorem getD_mem_sl {ss : List (List Nat)} {k : Nat} (h : k < ss.length) : ss.getD k [] ∈ ss := by
  simp only [List.getD, List.getElem?_eq_getElem h, Option.getD_some]
  exact List.getElem_mem h
/-- slices of bytes that came in -/
theorem sls_in {w : World} {A : Option Addr} {n c : Nat} (h : IsRecs w A n c 1 (fun _ v => RowOf .u8 w v)) (hs : ∀ b off, A = some ⟨b, off, none⟩ → ∀ i, i < n → ∃ A1 n1 c1, w.cell? ⟨b, off + i, none⟩ = some (.slice A1 n1 c1) ∧ n1 ≤ 600) :
    ∃ ss, Sls w w.heap.size (.slice A n c) ss ∧ ∀ s ∈ ss, s.length ≤ 600 := by
  have hnc : n ≤ c ∧ c ≤ maxLen := by
    rcases h with ⟨rfl, rfl, rfl⟩ | ⟨x, rfl, h1, h2, _⟩
    · exact ⟨Nat.le_refl _, by unfold maxLen; omega⟩
    · exact ⟨h1, h2⟩
  by_cases h0 : n = 0
  · subst h0
    exact ⟨[], ⟨A, 0, c, rfl, rfl, hnc.1, hnc.2, fun h => absurd h (by omega)⟩, by simp⟩
  · obtain ⟨b, off, rfl, hb, hc⟩ := rec_at h (by omega) (by omega)
    have hch : ∀ i, i < n → ∃ s u, w.cell? ⟨b, off + i, none⟩ = some u ∧ Sl w w.heap.size u s ∧ s.length ≤ 600 := fun i hi => by
      obtain ⟨A1, n1, c1, h6, hl⟩ := hs b off rfl i hi
      obtain ⟨v, hv, A2, l2, c2, zs, rfl, hr⟩ := hc i hi 0 (by omega)
      have hv' : w.cell? ⟨b, off + i, none⟩ = some (.slice A2 l2 c2) := by simpa using hv
      rw [h6] at hv'
      injection hv' with hv'
      injection hv' with a1 a2 a3
      subst a1 a2 a3
      obtain ⟨xs, hxs, hlen⟩ := sl_of_row hr (by omega)
      exact ⟨xs, _, h6, hxs, by omega⟩
    obtain ⟨f, hf⟩ : ∃ f : Nat → List Nat, ∀ i, i < n → ∃ u, w.cell? ⟨b, off + i, none⟩ = some u ∧ Sl w w.heap.size u (f i) ∧ (f i).length ≤ 600 :=
      ⟨fun i => if h : i < n then Classical.choose (hch i h) else [], fun i hi => by simp only [hi, dif_pos]; exact Classical.choose_spec (hch i hi)⟩
    have hg : ∀ i, i < n → ((List.range n).map f).getD i [] = f i := fun i hi => by simp [List.getD, hi]
    refine ⟨(List.range n).map f, ⟨_, n, c, rfl, by simp, hnc.1, hnc.2, fun _ => ⟨b, off, rfl, hb, fun i hi => ?_⟩⟩, fun q hq => ?_⟩
    · rw [hg i hi]
      obtain ⟨u, h1, h2, _⟩ := hf i hi
      exact ⟨u, h1, h2⟩
    · simp only [List.mem_map, List.mem_range] at hq
      obtain ⟨i, hi, rfl⟩ := hq
      obtain ⟨u, _, _, h3⟩ := hf i hi
      exact h3
theorem sl_one {w : World} {B : Nat} {v : Value} {xs : List Nat} (h : Sl w B v xs) : v.oneCell' = true ∧ isBy v = false := by
  obtain ⟨A, n, c, rfl, _⟩ := h
  exact ⟨rfl, rfl⟩
/-- what such a slice gives to an append -/
structure SlSrc (w : World) (B : Nat) (A : Option Addr) (n : Nat) (ss : List (List Nat)) (us : List Value) : Prop where
  len : us.length = ss.length
  num : ss.length = n
  reads : Reads w B 1 A n us
  sl : ∀ i, i < ss.length → Sl w B (us.getD i undef) (ss.getD i [])
  ones : ∀ u ∈ us, u.oneCell' = true
  nob : ∀ u ∈ us, isBy u = false
theorem slSrc_of {w : World} {B n c : Nat} {A : Option Addr} {ss : List (List Nat)} (h : Sls w B (.slice A n c) ss) : ∃ us, SlSrc w B A n ss us := by
  obtain ⟨hl, _, _⟩ := sls_len h
  by_cases h0 : n = 0
  · subst h0
    have : ss = [] := List.eq_nil_of_length_eq_zero hl
    subst this
    exact ⟨[], rfl, rfl, ⟨rfl, fun h => absurd h (by omega)⟩, fun i hi => absurd hi (by simp), by simp, by simp⟩
  · obtain ⟨b, off, rfl, hb, hc⟩ := sls_at h (by omega)
    obtain ⟨f, hf⟩ : ∃ f : Nat → Value, ∀ i, i < n → w.cell? ⟨b, off + i, none⟩ = some (f i) ∧ Sl w B (f i) (ss.getD i []) :=
      ⟨fun i => if h : i < n then Classical.choose (hc i h) else undef, fun i hi => by simp only [hi, dif_pos]; exact Classical.choose_spec (hc i hi)⟩
    have hg : ∀ i, i < n → ((List.range n).map f).getD i undef = f i := fun i hi => by simp [List.getD, hi]
    have hm : ∀ u ∈ (List.range n).map f, u.oneCell' = true ∧ isBy u = false := fun u hu => by
      simp only [List.mem_map, List.mem_range] at hu
      obtain ⟨i, hi, rfl⟩ := hu
      exact sl_one (hf i hi).2
    refine ⟨(List.range n).map f, by simp [hl], hl, ⟨by simp, fun _ => ⟨_, rfl, hb, fun j u hu => ?_⟩⟩, fun i hi => by rw [hg i (by omega)]; exact (hf i (by omega)).2, fun u hu => (hm u hu).1, fun u hu => (hm u hu).2⟩
    obtain ⟨hj, he⟩ := List.getElem?_eq_some_iff.1 hu
    have hj' : j < n := by simpa using hj
    rw [add_plain, (hf j hj').1, ← he]
    simp
theorem SlSrc.below {w w' : World} {B n : Nat} {A : Option Addr} {ss : List (List Nat)} {us : List Value} (h : SlSrc w B A n ss us) (hb : Below B w w') : SlSrc w' B A n ss us :=
  ⟨h.len, h.num, h.reads.below hb, fun i hi => (h.sl i hi).below hb (Nat.le_refl _), h.ones, h.nob⟩
def SlRow (w : World) (base : Nat) (v : Value) (ss : List (List Nat)) : Prop :=
  ∃ vs : List Value, vs.length = ss.length ∧ OwnN w base 33 1 v ss.length vs ∧ ∀ i, i < ss.length → Sl w w.heap.size (vs.getD i undef) (ss.getD i [])
theorem SlRow.below {w w' : World} {base : Nat} {v : Value} {ss : List (List Nat)} (h : SlRow w base v ss) (hb : Below w.heap.size w w') : SlRow w' base v ss := by
  obtain ⟨vs, h1, h2, h3⟩ := h
  exact ⟨vs, h1, h2.below hb, fun i hi => ((h3 i hi).below hb (Nat.le_refl _)).more hb.size⟩
theorem slRow_nil (w : World) (base : Nat) : SlRow w base (.slice none 0 0) [] := ⟨[], rfl, ownN_nil _ _ _ _, fun i hi => absurd hi (by simp)⟩
theorem slRow_lit (w : World) (base g : Nat) (hg : g = w.heap.size) (hb : base ≤ w.heap.size) : SlRow (w.alloc (.cells #[] 33)) base (.slice (some ⟨g, 0, none⟩) 0 0) [] := by
  subst hg
  exact ⟨[], rfl, ownN_lit w base _ 1 hb, fun i hi => absurd hi (by simp)⟩
theorem getD_left {α : Type} (a b : List α) (i : Nat) (d : α) (h : i < a.length) : (a ++ b).getD i d = a.getD i d := by simp [List.getD, List.getElem?_append_left h]
theorem getD_right {α : Type} (a b : List α) (i : Nat) (d : α) (h : a.length ≤ i) : (a ++ b).getD i d = b.getD (i - a.length) d := by simp [List.getD, List.getElem?_append_right h]
/-- behind an append -/
theorem slRow_app {w w' : World} {base : Nat} {v v' : Value} {ss ts : List (List Nat)} {vs us : List Value} (hl : vs.length = ss.length) (hl' : us.length = ts.length) (hn : NoBy w v.ownBlock) (h : ∀ i, i < ss.length → Sl w w.heap.size (vs.getD i undef) (ss.getD i []))
    (h' : ∀ i, i < ts.length → Sl w w.heap.size (us.getD i undef) (ts.getD i [])) (hown : OwnN w' base 33 1 v' (ss.length + ts.length) (vs ++ us)) (hg : w.grownBy w' v.ownBlock) : SlRow w' base v' (ss ++ ts) := by
  refine ⟨vs ++ us, by simp [hl, hl'], by rw [List.length_append]; exact hown, fun i hi => ?_⟩
  by_cases hc : i < ss.length
  · rw [getD_left _ _ _ _ hc, getD_left _ _ _ _ (by omega)]
    exact (sl_by (h i hc) hg (Nat.le_refl _) hn).more hg.size
  · rw [getD_right _ _ _ _ (by omega), getD_right _ _ _ _ (by omega), hl]
    exact (sl_by (h' _ (by rw [List.length_append] at hi; omega)) hg (Nat.le_refl _) hn).more hg.size
theorem slRow_sls {w : World} {base : Nat} {v : Value} {ss : List (List Nat)} (h : SlRow w base v ss) : Sls w w.heap.size v ss := by
  obtain ⟨vs, hl, ⟨hown, _⟩, hs⟩ := h
  by_cases h0 : ss.length = 0
  · have : ss = [] := List.eq_nil_of_length_eq_zero h0
    subst this
    rcases hown.2 with ⟨rfl, _⟩ | ⟨g, cap, cur, rfl, _, _, h3, h4, _⟩
    · exact sls_nil _ _
    · exact ⟨_, _, _, rfl, rfl, h3, h4, fun h => absurd h (by simp)⟩
  · rcases hown.2 with ⟨_, h⟩ | ⟨g, cap, cur, rfl, _, hg, h3, h4, h5, h6⟩
    · exact absurd h h0
    · refine ⟨_, _, _, rfl, rfl, h3, h4, fun _ => ⟨g, 0, rfl, (hown.lt g rfl).2, fun i hi => ⟨vs.getD i undef, ?_, hs i hi⟩⟩⟩
      rw [Nat.zero_add, hown.cellAt i (by omega), List.getElem?_eq_getElem (by omega)]
      simp [List.getD, List.getElem?_eq_getElem (by omega : i < vs.length)]
end Go.Proofs.Ytkflbhaomoaonaa.Mem
