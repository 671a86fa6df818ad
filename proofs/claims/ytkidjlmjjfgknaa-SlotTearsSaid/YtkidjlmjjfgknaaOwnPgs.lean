/- Rows of pages of the call's own that grow by append (layer 5). -/
import Derived.Test.YtkidjlmjjfgknaaTold
namespace Go.Proofs.Ytkidjlmjjfgknaa.Rcd
open Go.RowKit Go.Proofs.Ytkidjlmjjfgknaa.Mem Go.Proofs.Ytkidjlmjjfgknaa.Oct Go.Proofs.Ytkidjlmjjfgknaa.Pg
set_option linter.unusedVariables false
set_option linter.unusedSimpArgs false
def flat : List P → List Value → List Value
  | p :: ps, v :: vs => row p v ++ flat ps vs
  | _, _ => []
theorem flat_len : ∀ (ps : List P) (vs : List Value), vs.length = ps.length → (flat ps vs).length = ps.length * 7
  | [], [], _ => rfl
  | p :: ps, v :: vs, h => by
    rw [flat, List.length_append, flat_len ps vs (by simpa using h), row_length, List.length_cons]
    omega
theorem flat_app : ∀ (ps qs : List P) (vs us : List Value), vs.length = ps.length → flat (ps ++ qs) (vs ++ us) = flat ps vs ++ flat qs us
  | [], qs, [], us, _ => rfl
  | p :: ps, qs, v :: vs, us, h => by
    rw [List.cons_append, List.cons_append, flat, flat, flat_app ps qs vs us (by simpa using h), List.append_assoc]
theorem flat_get : ∀ (ps : List P) (vs : List Value) (i j : Nat), vs.length = ps.length → i < ps.length → j < 7 → (flat ps vs)[i * 7 + j]? = (row (ps.getD i noP) (vs.getD i undef))[j]?
  | [], _, i, j, _, hi, _ => absurd hi (by simp)
  | p :: ps, v :: vs, 0, j, h, hi, hj => by
    rw [flat, Nat.zero_mul, Nat.zero_add, List.getElem?_append_left (by rw [row_length]; exact hj)]
    rfl
  | p :: ps, v :: vs, i + 1, j, h, hi, hj => by
    rw [flat, List.getElem?_append_right (by rw [row_length]; omega), row_length, show (i + 1) * 7 + j - 7 = i * 7 + j by omega, flat_get ps vs i j (by simpa using h) (by simpa using hi) hj]
    rfl
theorem flat_one (p : P) (v : Value) : flat [p] [v] = row p v := by simp [flat]
/-- bytes that do not lie in a certain block -/
def SbA (w : World) (g : Option Nat) (v : Value) (xs : List Nat) : Prop := ∃ (A : Option Addr) (n c : Nat), v = .slice A n c ∧ Bts w w.heap.size A n xs ∧ (0 < n → ∀ ad, A = some ad → some ad.block ≠ g)
theorem SbA.sb {w : World} {g : Option Nat} {v : Value} {xs : List Nat} (h : SbA w g v xs) : Sb w w.heap.size v xs := by
  obtain ⟨A, n, c, e, hb, _⟩ := h
  exact ⟨A, n, c, e, hb⟩
theorem SbA.below {w w' : World} {g : Option Nat} {v : Value} {xs : List Nat} (h : SbA w g v xs) (hb : Below w.heap.size w w') : SbA w' g v xs := by
  obtain ⟨A, n, c, e, h1, h2⟩ := h
  exact ⟨A, n, c, e, (h1.below hb (Nat.le_refl _)).more hb.size, h2⟩
theorem SbA.grown {w w' : World} {g g' : Option Nat} {v : Value} {xs : List Nat} (h : SbA w g v xs) (hg : w.grownBy w' g) (hn : g' = g ∨ g' = some w.heap.size) : SbA w' g' v xs := by
  obtain ⟨A, n, c, e, ⟨h1, h2, h3, h4⟩, h5⟩ := h
  refine ⟨A, n, c, e, ⟨h1, h2, h3, fun h0 => ?_⟩, fun h0 ad had => ?_⟩
  · obtain ⟨b, off, e1, hb, hc⟩ := h4 h0
    refine ⟨b, off, e1, Nat.lt_of_lt_of_le hb hg.size, fun i hi => ?_⟩
    rw [← hc i hi]
    exact World.cell?_of_block (hg.block b hb (h5 h0 _ e1))
  · rcases hn with rfl | rfl
    · exact h5 h0 ad had
    · obtain ⟨b, off, e1, hb, hc⟩ := h4 h0
      rw [e1] at had
      injection had with had
      subst had
      intro e2
      injection e2 with e2
      simp only at e2
      omega
theorem sba_of {w : World} {B : Nat} {g : Option Nat} {v : Value} {xs : List Nat} (h : Sb w B v xs) (hB : B ≤ w.heap.size) (hg : ∀ k, g = some k → B ≤ k) : SbA w g v xs := by
  obtain ⟨A, n, c, e, hb⟩ := h
  refine ⟨A, n, c, e, hb.more hB, fun h0 ad had e2 => ?_⟩
  obtain ⟨b, off, e1, hlt, _⟩ := hb.2.2.2 h0
  rw [e1] at had
  injection had with had
  subst had
  have := hg _ e2.symm
  simp only at this
  omega
def OwnPgs (w : World) (base : Nat) (v : Value) (ps : List P) : Prop :=
  ∃ vs : List Value, vs.length = ps.length ∧ w.ownsRow base 43 7 v ps.length (flat ps vs) ∧ ∀ i, i < ps.length → SbA w v.ownBlock (vs.getD i undef) (ps.getD i noP).b
theorem OwnPgs.below {w w' : World} {base : Nat} {v : Value} {ps : List P} (h : OwnPgs w base v ps) (hb : Below w.heap.size w w') : OwnPgs w' base v ps := by
  obtain ⟨vs, h1, h2, h3⟩ := h
  exact ⟨vs, h1, h2.kept (grown_of_below hb (row := none)) (by cases h : v.ownBlock <;> simp), fun i hi => (h3 i hi).below hb⟩
theorem own_nil (w : World) (base : Nat) : OwnPgs w base (.slice none 0 0) [] := ⟨[], rfl, World.ownsRow_nil _ _ _ _, fun i hi => absurd hi (by simp)⟩
theorem getD_app_left {α : Type} (a b : List α) (i : Nat) (d : α) (h : i < a.length) : (a ++ b).getD i d = a.getD i d := by simp [List.getD, List.getElem?_append_left h]
theorem getD_app_right {α : Type} (a b : List α) (i : Nat) (d : α) (h : a.length ≤ i) : (a ++ b).getD i d = b.getD (i - a.length) d := by simp [List.getD, List.getElem?_append_right h]
/-- behind an append -/
theorem own_app {w w' : World} {base : Nat} {v v' : Value} {ps qs : List P} {vs us : List Value} (hl : vs.length = ps.length) (hl' : us.length = qs.length) (h : ∀ i, i < ps.length → SbA w v.ownBlock (vs.getD i undef) (ps.getD i noP).b)
    (h' : ∀ i, i < qs.length → SbA w v.ownBlock (us.getD i undef) (qs.getD i noP).b) (hown : w'.ownsRow base 43 7 v' (ps.length + qs.length) (flat ps vs ++ flat qs us)) (hg : w.grownBy w' v.ownBlock)
    (hv : v'.ownBlock = v.ownBlock ∨ v'.ownBlock = some w.heap.size) : OwnPgs w' base v' (ps ++ qs) := by
  refine ⟨vs ++ us, by simp [hl, hl'], ?_, fun i hi => ?_⟩
  · rw [List.length_append, flat_app ps qs vs us hl]
    exact hown
  · by_cases hc : i < ps.length
    · rw [getD_app_left _ _ _ _ hc, getD_app_left _ _ _ _ (by omega)]
      exact (h i hc).grown hg hv
    · rw [getD_app_right _ _ _ _ (by omega), getD_app_right _ _ _ _ (by omega), hl]
      exact (h' _ (by rw [List.length_append] at hi; omega)).grown hg hv
theorem own_pgs {w : World} {base : Nat} {v : Value} {ps : List P} (h : OwnPgs w base v ps) : Pgs w w.heap.size v ps := by
  obtain ⟨vs, hl, hown, hs⟩ := h
  by_cases h0 : ps.length = 0
  · have : ps = [] := List.eq_nil_of_length_eq_zero h0
    subst this
    rcases hown.2 with ⟨rfl, _⟩ | ⟨g, cap, cur, rfl, _, _, h3, h4, _⟩
    · exact pgs_nil _ _
    · exact ⟨_, _, _, rfl, rfl, h3, h4, fun h => absurd h (by simp)⟩
  · rcases hown.2 with ⟨_, h⟩ | ⟨g, cap, cur, rfl, _, hg, h3, h4, h5, h6⟩
    · exact absurd h h0
    · refine ⟨_, _, _, rfl, rfl, h3, h4, fun _ => ⟨g, 0, rfl, (hown.lt g rfl).2, fun i hi => ⟨vs.getD i undef, fun j u hu => ?_, (hs i hi).sb⟩⟩⟩
      have hj : j < 7 := (List.getElem?_eq_some_iff.1 hu).1
      rw [Nat.zero_add, hown.cellAt (i * 7 + j) (by have := Nat.mul_le_mul_right 7 (Nat.succ_le_of_lt hi); rw [Nat.succ_mul] at this; omega), flat_get ps vs i j hl hi hj]
      exact hu
theorem pgs_reads {w : World} {B n c : Nat} {A : Option Addr} {ps : List P} (h : Pgs w B (.slice A n c) ps) : ∃ us : List Value, us.length = ps.length ∧ Reads w B 7 A n (flat ps us) ∧ ∀ i, i < ps.length → Sb w B (us.getD i undef) (ps.getD i noP).b := by
  obtain ⟨hl, _, _⟩ := pgs_len h
  by_cases h0 : n = 0
  · subst h0
    have : ps = [] := List.eq_nil_of_length_eq_zero hl
    subst this
    exact ⟨[], rfl, ⟨rfl, fun h => absurd h (by omega)⟩, fun i hi => absurd hi (by simp)⟩
  · obtain ⟨b, off, rfl, hb, hc⟩ := pgs_at h (by omega)
    have hch : ∃ f : Nat → Value, ∀ i, i < n → w.rangeAt b (off + i * 7) (row (ps.getD i noP) (f i)) ∧ Sb w B (f i) (ps.getD i noP).b :=
      ⟨fun i => if h : i < n then Classical.choose (hc i h) else undef, fun i hi => by simp only [hi, dif_pos]; exact Classical.choose_spec (hc i hi)⟩
    obtain ⟨f, hf⟩ := hch
    have hg : ∀ i, i < n → ((List.range n).map f).getD i undef = f i := fun i hi => by simp [List.getD, hi]
    refine ⟨(List.range n).map f, by simp [hl], ⟨by rw [flat_len _ _ (by simp [hl]), hl], fun _ => ⟨_, rfl, hb, fun j u hu => ?_⟩⟩, fun i hi => by rw [hg i (by omega)]; exact (hf i (by omega)).2⟩
    have hj : j < n * 7 := by
      have := (List.getElem?_eq_some_iff.1 hu).1
      rw [flat_len _ _ (by simp [hl]), hl] at this
      exact this
    have hji : j = j / 7 * 7 + j % 7 := by omega
    rw [hji, flat_get ps _ (j / 7) (j % 7) (by simp [hl]) (by omega) (by omega), hg _ (by omega)] at hu
    have := (hf (j / 7) (by omega)).1 (j % 7) u hu
    rw [add_plain, hji]
    rw [← Nat.add_assoc]
    exact this
theorem reads_page (w : World) (cs : Array Value) (g : Nat) (hg : g = w.heap.size) (hs : cs.size = 7) : Reads (w.alloc (.cells cs 43)) (w.heap.size + 1) 7 (some ⟨g, 0, none⟩) 1 cs.toList := by
  subst hg
  refine ⟨by simp [hs], fun _ => ⟨_, rfl, Nat.lt_succ_self _, fun j u hu => ?_⟩⟩
  have hk := Blk.new w 43 cs
  rw [add_plain, Nat.zero_add, hk.cell]
  simpa using hu
end Go.Proofs.Ytkidjlmjjfgknaa.Rcd
