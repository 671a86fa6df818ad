/- States that came in (layer 11): what a law is told of a state by value; no program's function is named here. -/
import Derived.Test.YtpolpppnajfhdaaBasMem
namespace Go.Proofs.Ytpolpppnajfhdaa.Bas
open Go.RowKit Go.Proofs.Ytpolpppnajfhdaa.Mem Go.Proofs.Ytpolpppnajfhdaa.Oct Go.Proofs.Ytpolpppnajfhdaa.Lsa Go.Proofs.Ytpolpppnajfhdaa.Chg
set_option linter.unusedVariables false
set_option linter.unusedSimpArgs false
/-- the fields of an Lsa that came in -/
def LaR (w : World) : Nat → Value → Prop
  | 0, v => NumOf .i64 v
  | 1, v => NumOf .i64 v
  | 2, v => LkR w v
  | _, _ => True
def LasR (w : World) (v : Value) : Prop := ∃ A l c, v = .slice A l c ∧ IsRecs w A l c 3 (LaR w)
section
open Go.ChangeShapes Go.WideShapes Go.ChangeAt Go.Joins
variable {H : Type} {enc : TypeId × Value → H} {W : World} {base : Nat} {held : Bool}
set_option maxRecDepth 20000 in
theorem open_lsas_at {fuel : Nat} {v : Value} {y : DataW H × List MemPlace} (h : DataW.trod enc Try.prog W base (fun _ => true) held fuel 24 [v] = some y) : LasR W v := by
  rcases open_slice_fields Try.underlying24 Try.underlying49 (by kernel_rfl) (by kernel_rfl) h with ⟨hcs, _⟩ | ⟨x, l, c, m, D, Pl, hcs, _, hl, hm, hmm, _, hh⟩
  · injection hcs with hcs _
    exact ⟨none, 0, 0, hcs, .inl ⟨rfl, rfl, rfl⟩⟩
  · injection hcs with hcs _
    refine ⟨some x, l, c, hcs, .inr ⟨_, rfl, hl, hm, fun i hi j hj => ?_⟩⟩
    obtain ⟨ys, n, _, _, _, hg⟩ := hh i (by rw [hmm, if_pos rfl]; exact hi)
    match j, hj with
    | 0, _ =>
      obtain ⟨v, y, hc, _, ht⟩ := hg 0 _ rfl
      exact ⟨v, hc, open_num_at Try.underlying3 ht⟩
    | 1, _ =>
      obtain ⟨v, y, hc, _, ht⟩ := hg 1 _ rfl
      exact ⟨v, hc, open_num_at Try.underlying3 ht⟩
    | 2, _ =>
      obtain ⟨v, y, hc, _, ht⟩ := hg 2 _ rfl
      exact ⟨v, hc, open_links_at ht⟩
end
theorem las_in {w : World} {v : Value} (h : LasR w v) : ∃ l, Las w w.heap.size v l := by
  obtain ⟨A, n, c, rfl, h⟩ := h
  have hnc : n ≤ c ∧ c ≤ maxLen ∧ (A = none → c = 0) := by
    rcases h with ⟨rfl, rfl, rfl⟩ | ⟨x, rfl, h1, h2, _⟩
    · exact ⟨Nat.le_refl _, by unfold maxLen; omega, fun _ => rfl⟩
    · exact ⟨h1, h2, fun e => by cases e⟩
  by_cases h0 : n = 0
  · subst h0
    exact ⟨[], ⟨A, 0, c, rfl, rfl, hnc.1, hnc.2.1, hnc.2.2, fun h => absurd h (by omega)⟩⟩
  · obtain ⟨b, off, rfl, hb, hc⟩ := rec_at h (by omega) (by omega)
    have hch : ∀ i, i < n → ∃ (q : La) (u : Value), w.rangeAt b (off + i * 3) (rowL q u) ∧ Lks w w.heap.size u q.ls := fun i hi => by
      obtain ⟨v0, e0, z0, rfl, _⟩ := hc i hi 0 (by omega)
      obtain ⟨v1, e1, z1, rfl, _⟩ := hc i hi 1 (by omega)
      obtain ⟨v2, e2, A3, l3, c3, rfl, hr⟩ := hc i hi 2 (by omega)
      obtain ⟨ls, hls⟩ := lks_in hr
      refine ⟨⟨z0, z1, ls⟩, .slice A3 l3 c3, fun j v hv => ?_, hls⟩
      rw [Nat.add_assoc]
      match j, hv with
      | 0, hv => simp [rowL] at hv; subst hv; exact e0
      | 1, hv => simp [rowL] at hv; subst hv; exact e1
      | 2, hv => simp [rowL] at hv; subst hv; exact e2
      | j + 3, hv => simp [rowL] at hv
    obtain ⟨f, hf⟩ : ∃ f : Nat → La, ∀ i, i < n → ∃ u, w.rangeAt b (off + i * 3) (rowL (f i) u) ∧ Lks w w.heap.size u (f i).ls :=
      ⟨fun i => if h : i < n then Classical.choose (hch i h) else zeroL, fun i hi => by simp only [hi, dif_pos]; exact Classical.choose_spec (hch i hi)⟩
    have hg : ∀ i, i < n → ((List.range n).map f).getD i zeroL = f i := fun i hi => by simp [List.getD, hi]
    refine ⟨(List.range n).map f, ⟨_, n, c, rfl, by simp, hnc.1, hnc.2.1, hnc.2.2, fun _ => ⟨b, off, rfl, hb, fun i hi => ?_⟩⟩⟩
    rw [hg i hi]
    exact hf i hi
/-- a state that came in -/
theorem st_in {w : World} {dv uv bv ev : Value} (h1 : LasR w dv) (h2 : NumOf .i64 uv) (h3 : NumOf .i64 bv) (h4 : LkR w ev) : ∃ s : Sta, uv = .int .i64 s.up ∧ bv = .int .i64 s.bo ∧ StM w w.heap.size dv ev s := by
  obtain ⟨l, hl⟩ := las_in h1
  obtain ⟨u, rfl, _⟩ := h2
  obtain ⟨b, rfl, _⟩ := h3
  obtain ⟨A, n, c, rfl, hr⟩ := h4
  obtain ⟨ep, he⟩ := lks_in hr
  exact ⟨⟨l, u, b, ep⟩, rfl, rfl, hl, he⟩
end Go.Proofs.Ytpolpppnajfhdaa.Bas
