/- Acts that came in (layer 3): from what a law is told of its slice to Light, and to a list of acts. -/
import Derived.Test.YtpmkacpdmjnbjaaRecs
import Derived.Test.YtpmkacpdmjnbjaaActs
namespace Go.Proofs.Ytpmkacpdmjnbjaa.Dsk
open Go.RowKit Go.Maps Go.Shelf Go.Proofs.Ytpmkacpdmjnbjaa.Mem
set_option linter.unusedVariables false
set_option linter.unusedSimpArgs false
def TearR (w : World) (j : Nat) (v : Value) : Prop := match j with | 0 => NumOf .i64 v | 1 => RowOf .u8 w v | _ => True
def TearsR (w : World) (v : Value) : Prop := ∃ A l c, v = .slice A l c ∧ IsRecs w A l c 2 (TearR w)
def ActR (w : World) (j : Nat) (v : Value) : Prop := match j with | 0 => NumOf .i64 v | 1 => NumOf .i64 v | 2 => RowOf .u8 w v | 3 => ∃ b, v = .bool b | 4 => TearsR w v | _ => True
theorem list_of {α : Type} {n : Nat} {P : Nat → α → Prop} (h : ∀ i, i < n → ∃ x, P i x) : ∃ l : List α, l.length = n ∧ ∀ i, i < n → ∃ x, l[i]? = some x ∧ P i x := by
  induction n with
  | zero => exact ⟨[], rfl, fun i hi => absurd hi (by omega)⟩
  | succ n ih =>
    obtain ⟨l, hl, hp⟩ := ih (fun i hi => h i (by omega))
    obtain ⟨x, hx⟩ := h n (by omega)
    refine ⟨l ++ [x], by simp [hl], fun i hi => ?_⟩
    by_cases e : i < n
    · obtain ⟨y, h1, h2⟩ := hp i e
      exact ⟨y, by rw [List.getElem?_append_left (by omega)]; exact h1, h2⟩
    · obtain rfl : i = n := by omega
      exact ⟨x, by rw [List.getElem?_append_right (by omega)]; simp [hl], hx⟩
theorem tears_of {w : World} {A : Option Addr} {n c : Nat} (h : IsRecs w A n c 2 (TearR w)) (hn : n ≤ 40)
    (hu : ∀ bt ot, A = some ⟨bt, ot, none⟩ → ∀ k, k < n → ∀ (Au : Option Addr) (nu cu : Nat), w.cell? ⟨bt, ot + k * 2 + 1, none⟩ = some (.slice Au nu cu) → nu ≤ 600) : ∃ l, TearsAt w w.heap.size (.slice A n c) l := by
  by_cases h0 : 0 < n
  · obtain ⟨b, off, rfl, hb, hc⟩ := rec_at h (by omega) h0
    obtain ⟨l, hl, hp⟩ := list_of (α := Int × List Nat) (n := n) (P := fun i p => ∃ u, w.cell? ⟨b, off + i * 2, none⟩ = some (.int .i64 p.1) ∧ w.cell? ⟨b, off + i * 2 + 1, none⟩ = some u ∧ Sl w w.heap.size u p.2 ∧ (Lit.int .i64 p.1).wf = true) (fun i hi => by
      obtain ⟨v0, c0, k, rfl, wk⟩ := hc i hi 0 (by omega)
      obtain ⟨v1, c1, A1, l1, c1', zs, rfl, w1⟩ := hc i hi 1 (by omega)
      obtain ⟨xs, hs, _⟩ := sl_of_row w1 (Nat.le_trans (hu b off rfl i hi A1 l1 c1' c1) (by omega))
      exact ⟨(k, xs), _, c0, c1, hs, wk⟩)
    exact ⟨l, _, _, _, rfl, hl, by omega, fun _ => ⟨b, off, rfl, hb, fun i hi => by
      obtain ⟨p, h1, u, h2, h3, h4, h5⟩ := hp i hi
      exact ⟨p.1, u, p.2, h1, h2, h3, h4, h5⟩⟩⟩
  · obtain rfl : n = 0 := by omega
    exact ⟨[], _, _, _, rfl, rfl, by omega, fun h => absurd h (by omega)⟩
theorem recs_len {w : World} {A : Option Addr} {n c m : Nat} {R : Nat → Value → Prop} (h : IsRecs w A n c m R) : n ≤ 9223372036854775807 := by
  rcases h with ⟨_, rfl, _⟩ | ⟨x, _, h1, h2, _⟩
  · omega
  · unfold maxLen at h2; omega
theorem lens_of {w : World} {A : Option Addr} {n c : Nat} (h : IsRecs w A n c 5 (ActR w)) : 0 < n → ∃ b off, A = some ⟨b, off, none⟩ ∧ b < w.heap.size ∧ ∀ i, i < n → ActLens w b off i := by
  intro h0
  obtain ⟨b, off, rfl, hb, hc⟩ := rec_at h (by omega) h0
  refine ⟨b, off, rfl, hb, fun i hi => ?_⟩
  obtain ⟨v2, c2, Ab, nb, cb, zs, rfl, _⟩ := hc i hi 2 (by omega)
  obtain ⟨v4, c4, At, nt, ct, rfl, ht⟩ := hc i hi 4 (by omega)
  refine ⟨Ab, nb, cb, At, nt, ct, c2, c4, fun h1 => ?_⟩
  obtain ⟨bt, ot, rfl, hbt, hct⟩ := rec_at ht (by omega) h1
  refine ⟨bt, ot, rfl, hbt, fun k hk => ?_⟩
  obtain ⟨v1, c1, A1, l1, c1', zs, rfl, w1⟩ := hct k hk 1 (by omega)
  exact ⟨A1, l1, c1', c1⟩
theorem acts_of {w : World} {A : Option Addr} {n c : Nat} (h : IsRecs w A n c 5 (ActR w)) (hf : ∀ b off, A = some ⟨b, off, none⟩ → ∀ i, i < n → ActFits w b off i) : ∃ l, ActsAt w w.heap.size A n l := by
  by_cases h0 : 0 < n
  · obtain ⟨b, off, rfl, hb, hc⟩ := rec_at h (by omega) h0
    obtain ⟨l, hl, hp⟩ := list_of (α := Ac) (n := n) (P := fun i a => ∃ (vb vt : Value),
        w.cell? ⟨b, off + i * 5, none⟩ = some (.int .i64 a.what) ∧ w.cell? ⟨b, off + i * 5 + 1, none⟩ = some (.int .i64 a.n) ∧ w.cell? ⟨b, off + i * 5 + 2, none⟩ = some vb ∧ w.cell? ⟨b, off + i * 5 + 3, none⟩ = some (.bool a.short) ∧ w.cell? ⟨b, off + i * 5 + 4, none⟩ = some vt ∧
        Sl w w.heap.size vb a.b ∧ TearsAt w w.heap.size vt a.tears ∧ -9223372036854775808 ≤ a.n ∧ a.n ≤ 9223372036854775807) (fun i hi => by
      obtain ⟨v0, c0, k0, rfl, w0⟩ := hc i hi 0 (by omega)
      obtain ⟨v1, c1, k1, rfl, w1⟩ := hc i hi 1 (by omega)
      obtain ⟨v2, c2, Ab, nb, cb, zs, rfl, w2⟩ := hc i hi 2 (by omega)
      obtain ⟨v3, c3, b3, rfl⟩ := hc i hi 3 (by omega)
      obtain ⟨v4, c4, At, nt, ct, rfl, w4⟩ := hc i hi 4 (by omega)
      obtain ⟨f1, f2, f3⟩ := hf b off rfl i hi Ab nb cb At nt ct c2 c4
      obtain ⟨xs, hs, _⟩ := sl_of_row w2 (by omega)
      obtain ⟨ts, hts⟩ := tears_of w4 f2 f3
      have hb := Go.bounds_i64 w1
      exact ⟨⟨k0, k1, xs, b3, ts⟩, _, _, c0, c1, c2, c3, c4, hs, hts, hb.1, by have := hb.2; omega⟩)
    exact ⟨l, hl, fun _ => ⟨b, off, rfl, hb, fun i hi => by
      obtain ⟨a, h1, vb, vt, h2⟩ := hp i hi
      exact ⟨a, vb, vt, h1, h2⟩⟩⟩
  · obtain rfl : n = 0 := by omega
    exact ⟨[], rfl, fun h => absurd h (by omega)⟩
theorem light_yes {A : Option Addr} {len cap : Nat} {w : World} (h : IsRecs w A len cap 5 (ActR w)) (hf : len ≤ 40 ∧ ∀ b off, A = some ⟨b, off, none⟩ → ∀ i, i < len → ActFits w b off i) :
    Calls Try.prog 10 #[.slice A len cap] w fun e w' => e = .returned (.bool true) ∧ w = w' :=
  (light_any A len cap w (recs_len h) (lens_of h)).mono fun e w' ⟨t, h1, h2, h3⟩ => by
    obtain rfl := h3.2 hf
    exact ⟨h1, h2⟩
theorem light_not {A : Option Addr} {len cap : Nat} {w : World} (h : IsRecs w A len cap 5 (ActR w)) (hf : ¬ (len ≤ 40 ∧ ∀ b off, A = some ⟨b, off, none⟩ → ∀ i, i < len → ActFits w b off i)) :
    Calls Try.prog 10 #[.slice A len cap] w fun e w' => e = .returned (.bool false) ∧ w = w' :=
  (light_any A len cap w (recs_len h) (lens_of h)).mono fun e w' ⟨t, h1, h2, h3⟩ => by
    cases t
    · exact ⟨h1, h2⟩
    · exact absurd (h3.1 rfl) hf
end Go.Proofs.Ytpmkacpdmjnbjaa.Dsk
