/- The reference's disk by value (layer 3): two rows of slices of bytes, how many acts are done, whether it is dead; all in blocks that are not among S. -/
import Derived.Test.YtpmkacpdmjnbjaaCrash
namespace Go.Proofs.Ytpmkacpdmjnbjaa.Dsk
open Go.RowKit Go.Maps Go.Proofs.Ytpmkacpdmjnbjaa.Mem
set_option linter.unusedVariables false
set_option linter.unusedSimpArgs false
def SlS (w : World) (S : List Nat) (u : Value) (xs : List Nat) : Prop :=
  ∃ (A : Option Addr) (n c : Nat), u = .slice A n c ∧ xs.length = n ∧ (∀ x ∈ xs, x < 256) ∧ n ≤ 1000000 ∧ n ≤ c ∧ c ≤ maxLen ∧ (A = none → c = 0) ∧
    (0 < n → ∃ b off, A = some ⟨b, off, none⟩ ∧ b < w.heap.size ∧ b ∉ S ∧ ∀ i, i < n → w.cell? ⟨b, off + i, none⟩ = some (.int .u8 (xs.getD i 0 : Nat)))
def RowS (w : World) (S : List Nat) (v : Value) (n : Nat) (us : Nat → Value) : Prop :=
  ∃ (A : Option Addr) (c : Nat), v = .slice A n c ∧ n ≤ c ∧ c ≤ maxLen ∧ (A = none → c = 0) ∧
    (0 < n → ∃ b off, A = some ⟨b, off, none⟩ ∧ b < w.heap.size ∧ b ∉ S ∧ ∀ i, i < n → w.cell? ⟨b, off + i, none⟩ = some (us i))
section
variable {w w' : World} {S : List Nat} {u v : Value} {xs : List Nat} {n : Nat} {us : Nat → Value}
theorem SlS.sl (h : SlS w S u xs) : Sl w w.heap.size u xs := by
  obtain ⟨A, n, c, rfl, h1, h2, h3, h4, h5, h6, h7⟩ := h
  refine ⟨A, n, c, rfl, ⟨h1, h2, h3, fun h0 => ?_⟩, h4, h5, h6⟩
  obtain ⟨b, off, e, hb, _, hc⟩ := h7 h0
  exact ⟨b, off, e, hb, hc⟩
theorem SlS.kept (h : SlS w S u xs) (k : KeptBut w w' S) : SlS w' S u xs := by
  obtain ⟨A, n, c, rfl, h1, h2, h3, h4, h5, h6, h7⟩ := h
  refine ⟨A, n, c, rfl, h1, h2, h3, h4, h5, h6, fun h0 => ?_⟩
  obtain ⟨b, off, e, hb, hn, hc⟩ := h7 h0
  exact ⟨b, off, e, Nat.lt_of_lt_of_le hb k.size, hn, fun i hi => (k.cell (p := ⟨b, off + i, none⟩) hb hn).trans (hc i hi)⟩
theorem RowS.kept (h : RowS w S v n us) (k : KeptBut w w' S) : RowS w' S v n us := by
  obtain ⟨A, c, rfl, h4, h5, h6, h7⟩ := h
  refine ⟨A, c, rfl, h4, h5, h6, fun h0 => ?_⟩
  obtain ⟨b, off, e, hb, hn, hc⟩ := h7 h0
  exact ⟨b, off, e, Nat.lt_of_lt_of_le hb k.size, hn, fun i hi => (k.cell (p := ⟨b, off + i, none⟩) hb hn).trans (hc i hi)⟩
theorem SlS.len (h : SlS w S u xs) : ∃ A c, u = .slice A xs.length c ∧ xs.length ≤ 1000000 := by
  obtain ⟨A, n, c, rfl, h1, h2, h3, h4⟩ := h
  subst h1
  exact ⟨A, c, rfl, h3⟩
theorem SlS.lt (h : SlS w S u xs) : ∀ x ∈ xs, x < 256 := by
  obtain ⟨A, n, c, rfl, h1, h2, h3, h4⟩ := h
  exact h2
theorem SlS.more {S' : List Nat} (h : SlS w S u xs) (hs : ∀ x ∈ S', x ∈ S) : SlS w S' u xs := by
  obtain ⟨A, n, c, rfl, h1, h2, h3, h4, h5, h6, h7⟩ := h
  refine ⟨A, n, c, rfl, h1, h2, h3, h4, h5, h6, fun h0 => ?_⟩
  obtain ⟨b, off, e, hb, hn, hc⟩ := h7 h0
  exact ⟨b, off, e, hb, fun hm => hn (hs b hm), hc⟩
theorem slS_nil (w : World) (S : List Nat) : SlS w S (.slice none 0 0) [] := ⟨none, 0, 0, rfl, rfl, by simp, by omega, Nat.le_refl _, by unfold maxLen; omega, fun _ => rfl, fun h => absurd h (by omega)⟩
theorem slS_own {base : Nat} (h : w.ownsRow base 5 1 v n (vals xs)) (hx : ∀ x ∈ xs, x < 256) (hn : n ≤ 1000000) (hS : ∀ x ∈ S, x < base) : SlS w S v xs := by
  have hl : xs.length = n := by have := h.1; rw [vals_length] at this; omega
  rcases h.2 with ⟨rfl, rfl⟩ | ⟨g, cap, cur, rfl, hg, hh, hnc, hm, hs, ht⟩
  · exact ⟨none, 0, 0, rfl, hl, hx, by omega, by omega, by unfold maxLen; omega, fun _ => rfl, fun h => absurd h (by omega)⟩
  · have hlt : g < w.heap.size := (h.lt g rfl).2
    exact ⟨_, n, cap, rfl, hl, hx, hn, hnc, hm, fun e => (by cases e), fun _ => ⟨g, 0, rfl, hlt, fun hm => by have := hS g hm; omega, fun i hi => by rw [Nat.zero_add, h.cellAt i (by omega), vals_get xs i (by omega)]⟩⟩
theorem rowS_own {base : Nat} {zs : List Value} (h : w.ownsRow base 35 1 v n zs) (hS : ∀ x ∈ S, x < base) : RowS w S v n (fun i => zs.getD i (.slice none 0 0)) := by
  have hl : zs.length = n := by have := h.1; omega
  rcases h.2 with ⟨rfl, rfl⟩ | ⟨g, cap, cur, rfl, hg, hh, hnc, hm, hs, ht⟩
  · exact ⟨none, 0, rfl, by omega, by unfold maxLen; omega, fun _ => rfl, fun h => absurd h (by omega)⟩
  · have hlt : g < w.heap.size := (h.lt g rfl).2
    exact ⟨_, cap, rfl, hnc, hm, fun e => (by cases e), fun _ => ⟨g, 0, rfl, hlt, fun hm => by have := hS g hm; omega, fun i hi => by rw [Nat.zero_add, h.cellAt i (by omega)]; simp [List.getD, List.getElem?_eq_getElem (show i < zs.length by omega)]⟩⟩
theorem RowS.ext {us' : Nat → Value} (h : RowS w S v n us) (e : ∀ i, i < n → us i = us' i) : RowS w S v n us' := by
  obtain ⟨A, c, rfl, h4, h5, h6, h7⟩ := h
  refine ⟨A, c, rfl, h4, h5, h6, fun h0 => ?_⟩
  obtain ⟨b, off, e1, hb, hn, hc⟩ := h7 h0
  exact ⟨b, off, e1, hb, hn, fun i hi => by rw [hc i hi, e i hi]⟩
theorem RowS.reads (h : RowS w S v n us) : ∃ A c, v = .slice A n c ∧ Reads w w.heap.size 1 A n ((List.range n).map us) := by
  obtain ⟨A, c, rfl, h4, h5, h6, h7⟩ := h
  refine ⟨A, c, rfl, by simp, fun h0 => ?_⟩
  obtain ⟨b, off, rfl, hb, hn, hc⟩ := h7 h0
  refine ⟨_, rfl, hb, fun j u hu => ?_⟩
  rw [add_plain]
  have hj : j < n := by
    have := (List.getElem?_eq_some_iff.1 hu).1
    simpa using this
  rw [hc j hj]
  simpa [List.getElem?_map, List.getElem?_range hj] using hu
end
theorem RowS.more {w : World} {S S' : List Nat} {v : Value} {n : Nat} {us : Nat → Value} (h : RowS w S v n us) (hs : ∀ x ∈ S', x ∈ S) : RowS w S' v n us := by
  obtain ⟨A, c, rfl, h4, h5, h6, h7⟩ := h
  refine ⟨A, c, rfl, h4, h5, h6, fun h0 => ?_⟩
  obtain ⟨b, off, e, hb, hn, hc⟩ := h7 h0
  exact ⟨b, off, e, hb, fun hm => hn (hs b hm), hc⟩
def armedOf (L : Int) : Int := if L < 0 then -1 else L
def refV (v1 v2 : Value) (s : St) : Value := .agg #[v1, v2, .int .i64 (armedOf s.left), .bool s.dead]
/-- the reference's disk, by value -/
def RefAt (w : World) (S : List Nat) (v : Value) (s : St) : Prop :=
  ∃ (v1 v2 : Value) (us1 us2 : Nat → Value), v = refV v1 v2 s ∧ RowS w S v1 s.n us1 ∧ RowS w S v2 s.n us2 ∧ (∀ i, i < s.n → SlS w S (us1 i) ((s.fs i).getD noughts)) ∧ (∀ i, i < s.n → SlS w S (us2 i) ((s.fw i).getD []))
theorem RefAt.kept {w w' : World} {S : List Nat} {v : Value} {s : St} (h : RefAt w S v s) (k : KeptBut w w' S) : RefAt w' S v s := by
  obtain ⟨v1, v2, us1, us2, rfl, h1, h2, h3, h4⟩ := h
  exact ⟨v1, v2, us1, us2, rfl, h1.kept k, h2.kept k, fun i hi => (h3 i hi).kept k, fun i hi => (h4 i hi).kept k⟩
theorem RefAt.more {w : World} {S S' : List Nat} {v : Value} {s : St} (h : RefAt w S v s) (hs : ∀ x ∈ S', x ∈ S) : RefAt w S' v s := by
  obtain ⟨v1, v2, us1, us2, rfl, h1, h2, h3, h4⟩ := h
  exact ⟨v1, v2, us1, us2, rfl, h1.more hs, h2.more hs, fun i hi => (h3 i hi).more hs, fun i hi => (h4 i hi).more hs⟩
theorem RefAt.below {w w' : World} {S : List Nat} {v : Value} {s : St} (h : RefAt w S v s) (k : Below w.heap.size w w') : RefAt w' S v s := h.kept (kept_of_below k (Nat.le_refl _))
/-- what is written down has a sector's bytes -/
def Good (s : St) : Prop := 1 ≤ s.n ∧ s.n ≤ 1024 ∧ (∀ i xs, s.fs i = some xs → IsSec xs) ∧ (∀ i xs, s.fw i = some xs → IsSec xs) ∧ -9223372036854775808 ≤ s.left ∧ s.left ≤ 9223372036854775807
theorem DiskAt.good {w : World} {g bs bw : Nat} {s : St} (h : DiskAt w g bs bw s) : Good s :=
  ⟨h.2.2.2.2.1, h.2.2.2.2.2.1, fun i xs e => (h.2.1.sec e).1, fun i xs e => (h.2.2.1.sec e).1, h.2.2.2.2.2.2.1, h.2.2.2.2.2.2.2.1⟩
theorem Good.fwl {s : St} (h : Good s) (i : Nat) : (s.fw i = none ∧ ((s.fw i).getD []).length = 0) ∨ ((s.fw i).isSome = true ∧ ((s.fw i).getD []).length = 512) := by
  cases e : s.fw i with
  | none => exact .inl ⟨rfl, rfl⟩
  | some xs => exact .inr ⟨rfl, (h.2.2.2.1 i xs e).1⟩
abbrev set4 (w : World) (g : Nat) (a b c d : Value) : World := (((w.setCell ⟨g, 0, none⟩ a).setCell ⟨g, 1, none⟩ b).setCell ⟨g, 2, none⟩ c).setCell ⟨g, 3, none⟩ d
theorem kept_set (w : World) {g i : Nat} (u : Value) {S : List Nat} (h : g ∈ S) : KeptBut w (w.setCell ⟨g, i, none⟩ u) S := kept_of_grown (grown_set w ⟨g, i, none⟩ u) h
theorem set4_kept {w w1 : World} {g : Nat} {a b c d : Value} {S : List Nat} (h : KeptBut w w1 S) (hg : g ∈ S) : KeptBut w (set4 w1 g a b c d) S :=
  (((h.trans (kept_set _ _ hg)).trans (kept_set _ _ hg)).trans (kept_set _ _ hg)).trans (kept_set _ _ hg)
theorem set4_below {B : Nat} {w w1 : World} {g : Nat} {a b c d : Value} (h : Below B w w1) (hg : B ≤ g) : Below B w (set4 w1 g a b c d) := (((h.setCell hg _).setCell hg _).setCell hg _).setCell hg _
theorem Try.info35 : (Try.prog.info? 35).map (fun i => (i.zero, i.size, i.bytes)) = some (some (.slice none 0 0), 1, 24) := by kernel_rfl
theorem Try.info3i : (Try.prog.info? 3).map (fun i => (i.zero, i.size, i.bytes)) = some (some (.int .i64 0), 1, 8) := by kernel_rfl
end Go.Proofs.Ytpmkacpdmjnbjaa.Dsk
