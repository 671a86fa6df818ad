/- Several sectors written one behind the other, and flushed (layer 8), as a function of a disk's state. Pure. -/
import Derived.Test.YtddhkajcakndlaaKept
import Derived.Test.YtddhkajcakndlaaWalInv
namespace Go.Proofs.Ytddhkajcakndlaa.Wl
open Go.RowKit Go.Proofs.Ytddhkajcakndlaa.Mem Go.Proofs.Ytddhkajcakndlaa.Dsk
set_option linter.unusedVariables false
set_option linter.unusedSimpArgs false
def writes : St → Nat → List (List Nat) → St × Int
  | s, _, [] => s.flush
  | s, i, x :: r => if (s.write (i : Int) x).2 = 0 then writes (s.write (i : Int) x).1 (i + 1) r else s.write (i : Int) x
theorem writes_nil (s : St) (i : Nat) : writes s i [] = s.flush := rfl
theorem writes_ok {s : St} {i : Nat} {x : List Nat} {r : List (List Nat)} (h : (s.write (i : Int) x).2 = 0) : writes s i (x :: r) = writes (s.write (i : Int) x).1 (i + 1) r := by
  rw [writes, if_pos h]
theorem writes_no {s : St} {i : Nat} {x : List Nat} {r : List (List Nat)} (h : (s.write (i : Int) x).2 ≠ 0) : writes s i (x :: r) = s.write (i : Int) x := by
  rw [writes, if_neg h]
/-- one write, where there is such a sector -/
theorem write_two {s : St} {i : Nat} {x : List Nat} (hd : s.dead = false) (hi : i < s.n) (hx : x.length = 512) :
    ((s.write (i : Int) x).2 = 0 ∧ (s.write (i : Int) x).1.dead = false ∧ (s.write (i : Int) x).1.n = s.n ∧ (s.write (i : Int) x).1.fs = s.fs ∧ (s.write (i : Int) x).1.fw = upd1 s.fw i x) ∨
    ((s.write (i : Int) x).2 = 7 ∧ (s.write (i : Int) x).1.dead = true ∧ (s.write (i : Int) x).1.n = s.n ∧ (s.write (i : Int) x).1.fs = s.fs ∧ (s.write (i : Int) x).1.fw = s.fw) := by
  unfold St.write
  rw [if_neg (by rw [hd]; simp), if_pos ⟨by omega, by omega, hx⟩]
  unfold St.act
  by_cases h0 : s.left = 0
  · rw [if_pos h0, if_neg (by simp)]
    exact .inr ⟨rfl, rfl, rfl, rfl, rfl⟩
  · rw [if_neg h0, if_pos rfl]
    exact .inl ⟨rfl, hd, rfl, rfl, by simp⟩
theorem flush_two {s : St} (hd : s.dead = false) :
    (s.flush.2 = 0 ∧ s.flush.1.dead = false ∧ s.flush.1.n = s.n ∧ (∀ i, s.flush.1.fs i = (s.fw i).or (s.fs i)) ∧ ∀ i, s.flush.1.fw i = none) ∨
    (s.flush.2 = 7 ∧ s.flush.1.dead = true ∧ s.flush.1.n = s.n ∧ s.flush.1.fs = s.fs ∧ s.flush.1.fw = s.fw) := by
  unfold St.flush
  rw [if_neg (by rw [hd]; simp)]
  unfold St.act
  by_cases h0 : s.left = 0
  · rw [if_pos h0, if_neg (by simp)]
    exact .inr ⟨rfl, rfl, rfl, rfl, rfl⟩
  · rw [if_neg h0, if_pos rfl]
    exact .inl ⟨rfl, hd, rfl, fun i => rfl, fun i => rfl⟩
/-- what is told, and left: all is there and safe; or the disk is dead, and what waits is as it was, or as it was to be written -/
theorem writes_two {l : List (List Nat)} {s : St} {i : Nat} (hd : s.dead = false) (hi : i + l.length ≤ s.n) (hx : ∀ x ∈ l, x.length = 512) :
    ((writes s i l).2 = 0 ∧ (writes s i l).1.dead = false ∧ (writes s i l).1.n = s.n ∧ (∀ j, (writes s i l).1.fw j = none) ∧ (∀ j, j < l.length → (writes s i l).1.fs (i + j) = some (l.getD j [])) ∧ ∀ j, j < i ∨ i + l.length ≤ j → (writes s i l).1.fs j = (s.fw j).or (s.fs j)) ∨
    ((writes s i l).2 = 7 ∧ (writes s i l).1.dead = true ∧ (writes s i l).1.n = s.n ∧ (writes s i l).1.fs = s.fs ∧ (∀ j, j < l.length → (writes s i l).1.fw (i + j) = s.fw (i + j) ∨ (writes s i l).1.fw (i + j) = some (l.getD j [])) ∧ ∀ j, j < i ∨ i + l.length ≤ j → (writes s i l).1.fw j = s.fw j) := by
  induction l generalizing s i with
  | nil =>
    rw [writes_nil]
    rcases flush_two hd with ⟨h1, h2, h3, h4, h5⟩ | ⟨h1, h2, h3, h4, h5⟩
    · exact .inl ⟨h1, h2, h3, h5, fun j hj => absurd hj (by simp), fun j _ => h4 j⟩
    · exact .inr ⟨h1, h2, h3, h4, fun j hj => absurd hj (by simp), fun j _ => by rw [h5]⟩
  | cons x r ih =>
    rw [List.length_cons] at hi
    rcases write_two (x := x) hd (by omega : i < s.n) (hx x (by simp)) with ⟨h1, h2, h3, h4, h5⟩ | ⟨h1, h2, h3, h4, h5⟩
    · rw [writes_ok h1]
      have hu : ∀ j, j ≠ i → (s.write (i : Int) x).1.fw j = s.fw j := fun j hj => by rw [h5]; unfold upd1; rw [if_neg hj]
      have hui : (s.write (i : Int) x).1.fw i = some x := by rw [h5]; unfold upd1; rw [if_pos rfl]
      rcases ih (s := (s.write (i : Int) x).1) (i := i + 1) h2 (by rw [h3]; omega) (fun y hy => hx y (by simp [hy])) with ⟨g1, g2, g3, g4, g5, g6⟩ | ⟨g1, g2, g3, g4, g5, g6⟩
      · refine .inl ⟨g1, g2, by rw [g3, h3], g4, fun j hj => ?_, fun j hj => ?_⟩
        · cases j with
          | zero =>
            have e := g6 i (.inl (by omega))
            rw [hui] at e
            exact e
          | succ j =>
            have := g5 j (by rw [List.length_cons] at hj; omega)
            rw [show i + 1 + j = i + (j + 1) by omega] at this
            rw [this, List.getD_cons_succ]
        · rw [List.length_cons] at hj
          rw [g6 j (by omega), hu j (by omega), h4]
      · refine .inr ⟨g1, g2, by rw [g3, h3], by rw [g4, h4], fun j hj => ?_, fun j hj => ?_⟩
        · cases j with
          | zero =>
            have e := g6 i (.inl (by omega))
            rw [hui] at e
            exact .inr e
          | succ j =>
            have := g5 j (by rw [List.length_cons] at hj; omega)
            rw [show i + 1 + j = i + (j + 1) by omega, hu _ (by omega)] at this
            rw [List.getD_cons_succ]
            exact this
        · rw [List.length_cons] at hj
          rw [g6 j (by omega), hu j (by omega)]
    · rw [writes_no (by omega)]
      exact .inr ⟨h1, h2, h3, h4, fun j _ => .inl (by rw [h5]), fun j _ => by rw [h5]⟩
/-- what a sector reads, where nothing waits -/
theorem get_safe {s : St} (h : ∀ j, s.fw j = none) (i : Nat) : s.get i = (s.fs i).getD noughts := by
  unfold St.get
  rw [h]
  rfl
end Go.Proofs.Ytddhkajcakndlaa.Wl
