/- DiskActs: what any acts tell, and what they leave: the walk, at acts that are light and a disk that there can be. -/
import Derived.Test.YtpmkacpdmjnbjaaLight
namespace Go.Proofs.Ytpmkacpdmjnbjaa.Dsk
open Go.RowKit Go.Maps Go.Shelf Go.Proofs.Ytpmkacpdmjnbjaa.Mem
set_option linter.unusedVariables false
set_option linter.unusedSimpArgs false
/-- a slice of acts -/
def ActsAt (w : World) (B : Nat) (A : Option Addr) (n : Nat) (l : List Ac) : Prop :=
  l.length = n ∧ (0 < n → ∃ b off, A = some ⟨b, off, none⟩ ∧ b < B ∧ ∀ i, i < n → ∃ (a : Ac) (vb vt : Value), l[i]? = some a ∧
    w.cell? ⟨b, off + i * 5, none⟩ = some (.int .i64 a.what) ∧ w.cell? ⟨b, off + i * 5 + 1, none⟩ = some (.int .i64 a.n) ∧ w.cell? ⟨b, off + i * 5 + 2, none⟩ = some vb ∧ w.cell? ⟨b, off + i * 5 + 3, none⟩ = some (.bool a.short) ∧ w.cell? ⟨b, off + i * 5 + 4, none⟩ = some vt ∧
    Sl w B vb a.b ∧ TearsAt w B vt a.tears ∧ -9223372036854775808 ≤ a.n ∧ a.n ≤ 9223372036854775807)
def St.run (s : St) (l : List Ac) : St := l.foldl St.step s
theorem run_step (s : St) (l : List Ac) (k : Nat) (a : Ac) (h : l[k]? = some a) : s.run (l.take (k + 1)) = (s.run (l.take k)).step a := by
  rw [List.take_add_one, h]
  simp [St.run, List.foldl_append]
theorem step_n (s : St) (a : Ac) : (s.step a).n = s.n := by
  unfold St.step
  split
  · unfold St.write
    split
    · rfl
    · split
      · split
        · exact act_n s
        · exact act_n s
      · rfl
  · split
    · unfold St.flush
      split
      · rfl
      · split
        · exact act_n s
        · exact act_n s
    · split
      · rfl
      · split
        · exact (tears_same (s.waiting.zip a.tears) s).1
        · rfl
theorem run_n (l : List Ac) : ∀ (s : St), (s.run l).n = s.n := by
  induction l with
  | nil => exact fun s => rfl
  | cons a r ih => exact fun s => (ih (s.step a)).trans (step_n s a)
theorem acts_at {w wr : World} {B n k : Nat} {A : Option Addr} {l : List Ac} (h : ActsAt w B A n l) (hb : Below B w wr) (hk : k < n) :
    ∃ (b off : Nat) (a : Ac) (Ab At : Option Addr) (nb cb nt ct : Nat), A = some ⟨b, off, none⟩ ∧ b < B ∧ l[k]? = some a ∧
      wr.cell? ⟨b, off + k * 5, none⟩ = some (.int .i64 a.what) ∧ wr.cell? ⟨b, off + k * 5 + 1, none⟩ = some (.int .i64 a.n) ∧ wr.cell? ⟨b, off + k * 5 + 2, none⟩ = some (.slice Ab nb cb) ∧ wr.cell? ⟨b, off + k * 5 + 3, none⟩ = some (.bool a.short) ∧ wr.cell? ⟨b, off + k * 5 + 4, none⟩ = some (.slice At nt ct) ∧
      ActAt wr B (.agg #[.int .i64 a.what, .int .i64 a.n, .slice Ab nb cb, .bool a.short, .slice At nt ct]) a := by
  obtain ⟨b, off, e, hbB, hc⟩ := h.2 (by omega)
  obtain ⟨a, vb, vt, h1, h2, h3, h4, h5, h6, h7, h8, h9, h10⟩ := hc k hk
  obtain ⟨Ab, nb, cb, rfl, _⟩ := id h7
  obtain ⟨At, nt, ct, rfl, _⟩ := id h8
  have hx := fun (o : Nat) => hb.cell (p := ⟨b, o, none⟩) hbB
  exact ⟨b, off, a, Ab, At, nb, cb, nt, ct, e, hbB, h1, (hx _).trans h2, (hx _).trans h3, (hx _).trans h4, (hx _).trans h5, (hx _).trans h6, _, _, rfl, h7.below hb (Nat.le_refl _), h8.below hb (Nat.le_refl _), h9, h10⟩
end Go.Proofs.Ytpmkacpdmjnbjaa.Dsk
