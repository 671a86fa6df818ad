/- Plain facts on states (layer 11): which are alike, by a Bool. No program is named here. -/
import Derived.Test.YtpolpppnajfhdaaBaseWithin
namespace Go.Proofs.Ytpolpppnajfhdaa.Bas
open Go.Proofs.Ytpolpppnajfhdaa.Oct Go.Proofs.Ytpolpppnajfhdaa.Lsa Go.Proofs.Ytpolpppnajfhdaa.Chg
def sameL (a b : La) : Bool := smL a.o a.s a.ls b.o b.s b.ls
theorem sameL_iff {a b : La} : sameL a b = true ↔ a = b := by
  obtain ⟨o, s, ls⟩ := a
  obtain ⟨o', s', ls'⟩ := b
  simp [sameL, smL]
def sameDb : List La → List La → Bool
  | [], [] => true
  | a :: r, b :: q => sameL a b && sameDb r q
  | _, _ => false
theorem sameDb_iff : ∀ {d e : List La}, sameDb d e = true ↔ d = e
  | [], [] => by simp [sameDb]
  | [], b :: q => by simp [sameDb]
  | a :: r, [] => by simp [sameDb]
  | a :: r, b :: q => by
    simp only [sameDb, Bool.and_eq_true, sameL_iff, sameDb_iff (d := r) (e := q), List.cons.injEq]
def sameS (s t : Sta) : Bool := (s.up == t.up) && ((s.bo == t.bo) && (sameDb s.db t.db && decide (s.ep = t.ep)))
theorem sameS_iff {s t : Sta} : sameS s t = true ↔ s = t := by
  obtain ⟨d, u, b, e⟩ := s
  obtain ⟨d', u', b', e'⟩ := t
  simp only [sameS, Bool.and_eq_true, beq_iff_eq, sameDb_iff, decide_eq_true_eq, Sta.mk.injEq]
  constructor
  · rintro ⟨h1, h2, h3, h4⟩
    exact ⟨h3, h1, h2, h4⟩
  · rintro ⟨h1, h2, h3, h4⟩
    exact ⟨h2, h3, h1, h4⟩
theorem sameS_self (s : Sta) : sameS s s = true := sameS_iff.2 rfl
theorem sameDb_step (d e : List La) (k : Nat) (h : k < d.length) (h' : k < e.length) : sameDb (d.drop k) (e.drop k) = (sameL (d.getD k zeroL) (e.getD k zeroL) && sameDb (d.drop (k + 1)) (e.drop (k + 1))) := by
  rw [drop_at d zeroL k h, drop_at e zeroL k h', sameDb]
end Go.Proofs.Ytpolpppnajfhdaa.Bas
