/- Plain facts on states (layer 11): nothing is less, or older, behind changes; the document's own ways of putting an Lsa and an epoch. No program is named here. -/
import Derived.Test.YtpolpppnajfhdaaBasePure
namespace Go.Proofs.Ytpolpppnajfhdaa.Bas
open Go.Proofs.Ytpolpppnajfhdaa.Oct Go.Proofs.Ytpolpppnajfhdaa.Lsa Go.Proofs.Ytpolpppnajfhdaa.Chg
/-! ### nothing is less, or older -/
def Up (s t : Sta) : Prop := (∀ o, seqOf s.db o < seqOf t.db o ∨ seqOf s.db o = seqOf t.db o ∧ getOf s.db o = getOf t.db o) ∧ (∀ o, epoch s.ep o ≤ epoch t.ep o) ∧ s.up ≤ t.up ∧ s.bo ≤ t.bo
theorem Up.refl (s : Sta) : Up s s := ⟨fun _ => .inr ⟨rfl, rfl⟩, fun _ => Int.le_refl _, Int.le_refl _, Int.le_refl _⟩
theorem Up.trans {s t u : Sta} (h : Up s t) (g : Up t u) : Up s u := by
  refine ⟨fun o => ?_, fun o => Int.le_trans (h.2.1 o) (g.2.1 o), Int.le_trans h.2.2.1 g.2.2.1, Int.le_trans h.2.2.2 g.2.2.2⟩
  rcases h.1 o with h1 | ⟨h1, h2⟩
  · rcases g.1 o with g1 | ⟨g1, g2⟩
    · exact .inl (by omega)
    · exact .inl (by omega)
  · rcases g.1 o with g1 | ⟨g1, g2⟩
    · exact .inl (by omega)
    · exact .inr ⟨h1.trans g1, h2.trans g2⟩
theorem doS_up {s t : Sta} {c : Ch} (h : doS s c = some t) : Up s t := by
  obtain ⟨k, o, q, ls, n, f⟩ := c
  unfold doS at h
  simp only at h
  split at h
  · split at h
    · cases h
    · next hq =>
      cases h
      refine ⟨fun p => ?_, fun _ => Int.le_refl _, Int.le_refl _, Int.le_refl _⟩
      by_cases hp : p = o
      · subst hp
        left
        have e := get_put_same (⟨p, q, ls⟩ : La) s.db
        show seqOf s.db p < seqOf (putOf s.db ⟨p, q, ls⟩) p
        rw [← seq_get (putOf s.db ⟨p, q, ls⟩), show getOf (putOf s.db ⟨p, q, ls⟩) p = ⟨p, q, ls⟩ from e]
        show seqOf s.db p < q
        omega
      · right
        have e := get_put_other (⟨o, q, ls⟩ : La) p hp s.db
        refine ⟨?_, e.symm⟩
        show seqOf s.db p = seqOf (putOf s.db ⟨o, q, ls⟩) p
        rw [← seq_get, ← seq_get, e]
  · split at h
    · split at h
      · cases h
      · cases h
        exact ⟨fun _ => .inr ⟨rfl, rfl⟩, fun _ => Int.le_refl _, by show s.up ≤ n; omega, Int.le_refl _⟩
    · split at h
      · split at h
        · cases h
        · cases h
          exact ⟨fun _ => .inr ⟨rfl, rfl⟩, fun _ => Int.le_refl _, Int.le_refl _, by show s.bo ≤ n; omega⟩
      · split at h
        · split at h
          · cases h
          · next hq =>
            cases h
            refine ⟨fun _ => .inr ⟨rfl, rfl⟩, fun p => ?_, Int.le_refl _, Int.le_refl _⟩
            by_cases hp : p = f
            · subst hp
              have e := epoch_put_same (p, n) s.ep
              show epoch s.ep p ≤ epoch (putEp s.ep (p, n)) p
              rw [show epoch (putEp s.ep (p, n)) p = n from e]
              omega
            · have e := epoch_put_other (f, n) p hp s.ep
              show epoch s.ep p ≤ epoch (putEp s.ep (f, n)) p
              rw [e]
              exact Int.le_refl _
        · cases h
          exact Up.refl _
theorem doAll_up {l : List Ch} : ∀ {s t : Sta}, doAll s l = some t → Up s t := by
  induction l with
  | nil =>
    intro s t h
    cases h
    exact Up.refl _
  | cons c r ih =>
    intro s t h
    unfold doAll at h
    cases hc : doS s c with
    | none => rw [hc] at h; cases h
    | some u =>
      rw [hc] at h
      exact (doS_up hc).trans (ih h)
/-- origins that rise are apart -/
theorem dbOk_lt {db : List La} : ∀ {last : Int}, dbOk last db = true → ∀ a ∈ db, last < a.o := by
  induction db with
  | nil => intro last _ a ha; cases ha
  | cons b r ih =>
    intro last h a ha
    simp only [dbOk, Bool.and_eq_true, decide_eq_true_eq] at h
    rcases List.mem_cons.1 ha with rfl | ha
    · exact h.2.1
    · have := ih h.2.2 a ha
      omega
theorem get_mem {db : List La} : ∀ {last : Int}, dbOk last db = true → ∀ a ∈ db, getOf db a.o = a := by
  induction db with
  | nil => intro last _ a ha; cases ha
  | cons b r ih =>
    intro last h a ha
    simp only [dbOk, Bool.and_eq_true, decide_eq_true_eq] at h
    unfold getOf
    rcases List.mem_cons.1 ha with rfl | ha
    · rw [if_pos rfl]
    · rw [if_neg (by have := dbOk_lt h.2.2 a ha; omega)]
      exact ih h.2.2 a ha
theorem epOk_lt {l : List (Int × Int)} : ∀ {last : Int}, epOk last l = true → ∀ a ∈ l, last < a.1 ∧ a.1 ≤ 64 ∧ 1 ≤ a.2 ∧ a.2 ≤ 1073741824 := by
  induction l with
  | nil => intro last _ a ha; cases ha
  | cons b r ih =>
    intro last h a ha
    simp only [epOk, epOne, Bool.and_eq_true, decide_eq_true_eq] at h
    rcases List.mem_cons.1 ha with rfl | ha
    · have h1 := win_iff.1 h.1.1
      have h2 := win_iff.1 h.1.2.1
      exact ⟨h.1.2.2, h1.2, h2.1, h2.2⟩
    · have := ih h.2 a ha
      exact ⟨by omega, this.2⟩
theorem epoch_mem {l : List (Int × Int)} : ∀ {last : Int}, epOk last l = true → ∀ a ∈ l, epoch l a.1 = a.2 := by
  induction l with
  | nil => intro last _ a ha; cases ha
  | cons b r ih =>
    intro last h a ha
    simp only [epOk, epOne, Bool.and_eq_true, decide_eq_true_eq] at h
    unfold epoch
    rcases List.mem_cons.1 ha with rfl | ha
    · rw [if_pos rfl]
    · rw [if_neg (by have := epOk_lt h.2 a ha; omega)]
      exact ih h.2 a ha
/-! ### the document's way of putting an Lsa -/
def refPut (l : La) : Bool → List La → List La
  | d, [] => if d = true then [] else [l]
  | d, a :: r => (if d = false ∧ l.o ≤ a.o then [l] else []) ++ ((if a.o = l.o then [] else [a]) ++ refPut l (d || decide (l.o ≤ a.o)) r)
theorem refPut_done {l : La} : ∀ {db : List La} {last : Int}, dbOk last db = true → l.o ≤ last → refPut l true db = db
  | [], _, _, _ => by simp [refPut]
  | a :: r, last, h, hl => by
    simp only [dbOk, Bool.and_eq_true, decide_eq_true_eq] at h
    unfold refPut
    rw [if_neg (by simp), if_neg (by omega), Bool.true_or, refPut_done h.2.2 (by omega)]
    rfl
theorem refPut_eq {l : La} : ∀ {db : List La} {last : Int}, dbOk last db = true → refPut l false db = putOf db l
  | [], _, _ => by simp [refPut, putOf]
  | a :: r, last, h => by
    simp only [dbOk, Bool.and_eq_true, decide_eq_true_eq] at h
    unfold refPut putOf
    by_cases h1 : a.o < l.o
    · rw [if_neg (by omega), if_neg (by omega), if_pos h1, decide_eq_false (by omega), Bool.or_false, refPut_eq h.2.2]
      rfl
    · rw [if_pos ⟨rfl, by omega⟩, if_neg h1, decide_eq_true (by omega : l.o ≤ a.o), Bool.or_true, refPut_done h.2.2 (by omega)]
      by_cases h2 : a.o = l.o
      · rw [if_pos h2, if_pos h2]
        rfl
      · rw [if_neg h2, if_neg h2]
        rfl
/-! ### the document's way of putting an epoch -/
def pick (g : Int → Int) (o : Int) : List (Int × Int) := if 0 < g o then [(o, g o)] else []
/-- the epochs of the nodes from `last + 1` on, `m` of them -/
def told (g : Int → Int) : Int → Nat → List (Int × Int)
  | _, 0 => []
  | last, m + 1 => pick g (last + 1) ++ told g (last + 1) m
theorem told_congr {g h : Int → Int} : ∀ {m : Nat} {last : Int}, (∀ o, last < o → g o = h o) → told g last m = told h last m
  | 0, _, _ => rfl
  | m + 1, last, e => by
    unfold told pick
    rw [e (last + 1) (by omega), told_congr (m := m) (fun o ho => e o (by omega))]
theorem epoch_none {l : List (Int × Int)} {o : Int} : ∀ {last : Int}, epOk last l = true → o ≤ last → epoch l o = 0 := by
  induction l with
  | nil => intro _ _ _; rfl
  | cons b r ih =>
    intro last h ho
    simp only [epOk, epOne, Bool.and_eq_true, decide_eq_true_eq] at h
    unfold epoch
    rw [if_neg (by omega)]
    exact ih h.2 (by omega)
theorem told_eq : ∀ {m : Nat} {last : Int} {l : List (Int × Int)}, epOk last l = true → last + m = 64 → told (epoch l) last m = l
  | 0, last, [], _, _ => rfl
  | 0, last, b :: r, h, hm => by
    have := epOk_lt h b (List.mem_cons_self ..)
    omega
  | m + 1, last, [], h, hm => by
    unfold told pick
    rw [if_neg (by simp [epoch]), told_eq (l := []) (by rfl) (by omega)]
    rfl
  | m + 1, last, b :: r, h, hm => by
    have hb := epOk_lt h b (List.mem_cons_self ..)
    have h' := h
    simp only [epOk, epOne, Bool.and_eq_true, decide_eq_true_eq] at h'
    by_cases hq : b.1 = last + 1
    · unfold told pick
      rw [show epoch (b :: r) (last + 1) = b.2 from by unfold epoch; rw [if_pos hq], if_pos (by omega), ← hq]
      rw [told_congr (h := epoch r) (fun o ho => by show (if b.1 = o then b.2 else epoch r o) = epoch r o; rw [if_neg (by omega)]), told_eq h'.2 (by omega)]
      rfl
    · unfold told pick
      have e0 : epoch (b :: r) (last + 1) = 0 := by
        unfold epoch
        rw [if_neg hq]
        exact epoch_none h'.2 (by omega)
      rw [e0, if_neg (by omega), told_eq (last := last + 1) (l := b :: r) (by simp only [epOk, epOne, Bool.and_eq_true, decide_eq_true_eq]; exact ⟨⟨h'.1.1, h'.1.2.1, by omega⟩, h'.2⟩) (by omega)]
      rfl
/-- the document's epochs, with one in its place -/
def refEp (l : List (Int × Int)) (e : Int × Int) : List (Int × Int) := told (fun o => if o = e.1 then e.2 else epoch l o) 0 64
theorem refEp_eq {l : List (Int × Int)} {e : Int × Int} (h : epOk 0 l = true) (h1 : win e.1 64 = true) (h2 : win e.2 1073741824 = true) : refEp l e = putEp l e := by
  have hp := epOk_put h1 h2 h (by have := win_iff.1 h1; omega)
  rw [← told_eq hp (m := 64) (by omega)]
  refine told_congr fun o _ => ?_
  show (if o = e.1 then e.2 else epoch l o) = epoch (putEp l e) o
  by_cases ho : o = e.1
  · rw [if_pos ho, ho]
    exact (epoch_put_same e l).symm
  · rw [if_neg ho]
    exact (epoch_put_other e o ho l).symm
end Go.Proofs.Ytpolpppnajfhdaa.Bas
