/- Plain facts on states (layer 11): which there may be, what a change does, and that changes done in two parts are as done in one. No program is named here. -/
import Derived.Test.YtpolpppnajfhdaaChgPure
namespace Go.Proofs.Ytpolpppnajfhdaa.Bas
open Go.Proofs.Ytpolpppnajfhdaa.Oct Go.Proofs.Ytpolpppnajfhdaa.Lsa Go.Proofs.Ytpolpppnajfhdaa.Chg
/-- an Lsa: its origin, its number, its links -/
structure La where
  o : Int
  s : Int
  ls : List Lk
def laOk (a : La) : Bool := may a.o a.s a.ls
structure Sta where
  db : List La
  up : Int
  bo : Int
  ep : List (Int × Int)
def zeroS : Sta := ⟨[], 0, 0, []⟩
/-- origins rise behind `last` -/
def dbOk : Int → List La → Bool
  | _, [] => true
  | last, a :: r => laOk a && (decide (last < a.o) && dbOk a.o r)
def epOne (last : Int) (e : Int × Int) : Bool := win e.1 64 && (win e.2 1073741824 && decide (last < e.1))
def epOk : Int → List (Int × Int) → Bool
  | _, [] => true
  | last, e :: r => epOne last e && epOk e.1 r
def mayS (s : Sta) : Bool := dbOk 0 s.db && (epOk 0 s.ep && (decide (0 ≤ s.up) && (decide (s.up ≤ 4611686018427387904) && (decide (0 ≤ s.bo) && decide (s.bo ≤ 1073741824)))))
theorem mayS_iff {s : Sta} : mayS s = true ↔ dbOk 0 s.db = true ∧ epOk 0 s.ep = true ∧ (0 ≤ s.up ∧ s.up ≤ 4611686018427387904) ∧ 0 ≤ s.bo ∧ s.bo ≤ 1073741824 := by
  simp [mayS, and_assoc]
theorem laOk_iff {a : La} : laOk a = true ↔ (1 ≤ a.o ∧ a.o ≤ 64) ∧ (1 ≤ a.s ∧ a.s ≤ 4611686018427387904) ∧ a.ls.length ≤ 16 ∧ linksOk a.o 0 a.ls = true := may_iff
/-! ### looking up -/
def seqOf : List La → Int → Int
  | [], _ => 0
  | a :: r, o => if a.o = o then a.s else seqOf r o
def getOf : List La → Int → La
  | [], _ => ⟨0, 0, []⟩
  | a :: r, o => if a.o = o then a else getOf r o
def epoch : List (Int × Int) → Int → Int
  | [], _ => 0
  | e :: r, o => if e.1 = o then e.2 else epoch r o
theorem seq_get (db : List La) (o : Int) : (getOf db o).s = seqOf db o := by
  induction db with
  | nil => rfl
  | cons a r ih =>
    unfold getOf seqOf
    split
    · rfl
    · exact ih
/-! ### putting: an Lsa in its place -/
def putOf : List La → La → List La
  | [], l => [l]
  | a :: r, l => if a.o < l.o then a :: putOf r l else if a.o = l.o then l :: r else l :: a :: r
theorem dbOk_less {last last' : Int} {db : List La} (h : dbOk last db = true) (hl : last' ≤ last) : dbOk last' db = true := by
  cases db with
  | nil => rfl
  | cons a r =>
    simp only [dbOk, Bool.and_eq_true, decide_eq_true_eq] at h ⊢
    exact ⟨h.1, by omega, h.2.2⟩
theorem dbOk_put {l : La} (hl : laOk l = true) : ∀ {db : List La} {last : Int}, dbOk last db = true → last < l.o → dbOk last (putOf db l) = true
  | [], last, _, h => by simp [putOf, dbOk, hl, h]
  | a :: r, last, hd, h => by
    simp only [dbOk, Bool.and_eq_true, decide_eq_true_eq] at hd
    unfold putOf
    split
    · simp only [dbOk, Bool.and_eq_true, decide_eq_true_eq]
      exact ⟨hd.1, hd.2.1, dbOk_put hl hd.2.2 (by assumption)⟩
    · split
      · next h1 h2 =>
        simp only [dbOk, Bool.and_eq_true, decide_eq_true_eq]
        exact ⟨hl, h, h2 ▸ hd.2.2⟩
      · next h1 h2 =>
        simp only [dbOk, Bool.and_eq_true, decide_eq_true_eq]
        exact ⟨hl, h, hd.1, by omega, hd.2.2⟩
theorem get_put_same (l : La) : ∀ (db : List La), getOf (putOf db l) l.o = l
  | [] => by simp [putOf, getOf]
  | a :: r => by
    unfold putOf
    split
    · next h =>
      unfold getOf
      rw [if_neg (by omega)]
      exact get_put_same l r
    · split
      · simp [getOf]
      · simp [getOf]
theorem get_put_other (l : La) (o : Int) (h : o ≠ l.o) : ∀ (db : List La), getOf (putOf db l) o = getOf db o
  | [] => by simp [putOf, getOf, Ne.symm h]
  | a :: r => by
    unfold putOf
    split
    · simp only [getOf]
      split
      · rfl
      · exact get_put_other l o h r
    · split
      · next h1 h2 =>
        simp only [getOf]
        rw [if_neg (Ne.symm h), if_neg (by omega)]
      · simp only [getOf]
        rw [if_neg (Ne.symm h)]
/-! ### an epoch in its place -/
def putEp : List (Int × Int) → Int × Int → List (Int × Int)
  | [], e => [e]
  | a :: r, e => if a.1 < e.1 then a :: putEp r e else if a.1 = e.1 then e :: r else e :: a :: r
theorem epOk_put {e : Int × Int} (h1 : win e.1 64 = true) (h2 : win e.2 1073741824 = true) : ∀ {l : List (Int × Int)} {last : Int}, epOk last l = true → last < e.1 → epOk last (putEp l e) = true
  | [], last, _, h => by simp [putEp, epOk, epOne, h1, h2, h]
  | a :: r, last, hd, h => by
    simp only [epOk, epOne, Bool.and_eq_true, decide_eq_true_eq] at hd
    unfold putEp
    split
    · next h3 =>
      simp only [epOk, epOne, Bool.and_eq_true, decide_eq_true_eq]
      exact ⟨hd.1, epOk_put h1 h2 hd.2 h3⟩
    · split
      · next h3 h4 =>
        simp only [epOk, epOne, Bool.and_eq_true, decide_eq_true_eq]
        exact ⟨⟨h1, h2, h⟩, h4 ▸ hd.2⟩
      · next h3 h4 =>
        simp only [epOk, epOne, Bool.and_eq_true, decide_eq_true_eq]
        exact ⟨⟨h1, h2, h⟩, ⟨hd.1.1, hd.1.2.1, by omega⟩, hd.2⟩
theorem epoch_put_same (e : Int × Int) : ∀ (l : List (Int × Int)), epoch (putEp l e) e.1 = e.2
  | [] => by simp [putEp, epoch]
  | a :: r => by
    unfold putEp
    split
    · next h =>
      unfold epoch
      rw [if_neg (by omega)]
      exact epoch_put_same e r
    · split
      · simp [epoch]
      · simp [epoch]
theorem epoch_put_other (e : Int × Int) (o : Int) (h : o ≠ e.1) : ∀ (l : List (Int × Int)), epoch (putEp l e) o = epoch l o
  | [] => by simp [putEp, epoch, Ne.symm h]
  | a :: r => by
    unfold putEp
    split
    · simp only [epoch]
      split
      · rfl
      · exact epoch_put_other e o h r
    · split
      · next h1 h2 =>
        simp only [epoch]
        rw [if_neg (Ne.symm h), if_neg (by omega)]
      · simp only [epoch]
        rw [if_neg (Ne.symm h)]
/-! ### changes -/
/-- a change that may be is done; none: it is old -/
def doS (s : Sta) (c : Ch) : Option Sta :=
  if c.k = 1 then if c.s ≤ seqOf s.db c.o then none else some { s with db := putOf s.db ⟨c.o, c.s, c.ls⟩ }
  else if c.k = 2 then if c.n ≤ s.up then none else some { s with up := c.n }
  else if c.k = 3 then if c.n ≤ s.bo then none else some { s with bo := c.n }
  else if c.k = 4 then if c.n ≤ epoch s.ep c.f then none else some { s with ep := putEp s.ep (c.f, c.n) }
  else some s
def doAll : Sta → List Ch → Option Sta
  | s, [] => some s
  | s, c :: r => (doS s c).bind fun t => doAll t r
theorem doAll_append (s : Sta) (l m : List Ch) : doAll s (l ++ m) = (doAll s l).bind fun t => doAll t m := by
  induction l generalizing s with
  | nil => rfl
  | cons c r ih =>
    rw [List.cons_append]
    show ((doS s c).bind fun t => doAll t (r ++ m)) = ((doS s c).bind fun t => doAll t r).bind fun t => doAll t m
    cases doS s c with
    | none => rfl
    | some t => exact ih t
/-- what is told, and the state -/
def applyS (s : Sta) (l : List Ch) : Sta × Int :=
  if mayS s = true ∧ l.all mayC = true then match doAll s l with
    | none => (zeroS, 10)
    | some t => (t, 0)
  else (zeroS, 1)
theorem doS_may {s t : Sta} {c : Ch} (hs : mayS s = true) (hc : mayC c = true) (h : doS s c = some t) : mayS t = true := by
  obtain ⟨h1, h2, h3, h4⟩ := mayS_iff.1 hs
  obtain ⟨k, o, q, ls, n, f⟩ := c
  unfold doS at h
  simp only at h
  split at h
  · next hk =>
    subst hk
    split at h
    · cases h
    · cases h
      rw [mayC_1] at hc
      simp only [Bool.and_eq_true] at hc
      exact mayS_iff.2 ⟨dbOk_put (l := ⟨o, q, ls⟩) hc.1 h1 (by have := (may_iff.1 hc.1).1; show (0 : Int) < o; omega), h2, h3, h4⟩
  · split at h
    · next hk =>
      subst hk
      split at h
      · cases h
      · cases h
        rw [mayC_2] at hc
        simp only [Bool.and_eq_true] at hc
        have := win_iff.1 hc.1
        exact mayS_iff.2 ⟨h1, h2, ⟨by show 0 ≤ n; omega, this.2⟩, h4⟩
    · split at h
      · next hk =>
        subst hk
        split at h
        · cases h
        · cases h
          rw [mayC_3] at hc
          simp only [Bool.and_eq_true] at hc
          have := win_iff.1 hc.1
          exact mayS_iff.2 ⟨h1, h2, h3, by show 0 ≤ n; omega, this.2⟩
      · split at h
        · next hk =>
          subst hk
          split at h
          · cases h
          · cases h
            rw [mayC_4] at hc
            simp only [Bool.and_eq_true] at hc
            have := win_iff.1 hc.1
            exact mayS_iff.2 ⟨h1, epOk_put hc.1 hc.2.1 h2 (by show (0 : Int) < f; omega), h3, h4⟩
        · cases h
          exact hs
theorem doAll_may {l : List Ch} : ∀ {s t : Sta}, mayS s = true → l.all mayC = true → doAll s l = some t → mayS t = true := by
  induction l with
  | nil =>
    intro s t hs _ h
    cases h
    exact hs
  | cons c r ih =>
    intro s t hs hl h
    simp only [List.all_cons, Bool.and_eq_true] at hl
    unfold doAll at h
    cases hc : doS s c with
    | none => rw [hc] at h; cases h
    | some u =>
      rw [hc] at h
      exact ih (doS_may hs hl.1 hc) hl.2 h
/-- the theorem of parts -/
theorem apply_parts {s : Sta} {l m : List Ch} {t : Sta} (h : applyS s (l ++ m) = (t, 0)) : ∃ u, applyS s l = (u, 0) ∧ applyS u m = (t, 0) := by
  unfold applyS at h
  split at h
  · next hc =>
    obtain ⟨hs, ha⟩ := hc
    rw [List.all_append, Bool.and_eq_true] at ha
    rw [doAll_append] at h
    cases hl : doAll s l with
    | none => rw [hl] at h; cases h
    | some u =>
      rw [hl] at h
      refine ⟨u, by unfold applyS; rw [if_pos ⟨hs, ha.1⟩, hl], ?_⟩
      unfold applyS
      rw [if_pos ⟨doAll_may hs ha.1 hl, ha.2⟩]
      exact h
  · cases h
theorem apply_parts_no {s : Sta} {l m : List Ch} (h : (applyS s (l ++ m)).2 ≠ 0) {u : Sta} (hl : applyS s l = (u, 0)) : (applyS u m).2 ≠ 0 := by
  intro h0
  apply h
  unfold applyS at hl
  split at hl
  · next hc =>
    obtain ⟨hs, ha⟩ := hc
    cases hd : doAll s l with
    | none => rw [hd] at hl; cases hl
    | some v =>
      rw [hd] at hl
      cases hl
      unfold applyS at h0
      split at h0
      · next hm =>
        cases he : doAll u m with
        | none => rw [he] at h0; cases h0
        | some t =>
          unfold applyS
          rw [if_pos ⟨hs, by rw [List.all_append, ha, hm.2]; rfl⟩, doAll_append, hd]
          show (match doAll u m with | none => (zeroS, (10 : Int)) | some t => (t, 0)).2 = 0
          rw [he]
      · cases h0
  · cases hl
end Go.Proofs.Ytpolpppnajfhdaa.Bas
