/- Plain facts on states (layer 11): the document's loops over a state, step by step; nothing less, or older, said by a Bool. No program is named here. -/
import Derived.Test.YtpolpppnajfhdaaBaseRefs
import Derived.Test.YtpolpppnajfhdaaBaseRead
namespace Go.Proofs.Ytpolpppnajfhdaa.Bas
open Go.Proofs.Ytpolpppnajfhdaa.Oct Go.Proofs.Ytpolpppnajfhdaa.Lsa Go.Proofs.Ytpolpppnajfhdaa.Chg
def zeroL : La := ⟨0, 0, []⟩
theorem dbOk_step (last : Int) (db : List La) (k : Nat) (h : k < db.length) : dbOk last (db.drop k) = (laOk (db.getD k zeroL) && (decide (last < (db.getD k zeroL).o) && dbOk (db.getD k zeroL).o (db.drop (k + 1)))) := by
  rw [drop_at db zeroL k h, dbOk]
theorem epOk_step (last : Int) (l : List (Int × Int)) (k : Nat) (h : k < l.length) : epOk last (l.drop k) = (epOne last (l.getD k (0, 0)) && epOk (l.getD k (0, 0)).1 (l.drop (k + 1))) := by
  rw [drop_at l (0, 0) k h, epOk]
/-- the origin ahead of a place; the node ahead -/
def lastO (db : List La) (k : Nat) : Int := if k = 0 then 0 else (db.getD (k - 1) zeroL).o
def lastE (l : List (Int × Int)) (k : Nat) : Int := if k = 0 then 0 else (l.getD (k - 1) (0, 0)).1
theorem lastO_succ (db : List La) (k : Nat) : lastO db (k + 1) = (db.getD k zeroL).o := by simp [lastO]
theorem lastE_succ (l : List (Int × Int)) (k : Nat) : lastE l (k + 1) = (l.getD k (0, 0)).1 := by simp [lastE]
theorem la_pos {a : La} (h : laOk a = true) : 0 < a.o := by have := (laOk_iff.1 h).1; omega
theorem seq_step (db : List La) (o : Int) (k : Nat) (h : k < db.length) : seqOf (db.drop k) o = if (db.getD k zeroL).o = o then (db.getD k zeroL).s else seqOf (db.drop (k + 1)) o := by
  rw [drop_at db zeroL k h, seqOf]
theorem get_step (db : List La) (o : Int) (k : Nat) (h : k < db.length) : getOf (db.drop k) o = if (db.getD k zeroL).o = o then db.getD k zeroL else getOf (db.drop (k + 1)) o := by
  rw [drop_at db zeroL k h, getOf]
theorem epoch_step (l : List (Int × Int)) (o : Int) (k : Nat) (h : k < l.length) : epoch (l.drop k) o = if (l.getD k (0, 0)).1 = o then (l.getD k (0, 0)).2 else epoch (l.drop (k + 1)) o := by
  rw [drop_at l (0, 0) k h, epoch]
theorem refPut_step (l : La) (d : Bool) (db : List La) (k : Nat) (h : k < db.length) : refPut l d (db.drop k) = (if d = false ∧ l.o ≤ (db.getD k zeroL).o then [l] else []) ++ ((if (db.getD k zeroL).o = l.o then [] else [db.getD k zeroL]) ++ refPut l (d || decide (l.o ≤ (db.getD k zeroL).o)) (db.drop (k + 1))) := by
  rw [drop_at db zeroL k h, refPut]
theorem told_step (g : Int → Int) (last : Int) (m : Nat) : told g last (m + 1) = pick g (last + 1) ++ told g (last + 1) m := rfl
theorem dbBytes_succ (db : List La) (k : Nat) (h : k < db.length) : dbBytes (db.take (k + 1)) = dbBytes (db.take k) ++ laBytes (db.getD k zeroL) := by
  have e : db.take (k + 1) = db.take k ++ [db.getD k zeroL] := by
    rw [List.take_succ_eq_append_getElem h]
    simp [List.getD, List.getElem?_eq_getElem h]
  rw [e]
  unfold dbBytes
  rw [List.flatMap_append, List.flatMap_cons, List.flatMap_nil, List.append_nil]
/-! ### a change, by its kind -/
theorem doS_1 (s : Sta) (o q n f : Int) (ls : List Lk) : doS s ⟨1, o, q, ls, n, f⟩ = if q ≤ seqOf s.db o then none else some { s with db := putOf s.db ⟨o, q, ls⟩ } := by simp [doS]
theorem doS_2 (s : Sta) (o q n f : Int) (ls : List Lk) : doS s ⟨2, o, q, ls, n, f⟩ = if n ≤ s.up then none else some { s with up := n } := by simp [doS]
theorem doS_3 (s : Sta) (o q n f : Int) (ls : List Lk) : doS s ⟨3, o, q, ls, n, f⟩ = if n ≤ s.bo then none else some { s with bo := n } := by simp [doS]
theorem doS_4 (s : Sta) (o q n f : Int) (ls : List Lk) : doS s ⟨4, o, q, ls, n, f⟩ = if n ≤ epoch s.ep f then none else some { s with ep := putEp s.ep (f, n) } := by simp [doS]
theorem doAll_cons (s : Sta) (c : Ch) (r : List Ch) : doAll s (c :: r) = (doS s c).bind fun t => doAll t r := rfl
/-! ### nothing less, or older, by a Bool -/
def laIn (db : List La) (a : La) : Bool := !(decide ((getOf db a.o).s < a.s) || ((getOf db a.o).s == a.s) && !smL (getOf db a.o).o (getOf db a.o).s (getOf db a.o).ls a.o a.s a.ls)
def epIn (l : List (Int × Int)) (e : Int × Int) : Bool := !decide (epoch l e.1 < e.2)
def within (s t : Sta) : Bool := s.db.all (laIn t.db) && (s.ep.all (epIn t.ep) && (decide (s.up ≤ t.up) && decide (s.bo ≤ t.bo)))
theorem smL_self (o s : Int) (ls : List Lk) : smL o s ls o s ls = true := by simp [smL]
theorem within_of {s t : Sta} (hs : mayS s = true) (h : Up s t) : within s t = true := by
  obtain ⟨h1, h2, _, _⟩ := mayS_iff.1 hs
  obtain ⟨g1, g2, g3, g4⟩ := h
  unfold within
  simp only [Bool.and_eq_true, List.all_eq_true, decide_eq_true_eq]
  refine ⟨fun a ha => ?_, fun e he => ?_, g3, g4⟩
  · have ea := get_mem h1 a ha
    have es : seqOf s.db a.o = a.s := by rw [← seq_get, ea]
    unfold laIn
    rcases g1 a.o with g | ⟨g, g'⟩
    · rw [es, ← seq_get] at g
      rw [decide_eq_false (by omega)]
      have : ((getOf t.db a.o).s == a.s) = false := beq_false_of_ne (by omega)
      rw [this]
      rfl
    · rw [ea] at g'
      rw [← g', smL_self]
      simp
  · have ee := epoch_mem h2 e he
    have := g2 e.1
    unfold epIn
    rw [ee] at this
    rw [decide_eq_false (by omega)]
    rfl
/-- what Apply tells: it may be, and nothing is less -/
theorem apply_ok {s t : Sta} {l : List Ch} (h : applyS s l = (t, 0)) : mayS t = true ∧ within s t = true := by
  unfold applyS at h
  split at h
  · next hc =>
    cases hd : doAll s l with
    | none => rw [hd] at h; cases h
    | some u =>
      rw [hd] at h
      cases h
      exact ⟨doAll_may hc.1 hc.2 hd, within_of hc.1 (doAll_up hd)⟩
  · cases h
end Go.Proofs.Ytpolpppnajfhdaa.Bas
