/- Plain facts on states (layer 11): how the document reads a state's bytes: what it finds is the one state whose bytes they are. No program is named here. -/
import Derived.Test.YtpolpppnajfhdaaBaseBytes
namespace Go.Proofs.Ytpolpppnajfhdaa.Bas
open Go.Proofs.Ytpolpppnajfhdaa.Oct Go.Proofs.Ytpolpppnajfhdaa.Lsa Go.Proofs.Ytpolpppnajfhdaa.Chg
def laAt (xs : List Nat) : La := ⟨(lsaAt xs).1, (lsaAt xs).2.1, (lsaAt xs).2.2⟩
theorem la_back (a : La) (more : List Nat) (h : laOk a = true) : isAt (laBytes a ++ more) = true ∧ laAt (laBytes a ++ more) = a ∧ (laBytes a ++ more).drop (10 + 5 * many (laBytes a ++ more)) = more := by
  obtain ⟨o, s, ls⟩ := a
  obtain ⟨h1, h2, h3⟩ := read_back o s ls more h
  have hi : isAt (bytesOf o s ls ++ more) = true := by rw [← rOk_at]; exact h3
  have hi' := hi
  unfold isAt at hi'
  simp only [Bool.and_eq_true, decide_eq_true_eq] at hi'
  obtain ⟨r1, r2⟩ := rAll_at hi'.1 hi'.2.1
  rw [h2] at r2
  rw [h1] at r1
  refine ⟨hi, ?_, ?_⟩
  · show (⟨(lsaAt (bytesOf o s ls ++ more)).1, (lsaAt (bytesOf o s ls ++ more)).2.1, (lsaAt (bytesOf o s ls ++ more)).2.2⟩ : La) = ⟨o, s, ls⟩
    rw [← r2]
  · exact (congrArg (fun p => p.1.1) r1).symm
/-- so many Lsas are read -/
def dbRead : Nat → List Nat → Option (List La × List Nat)
  | 0, xs => some ([], xs)
  | n + 1, xs => if isAt xs = true then (dbRead n (xs.drop (10 + 5 * many xs))).map fun p => (laAt xs :: p.1, p.2) else none
theorem dbRead_back : ∀ (db : List La) (more : List Nat), (∀ a ∈ db, laOk a = true) → dbRead db.length (dbBytes db ++ more) = some (db, more)
  | [], more, _ => rfl
  | a :: r, more, h => by
    have e : dbBytes (a :: r) ++ more = laBytes a ++ (dbBytes r ++ more) := by
      unfold dbBytes
      rw [List.flatMap_cons, List.append_assoc]
    obtain ⟨h1, h2, h3⟩ := la_back a (dbBytes r ++ more) (h a (List.mem_cons_self ..))
    rw [e, List.length_cons]
    unfold dbRead
    rw [if_pos h1, h3, h2, dbRead_back r more (fun z hz => h z (List.mem_cons_of_mem _ hz))]
    rfl
/-- all epochs that are there -/
def epRead (xs : List Nat) : List (Int × Int) := (List.range (xs.length / 5)).map (lkAt xs)
theorem ep_all : ∀ {l : List (Int × Int)} {last : Int}, epOk last l = true → 0 ≤ last → ∀ a ∈ l, (1 ≤ a.1 ∧ a.1 ≤ 64) ∧ 1 ≤ a.2 ∧ a.2 ≤ 1073741824
  | [], _, _, _, a, ha => by cases ha
  | b :: r, last, h, h0, a, ha => by
    simp only [epOk, epOne, Bool.and_eq_true, decide_eq_true_eq] at h
    have h1 := win_iff.1 h.1.1
    have h2 := win_iff.1 h.1.2.1
    rcases List.mem_cons.1 ha with rfl | ha
    · exact ⟨h1, h2⟩
    · exact ep_all h.2 (by omega) a ha
theorem epRead_back {l : List (Int × Int)} (h : epOk 0 l = true) : epRead (linkBytes l) = l := by
  have hl := linkBytes_length l
  have e1 := rlks_back l [] (ep_all h (by omega)) l.length (Nat.le_refl _)
  have e2 := rlks_at (linkBytes l) l.length (by omega)
  rw [List.append_nil] at e1
  rw [e1, List.take_length] at e2
  unfold epRead
  rw [show (linkBytes l).length / 5 = l.length by omega]
  exact (congrArg (fun p => p.2) e2).symm
/-- the document's reading -/
def found (b : List Nat) (p : List La × List Nat) : Sta := ⟨p.1, sgn (num (b.take 8)), (num ((b.drop 8).take 4) : Nat), epRead (p.2.drop 1)⟩
def refRead (b : List Nat) : Option Sta :=
  if b.length < 14 then none else match dbRead (b.getD 12 0) (b.drop 13) with
    | none => none
    | some p => if mayS (found b p) = true ∧ bytesS (found b p) = b then some (found b p) else none
theorem refRead_back {s : Sta} (h : mayS s = true) : refRead (bytesS s) = some s := by
  obtain ⟨d, u, b, e⟩ := s
  obtain ⟨s1, s2, s3, s4⟩ := mayS_iff.1 h
  simp only at s1 s2 s3 s4
  have l1 := dbOk_len s1 (by omega) (by omega)
  have l3 := epOk_len s2 (by omega) (by omega)
  obtain ⟨B, hB⟩ : ∃ B, B = bytesS ⟨d, u, b, e⟩ := ⟨_, rfl⟩
  have hx : B = be 8 u.toNat ++ (be 4 b.toNat ++ (be 1 d.length ++ (dbBytes d ++ (be 1 e.length ++ linkBytes e)))) := by
    rw [hB]
    unfold bytesS headS
    rw [List.append_assoc]
  have t8 : B.take 8 = be 8 u.toNat := by
    rw [hx, List.take_left' (be_length _ _)]
  have d8 : B.drop 8 = be 4 b.toNat ++ (be 1 d.length ++ (dbBytes d ++ (be 1 e.length ++ linkBytes e))) := by
    rw [hx, List.drop_left' (be_length _ _)]
  have t4 : (B.drop 8).take 4 = be 4 b.toNat := by
    rw [d8, List.take_left' (be_length _ _)]
  have d12 : B.drop 12 = be 1 d.length ++ (dbBytes d ++ (be 1 e.length ++ linkBytes e)) := by
    have : B.drop 12 = (B.drop 8).drop 4 := by rw [List.drop_drop]
    rw [this, d8, List.drop_left' (be_length _ _)]
  have d13 : B.drop 13 = dbBytes d ++ (be 1 e.length ++ linkBytes e) := by
    have : B.drop 13 = (B.drop 12).drop 1 := by rw [List.drop_drop]
    rw [this, d12, List.drop_left' (be_length _ _)]
  have hlen : 14 ≤ B.length := by
    rw [hx]
    simp only [List.length_append, be_length]
    omega
  have g12 : B.getD 12 0 = d.length := by
    have e1 : B.getD 12 0 = (B.drop 12).getD 0 0 := by simp [List.getD, List.getElem?_drop]
    rw [e1, d12]
    have e2 : be 1 d.length = [d.length % 256] := by simp [be]
    rw [e2]
    show d.length % 256 = d.length
    omega
  rw [← hB]
  unfold refRead
  rw [if_neg (by omega), g12, d13, dbRead_back d _ (dbOk_all s1)]
  have hf : found B (d, be 1 e.length ++ linkBytes e) = ⟨d, u, b, e⟩ := by
    unfold found
    simp only
    rw [t8, t4, num_be8 (by omega), num_be4 (by omega), List.drop_left' (be_length _ _), epRead_back s2]
    have e1 : sgn u.toNat = u := by unfold sgn; rw [if_pos (by omega)]; omega
    have e2 : ((b.toNat : Nat) : Int) = b := by omega
    rw [e1, e2]
  show (if mayS (found B (d, be 1 e.length ++ linkBytes e)) = true ∧ bytesS (found B (d, be 1 e.length ++ linkBytes e)) = B then some (found B (d, be 1 e.length ++ linkBytes e)) else none) = some ⟨d, u, b, e⟩
  rw [hf, if_pos ⟨h, hB.symm⟩]
theorem refRead_iff {b : List Nat} {s : Sta} : refRead b = some s ↔ mayS s = true ∧ bytesS s = b := by
  constructor
  · intro h
    unfold refRead at h
    split at h
    · cases h
    · split at h
      · cases h
      · split at h
        · next hc =>
          cases h
          exact hc
        · cases h
  · rintro ⟨h, rfl⟩
    exact refRead_back h
end Go.Proofs.Ytpolpppnajfhdaa.Bas
