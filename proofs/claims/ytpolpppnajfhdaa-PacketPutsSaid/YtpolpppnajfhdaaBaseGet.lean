/- Plain facts on states (layer 11): how the code reads a state's bytes, and that it finds what the document finds. No program is named here. -/
import Derived.Test.YtpolpppnajfhdaaBaseSame
namespace Go.Proofs.Ytpolpppnajfhdaa.Bas
open Go.Proofs.Ytpolpppnajfhdaa.Oct Go.Proofs.Ytpolpppnajfhdaa.Lsa Go.Proofs.Ytpolpppnajfhdaa.Chg
def laOf (st : St) : La := ⟨(lsaO st).1, (lsaO st).2.1, (lsaO st).2.2⟩
/-- so many Lsas are read, the zero one where there is none -/
def rdbs (st : St) : Nat → St × List La
  | 0 => (st, [])
  | k + 1 => ((rAll (rdbs st k).1).1, (rdbs st k).2 ++ [laOf (rdbs st k).1])
theorem rdbs_len (st : St) : ∀ k, (rdbs st k).2.length = k
  | 0 => rfl
  | k + 1 => by rw [rdbs, List.length_append, rdbs_len st k]; rfl
def gU (xs : List Nat) : St × Nat := rnum (xs, true) 8
def gB (xs : List Nat) : St × Nat := rnum (gU xs).1 4
def gM (xs : List Nat) : St × Nat := rnum (gB xs).1 1
def gD (xs : List Nat) : St × List La := rdbs (gM xs).1 (gM xs).2
def gN (xs : List Nat) : St × Nat := rnum (gD xs).1 1
def gE (xs : List Nat) : St × List Lk := rlks (gN xs).1 (gN xs).2
def gS (xs : List Nat) : Sta := ⟨(gD xs).2, sgn (gU xs).2, ((gB xs).2 : Nat), (gE xs).2⟩
def gEnd (xs : List Nat) : Bool := (gE xs).1.2 && decide ((gE xs).1.1.length = 0)
def getS (xs : List Nat) : Option Sta := if (gEnd xs && mayS (gS xs)) = true then some (gS xs) else none
theorem laOf_ok {st : St} (h : laOk (laOf st) = true) : rOk st = true ∧ laOf st = ⟨(rLsa st).1, (rLsa st).2.1, (rLsa st).2.2⟩ := by
  unfold laOf lsaO at h ⊢
  by_cases hr : rOk st = true
  · rw [if_pos hr]
    exact ⟨hr, rfl⟩
  · rw [if_neg hr] at h
    exact absurd h (by decide)
theorem rlks_bytes (st : St) (h : ∀ x ∈ st.1, x < 256) : ∀ k, ∀ x ∈ (rlks st k).1.1, x < 256
  | 0 => h
  | k + 1 => by
    rw [rlks]
    unfold rlk
    exact rnum_bytes (rnum_bytes (rlks_bytes st h k))
theorem rAll_bytes {st : St} (h : ∀ x ∈ st.1, x < 256) : ∀ x ∈ (rAll st).1.1, x < 256 := by
  have b3 : ∀ x ∈ (rMany st).1.1, x < 256 := rnum_bytes (rnum_bytes (rnum_bytes h))
  exact rlks_bytes _ b3 _
theorem rdbs_bytes {st : St} (h : ∀ x ∈ st.1, x < 256) : ∀ k, ∀ x ∈ (rdbs st k).1.1, x < 256
  | 0 => h
  | k + 1 => by
    rw [rdbs]
    exact rAll_bytes (rdbs_bytes h k)
theorem rdbs_sound {st : St} (h : ∀ x ∈ st.1, x < 256) : ∀ k, (rdbs st k).1.2 = true → (∀ a ∈ (rdbs st k).2, laOk a = true) → st.1 = dbBytes (rdbs st k).2 ++ (rdbs st k).1.1 ∧ st.2 = true
  | 0, ht, _ => ⟨by simp [rdbs, dbBytes], ht⟩
  | k + 1, ht, ha => by
    rw [rdbs] at ht ha ⊢
    simp only at ht ha ⊢
    obtain ⟨hk, hl⟩ := laOf_ok (ha (laOf (rdbs st k).1) (by simp))
    obtain ⟨e1, e2, _⟩ := lsa_sound (rdbs_bytes h k) hk
    obtain ⟨i1, i2⟩ := rdbs_sound h k e2 (fun a hm => ha a (by simp [hm]))
    refine ⟨?_, i2⟩
    have e3 : laBytes (laOf (rdbs st k).1) = bytesOf (rLsa (rdbs st k).1).1 (rLsa (rdbs st k).1).2.1 (rLsa (rdbs st k).1).2.2 := by rw [hl]; rfl
    rw [← e3] at e1
    have e4 : dbBytes ((rdbs st k).2 ++ [laOf (rdbs st k).1]) = dbBytes (rdbs st k).2 ++ laBytes (laOf (rdbs st k).1) := by
      unfold dbBytes
      rw [List.flatMap_append, List.flatMap_cons, List.flatMap_nil, List.append_nil]
    rw [e4, List.append_assoc, ← e1]
    exact i1
theorem rdbs_back (db : List La) (more : List Nat) (h : ∀ a ∈ db, laOk a = true) : ∀ k, k ≤ db.length → rdbs (dbBytes db ++ more, true) k = ((dbBytes (db.drop k) ++ more, true), db.take k)
  | 0, _ => by simp [rdbs]
  | k + 1, hk => by
    have hkl : k < db.length := by omega
    rw [rdbs, rdbs_back db more h k (by omega), drop_at db zeroL k hkl]
    have hm : db.getD k zeroL ∈ db := by
      simp only [List.getD, List.getElem?_eq_getElem hkl, Option.getD_some]
      exact List.getElem_mem _
    have ha := h _ hm
    have e1 : dbBytes (db.getD k zeroL :: db.drop (k + 1)) ++ more = laBytes (db.getD k zeroL) ++ (dbBytes (db.drop (k + 1)) ++ more) := by
      unfold dbBytes
      rw [List.flatMap_cons, List.append_assoc]
    have e2 : db.take (k + 1) = db.take k ++ [db.getD k zeroL] := by
      rw [List.take_succ_eq_append_getElem hkl]
      simp [List.getD, List.getElem?_eq_getElem hkl]
    rw [e1, e2]
    generalize db.getD k zeroL = a at *
    obtain ⟨o, s, ls⟩ := a
    obtain ⟨r1, r2, r3⟩ := read_back o s ls (dbBytes (db.drop (k + 1)) ++ more) ha
    have e3 : laOf (laBytes ⟨o, s, ls⟩ ++ (dbBytes (db.drop (k + 1)) ++ more), true) = ⟨o, s, ls⟩ := by
      show laOf (bytesOf o s ls ++ (dbBytes (db.drop (k + 1)) ++ more), true) = _
      unfold laOf lsaO
      rw [if_pos r3, r2]
    simp only
    rw [e3]
    show ((rAll (bytesOf o s ls ++ (dbBytes (db.drop (k + 1)) ++ more), true)).1, _) = _
    rw [r1]
theorem rnum_small {st : St} {k : Nat} {K : Int} (hK : K = (k : Int)) (h : ∀ x ∈ st.1, x < 256) : (rnum st K).2 < 256 ^ k := by
  subst hK
  unfold rnum
  split
  · have h1 := num_lt (st.1.take (k : Int).toNat) (fun x hx => h x (List.mem_of_mem_take hx))
    have h2 : (st.1.take (k : Int).toNat).length ≤ k := by rw [List.length_take]; simp; omega
    exact Nat.lt_of_lt_of_le h1 (Nat.pow_le_pow_right (by decide) h2)
  · exact Nat.pow_pos (by decide)
theorem sgn_back {n : Nat} (h : n < 18446744073709551616) (h0 : 0 ≤ sgn n) : (sgn n).toNat = n := by
  unfold sgn at h0 ⊢
  split
  · rw [Int.toNat_natCast]
  · next hc =>
    rw [if_neg hc] at h0
    omega
theorem getS_sound {xs : List Nat} {s : Sta} (hx : ∀ x ∈ xs, x < 256) (h : getS xs = some s) : mayS s = true ∧ bytesS s = xs := by
  unfold getS at h
  split at h
  · next hc =>
    cases h
    simp only [Bool.and_eq_true, gEnd, decide_eq_true_eq] at hc
    obtain ⟨⟨ht, hz⟩, hm⟩ := hc
    refine ⟨hm, ?_⟩
    obtain ⟨m1, m2, m3, m4⟩ := mayS_iff.1 hm
    have hl := dbOk_all m1
    have b0 : ∀ x ∈ (gU xs).1.1, x < 256 := rnum_bytes hx
    have b1 : ∀ x ∈ (gB xs).1.1, x < 256 := rnum_bytes b0
    have b2 : ∀ x ∈ (gM xs).1.1, x < 256 := rnum_bytes b1
    have b3 : ∀ x ∈ (gD xs).1.1, x < 256 := rdbs_bytes b2 _
    have b4 : ∀ x ∈ (gN xs).1.1, x < 256 := rnum_bytes b3
    obtain ⟨e6, t5, _⟩ := rlks_sound (gN xs).1 b4 (gN xs).2 ht
    obtain ⟨e5, t4⟩ := rnum_sound (st := (gD xs).1) (K := 1) (k := 1) rfl b3 t5
    obtain ⟨e4, t3⟩ := rdbs_sound b2 (gM xs).2 t4 hl
    obtain ⟨e3, t2⟩ := rnum_sound (st := (gB xs).1) (K := 1) (k := 1) rfl b1 t3
    obtain ⟨e2, t1⟩ := rnum_sound (st := (gU xs).1) (K := 4) (k := 4) rfl b0 t2
    obtain ⟨e1, _⟩ := rnum_sound (st := (xs, true)) (K := 8) (k := 8) rfl hx t1
    have hn : (gE xs).1.1 = [] := List.eq_nil_of_length_eq_zero hz
    have d1 : (gD xs).2.length = (gM xs).2 := rdbs_len _ _
    have d2 : (gE xs).2.length = (gN xs).2 := rlks_len _ _
    have d3 : (sgn (gU xs).2).toNat = (gU xs).2 := sgn_back (rnum_small (st := (xs, true)) (k := 8) rfl hx) m3.1
    unfold bytesS headS gS
    simp only
    rw [d1, d2, d3, Int.toNat_natCast]
    have f1 : xs = be 8 (gU xs).2 ++ (gU xs).1.1 := e1
    have f2 : (gU xs).1.1 = be 4 (gB xs).2 ++ (gB xs).1.1 := e2
    have f3 : (gB xs).1.1 = be 1 (gM xs).2 ++ (gM xs).1.1 := e3
    have f4 : (gM xs).1.1 = dbBytes (gD xs).2 ++ (gD xs).1.1 := e4
    have f5 : (gD xs).1.1 = be 1 (gN xs).2 ++ (gN xs).1.1 := e5
    have f6 : (gN xs).1.1 = linkBytes (gE xs).2 ++ (gE xs).1.1 := e6
    rw [hn, List.append_nil] at f6
    rw [f6] at f5
    rw [f5] at f4
    rw [f4] at f3
    rw [f3] at f2
    rw [f2] at f1
    rw [List.append_assoc]
    exact f1.symm
  · cases h
theorem getS_back {s : Sta} (h : mayS s = true) : getS (bytesS s) = some s := by
  obtain ⟨d, u, b, e⟩ := s
  obtain ⟨s1, s2, s3, s4⟩ := mayS_iff.1 h
  simp only at s1 s2 s3 s4
  have l1 := dbOk_len s1 (by omega) (by omega)
  have l3 := epOk_len s2 (by omega) (by omega)
  have hx : bytesS ⟨d, u, b, e⟩ = be 8 u.toNat ++ (be 4 b.toNat ++ (be 1 d.length ++ (dbBytes d ++ (be 1 e.length ++ linkBytes e)))) := by
    unfold bytesS headS
    rw [List.append_assoc]
  generalize bytesS ⟨d, u, b, e⟩ = xs at *
  have g1 : gU xs = ((be 4 b.toNat ++ (be 1 d.length ++ (dbBytes d ++ (be 1 e.length ++ linkBytes e))), true), u.toNat) := by
    unfold gU
    rw [hx]
    exact rnum_be rfl _ (by omega) (by omega) (by omega)
  have g2 : gB xs = ((be 1 d.length ++ (dbBytes d ++ (be 1 e.length ++ linkBytes e)), true), b.toNat) := by
    unfold gB
    rw [g1]
    exact rnum_be rfl _ (by omega) (by omega) (by omega)
  have g3 : gM xs = ((dbBytes d ++ (be 1 e.length ++ linkBytes e), true), d.length) := by
    unfold gM
    rw [g2]
    exact rnum_be rfl _ (by omega) (by omega) (by omega)
  have g4 : gD xs = ((be 1 e.length ++ linkBytes e, true), d) := by
    unfold gD
    rw [g3]
    simp only
    rw [rdbs_back d _ (dbOk_all s1) d.length (Nat.le_refl _), List.drop_length, List.take_length]
    rfl
  have g5 : gN xs = ((linkBytes e, true), e.length) := by
    unfold gN
    rw [g4]
    exact rnum_be rfl _ (by omega) (by omega) (by omega)
  have g6 : gE xs = (([], true), e) := by
    unfold gE
    rw [g5]
    have := rlks_back e [] (ep_all s2 (Int.le_refl 0)) e.length (Nat.le_refl _)
    rw [List.append_nil, List.drop_length, List.take_length] at this
    exact this
  have g7 : gS xs = ⟨d, u, b, e⟩ := by
    unfold gS
    rw [g4, g1, g2, g6]
    have e1 : sgn u.toNat = u := by unfold sgn; rw [if_pos (by omega)]; omega
    have e2 : ((b.toNat : Nat) : Int) = b := by omega
    simp only
    rw [e1, e2]
  unfold getS gEnd
  rw [g6, g7, h]
  rfl
theorem getS_iff {xs : List Nat} {s : Sta} (hx : ∀ x ∈ xs, x < 256) : getS xs = some s ↔ mayS s = true ∧ bytesS s = xs := by
  constructor
  · exact getS_sound hx
  · rintro ⟨h, rfl⟩
    exact getS_back h
theorem getS_eq {xs : List Nat} (hx : ∀ x ∈ xs, x < 256) : getS xs = refRead xs := by
  apply Option.ext
  intro s
  rw [getS_iff hx, refRead_iff]
end Go.Proofs.Ytpolpppnajfhdaa.Bas
