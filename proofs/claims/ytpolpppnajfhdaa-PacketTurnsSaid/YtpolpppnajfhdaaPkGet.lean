/- How the code reads a packet's bytes (layer 14), and that it finds what the document finds. Pure: no function of the program is called. -/
import Derived.Test.YtpolpppnajfhdaaPkBack
import Derived.Test.YtpolpppnajfhdaaBaseGet
import Derived.Test.YtpolpppnajfhdaaCrcOpen
namespace Go.Proofs.Ytpolpppnajfhdaa.Pkt
open Go.Proofs.Ytpolpppnajfhdaa.Oct Go.Proofs.Ytpolpppnajfhdaa.Lsa Go.Proofs.Ytpolpppnajfhdaa.Bas Go.Proofs.Ytpolpppnajfhdaa.Chg
set_option linter.unusedVariables false
set_option linter.unusedSimpArgs false
def rit (p : St × List Lk) : St × List Lk := ((rnum (rnum p.1 1).1 8).1, p.2 ++ [((((rnum p.1 1).2 : Nat) : Int), sgn (rnum (rnum p.1 1).1 8).2)])
def rits (st : St) : Nat → St × List Lk
  | 0 => (st, [])
  | k + 1 => rit (rits st k)
theorem rits_len (st : St) (k : Nat) : (rits st k).2.length = k := by
  induction k with
  | zero => rfl
  | succ k ih => simp [rits, rit, ih]
theorem rits_bytes (st : St) (h : ∀ x ∈ st.1, x < 256) : ∀ k, ∀ x ∈ (rits st k).1.1, x < 256
  | 0 => h
  | k + 1 => by
    rw [rits]
    unfold rit
    exact rnum_bytes (rnum_bytes (rits_bytes st h k))
theorem rits_sound (st : St) (h : ∀ x ∈ st.1, x < 256) : ∀ k, (rits st k).1.2 = true → (∀ x ∈ (rits st k).2, 0 ≤ x.2) → st.1 = itBytes (rits st k).2 ++ (rits st k).1.1 ∧ st.2 = true
  | 0, ht, _ => ⟨by simp [rits, itBytes], ht⟩
  | k + 1, ht, ha => by
    have hb := rits_bytes st h k
    have ih := rits_sound st h k
    rw [rits] at ht ha ⊢
    generalize rits st k = q at *
    obtain ⟨t, l⟩ := q
    simp only [rit] at ht ha ⊢
    obtain ⟨e2, t2⟩ := rnum_sound (st := (rnum t 1).1) (K := 8) (k := 8) rfl (rnum_bytes hb) ht
    obtain ⟨e1, t1⟩ := rnum_sound (st := t) (K := 1) (k := 1) rfl hb t2
    obtain ⟨i1, i2⟩ := ih t1 (fun x hx => ha x (by simp [hx]))
    refine ⟨?_, i2⟩
    have h0 := ha _ (List.mem_append_right l (List.mem_cons_self ..))
    simp only at h0 i1
    have d := sgn_back (rnum_small (st := (rnum t 1).1) (k := 8) (K := 8) rfl (rnum_bytes hb)) h0
    rw [itBytes_app]
    simp only [d, Int.toNat_natCast, List.append_assoc]
    rw [i1, ← e2, ← e1]
theorem rits_back (more : List Nat) (l : List Lk) (c : Int) (h0 : 0 ≤ c) (ho : itOk c l = true) : ∀ k, k ≤ l.length → rits (itBytes l ++ more, true) k = ((itBytes (l.drop k) ++ more, true), l.take k)
  | 0, _ => by simp [rits]
  | k + 1, hk => by
    have hkl : k < l.length := by omega
    rw [rits, rits_back more l c h0 ho k (by omega), drop_at l (0, 0) k hkl]
    have hm : l.getD k (0, 0) ∈ l := by
      simp only [List.getD, List.getElem?_eq_getElem hkl, Option.getD_some]
      exact List.getElem_mem _
    have ha : ∀ {m : List Lk} {d : Int}, 0 ≤ d → itOk d m = true → ∀ x ∈ m, (1 ≤ x.1 ∧ x.1 ≤ 64) ∧ 1 ≤ x.2 ∧ x.2 ≤ 4611686018427387904 := by
      intro m
      induction m with
      | nil => intro d _ _ x hx; simp at hx
      | cons a r ih =>
        intro d hd h x hx
        simp only [itOk, itOne, Lsa.win, Bool.and_eq_true, decide_eq_true_eq] at h
        rcases List.mem_cons.1 hx with rfl | hx
        · exact ⟨h.1.1, h.1.2.1⟩
        · exact ih (d := a.1) (by omega) h.2 x hx
    obtain ⟨⟨b1, b2⟩, b3, b4⟩ := ha h0 ho _ hm
    have e2 : l.take (k + 1) = l.take k ++ [l.getD k (0, 0)] := by
      rw [List.take_succ_eq_append_getElem hkl]
      simp [List.getD, List.getElem?_eq_getElem hkl]
    rw [e2]
    generalize l.getD k (0, 0) = x at *
    rw [itBytes_cons, List.append_assoc, List.append_assoc]
    unfold rit
    simp only
    rw [rnum_be (k := 1) (K := 1) rfl _ (by omega) (by omega) (by omega)]
    simp only
    rw [rnum_be (k := 8) (K := 8) rfl _ (by omega) (by omega) (by omega)]
    simp only
    rw [sgn_small (by omega), Int.toNat_of_nonneg (by omega), Int.toNat_of_nonneg (by omega)]
def c1 (xs : List Nat) : St × Nat := rnum (xs, true) 1
def c2 (xs : List Nat) : St × Nat := rnum (c1 xs).1 1
def c3 (xs : List Nat) : St × Nat := rnum (c2 xs).1 4
def c4 (xs : List Nat) : St × Nat := rnum (c3 xs).1 1
def c5 (xs : List Nat) : St × Nat := rnum (c4 xs).1 4
def headC (xs : List Nat) : Pk := ⟨((c1 xs).2 : Nat), ((c2 xs).2 : Nat), ((c3 xs).2 : Nat), ((c4 xs).2 : Nat), ((c5 xs).2 : Nat), 0, 0, [], [], []⟩
/-- how many there are, and what is behind it -/
def mOf (st : St) : St × Nat := rnum st 1
def hdsC (st : St) : St × List Lk := rlks (mOf st).1 (mOf st).2
def itsC (st : St) : St × List Lk := rits (mOf st).1 (mOf st).2
def lssC (st : St) : St × List La := rdbs (mOf st).1 (mOf st).2
def tailC (p : Pk) (st : St) : St × Pk :=
  if p.k = 1 then ((hdsC st).1, { p with hd := (hdsC st).2 })
  else if p.k = 2 then ((itsC (rnum st 4).1).1, { p with e := ((rnum st 4).2 : Nat), it := (itsC (rnum st 4).1).2 })
  else if p.k = 5 then ((itsC st).1, { p with it := (itsC st).2 })
  else if p.k = 3 then ((rnum (rnum st 4).1 4).1, { p with e := ((rnum st 4).2 : Nat), te := ((rnum (rnum st 4).1 4).2 : Nat) })
  else if p.k = 4 then ((lssC st).1, { p with ls := (lssC st).2 })
  else (st, p)
def rPk (xs : List Nat) : St × Pk := tailC (headC xs) (c5 xs).1
def endC (xs : List Nat) : Bool := (rPk xs).1.2 && decide ((rPk xs).1.1.length = 0)
def getC (xs : List Nat) : Option Pk := if (Crc.okOf xs && (endC (Crc.outOf xs) && mayP (rPk (Crc.outOf xs)).2)) = true then some (rPk (Crc.outOf xs)).2 else none
theorem lsBytes_db (l : List La) : lsBytes l = dbBytes l := rfl
theorem tail_sound {p : Pk} {st : St} (hb : ∀ x ∈ st.1, x < 256) (h0 : p.e = 0 ∧ p.te = 0 ∧ p.hd = [] ∧ p.it = [] ∧ p.ls = []) (ht : (tailC p st).1.2 = true) (hz : (tailC p st).1.1 = []) (hm : mayP (tailC p st).2 = true) :
    st.1 = midP (tailC p st).2 ++ (linkBytes (tailC p st).2.hd ++ (itBytes (tailC p st).2.it ++ lsBytes (tailC p st).2.ls)) ∧ st.2 = true := by
  obtain ⟨k, f, b, t, tb, e, te, hd, it, ls⟩ := p
  simp only at h0
  obtain ⟨rfl, rfl, rfl, rfl, rfl⟩ := h0
  have bm : ∀ x ∈ (mOf st).1.1, x < 256 := rnum_bytes hb
  unfold tailC at ht hz hm ⊢
  by_cases k1 : k = 1
  · subst k1
    simp only [if_pos] at ht hz ⊢
    obtain ⟨e1, t1, _⟩ := rlks_sound (mOf st).1 bm (mOf st).2 ht
    obtain ⟨e0, t0⟩ := rnum_sound (st := st) (K := 1) (k := 1) rfl hb t1
    have hl : (hdsC st).2.length = (mOf st).2 := rlks_len _ _
    have hz' : (rlks (mOf st).1 (mOf st).2).1.1 = [] := hz
    rw [hz', List.append_nil] at e1
    refine ⟨?_, t0⟩
    rw [e0]
    show be 1 (mOf st).2 ++ (mOf st).1.1 = _
    rw [e1]
    simp [midP, hasE, count, itBytes, lsBytes, hl]
    rfl
  by_cases k2 : k = 2
  · subst k2
    simp only [show (2 : Int) ≠ 1 by decide, if_false, if_true, if_pos] at ht hz hm ⊢
    have b4 : ∀ x ∈ (rnum st 4).1.1, x < 256 := rnum_bytes hb
    have bm : ∀ x ∈ (mOf (rnum st 4).1).1.1, x < 256 := rnum_bytes b4
    have hi : itOk 0 (itsC (rnum st 4).1).2 = true := (mayP_iff.1 hm).2.2.2.1
    have ha := fun (x : Lk) hx => (show 0 ≤ x.2 from by
      have : ∀ {m : List Lk} {d : Int}, itOk d m = true → ∀ x ∈ m, 0 ≤ x.2 := by
        intro m
        induction m with
        | nil => intro d _ x hx; simp at hx
        | cons a r ih =>
          intro d h x hx
          simp only [itOk, itOne, Lsa.win, Bool.and_eq_true, decide_eq_true_eq] at h
          rcases List.mem_cons.1 hx with rfl | hx
          · omega
          · exact ih h.2 x hx
      exact this hi x hx)
    obtain ⟨e2, t2⟩ := rits_sound (mOf (rnum st 4).1).1 bm (mOf (rnum st 4).1).2 ht ha
    obtain ⟨e1, t1⟩ := rnum_sound (st := (rnum st 4).1) (K := 1) (k := 1) rfl b4 t2
    obtain ⟨e0, t0⟩ := rnum_sound (st := st) (K := 4) (k := 4) rfl hb t1
    have hl : (itsC (rnum st 4).1).2.length = (mOf (rnum st 4).1).2 := rits_len _ _
    have hz' : (rits (mOf (rnum st 4).1).1 (mOf (rnum st 4).1).2).1.1 = [] := hz
    rw [hz', List.append_nil] at e2
    refine ⟨?_, t0⟩
    rw [e0, e1]
    show be 4 (rnum st 4).2 ++ (be 1 (mOf (rnum st 4).1).2 ++ (mOf (rnum st 4).1).1.1) = _
    rw [e2]
    simp [midP, hasE, count, linkBytes, lsBytes, hl]
    rfl
  by_cases k5 : k = 5
  · subst k5
    simp only [show (5 : Int) ≠ 1 by decide, show (5 : Int) ≠ 2 by decide, if_false, if_true, if_pos] at ht hz hm ⊢
    have hi : itOk 0 (itsC st).2 = true := (mayP_iff.1 hm).2.2.2.1
    have ha := fun (x : Lk) hx => (show 0 ≤ x.2 from by
      have : ∀ {m : List Lk} {d : Int}, itOk d m = true → ∀ x ∈ m, 0 ≤ x.2 := by
        intro m
        induction m with
        | nil => intro d _ x hx; simp at hx
        | cons a r ih =>
          intro d h x hx
          simp only [itOk, itOne, Lsa.win, Bool.and_eq_true, decide_eq_true_eq] at h
          rcases List.mem_cons.1 hx with rfl | hx
          · omega
          · exact ih h.2 x hx
      exact this hi x hx)
    obtain ⟨e1, t1⟩ := rits_sound (mOf st).1 bm (mOf st).2 ht ha
    obtain ⟨e0, t0⟩ := rnum_sound (st := st) (K := 1) (k := 1) rfl hb t1
    have hl : (itsC st).2.length = (mOf st).2 := rits_len _ _
    have hz' : (rits (mOf st).1 (mOf st).2).1.1 = [] := hz
    rw [hz', List.append_nil] at e1
    refine ⟨?_, t0⟩
    rw [e0]
    show be 1 (mOf st).2 ++ (mOf st).1.1 = _
    rw [e1]
    simp [midP, hasE, count, linkBytes, lsBytes, hl]
    rfl
  by_cases k3 : k = 3
  · subst k3
    simp only [show (3 : Int) ≠ 1 by decide, show (3 : Int) ≠ 2 by decide, show (3 : Int) ≠ 5 by decide, if_false, if_true, if_pos] at ht hz hm ⊢
    have b4 : ∀ x ∈ (rnum st 4).1.1, x < 256 := rnum_bytes hb
    obtain ⟨e1, t1⟩ := rnum_sound (st := (rnum st 4).1) (K := 4) (k := 4) rfl b4 ht
    obtain ⟨e0, t0⟩ := rnum_sound (st := st) (K := 4) (k := 4) rfl hb t1
    rw [hz, List.append_nil] at e1
    refine ⟨?_, t0⟩
    rw [e0, e1]
    simp [midP, hasE, linkBytes, itBytes, lsBytes]
  by_cases k4 : k = 4
  · subst k4
    simp only [show (4 : Int) ≠ 1 by decide, show (4 : Int) ≠ 2 by decide, show (4 : Int) ≠ 5 by decide, show (4 : Int) ≠ 3 by decide, if_false, if_true, if_pos] at ht hz hm ⊢
    have hi : dbOk 0 (lssC st).2 = true := (mayP_iff.1 hm).2.2.1
    obtain ⟨e1, t1⟩ := rdbs_sound bm (mOf st).2 ht (dbOk_all hi)
    obtain ⟨e0, t0⟩ := rnum_sound (st := st) (K := 1) (k := 1) rfl hb t1
    have hl : (lssC st).2.length = (mOf st).2 := rdbs_len _ _
    have hz' : (rdbs (mOf st).1 (mOf st).2).1.1 = [] := hz
    rw [hz', List.append_nil] at e1
    refine ⟨?_, t0⟩
    rw [e0]
    show be 1 (mOf st).2 ++ (mOf st).1.1 = _
    rw [e1]
    simp [midP, hasE, count, linkBytes, itBytes, hl]
    rfl
  · simp only [k1, k2, k5, k3, k4, if_false] at hm
    have hk := (mayP_iff.1 hm).2.2.2.2.2
    simp [kindOk, k1, k2, k5, k3, k4] at hk
theorem tail_head (p : Pk) (st : St) : (tailC p st).2.k = p.k ∧ (tailC p st).2.f = p.f ∧ (tailC p st).2.b = p.b ∧ (tailC p st).2.t = p.t ∧ (tailC p st).2.tb = p.tb := by
  unfold tailC
  repeat' (first | (split; exact ⟨rfl, rfl, rfl, rfl, rfl⟩) | (split) | exact ⟨rfl, rfl, rfl, rfl, rfl⟩)
theorem rPk_sound {xs : List Nat} (hx : ∀ x ∈ xs, x < 256) (he : endC xs = true) (hm : mayP (rPk xs).2 = true) : bodyP (rPk xs).2 = xs := by
  simp only [endC, Bool.and_eq_true, decide_eq_true_eq] at he
  obtain ⟨ht, hz⟩ := he
  have hz := List.eq_nil_of_length_eq_zero hz
  have b1 : ∀ x ∈ (c1 xs).1.1, x < 256 := rnum_bytes hx
  have b2 : ∀ x ∈ (c2 xs).1.1, x < 256 := rnum_bytes b1
  have b3 : ∀ x ∈ (c3 xs).1.1, x < 256 := rnum_bytes b2
  have b4 : ∀ x ∈ (c4 xs).1.1, x < 256 := rnum_bytes b3
  have b5 : ∀ x ∈ (c5 xs).1.1, x < 256 := rnum_bytes b4
  obtain ⟨e6, t5⟩ := tail_sound (p := headC xs) (st := (c5 xs).1) b5 ⟨rfl, rfl, rfl, rfl, rfl⟩ ht hz hm
  obtain ⟨e5, t4⟩ := rnum_sound (st := (c4 xs).1) (K := 4) (k := 4) rfl b4 t5
  obtain ⟨e4, t3⟩ := rnum_sound (st := (c3 xs).1) (K := 1) (k := 1) rfl b3 t4
  obtain ⟨e3, t2⟩ := rnum_sound (st := (c2 xs).1) (K := 4) (k := 4) rfl b2 t3
  obtain ⟨e2, t1⟩ := rnum_sound (st := (c1 xs).1) (K := 1) (k := 1) rfl b1 t2
  obtain ⟨e1, _⟩ := rnum_sound (st := (xs, true)) (K := 1) (k := 1) rfl hx t1
  obtain ⟨g1, g2, g3, g4, g5⟩ := tail_head (headC xs) (c5 xs).1
  have hh : headP (rPk xs).2 = be 1 (c1 xs).2 ++ (be 1 (c2 xs).2 ++ (be 4 (c3 xs).2 ++ (be 1 (c4 xs).2 ++ be 4 (c5 xs).2))) := by
    unfold headP rPk
    rw [g1, g2, g3, g4, g5]
    simp [headC]
  unfold bodyP
  rw [hh]
  have f1 : xs = be 1 (c1 xs).2 ++ (c1 xs).1.1 := e1
  have f2 : (c1 xs).1.1 = be 1 (c2 xs).2 ++ (c2 xs).1.1 := e2
  have f3 : (c2 xs).1.1 = be 4 (c3 xs).2 ++ (c3 xs).1.1 := e3
  have f4 : (c3 xs).1.1 = be 1 (c4 xs).2 ++ (c4 xs).1.1 := e4
  have f5 : (c4 xs).1.1 = be 4 (c5 xs).2 ++ (c5 xs).1.1 := e5
  have f6 : (c5 xs).1.1 = midP (rPk xs).2 ++ (linkBytes (rPk xs).2.hd ++ (itBytes (rPk xs).2.it ++ lsBytes (rPk xs).2.ls)) := e6
  rw [← f6]
  simp only [List.append_assoc]
  rw [← f5, ← f4, ← f3, ← f2, ← f1]
theorem rPk_back {p : Pk} (h : mayP p = true) : rPk (bodyP p) = (([], true), p) := by
  obtain ⟨hen, hhd, hls, hit, hep, hk⟩ := mayP_iff.1 h
  have hil := itOk_len (c := 0) (by omega) (by omega) hit
  simp only [ends, Lsa.win, Bool.and_eq_true, decide_eq_true_eq] at hen
  have hkk : p.k = 1 ∨ p.k = 2 ∨ p.k = 3 ∨ p.k = 4 ∨ p.k = 5 := by
    unfold kindOk at hk
    by_cases a : p.k = 1
    · exact .inl a
    by_cases b : p.k = 2
    · exact .inr (.inl b)
    by_cases c : p.k = 3
    · exact .inr (.inr (.inl c))
    by_cases d : p.k = 4
    · exact .inr (.inr (.inr (.inl d)))
    by_cases e : p.k = 5
    · exact .inr (.inr (.inr (.inr e)))
    · simp [a, b, c, d, e] at hk
  obtain ⟨R, hR⟩ : ∃ R, R = midP p ++ (linkBytes p.hd ++ (itBytes p.it ++ lsBytes p.ls)) := ⟨_, rfl⟩
  have hxs : bodyP p = be 1 p.k.toNat ++ (be 1 p.f.toNat ++ (be 4 p.b.toNat ++ (be 1 p.t.toNat ++ (be 4 p.tb.toNat ++ R)))) := by
    rw [hR]; simp [bodyP, headP]
  generalize bodyP p = xs at *
  have g1 : c1 xs = ((be 1 p.f.toNat ++ (be 4 p.b.toNat ++ (be 1 p.t.toNat ++ (be 4 p.tb.toNat ++ R))), true), p.k.toNat) := by
    unfold c1; rw [hxs]; exact rnum_be rfl _ (by omega) (by omega) (by omega)
  have g2 : c2 xs = ((be 4 p.b.toNat ++ (be 1 p.t.toNat ++ (be 4 p.tb.toNat ++ R)), true), p.f.toNat) := by
    unfold c2; rw [g1]; exact rnum_be rfl _ (by omega) (by omega) (by omega)
  have g3 : c3 xs = ((be 1 p.t.toNat ++ (be 4 p.tb.toNat ++ R), true), p.b.toNat) := by
    unfold c3; rw [g2]; exact rnum_be rfl _ (by omega) (by omega) (by omega)
  have g4 : c4 xs = ((be 4 p.tb.toNat ++ R, true), p.t.toNat) := by
    unfold c4; rw [g3]; exact rnum_be rfl _ (by omega) (by omega) (by omega)
  have g5 : c5 xs = ((R, true), p.tb.toNat) := by
    unfold c5; rw [g4]; exact rnum_be rfl _ (by omega) (by omega) (by omega)
  have gh : headC xs = ⟨p.k, p.f, p.b, p.t, p.tb, 0, 0, [], [], []⟩ := by
    unfold headC
    rw [g1, g2, g3, g4, g5]
    simp only
    rw [Int.toNat_of_nonneg (by omega), Int.toNat_of_nonneg (by omega), Int.toNat_of_nonneg (by omega), Int.toNat_of_nonneg (by omega), Int.toNat_of_nonneg (by omega)]
  unfold rPk
  rw [gh, g5]
  clear g1 g2 g3 g4 g5 gh hxs
  obtain ⟨k, f, b, t, tb, e, te, hd, it, ls⟩ := p
  simp only at *
  rcases hkk with rfl | rfl | rfl | rfl | rfl
  all_goals simp [epochs, hasE, kindOk, Lsa.win] at hep hk
  · obtain ⟨rfl, rfl⟩ := hep
    obtain ⟨h16, rfl, rfl⟩ := hk
    have hm : mOf (R, true) = ((linkBytes hd, true), hd.length) := by
      rw [hR]
      simp only [midP, hasE, count, itBytes, lsBytes]
      simp
      exact rnum_be (k := 1) (K := 1) rfl _ (by omega) (by omega) (by omega)
    have hq : hdsC (R, true) = (([], true), hd) := by
      unfold hdsC
      rw [hm]
      have := rlks_back hd [] (ep_all hhd (Int.le_refl 0)) hd.length (Nat.le_refl _)
      rw [List.append_nil, List.drop_length, List.take_length] at this
      exact this
    unfold tailC
    simp [hq]
  · obtain ⟨he, rfl⟩ := hep
    obtain ⟨rfl, rfl⟩ := hk
    have h4 : rnum (R, true) 4 = ((be 1 it.length ++ itBytes it, true), e.toNat) := by
      rw [hR]
      simp only [midP, hasE, count, linkBytes, lsBytes]
      simp
      exact rnum_be (k := 4) (K := 4) rfl _ (by omega) (by omega) (by omega)
    have hm : mOf (be 1 it.length ++ itBytes it, true) = ((itBytes it, true), it.length) := rnum_be (k := 1) (K := 1) rfl _ (by omega) (by omega) (by omega)
    have hq : itsC (rnum (R, true) 4).1 = (([], true), it) := by
      rw [h4]
      unfold itsC
      rw [hm]
      have := rits_back [] it 0 (Int.le_refl 0) hit it.length (Nat.le_refl _)
      rw [List.append_nil, List.drop_length, List.take_length] at this
      exact this
    rw [h4] at hq
    simp only at hq
    unfold tailC
    simp [h4, hq, Int.toNat_of_nonneg (show 0 ≤ e by omega)]
  · obtain ⟨he, hte⟩ := hep
    obtain ⟨rfl, rfl, rfl⟩ := hk
    have h4 : rnum (R, true) 4 = ((be 4 te.toNat, true), e.toNat) := by
      rw [hR]
      simp only [midP, hasE, count, linkBytes, lsBytes, itBytes]
      simp
      exact rnum_be (k := 4) (K := 4) rfl _ (by omega) (by omega) (by omega)
    have h5 : rnum (be 4 te.toNat, true) 4 = (([], true), te.toNat) := by
      have := rnum_be (k := 4) (K := 4) (n := te.toNat) rfl [] (by omega) (by omega) (by omega)
      rwa [List.append_nil] at this
    unfold tailC
    simp [h4, h5, Int.toNat_of_nonneg (show 0 ≤ e by omega), Int.toNat_of_nonneg (show 0 ≤ te by omega)]
  · obtain ⟨rfl, rfl⟩ := hep
    obtain ⟨rfl, rfl, hk1, hk8⟩ := hk
    have hm : mOf (R, true) = ((dbBytes ls, true), ls.length) := by
      rw [hR]
      simp only [midP, hasE, count, linkBytes, itBytes]
      simp
      exact rnum_be (k := 1) (K := 1) rfl _ (by omega) (by omega) (by omega)
    have hq : lssC (R, true) = (([], true), ls) := by
      unfold lssC
      rw [hm]
      have := rdbs_back ls [] (dbOk_all hls) ls.length (Nat.le_refl _)
      rw [List.append_nil, List.drop_length, List.take_length] at this
      exact this
    unfold tailC
    simp [hq]
  · obtain ⟨rfl, rfl⟩ := hep
    obtain ⟨rfl, rfl⟩ := hk
    have hm : mOf (R, true) = ((itBytes it, true), it.length) := by
      rw [hR]
      simp only [midP, hasE, count, linkBytes, lsBytes]
      simp
      exact rnum_be (k := 1) (K := 1) rfl _ (by omega) (by omega) (by omega)
    have hq : itsC (R, true) = (([], true), it) := by
      unfold itsC
      rw [hm]
      have := rits_back [] it 0 (Int.le_refl 0) hit it.length (Nat.le_refl _)
      rw [List.append_nil, List.drop_length, List.take_length] at this
      exact this
    unfold tailC
    simp [hq]
theorem ok_put (p : Pk) : Crc.okOf (putP p) = true ∧ Crc.outOf (putP p) = bodyP p := by
  have hl := putP_length p
  have ht : (putP p).take ((putP p).length - 4) = bodyP p := by
    rw [hl, Nat.add_sub_cancel]
    exact Crc.sealed_take rfl
  have ho : Crc.okOf (putP p) = true := by
    unfold Crc.okOf
    rw [ht]
    exact decide_eq_true ⟨by omega, rfl⟩
  refine ⟨ho, ?_⟩
  unfold Crc.outOf
  rw [if_pos ho, ht]
theorem getC_sound {xs : List Nat} {p : Pk} (hx : ∀ x ∈ xs, x < 256) (h : getC xs = some p) : mayP p = true ∧ putP p = xs := by
  unfold getC at h
  split at h
  · next hc =>
    cases h
    simp only [Bool.and_eq_true] at hc
    obtain ⟨ho, he, hm⟩ := hc
    refine ⟨hm, ?_⟩
    have hb : Crc.outOf xs = xs.take (xs.length - 4) := by unfold Crc.outOf; rw [if_pos ho]
    have hs := rPk_sound (xs := Crc.outOf xs) (by rw [hb]; exact fun x hx' => hx x (List.mem_of_mem_take hx')) he hm
    unfold putP
    rw [hs, hb]
    exact (of_decide_eq_true ho).2
  · cases h
theorem getC_back {p : Pk} (h : mayP p = true) : getC (putP p) = some p := by
  obtain ⟨h1, h2⟩ := ok_put p
  unfold getC endC
  rw [h1, h2, rPk_back h, h]
  rfl
theorem getC_eq {xs : List Nat} (hx : ∀ x ∈ xs, x < 256) : getC xs = getP xs := by
  apply Option.ext
  intro p
  rw [getP_iff]
  constructor
  · exact getC_sound hx
  · rintro ⟨h, rfl⟩
    exact getC_back h
end Go.Proofs.Ytpolpppnajfhdaa.Pkt
