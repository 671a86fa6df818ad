/- GotAll: the texts PkOpen, PkGet, PkReads, RowArm, PkRead, ReaderEnd, PkGot, LsaAwake, PkAwake, RowStep in one. (Printed by tools/mergeall.py.) -/
import Derived.Test.YtpolpppnajfhdaaPgBasMem
import Derived.Test.YtpolpppnajfhdaaPgBytes
import Derived.Test.YtpolpppnajfhdaaPgChgCheck
import Derived.Test.YtpolpppnajfhdaaPgCrcOpen
import Derived.Test.YtpolpppnajfhdaaPgLsaPut
import Derived.Test.YtpolpppnajfhdaaPgLsaRead
import Derived.Test.YtpolpppnajfhdaaPgMem
import Derived.Test.YtpolpppnajfhdaaPgPkBack
import Derived.Test.YtpolpppnajfhdaaPgPkCheck
import Derived.Test.YtpolpppnajfhdaaPgPkPut
import Derived.Test.YtpolpppnajfhdaaPgPkRefMay
import Derived.Test.YtpolpppnajfhdaaPgPureAll
import Derived.Test.YtpolpppnajfhdaaPgPut
import Derived.Test.YtpolpppnajfhdaaPgReader
import Derived.Laws.Rows
import Derived.Laws.Tables
/- check.Open, its answer as a slice (layer 14's need): the bytes without their check, in memory of the call. Condition: at most 2000 bytes. -/
namespace Go.Proofs.Ytpolpppnajfhdaa.Pkt
open Go.RowKit Go.Proofs.Ytpolpppnajfhdaa.Mem
set_option linter.unusedVariables false
set_option linter.unusedSimpArgs false
set_option maxHeartbeats 400000 in
theorem open_sl_long (ad : Addr) (k c : Nat) (xs : List Nat) (w : World) (h : k + 4 ≤ 2000) (hkc : k + 4 ≤ c) (hm : c ≤ maxLen) (hb : Crc.Bts w w.heap.size (some ad) (k + 4) xs) :
    Calls Try.prog 33 #[.slice (some ad) (k + 4) c] w fun e w' => ∃ A' k' c', e = .returned (.tuple #[.slice A' k' c', .bool (Crc.okOf xs)]) ∧ Sl w' w'.heap.size (.slice A' k' c') (Crc.outOf xs) ∧ Below w.heap.size w w' := by
  unfold maxLen at hm
  have hkI : (k : Int) ≤ (c : Int) := by omega
  have s1 := Crc.seal_bts (some ad) k c (xs.take k) w (by omega) (fun h => by cases h) (Crc.Bts.take hb (by omega))
  have hlen := hb.1
  have hok : Crc.okOf xs = decide (Crc.sealed (xs.take k) = xs) := by
    unfold Crc.okOf
    rw [hlen, show k + 4 - 4 = k by omega]
    by_cases e : Crc.sealed (xs.take k) = xs
    · rw [decide_eq_true e, decide_eq_true ⟨by omega, e⟩]
    · rw [decide_eq_false e, decide_eq_false (fun h => e h.2)]
  have hout : Crc.outOf xs = if Crc.sealed (xs.take k) = xs then xs.take k else [] := by
    unfold Crc.outOf
    rw [hok, hlen, show k + 4 - 4 = k by omega]
    by_cases e : Crc.sealed (xs.take k) = xs <;> simp [e]
  have S1 := Lib.hid s1; clear s1
  have HB := Lib.hid hb; clear hb
  have HO := Lib.hid hok; clear hok
  have HU := Lib.hid hout; clear hout
  have HL := Lib.hid hlen; clear hlen
  have ceq := fun (A' : Option Addr) (c' : Nat) (w1 : World) (h1 : Crc.Bts w1 w1.heap.size A' (k + 4) (Crc.sealed (xs.take k))) (h2 : Below w.heap.size w w1) =>
    Crc.equal_any A' (some ad) (k + 4) (k + 4) c' c _ _ (Crc.sealed (xs.take k)) xs w1 h1 (Crc.Bts.below HB.out h2 (Nat.le_refl _))
  by_cases e : Crc.sealed (xs.take k) = xs
  · rw [decide_eq_true e] at ceq
    have E := Lib.hid ceq; clear ceq
    have HE := Lib.hid e; clear e
    go_enter Try.func33, Try.ntmps33
    go_wp2_with (first
      | (go_at_call 23; refine (S1.out).mono ?_; rintro e w1 ⟨A', c', rfl, hb1, hc1, hm1, hbel1⟩; have HB1 := Lib.hid hb1; clear hb1; unfold maxLen at hm1; have hc1I : (k : Int) ≤ (c' : Int) := by omega)
      | (go_at_call 53; refine (E.out A' c' w1 HB1.out hbel1).mono ?_; rintro e w' ⟨rfl, rfl⟩))
    go_ret2
    refine ⟨A', k, k, by rw [HO.out, decide_eq_true HE.out]; rfl, ?_, hbel1⟩
    rw [HU.out, if_pos HE.out]
    have h3 := Crc.Bts.take HB1.out (k := k) (by omega)
    rw [Crc.sealed_take (by rw [List.length_take, HL.out]; omega)] at h3
    obtain ⟨ad', had'⟩ := Crc.Bts.some_ HB1.out (by omega)
    exact sl_of h3 (Nat.le_refl _) (by unfold maxLen; omega) (fun hh => by rw [had'] at hh; cases hh)
  · rw [decide_eq_false e] at ceq
    have E := Lib.hid ceq; clear ceq
    have HE := Lib.hid e; clear e
    go_enter Try.func33, Try.ntmps33
    go_wp2_with (first
      | (go_at_call 23; refine (S1.out).mono ?_; rintro e w1 ⟨A', c', rfl, hb1, hc1, hm1, hbel1⟩; have HB1 := Lib.hid hb1; clear hb1)
      | (go_at_call 53; refine (E.out A' c' w1 HB1.out hbel1).mono ?_; rintro e w' ⟨rfl, rfl⟩))
    go_ret2
    refine ⟨none, 0, 0, by rw [HO.out, decide_eq_false HE.out]; rfl, ?_, hbel1⟩
    rw [HU.out, if_neg HE.out]
    exact sl_nil _ _
theorem open_sl (v : Value) (xs : List Nat) (w : World) (h : Sl w w.heap.size v xs) (hl : xs.length ≤ 2000) :
    Calls Try.prog 33 #[v] w fun e w' => ∃ A' k' c', e = .returned (.tuple #[.slice A' k' c', .bool (Crc.okOf xs)]) ∧ Sl w' w'.heap.size (.slice A' k' c') (Crc.outOf xs) ∧ Below w.heap.size w w' := by
  obtain ⟨A, n, c, rfl, hb, hkc, hm, hA⟩ := h
  have hn := hb.1
  rcases Nat.lt_or_ge n 4 with hn4 | hn4
  · refine (Crc.open_short A n c w hn4).mono ?_
    rintro e w' ⟨rfl, rfl⟩
    have hx := Crc.ok_short (xs := xs) (by omega)
    refine ⟨none, 0, 0, by rw [hx], ?_, Below.refl _ _⟩
    rw [Crc.out_of_not hx]
    exact sl_nil _ _
  · obtain ⟨k, rfl⟩ : ∃ k, n = k + 4 := ⟨n - 4, by omega⟩
    obtain ⟨ad, rfl⟩ := Crc.Bts.some_ hb (by omega)
    exact open_sl_long ad k c xs w (by omega) hkc hm hb
end Go.Proofs.Ytpolpppnajfhdaa.Pkt
/- How the code reads a packet's bytes (layer 14), and that it finds what the document finds. Pure: no function of the program is called. -/
namespace Go.Proofs.Ytpolpppnajfhdaa.Pkt
open Go.Proofs.Ytpolpppnajfhdaa.Oct Go.Proofs.Ytpolpppnajfhdaa.Lsa Go.Proofs.Ytpolpppnajfhdaa.Bas Go.Proofs.Ytpolpppnajfhdaa.Chg
set_option linter.unusedVariables false
set_option linter.unusedSimpArgs false
def rit (p : St × List Lk) : St × List Lk := ((rnum (rnum p.1 1).1 8).1, p.2 ++ [((((rnum p.1 1).2 : Nat) : Int), sgn (rnum (rnum p.1 1).1 8).2)])
def rits (st : St) : Nat → St × List Lk
  | 0 => (st, [])
  | k + 1 => rit (rits st k)
theorem rits_len (st : St) (k : Nat) : (rits st k).2.length = k := by
  induction k with
  | zero => rfl
  | succ k ih => simp [rits, rit, ih]
theorem rits_bytes (st : St) (h : ∀ x ∈ st.1, x < 256) : ∀ k, ∀ x ∈ (rits st k).1.1, x < 256
  | 0 => h
  | k + 1 => by
    rw [rits]
    unfold rit
    exact rnum_bytes (rnum_bytes (rits_bytes st h k))
theorem rits_sound (st : St) (h : ∀ x ∈ st.1, x < 256) : ∀ k, (rits st k).1.2 = true → (∀ x ∈ (rits st k).2, 0 ≤ x.2) → st.1 = itBytes (rits st k).2 ++ (rits st k).1.1 ∧ st.2 = true
  | 0, ht, _ => ⟨by simp [rits, itBytes], ht⟩
  | k + 1, ht, ha => by
    have hb := rits_bytes st h k
    have ih := rits_sound st h k
    rw [rits] at ht ha ⊢
    generalize rits st k = q at *
    obtain ⟨t, l⟩ := q
    simp only [rit] at ht ha ⊢
    obtain ⟨e2, t2⟩ := rnum_sound (st := (rnum t 1).1) (K := 8) (k := 8) rfl (rnum_bytes hb) ht
    obtain ⟨e1, t1⟩ := rnum_sound (st := t) (K := 1) (k := 1) rfl hb t2
    obtain ⟨i1, i2⟩ := ih t1 (fun x hx => ha x (by simp [hx]))
    refine ⟨?_, i2⟩
    have h0 := ha _ (List.mem_append_right l (List.mem_cons_self ..))
    simp only at h0 i1
    have d := sgn_back (rnum_small (st := (rnum t 1).1) (k := 8) (K := 8) rfl (rnum_bytes hb)) h0
    rw [itBytes_app]
    simp only [d, Int.toNat_natCast, List.append_assoc]
    rw [i1, ← e2, ← e1]
theorem rits_back (more : List Nat) (l : List Lk) (c : Int) (h0 : 0 ≤ c) (ho : itOk c l = true) : ∀ k, k ≤ l.length → rits (itBytes l ++ more, true) k = ((itBytes (l.drop k) ++ more, true), l.take k)
  | 0, _ => by simp [rits]
  | k + 1, hk => by
    have hkl : k < l.length := by omega
    rw [rits, rits_back more l c h0 ho k (by omega), drop_at l (0, 0) k hkl]
    have hm : l.getD k (0, 0) ∈ l := by
      simp only [List.getD, List.getElem?_eq_getElem hkl, Option.getD_some]
      exact List.getElem_mem _
    have ha : ∀ {m : List Lk} {d : Int}, 0 ≤ d → itOk d m = true → ∀ x ∈ m, (1 ≤ x.1 ∧ x.1 ≤ 64) ∧ 1 ≤ x.2 ∧ x.2 ≤ 4611686018427387904 := by
      intro m
      induction m with
      | nil => intro d _ _ x hx; simp at hx
      | cons a r ih =>
        intro d hd h x hx
        simp only [itOk, itOne, Lsa.win, Bool.and_eq_true, decide_eq_true_eq] at h
        rcases List.mem_cons.1 hx with rfl | hx
        · exact ⟨h.1.1, h.1.2.1⟩
        · exact ih (d := a.1) (by omega) h.2 x hx
    obtain ⟨⟨b1, b2⟩, b3, b4⟩ := ha h0 ho _ hm
    have e2 : l.take (k + 1) = l.take k ++ [l.getD k (0, 0)] := by
      rw [List.take_succ_eq_append_getElem hkl]
      simp [List.getD, List.getElem?_eq_getElem hkl]
    rw [e2]
    generalize l.getD k (0, 0) = x at *
    rw [itBytes_cons, List.append_assoc, List.append_assoc]
    unfold rit
    simp only
    rw [rnum_be (k := 1) (K := 1) rfl _ (by omega) (by omega) (by omega)]
    simp only
    rw [rnum_be (k := 8) (K := 8) rfl _ (by omega) (by omega) (by omega)]
    simp only
    rw [sgn_small (by omega), Int.toNat_of_nonneg (by omega), Int.toNat_of_nonneg (by omega)]
def c1 (xs : List Nat) : St × Nat := rnum (xs, true) 1
def c2 (xs : List Nat) : St × Nat := rnum (c1 xs).1 1
def c3 (xs : List Nat) : St × Nat := rnum (c2 xs).1 4
def c4 (xs : List Nat) : St × Nat := rnum (c3 xs).1 1
def c5 (xs : List Nat) : St × Nat := rnum (c4 xs).1 4
def headC (xs : List Nat) : Pk := ⟨((c1 xs).2 : Nat), ((c2 xs).2 : Nat), ((c3 xs).2 : Nat), ((c4 xs).2 : Nat), ((c5 xs).2 : Nat), 0, 0, [], [], []⟩
/-- how many there are, and what is behind it -/
def mOf (st : St) : St × Nat := rnum st 1
def hdsC (st : St) : St × List Lk := rlks (mOf st).1 (mOf st).2
def itsC (st : St) : St × List Lk := rits (mOf st).1 (mOf st).2
def lssC (st : St) : St × List La := rdbs (mOf st).1 (mOf st).2
def tailC (p : Pk) (st : St) : St × Pk :=
  if p.k = 1 then ((hdsC st).1, { p with hd := (hdsC st).2 })
  else if p.k = 2 then ((itsC (rnum st 4).1).1, { p with e := ((rnum st 4).2 : Nat), it := (itsC (rnum st 4).1).2 })
  else if p.k = 5 then ((itsC st).1, { p with it := (itsC st).2 })
  else if p.k = 3 then ((rnum (rnum st 4).1 4).1, { p with e := ((rnum st 4).2 : Nat), te := ((rnum (rnum st 4).1 4).2 : Nat) })
  else if p.k = 4 then ((lssC st).1, { p with ls := (lssC st).2 })
  else (st, p)
def rPk (xs : List Nat) : St × Pk := tailC (headC xs) (c5 xs).1
def endC (xs : List Nat) : Bool := (rPk xs).1.2 && decide ((rPk xs).1.1.length = 0)
def getC (xs : List Nat) : Option Pk := if (Crc.okOf xs && (endC (Crc.outOf xs) && mayP (rPk (Crc.outOf xs)).2)) = true then some (rPk (Crc.outOf xs)).2 else none
theorem tail_sound {p : Pk} {st : St} (hb : ∀ x ∈ st.1, x < 256) (h0 : p.e = 0 ∧ p.te = 0 ∧ p.hd = [] ∧ p.it = [] ∧ p.ls = []) (ht : (tailC p st).1.2 = true) (hz : (tailC p st).1.1 = []) (hm : mayP (tailC p st).2 = true) :
    st.1 = midP (tailC p st).2 ++ (linkBytes (tailC p st).2.hd ++ (itBytes (tailC p st).2.it ++ lsBytes (tailC p st).2.ls)) ∧ st.2 = true := by
  obtain ⟨k, f, b, t, tb, e, te, hd, it, ls⟩ := p
  simp only at h0
  obtain ⟨rfl, rfl, rfl, rfl, rfl⟩ := h0
  have bm : ∀ x ∈ (mOf st).1.1, x < 256 := rnum_bytes hb
  unfold tailC at ht hz hm ⊢
  by_cases k1 : k = 1
  · subst k1
    simp only [if_pos] at ht hz ⊢
    obtain ⟨e1, t1, _⟩ := rlks_sound (mOf st).1 bm (mOf st).2 ht
    obtain ⟨e0, t0⟩ := rnum_sound (st := st) (K := 1) (k := 1) rfl hb t1
    have hl : (hdsC st).2.length = (mOf st).2 := rlks_len _ _
    have hz' : (rlks (mOf st).1 (mOf st).2).1.1 = [] := hz
    rw [hz', List.append_nil] at e1
    refine ⟨?_, t0⟩
    rw [e0]
    show be 1 (mOf st).2 ++ (mOf st).1.1 = _
    rw [e1]
    simp [midP, hasE, count, itBytes, lsBytes, hl]
    rfl
  by_cases k2 : k = 2
  · subst k2
    simp only [show (2 : Int) ≠ 1 by decide, if_false, if_true, if_pos] at ht hz hm ⊢
    have b4 : ∀ x ∈ (rnum st 4).1.1, x < 256 := rnum_bytes hb
    have bm : ∀ x ∈ (mOf (rnum st 4).1).1.1, x < 256 := rnum_bytes b4
    have hi : itOk 0 (itsC (rnum st 4).1).2 = true := (mayP_iff.1 hm).2.2.2.1
    have ha := fun (x : Lk) hx => (show 0 ≤ x.2 from by
      have : ∀ {m : List Lk} {d : Int}, itOk d m = true → ∀ x ∈ m, 0 ≤ x.2 := by
        intro m
        induction m with
        | nil => intro d _ x hx; simp at hx
        | cons a r ih =>
          intro d h x hx
          simp only [itOk, itOne, Lsa.win, Bool.and_eq_true, decide_eq_true_eq] at h
          rcases List.mem_cons.1 hx with rfl | hx
          · omega
          · exact ih h.2 x hx
      exact this hi x hx)
    obtain ⟨e2, t2⟩ := rits_sound (mOf (rnum st 4).1).1 bm (mOf (rnum st 4).1).2 ht ha
    obtain ⟨e1, t1⟩ := rnum_sound (st := (rnum st 4).1) (K := 1) (k := 1) rfl b4 t2
    obtain ⟨e0, t0⟩ := rnum_sound (st := st) (K := 4) (k := 4) rfl hb t1
    have hl : (itsC (rnum st 4).1).2.length = (mOf (rnum st 4).1).2 := rits_len _ _
    have hz' : (rits (mOf (rnum st 4).1).1 (mOf (rnum st 4).1).2).1.1 = [] := hz
    rw [hz', List.append_nil] at e2
    refine ⟨?_, t0⟩
    rw [e0, e1]
    show be 4 (rnum st 4).2 ++ (be 1 (mOf (rnum st 4).1).2 ++ (mOf (rnum st 4).1).1.1) = _
    rw [e2]
    simp [midP, hasE, count, linkBytes, lsBytes, hl]
    rfl
  by_cases k5 : k = 5
  · subst k5
    simp only [show (5 : Int) ≠ 1 by decide, show (5 : Int) ≠ 2 by decide, if_false, if_true, if_pos] at ht hz hm ⊢
    have hi : itOk 0 (itsC st).2 = true := (mayP_iff.1 hm).2.2.2.1
    have ha := fun (x : Lk) hx => (show 0 ≤ x.2 from by
      have : ∀ {m : List Lk} {d : Int}, itOk d m = true → ∀ x ∈ m, 0 ≤ x.2 := by
        intro m
        induction m with
        | nil => intro d _ x hx; simp at hx
        | cons a r ih =>
          intro d h x hx
          simp only [itOk, itOne, Lsa.win, Bool.and_eq_true, decide_eq_true_eq] at h
          rcases List.mem_cons.1 hx with rfl | hx
          · omega
          · exact ih h.2 x hx
      exact this hi x hx)
    obtain ⟨e1, t1⟩ := rits_sound (mOf st).1 bm (mOf st).2 ht ha
    obtain ⟨e0, t0⟩ := rnum_sound (st := st) (K := 1) (k := 1) rfl hb t1
    have hl : (itsC st).2.length = (mOf st).2 := rits_len _ _
    have hz' : (rits (mOf st).1 (mOf st).2).1.1 = [] := hz
    rw [hz', List.append_nil] at e1
    refine ⟨?_, t0⟩
    rw [e0]
    show be 1 (mOf st).2 ++ (mOf st).1.1 = _
    rw [e1]
    simp [midP, hasE, count, linkBytes, lsBytes, hl]
    rfl
  by_cases k3 : k = 3
  · subst k3
    simp only [show (3 : Int) ≠ 1 by decide, show (3 : Int) ≠ 2 by decide, show (3 : Int) ≠ 5 by decide, if_false, if_true, if_pos] at ht hz hm ⊢
    have b4 : ∀ x ∈ (rnum st 4).1.1, x < 256 := rnum_bytes hb
    obtain ⟨e1, t1⟩ := rnum_sound (st := (rnum st 4).1) (K := 4) (k := 4) rfl b4 ht
    obtain ⟨e0, t0⟩ := rnum_sound (st := st) (K := 4) (k := 4) rfl hb t1
    rw [hz, List.append_nil] at e1
    refine ⟨?_, t0⟩
    rw [e0, e1]
    simp [midP, hasE, linkBytes, itBytes, lsBytes]
  by_cases k4 : k = 4
  · subst k4
    simp only [show (4 : Int) ≠ 1 by decide, show (4 : Int) ≠ 2 by decide, show (4 : Int) ≠ 5 by decide, show (4 : Int) ≠ 3 by decide, if_false, if_true, if_pos] at ht hz hm ⊢
    have hi : dbOk 0 (lssC st).2 = true := (mayP_iff.1 hm).2.2.1
    obtain ⟨e1, t1⟩ := rdbs_sound bm (mOf st).2 ht (dbOk_all hi)
    obtain ⟨e0, t0⟩ := rnum_sound (st := st) (K := 1) (k := 1) rfl hb t1
    have hl : (lssC st).2.length = (mOf st).2 := rdbs_len _ _
    have hz' : (rdbs (mOf st).1 (mOf st).2).1.1 = [] := hz
    rw [hz', List.append_nil] at e1
    refine ⟨?_, t0⟩
    rw [e0]
    show be 1 (mOf st).2 ++ (mOf st).1.1 = _
    rw [e1]
    simp [midP, hasE, count, linkBytes, itBytes, hl]
    rfl
  · simp only [k1, k2, k5, k3, k4, if_false] at hm
    have hk := (mayP_iff.1 hm).2.2.2.2.2
    simp [kindOk, k1, k2, k5, k3, k4] at hk
theorem tail_head (p : Pk) (st : St) : (tailC p st).2.k = p.k ∧ (tailC p st).2.f = p.f ∧ (tailC p st).2.b = p.b ∧ (tailC p st).2.t = p.t ∧ (tailC p st).2.tb = p.tb := by
  unfold tailC
  repeat' (first | (split; exact ⟨rfl, rfl, rfl, rfl, rfl⟩) | (split) | exact ⟨rfl, rfl, rfl, rfl, rfl⟩)
theorem rPk_sound {xs : List Nat} (hx : ∀ x ∈ xs, x < 256) (he : endC xs = true) (hm : mayP (rPk xs).2 = true) : bodyP (rPk xs).2 = xs := by
  simp only [endC, Bool.and_eq_true, decide_eq_true_eq] at he
  obtain ⟨ht, hz⟩ := he
  have hz := List.eq_nil_of_length_eq_zero hz
  have b1 : ∀ x ∈ (c1 xs).1.1, x < 256 := rnum_bytes hx
  have b2 : ∀ x ∈ (c2 xs).1.1, x < 256 := rnum_bytes b1
  have b3 : ∀ x ∈ (c3 xs).1.1, x < 256 := rnum_bytes b2
  have b4 : ∀ x ∈ (c4 xs).1.1, x < 256 := rnum_bytes b3
  have b5 : ∀ x ∈ (c5 xs).1.1, x < 256 := rnum_bytes b4
  obtain ⟨e6, t5⟩ := tail_sound (p := headC xs) (st := (c5 xs).1) b5 ⟨rfl, rfl, rfl, rfl, rfl⟩ ht hz hm
  obtain ⟨e5, t4⟩ := rnum_sound (st := (c4 xs).1) (K := 4) (k := 4) rfl b4 t5
  obtain ⟨e4, t3⟩ := rnum_sound (st := (c3 xs).1) (K := 1) (k := 1) rfl b3 t4
  obtain ⟨e3, t2⟩ := rnum_sound (st := (c2 xs).1) (K := 4) (k := 4) rfl b2 t3
  obtain ⟨e2, t1⟩ := rnum_sound (st := (c1 xs).1) (K := 1) (k := 1) rfl b1 t2
  obtain ⟨e1, _⟩ := rnum_sound (st := (xs, true)) (K := 1) (k := 1) rfl hx t1
  obtain ⟨g1, g2, g3, g4, g5⟩ := tail_head (headC xs) (c5 xs).1
  have hh : headP (rPk xs).2 = be 1 (c1 xs).2 ++ (be 1 (c2 xs).2 ++ (be 4 (c3 xs).2 ++ (be 1 (c4 xs).2 ++ be 4 (c5 xs).2))) := by
    unfold headP rPk
    rw [g1, g2, g3, g4, g5]
    simp [headC]
  unfold bodyP
  rw [hh]
  have f1 : xs = be 1 (c1 xs).2 ++ (c1 xs).1.1 := e1
  have f2 : (c1 xs).1.1 = be 1 (c2 xs).2 ++ (c2 xs).1.1 := e2
  have f3 : (c2 xs).1.1 = be 4 (c3 xs).2 ++ (c3 xs).1.1 := e3
  have f4 : (c3 xs).1.1 = be 1 (c4 xs).2 ++ (c4 xs).1.1 := e4
  have f5 : (c4 xs).1.1 = be 4 (c5 xs).2 ++ (c5 xs).1.1 := e5
  have f6 : (c5 xs).1.1 = midP (rPk xs).2 ++ (linkBytes (rPk xs).2.hd ++ (itBytes (rPk xs).2.it ++ lsBytes (rPk xs).2.ls)) := e6
  rw [← f6]
  simp only [List.append_assoc]
  rw [← f5, ← f4, ← f3, ← f2, ← f1]
theorem rPk_back {p : Pk} (h : mayP p = true) : rPk (bodyP p) = (([], true), p) := by
  obtain ⟨hen, hhd, hls, hit, hep, hk⟩ := mayP_iff.1 h
  have hil := itOk_len (c := 0) (by omega) (by omega) hit
  simp only [ends, Lsa.win, Bool.and_eq_true, decide_eq_true_eq] at hen
  have hkk : p.k = 1 ∨ p.k = 2 ∨ p.k = 3 ∨ p.k = 4 ∨ p.k = 5 := by
    unfold kindOk at hk
    by_cases a : p.k = 1
    · exact .inl a
    by_cases b : p.k = 2
    · exact .inr (.inl b)
    by_cases c : p.k = 3
    · exact .inr (.inr (.inl c))
    by_cases d : p.k = 4
    · exact .inr (.inr (.inr (.inl d)))
    by_cases e : p.k = 5
    · exact .inr (.inr (.inr (.inr e)))
    · simp [a, b, c, d, e] at hk
  obtain ⟨R, hR⟩ : ∃ R, R = midP p ++ (linkBytes p.hd ++ (itBytes p.it ++ lsBytes p.ls)) := ⟨_, rfl⟩
  have hxs : bodyP p = be 1 p.k.toNat ++ (be 1 p.f.toNat ++ (be 4 p.b.toNat ++ (be 1 p.t.toNat ++ (be 4 p.tb.toNat ++ R)))) := by
    rw [hR]; simp [bodyP, headP]
  generalize bodyP p = xs at *
  have g1 : c1 xs = ((be 1 p.f.toNat ++ (be 4 p.b.toNat ++ (be 1 p.t.toNat ++ (be 4 p.tb.toNat ++ R))), true), p.k.toNat) := by
    unfold c1; rw [hxs]; exact rnum_be rfl _ (by omega) (by omega) (by omega)
  have g2 : c2 xs = ((be 4 p.b.toNat ++ (be 1 p.t.toNat ++ (be 4 p.tb.toNat ++ R)), true), p.f.toNat) := by
    unfold c2; rw [g1]; exact rnum_be rfl _ (by omega) (by omega) (by omega)
  have g3 : c3 xs = ((be 1 p.t.toNat ++ (be 4 p.tb.toNat ++ R), true), p.b.toNat) := by
    unfold c3; rw [g2]; exact rnum_be rfl _ (by omega) (by omega) (by omega)
  have g4 : c4 xs = ((be 4 p.tb.toNat ++ R, true), p.t.toNat) := by
    unfold c4; rw [g3]; exact rnum_be rfl _ (by omega) (by omega) (by omega)
  have g5 : c5 xs = ((R, true), p.tb.toNat) := by
    unfold c5; rw [g4]; exact rnum_be rfl _ (by omega) (by omega) (by omega)
  have gh : headC xs = ⟨p.k, p.f, p.b, p.t, p.tb, 0, 0, [], [], []⟩ := by
    unfold headC
    rw [g1, g2, g3, g4, g5]
    simp only
    rw [Int.toNat_of_nonneg (by omega), Int.toNat_of_nonneg (by omega), Int.toNat_of_nonneg (by omega), Int.toNat_of_nonneg (by omega), Int.toNat_of_nonneg (by omega)]
  unfold rPk
  rw [gh, g5]
  clear g1 g2 g3 g4 g5 gh hxs
  obtain ⟨k, f, b, t, tb, e, te, hd, it, ls⟩ := p
  simp only at *
  rcases hkk with rfl | rfl | rfl | rfl | rfl
  all_goals simp [epochs, hasE, kindOk, Lsa.win] at hep hk
  · obtain ⟨rfl, rfl⟩ := hep
    obtain ⟨h16, rfl, rfl⟩ := hk
    have hm : mOf (R, true) = ((linkBytes hd, true), hd.length) := by
      rw [hR]
      simp only [midP, hasE, count, itBytes, lsBytes]
      simp
      exact rnum_be (k := 1) (K := 1) rfl _ (by omega) (by omega) (by omega)
    have hq : hdsC (R, true) = (([], true), hd) := by
      unfold hdsC
      rw [hm]
      have := rlks_back hd [] (ep_all hhd (Int.le_refl 0)) hd.length (Nat.le_refl _)
      rw [List.append_nil, List.drop_length, List.take_length] at this
      exact this
    unfold tailC
    simp [hq]
  · obtain ⟨he, rfl⟩ := hep
    obtain ⟨rfl, rfl⟩ := hk
    have h4 : rnum (R, true) 4 = ((be 1 it.length ++ itBytes it, true), e.toNat) := by
      rw [hR]
      simp only [midP, hasE, count, linkBytes, lsBytes]
      simp
      exact rnum_be (k := 4) (K := 4) rfl _ (by omega) (by omega) (by omega)
    have hm : mOf (be 1 it.length ++ itBytes it, true) = ((itBytes it, true), it.length) := rnum_be (k := 1) (K := 1) rfl _ (by omega) (by omega) (by omega)
    have hq : itsC (rnum (R, true) 4).1 = (([], true), it) := by
      rw [h4]
      unfold itsC
      rw [hm]
      have := rits_back [] it 0 (Int.le_refl 0) hit it.length (Nat.le_refl _)
      rw [List.append_nil, List.drop_length, List.take_length] at this
      exact this
    rw [h4] at hq
    simp only at hq
    unfold tailC
    simp [h4, hq, Int.toNat_of_nonneg (show 0 ≤ e by omega)]
  · obtain ⟨he, hte⟩ := hep
    obtain ⟨rfl, rfl, rfl⟩ := hk
    have h4 : rnum (R, true) 4 = ((be 4 te.toNat, true), e.toNat) := by
      rw [hR]
      simp only [midP, hasE, count, linkBytes, lsBytes, itBytes]
      simp
      exact rnum_be (k := 4) (K := 4) rfl _ (by omega) (by omega) (by omega)
    have h5 : rnum (be 4 te.toNat, true) 4 = (([], true), te.toNat) := by
      have := rnum_be (k := 4) (K := 4) (n := te.toNat) rfl [] (by omega) (by omega) (by omega)
      rwa [List.append_nil] at this
    unfold tailC
    simp [h4, h5, Int.toNat_of_nonneg (show 0 ≤ e by omega), Int.toNat_of_nonneg (show 0 ≤ te by omega)]
  · obtain ⟨rfl, rfl⟩ := hep
    obtain ⟨rfl, rfl, hk1, hk8⟩ := hk
    have hm : mOf (R, true) = ((dbBytes ls, true), ls.length) := by
      rw [hR]
      simp only [midP, hasE, count, linkBytes, itBytes]
      simp
      exact rnum_be (k := 1) (K := 1) rfl _ (by omega) (by omega) (by omega)
    have hq : lssC (R, true) = (([], true), ls) := by
      unfold lssC
      rw [hm]
      have := rdbs_back ls [] (dbOk_all hls) ls.length (Nat.le_refl _)
      rw [List.append_nil, List.drop_length, List.take_length] at this
      exact this
    unfold tailC
    simp [hq]
  · obtain ⟨rfl, rfl⟩ := hep
    obtain ⟨rfl, rfl⟩ := hk
    have hm : mOf (R, true) = ((itBytes it, true), it.length) := by
      rw [hR]
      simp only [midP, hasE, count, linkBytes, lsBytes]
      simp
      exact rnum_be (k := 1) (K := 1) rfl _ (by omega) (by omega) (by omega)
    have hq : itsC (R, true) = (([], true), it) := by
      unfold itsC
      rw [hm]
      have := rits_back [] it 0 (Int.le_refl 0) hit it.length (Nat.le_refl _)
      rw [List.append_nil, List.drop_length, List.take_length] at this
      exact this
    unfold tailC
    simp [hq]
theorem ok_put (p : Pk) : Crc.okOf (putP p) = true ∧ Crc.outOf (putP p) = bodyP p := by
  have hl := putP_length p
  have ht : (putP p).take ((putP p).length - 4) = bodyP p := by
    rw [hl, Nat.add_sub_cancel]
    exact Crc.sealed_take rfl
  have ho : Crc.okOf (putP p) = true := by
    unfold Crc.okOf
    rw [ht]
    exact decide_eq_true ⟨by omega, rfl⟩
  refine ⟨ho, ?_⟩
  unfold Crc.outOf
  rw [if_pos ho, ht]
theorem getC_sound {xs : List Nat} {p : Pk} (hx : ∀ x ∈ xs, x < 256) (h : getC xs = some p) : mayP p = true ∧ putP p = xs := by
  unfold getC at h
  split at h
  · next hc =>
    cases h
    simp only [Bool.and_eq_true] at hc
    obtain ⟨ho, he, hm⟩ := hc
    refine ⟨hm, ?_⟩
    have hb : Crc.outOf xs = xs.take (xs.length - 4) := by unfold Crc.outOf; rw [if_pos ho]
    have hs := rPk_sound (xs := Crc.outOf xs) (by rw [hb]; exact fun x hx' => hx x (List.mem_of_mem_take hx')) he hm
    unfold putP
    rw [hs, hb]
    exact (of_decide_eq_true ho).2
  · cases h
theorem getC_back {p : Pk} (h : mayP p = true) : getC (putP p) = some p := by
  obtain ⟨h1, h2⟩ := ok_put p
  unfold getC endC
  rw [h1, h2, rPk_back h, h]
  rfl
theorem getC_eq {xs : List Nat} (hx : ∀ x ∈ xs, x < 256) : getC xs = getP xs := by
  apply Option.ext
  intro p
  rw [getP_iff]
  constructor
  · exact getC_sound hx
  · rintro ⟨h, rfl⟩
    exact getC_back h
end Go.Proofs.Ytpolpppnajfhdaa.Pkt
/- What the code reads of a packet (layer 14): the contracts of packet.readWho, readHeard, readItems, readLsas. -/
namespace Go.Proofs.Ytpolpppnajfhdaa.Pkt
open Go.RowKit Go.Proofs.Ytpolpppnajfhdaa.Mem Go.Proofs.Ytpolpppnajfhdaa.Oct Go.Proofs.Ytpolpppnajfhdaa.Lsa Go.Proofs.Ytpolpppnajfhdaa.Bas
open Go.Proofs.Ytpolpppnajfhdaa.Chg (low1 low_low low2 blk_second)
set_option linter.unusedVariables false
set_option linter.unusedSimpArgs false
theorem info_heard : (Try.prog.info? 59).map (fun i => (i.zero, i.size, i.bytes)) = some (some (.agg #[.int .i64 0, .int .i64 0]), 2, 16) := by kernel_rfl
theorem info_item : (Try.prog.info? 64).map (fun i => (i.zero, i.size, i.bytes)) = some (some (.agg #[.int .i64 0, .int .i64 0]), 2, 16) := by kernel_rfl
theorem info_lsa : (Try.prog.info? 49).map (fun i => (i.zero, i.size, i.bytes)) = some (some (.agg #[.int .i64 0, .int .i64 0, .slice none 0 0]), 3, 40) := by kernel_rfl
theorem reads_two (w : World) (t : TypeId) (a b : Int) (g : Nat) (hg : g = w.heap.size) : Reads (w.alloc (.cells #[.int .i64 a, .int .i64 b] t)) (w.heap.size + 1) 2 (some ⟨g, 0, none⟩) 1 (lkCells [(a, b)]) := by
  subst hg
  refine ⟨rfl, fun _ => ⟨_, rfl, Nat.lt_succ_self _, fun j u hu => ?_⟩⟩
  have hk := Blk.new w t #[.int .i64 a, .int .i64 b]
  rw [add_plain, Nat.zero_add, hk.cell]
  simpa [lkCells] using hu
theorem reads_lsa14 (w : World) (a : La) (u : Value) (g : Nat) (hg : g = w.heap.size) : Reads (w.alloc (.cells #[.int .i64 a.o, .int .i64 a.s, u] 49)) (w.heap.size + 1) 3 (some ⟨g, 0, none⟩) 1 (rowL a u) := by
  subst hg
  refine ⟨rfl, fun _ => ⟨_, rfl, Nat.lt_succ_self _, fun j v hu => ?_⟩⟩
  have hk := Blk.new w 49 #[.int .i64 a.o, .int .i64 a.s, u]
  rw [add_plain, Nat.zero_add, hk.cell]
  simpa [rowL] using hu
theorem rowL_one14 (a : La) (A : Option Addr) (n c : Nat) : ∀ x ∈ rowL a (.slice A n c), x.oneCell' = true := rowL_one a _ rfl
theorem lks_own_t {w : World} {t : TypeId} {base n : Nat} {v : Value} {ls : List Lk} (h : w.ownsRow base t 2 v n (lkCells ls)) : Lks w w.heap.size v ls := by
  have hl : ls.length = n := by have := h.1; rw [lkCells_length] at this; omega
  rcases h.2 with ⟨rfl, h0⟩ | ⟨g, cap, cur, rfl, hg, hh, hnc, hm, hs, ht⟩
  · have : ls = [] := List.eq_nil_of_length_eq_zero (by omega)
    subst this
    exact lks_nil _ _
  · have hlt : g < w.heap.size := (h.lt g rfl).2
    refine ⟨_, n, cap, rfl, hl, hnc, hm, (fun e => by cases e), fun _ => ⟨g, 0, rfl, hlt, fun i hi => ?_⟩⟩
    have hc := lkCells_at ls i (by omega)
    have l2 := lkCells_length ls
    rw [Nat.zero_add, h.cellAt (i * 2) (by omega), h.cellAt (i * 2 + 1) (by omega)]
    exact hc
theorem own_gr14 {w w' : World} {base g n sz : Nat} {e : TypeId} {v : Value} {xs : List Value} (h : w.ownsRow base e sz v n xs) (hg : w.grownBy w' (some g)) (hlt : g < base) : w'.ownsRow base e sz v n xs :=
  h.kept hg (.inr (fun e => by have := (h.lt g e).1; omega))
theorem lkT_gr14 {w w' : World} {base g : Nat} {u : Value} {ls : List Lk} (h : LkT w base u ls) (hg : w.grownBy w' (some g)) (hlt : g < base) : LkT w' base u ls := by
  obtain ⟨n, h⟩ := h
  exact ⟨n, own_gr14 h hg hlt⟩
theorem ownL_gr14 {w w' : World} {base g : Nat} {v : Value} {l : List La} (h : OwnL w base v l) (hg : w.grownBy w' (some g)) (hlt : g < base) : OwnL w' base v l := by
  obtain ⟨us, h1, h2, h3⟩ := h
  exact ⟨us, h1, own_gr14 h2 hg hlt, fun i hi => lkT_gr14 (h3 i hi) hg hlt⟩
theorem ownL_more14 {w : World} {base base' : Nat} {v : Value} {l : List La} (h : OwnL w base v l) (hb : base' ≤ base) : OwnL w base' v l := by
  obtain ⟨us, h1, h2, h3⟩ := h
  exact ⟨us, h1, own_mono h2 hb, fun i hi => (h3 i hi).more hb⟩
set_option maxRecDepth 20000 in
set_option maxHeartbeats 4000000 in
theorem readWho_any (g : Nat) (st : St) (w : World) (h : Rdr w g st) :
    Calls Try.prog 55 #[ptr g] w fun e w' => e = .returned (.tuple #[.int .i64 ((rnum st 1).2 : Nat), .int .i64 ((rnum (rnum st 1).1 4).2 : Nat)]) ∧ Rdr w' g (rnum (rnum st 1).1 4).1 ∧ w.grownBy w' (some g) := by
  have n1 : (rnum st 1).2 < 256 := rnum_lt (st := st) (k := 1) (K := 1) rfl h.lt
  have n2 : (rnum (rnum st 1).1 4).2 < 4294967296 := rnum_small (k := 4) (K := 4) rfl (Chg.rnum_bytes h.lt)
  have r1 := rnum_any g st 1 w h
  generalize rnum st 1 = q at *
  obtain ⟨st1, N1⟩ := q
  simp only at n1 n2 r1 ⊢
  have r2 := fun W (hW : Rdr W g st1) => rnum_any g st1 4 W hW
  generalize rnum st1 4 = q at *
  obtain ⟨st2, N2⟩ := q
  simp only at n2 r2 ⊢
  have R1 := Lib.hid r1; clear r1
  have R2 := Lib.hid r2; clear r2 h
  go_enter Try.func55, Try.ntmps55
  go_wp2_with (first
    | (have HM1 := R1; go_at_call 54; refine (R1.out).mono ?_; rintro e w1 ⟨rfl, hr1, hg1⟩; have HR1 := Lib.hid hr1; have HG1 := Lib.hid hg1; clear hr1 hg1 HM1 R1)
    | (go_at_call 54; refine (R2.out _ HR1.out).mono ?_; rintro e w2 ⟨rfl, hr2, hg2⟩; have HR2 := Lib.hid hr2; have HG2 := Lib.hid (grown_trans HG1.out hg2); clear hr2 hg2))
  refine bodyPost_ret (v := .tuple #[.int .i64 (N1 : Nat), .int .i64 (N2 : Nat)]) ?_ rfl ⟨rfl, HR2.out, HG2.out⟩
  simp [results, Try.results55, go_sem]
set_option maxRecDepth 20000 in
set_option maxHeartbeats 8000000 in
theorem readHeard_any (g : Nat) (st : St) (w : World) (h : Rdr w g st) :
    Calls Try.prog 56 #[ptr g] w fun e w' => ∃ v n, e = .returned v ∧ w'.ownsRow w.heap.size 59 2 v n (lkCells (hdsC st).2) ∧ Rdr w' g (hdsC st).1 ∧ w.grownBy w' (some g) := by
  unfold hdsC mOf
  obtain ⟨i0, hi, hz0, hz1, hz2⟩ := info_parts info_heard
  have hgs := h.size
  have HI := Lib.hid hi; clear hi
  have HZ0 := Lib.hid hz0; clear hz0
  have HZ1 := Lib.hid hz1; clear hz1
  have HZ2 := Lib.hid hz2; clear hz2
  have nm : (rnum st 1).2 < 256 := rnum_lt (st := st) (k := 1) (K := 1) rfl h.lt
  have rm := rnum_any g st 1 w h
  generalize rnum st 1 = q at *
  obtain ⟨st, m⟩ := q
  simp only at nm rm ⊢
  have RM := Lib.hid rm; clear rm h
  go_enter Try.func56, Try.ntmps56
  go_wp2_with (go_at_call 54; refine (RM.out).mono ?_; rintro e w1 ⟨rfl, hr1, hg1⟩; have HR := Lib.hid hr1; have HG1 := Lib.hid hg1; clear hr1 hg1)
  clear RM
  go_loopw [3, 9] (fun z i wr => ∃ k : Nat, k ≤ m ∧ i = .int .i64 k ∧ wr.ownsRow w.heap.size 59 2 z k (lkCells (rlks st k).2) ∧ Rdr wr g (rlks st k).1 ∧ w.grownBy wr (some g)) (fun _ i _ => m - (intOf i).toNat)
  case atStart => exact ⟨0, Nat.zero_le _, rfl, World.ownsRow_nil _ _ _ _, HR.out, HG1.out⟩
  case round =>
    clear HR HG1
    obtain ⟨k, hk, rfl, hown, hr, hg⟩ := hrel
    by_cases hlt : k < m
    · have hx := hr.lt
      have hws := hg.size
      have hs : rlks st (k + 1) = rlk (rlks st k) := rfl
      generalize rlks st k = p at *
      obtain ⟨st0, l0⟩ := p
      simp only at hown hr hx
      simp only [rlk] at hs
      have rw_ := readWho_any g st0 wr hr
      generalize (rnum st0 1).2 = N1 at *
      generalize (rnum (rnum st0 1).1 4).2 = N2 at *
      generalize (rnum (rnum st0 1).1 4).1 = st2 at *
      have HS := Lib.hid hs; clear hs
      have RW := Lib.hid rw_; clear rw_
      have hl0 : (lkCells l0).length = k * 2 := hown.1
      have HG := Lib.hid hg; clear hg hx
      have HRR := Lib.hid hr; clear hr
      have HOW := Lib.hid hown; clear hown hl0
      obtain ⟨A5, c5, rfl⟩ := Lsa.own_form HOW.out
      go_wp2_with (first
        | (go_at_call 55; refine (RW.out).mono ?_; rintro e w2 ⟨rfl, hr2, hg2⟩; have HG2 := Lib.hid (grown_trans HG.out hg2); have HO2 := Lib.hid (own_gr14 HOW.out hg2 hgs); have HR2 := Lib.hid hr2; have hws2 := HG2.out.size; clear hr2 hg2)
        | (at_builtin; (refine wpList_append_any _ rfl (.tmp 16) (.tmp 20) 22 rfl w.heap.size 59 i0 (.agg #[.int .i64 0, .int .i64 0]) 2 16 Try.underlying22 HI.out HZ0.out HZ1.out HZ2.out rfl (by decide) (.slice A5 k c5) k (lkCells l0) rfl (HO2.out.alloc _) (w2.heap.size + 1) (some ⟨w2.heap.size, 0, none⟩) 1 1 (lkCells [((N1 : Nat), (N2 : Nat))]) rfl (reads_two w2 _ _ _ _ rfl) (lkCells_one' _) (by unfold maxLen; omega) (by omega) (by simp; omega) ?_; intro v3 w3 hown3 hg3 _)))
      have hg9 := grown_over (HG2.out) (grown_trans (World.grownBy_alloc w2 (Obj.cells #[.int .i64 (N1 : Nat), .int .i64 (N2 : Nat)] 59) _) hg3) (fun q hq => (HO2.out.lt q hq).1)
      have hr9 := (HR2.out.alloc (Obj.cells #[.int .i64 (N1 : Nat), .int .i64 (N2 : Nat)] 59)).grown hg3 (fun q hq => Nat.lt_of_lt_of_le hgs (HO2.out.lt q hq).1)
      rw [← lkCells_app] at hown3
      go_roundw
      case rel => exact ⟨k + 1, by omega, by go_num, by rw [HS.out]; exact hown3, by rw [HS.out]; exact hr9, hg9⟩
      case measure => simp [intOf]; omega
    · obtain rfl : k = m := by omega
      have HOW := Lib.hid hown; clear hown
      have HRR := Lib.hid hr; clear hr
      have HG := Lib.hid hg; clear hg
      go_wp2
      go_ret
      exact ⟨_, _, rfl, HOW.out, HRR.out, HG.out⟩
set_option maxRecDepth 20000 in
set_option maxHeartbeats 8000000 in
theorem readItems_any (g : Nat) (st : St) (w : World) (h : Rdr w g st) :
    Calls Try.prog 57 #[ptr g] w fun e w' => ∃ v n, e = .returned v ∧ w'.ownsRow w.heap.size 64 2 v n (lkCells (itsC st).2) ∧ Rdr w' g (itsC st).1 ∧ w.grownBy w' (some g) := by
  unfold itsC mOf
  obtain ⟨i0, hi, hz0, hz1, hz2⟩ := info_parts info_item
  have hgs := h.size
  have HI := Lib.hid hi; clear hi
  have HZ0 := Lib.hid hz0; clear hz0
  have HZ1 := Lib.hid hz1; clear hz1
  have HZ2 := Lib.hid hz2; clear hz2
  have nm : (rnum st 1).2 < 256 := rnum_lt (st := st) (k := 1) (K := 1) rfl h.lt
  have rm := rnum_any g st 1 w h
  generalize rnum st 1 = q at *
  obtain ⟨st, m⟩ := q
  simp only at nm rm ⊢
  have RM := Lib.hid rm; clear rm h
  go_enter Try.func57, Try.ntmps57
  go_wp2_with (go_at_call 54; refine (RM.out).mono ?_; rintro e w1 ⟨rfl, hr1, hg1⟩; have HR := Lib.hid hr1; have HG1 := Lib.hid hg1; clear hr1 hg1)
  clear RM
  go_loopw [3, 7] (fun z i wr => ∃ k : Nat, k ≤ m ∧ i = .int .i64 k ∧ wr.ownsRow w.heap.size 64 2 z k (lkCells (rits st k).2) ∧ Rdr wr g (rits st k).1 ∧ w.grownBy wr (some g)) (fun _ i _ => m - (intOf i).toNat)
  case atStart => exact ⟨0, Nat.zero_le _, rfl, World.ownsRow_nil _ _ _ _, HR.out, HG1.out⟩
  case round =>
    clear HR HG1
    obtain ⟨k, hk, rfl, hown, hr, hg⟩ := hrel
    by_cases hlt : k < m
    · have hx := hr.lt
      have hws := hg.size
      have hs : rits st (k + 1) = rit (rits st k) := rfl
      generalize rits st k = p at *
      obtain ⟨st0, l0⟩ := p
      simp only at hown hr hx
      simp only [rit] at hs
      have n1 := rnum_lt (st := st0) (k := 1) (K := 1) rfl hx
      have r1 := rnum_any g st0 1 wr hr
      have n2 : (rnum (rnum st0 1).1 8).2 < 18446744073709551616 := rnum_small (k := 8) (K := 8) rfl (Chg.rnum_bytes hx)
      generalize rnum st0 1 = q at *
      obtain ⟨st1, N1⟩ := q
      simp only at n1 n2 r1 hs
      have r2 := fun W (hW : Rdr W g st1) => rnum_any g st1 8 W hW
      generalize rnum st1 8 = q at *
      obtain ⟨st2, N2⟩ := q
      simp only at n2 r2 hs
      have hww := sgn_wrap n2
      obtain ⟨sN, hsN⟩ : ∃ sN, sN = sgn N2 := ⟨_, rfl⟩
      rw [← hsN] at hww hs
      clear hsN
      have HS := Lib.hid hs; clear hs
      have R1 := Lib.hid r1; clear r1
      have R2 := Lib.hid r2; clear r2
      have hl0 : (lkCells l0).length = k * 2 := hown.1
      have HG := Lib.hid hg; clear hg hx
      have HRR := Lib.hid hr; clear hr
      have HOW := Lib.hid hown; clear hown hl0
      obtain ⟨A5, c5, rfl⟩ := Lsa.own_form HOW.out
      go_wp2_with (first
        | (have HM0 := R1; go_at_call 54; refine (R1.out).mono ?_; rintro e w1 ⟨rfl, hr1, hg1⟩; have HG1 := Lib.hid (grown_trans HG.out hg1); have HO1 := Lib.hid (own_gr14 HOW.out hg1 hgs); have HR1 := Lib.hid hr1; clear hr1 hg1 HM0 R1)
        | (go_at_call 54; refine (R2.out _ HR1.out).mono ?_; rintro e w2 ⟨rfl, hr2, hg2⟩; have HG2 := Lib.hid (grown_trans HG1.out hg2); have HO2 := Lib.hid (own_gr14 HO1.out hg2 hgs); have HR2 := Lib.hid hr2; have hws2 := HG2.out.size; clear hr2 hg2)
        | (at_builtin; (refine wpList_append_any _ rfl (.tmp 9) (.tmp 17) 23 rfl w.heap.size 64 i0 (.agg #[.int .i64 0, .int .i64 0]) 2 16 Try.underlying23 HI.out HZ0.out HZ1.out HZ2.out rfl (by decide) (.slice A5 k c5) k (lkCells l0) rfl (HO2.out.alloc _) (w2.heap.size + 1) (some ⟨w2.heap.size, 0, none⟩) 1 1 (lkCells [((N1 : Nat), sN)]) rfl (reads_two w2 _ _ _ _ rfl) (lkCells_one' _) (by unfold maxLen; omega) (by omega) (by simp; omega) ?_; intro v3 w3 hown3 hg3 _)))
      have hg9 := grown_over (HG2.out) (grown_trans (World.grownBy_alloc w2 (Obj.cells #[.int .i64 (N1 : Nat), .int .i64 sN] 64) _) hg3) (fun q hq => (HO2.out.lt q hq).1)
      have hr9 := (HR2.out.alloc (Obj.cells #[.int .i64 (N1 : Nat), .int .i64 sN] 64)).grown hg3 (fun q hq => Nat.lt_of_lt_of_le hgs (HO2.out.lt q hq).1)
      rw [← lkCells_app] at hown3
      go_roundw
      case rel => exact ⟨k + 1, by omega, by go_num, by rw [HS.out]; exact hown3, by rw [HS.out]; exact hr9, hg9⟩
      case measure => simp [intOf]; omega
    · obtain rfl : k = m := by omega
      have HOW := Lib.hid hown; clear hown
      have HRR := Lib.hid hr; clear hr
      have HG := Lib.hid hg; clear hg
      go_wp2
      go_ret
      exact ⟨_, _, rfl, HOW.out, HRR.out, HG.out⟩
set_option maxRecDepth 20000 in
set_option maxHeartbeats 8000000 in
theorem readLsas_any (g : Nat) (st : St) (w : World) (h : Rdr w g st) :
    Calls Try.prog 58 #[ptr g] w fun e w' => ∃ v, e = .returned v ∧ OwnL w' w.heap.size v (lssC st).2 ∧ Rdr w' g (lssC st).1 ∧ w.grownBy w' (some g) := by
  unfold lssC mOf
  obtain ⟨i0, hi, hz0, hz1, hz2⟩ := info_parts info_lsa
  have hgs := h.size
  have HI := Lib.hid hi; clear hi
  have HZ0 := Lib.hid hz0; clear hz0
  have HZ1 := Lib.hid hz1; clear hz1
  have HZ2 := Lib.hid hz2; clear hz2
  have nm : (rnum st 1).2 < 256 := rnum_lt (st := st) (k := 1) (K := 1) rfl h.lt
  have rm := rnum_any g st 1 w h
  generalize rnum st 1 = q at *
  obtain ⟨st, m⟩ := q
  simp only at nm rm ⊢
  have RM := Lib.hid rm; clear rm h
  go_enter Try.func58, Try.ntmps58
  go_wp2_with (go_at_call 54; refine (RM.out).mono ?_; rintro e w1 ⟨rfl, hr1, hg1⟩; have HR := Lib.hid hr1; have HG1 := Lib.hid hg1; clear hr1 hg1)
  clear RM
  go_loopw [3, 9] (fun z i wr => ∃ k : Nat, k ≤ m ∧ i = .int .i64 k ∧ OwnL wr w.heap.size z (rdbs st k).2 ∧ Rdr wr g (rdbs st k).1 ∧ w.grownBy wr (some g)) (fun _ i _ => m - (intOf i).toNat)
  case atStart => exact ⟨0, Nat.zero_le _, rfl, ownL_nil _ _, HR.out, HG1.out⟩
  case round =>
    clear HR HG1
    obtain ⟨k, hk, rfl, hown, hr, hg⟩ := hrel
    by_cases hlt : k < m
    · have hws := hg.size
      have hlen := rdbs_len st k
      have hs : rdbs st (k + 1) = ((rAll (rdbs st k).1).1, (rdbs st k).2 ++ [laOf (rdbs st k).1]) := rfl
      generalize rdbs st k = q at *
      obtain ⟨st0, db⟩ := q
      simp only at hown hr hlen hs
      obtain ⟨a, hal⟩ : ∃ a, a = laOf st0 := ⟨_, rfl⟩
      rw [← hal] at hs
      have lr : Calls Try.prog 68 #[ptr g] wr (fun e w' => ∃ v, e = .returned (.tuple #[lsaV a.o a.s v, .bool (rOk st0)]) ∧ (∃ n, w'.ownsRow wr.heap.size 85 2 v n (lkCells a.ls)) ∧ Rdr w' g (rAll st0).1 ∧ wr.grownBy w' (some g)) := by
        rw [hal]
        exact lread_own g st0 wr hr
      generalize rOk st0 = ok at lr
      generalize (rAll st0).1 = st2 at *
      have LR := Lib.hid lr; clear lr hal hr
      have HS := Lib.hid hs; clear hs
      have HG := Lib.hid hg; clear hg
      have HLEN := Lib.hid hlen; clear hlen
      have HOW0 := Lib.hid hown
      obtain ⟨us, hus, how, hlk⟩ := hown
      obtain ⟨Ad, cd, rfl⟩ := Lsa.own_form how
      have HUS := Lib.hid hus; clear hus
      have HOW := Lib.hid how; clear how
      have HLK := Lib.hid hlk; clear hlk
      go_wp2_with (first
        | (go_at_call 68; refine (LR.out).mono ?_; rintro e w5 ⟨u5, rfl, ⟨nu, ho5⟩, hr5, hg5⟩; obtain ⟨Au, cu, rfl⟩ := Lsa.own_form ho5; have hs5 := hg5.size; have HG5 := Lib.hid (grown_trans HG.out hg5); have HO5 := Lib.hid ((own_gr14 HOW.out hg5 hgs).alloc (Obj.cells #[.int .i64 a.o, .int .i64 a.s, .slice Au nu cu] 49)); have HL5 := Lib.hid (fun i (hi : i < db.length) => LkT.below (lkT_gr14 (HLK.out i hi) hg5 hgs) (low1 (Below.refl w5.heap.size w5) (Obj.cells #[.int .i64 a.o, .int .i64 a.s, .slice Au nu cu] 49))); have HU5 := Lib.hid (LkT.below (⟨_, own_mono ho5 hws⟩ : LkT w5 w.heap.size (.slice Au nu cu) a.ls) (low1 (Below.refl w5.heap.size w5) (Obj.cells #[.int .i64 a.o, .int .i64 a.s, .slice Au nu cu] 49))); have HR5 := Lib.hid (hr5.alloc (Obj.cells #[.int .i64 a.o, .int .i64 a.s, .slice Au nu cu] 49)); clear ho5 hr5 hg5)
        | (at_builtin; (refine wpList_append_any _ rfl (.tmp 16) (.tmp 18) 24 rfl w.heap.size 49 i0 (.agg #[.int .i64 0, .int .i64 0, .slice none 0 0]) 3 40 Try.underlying24 HI.out HZ0.out HZ1.out HZ2.out rfl (by decide) (.slice Ad db.length cd) db.length (flatL db us) rfl (HO5.out.alloc _) ((w5.alloc (.cells #[.int .i64 a.o, .int .i64 a.s, .slice Au nu cu] 49)).heap.size + 1) (some ⟨w5.heap.size + 1, 0, none⟩) 1 1 (rowL a (.slice Au nu cu)) rfl (reads_lsa14 (w5.alloc (.cells #[.int .i64 a.o, .int .i64 a.s, .slice Au nu cu] 49)) a (.slice Au nu cu) _ (by simp)) (rowL_one14 a Au nu cu) (by have := HLEN.out; unfold maxLen; omega) (by have := HLEN.out; omega) (by simp; omega) ?_; intro v7 w7 hown7 hg7 _)))
      have hg8 : (w5.alloc (Obj.cells #[.int .i64 a.o, .int .i64 a.s, .slice Au nu cu] 49)).grownBy w7 (Value.slice Ad db.length cd).ownBlock := grown_trans (World.grownBy_alloc _ _ _) hg7
      have hl9 : OwnL w7 w.heap.size v7 (db ++ [a]) := ownL_push HUS.out HO5.out HL5.out HU5.out hown7 hg8
      have hg9 := grown_over HG5.out (grown_trans (World.grownBy_alloc w5 (Obj.cells #[.int .i64 a.o, .int .i64 a.s, .slice Au nu cu] 49) _) hg8) (fun q hq => (HO5.out.lt q hq).1)
      have hr9 := HR5.out.grown hg8 (fun q hq => Nat.lt_of_lt_of_le hgs (HO5.out.lt q hq).1)
      go_roundw
      case rel => exact ⟨k + 1, by omega, by go_num, by rw [HS.out]; exact hl9, by rw [HS.out]; exact hr9, hg9⟩
      case measure => simp [intOf]; omega
    · obtain rfl : k = m := by omega
      obtain ⟨A5, c5, rfl⟩ := hown.form
      have HOW := Lib.hid hown; clear hown
      have HRR := Lib.hid hr; clear hr
      have HG := Lib.hid hg; clear hg
      go_wp2
      go_ret
      exact ⟨_, rfl, HOW.out, HRR.out, HG.out⟩
end Go.Proofs.Ytpolpppnajfhdaa.Pkt
/- A struct by value as a whole: all its cells loaded from a block, or stored into it, at once, whatever their number; the cells may be any array. Arms for the walk. No program is named here. -/
namespace Go.Proofs.Ytpolpppnajfhdaa.Mem
open Go.RowKit
set_option linter.unusedVariables false
set_option linter.unusedSimpArgs false
theorem grown_setRow (w : World) (g : Nat) (cs : Array Value) : w.grownBy (w.setRow g cs) (some g) :=
  ⟨rfl, rfl, rfl, by simp [World.setRow], fun k hk hn => setRow_other w g k cs (fun e => hn (by rw [e]))⟩
theorem Blk.row {w : World} {g : Nat} {t : TypeId} {old : Array Value} (h : Blk w g t old) (cs : Array Value) : Blk (w.setRow g cs) g t cs := setRow_heap w g old cs t (0, 0) h
section
variable {P : Program}
/-- all cells of a block are loaded -/
theorem wpList_load_blk {ops : Array Oper} {rest : List Oper} {o : Oper} {a : Act} {w : World} {Q : Exit → Act → World → Prop} (hgd : o.guard = none) (ty : TypeId) (x : Operand) (ho : o.op = .load ty x)
    (g : Nat) (hx : a.eval x = .pointer (some ⟨g, 0, none⟩)) (cs : Array Value) (hb : Blk w g ty cs) (d : TypeDesc) (hu : P.underlying ty = some d) (hd : (match d with | .struct _ | .array _ _ => true | _ => false) = true) (hi : (P.info? ty).map (·.size) = some cs.size)
    (h : wpList P ops Q rest (a.put o.dst (.agg cs)) w) : wpList P ops Q (o :: rest) a w :=
  wpList_load_row hgd ty x ho g hx ty cs (0, 0) d hb hu hd hi h
/-- all cells of a block are stored -/
theorem wpList_store_blk {ops : Array Oper} {rest : List Oper} {o : Oper} {a : Act} {w : World} {Q : Exit → Act → World → Prop} (hgd : o.guard = none) (ty : TypeId) (x y : Operand) (ho : o.op = .store ty x y)
    (g : Nat) (cells : Array Value) (hx : a.eval x = .pointer (some ⟨g, 0, none⟩)) (hy : a.eval y = .agg cells) (old : Array Value) (hb : Blk w g ty old) (hi : (P.info? ty).map (·.size) = some cells.size) (hold : old.size = cells.size) (h1 : cells.all (·.oneCell') = true)
    (h : ∀ w', w.grownBy w' (some g) → Blk w' g ty cells → wpList P ops Q rest (a.put o.dst undef) w') : wpList P ops Q (o :: rest) a w :=
  wpList_store_row hgd ty x y ho g cells hx hy ty old hb hi hold h1 (h _ (grown_setRow w g cells) (hb.row cells))
theorem run_loadVar_blk {w : World} {g : Nat} {ty : TypeId} {cs : Array Value} {d : TypeDesc} (hb : Blk w g ty cs) (hu : P.underlying ty = some d) (hd : (match d with | .struct _ | .array _ _ => true | _ => false) = true) (hi : (P.info? ty).map (·.size) = some cs.size) :
    (loadVar ty ⟨g, 0, none⟩).run P w = .ok (.agg cs) w := run_loadVar_row w g ty ty cs (0, 0) d hb hu hd hi
/-- a struct in a cell and a number are answered -/
theorem results_blk_tmp {fn : Func} {p q : Tmp} {ty : TypeId} (h : fn.results = #[.cell p ty, .tmp q]) (tmps : Array Value) {w : World} {g : Nat} {cs : Array Value} {d : TypeDesc} (hp : tmps.getD p undef = .pointer (some ⟨g, 0, none⟩)) (u : Value) (hq : tmps.getD q undef = u)
    (hb : Blk w g ty cs) (hu : P.underlying ty = some d) (hd : (match d with | .struct _ | .array _ _ => true | _ => false) = true) (hi : (P.info? ty).map (·.size) = some cs.size) :
    (results fn tmps).run P w = .ok (.tuple #[.agg cs, u]) w := by
  subst hq
  have hp' : tmps[p]?.getD undef = .pointer (some ⟨g, 0, none⟩) := by simpa using hp
  simp [results, h, hp', asAddr, run_loadVar_blk hb hu hd hi]
end
end Go.Proofs.Ytpolpppnajfhdaa.Mem
/- The packet that is read next (layer 14): the contract of packet.read. -/
namespace Go.Proofs.Ytpolpppnajfhdaa.Pkt
open Go.RowKit Go.Proofs.Ytpolpppnajfhdaa.Mem Go.Proofs.Ytpolpppnajfhdaa.Oct Go.Proofs.Ytpolpppnajfhdaa.Lsa Go.Proofs.Ytpolpppnajfhdaa.Bas
open Go.Proofs.Ytpolpppnajfhdaa.Chg (low1 low_low low2 blk_second)
set_option linter.unusedVariables false
set_option linter.unusedSimpArgs false
theorem size_pk : (Try.prog.info? 26).map (·.size) = some 10 := by kernel_rfl
theorem blk_fz10 {w : World} {g : Nat} {t : TypeId} {cs : Array Value} (h : Blk w g t cs) : w.frozen? ⟨g, 0, none⟩ = false ∧ w.frozen? ⟨g, 1, none⟩ = false ∧ w.frozen? ⟨g, 2, none⟩ = false ∧ w.frozen? ⟨g, 3, none⟩ = false ∧ w.frozen? ⟨g, 4, none⟩ = false ∧ w.frozen? ⟨g, 5, none⟩ = false ∧ w.frozen? ⟨g, 6, none⟩ = false ∧ w.frozen? ⟨g, 7, none⟩ = false ∧ w.frozen? ⟨g, 8, none⟩ = false ∧ w.frozen? ⟨g, 9, none⟩ = false := ⟨h.frozen 0, h.frozen 1, h.frozen 2, h.frozen 3, h.frozen 4, h.frozen 5, h.frozen 6, h.frozen 7, h.frozen 8, h.frozen 9⟩
theorem results_blk {P : Program} {fn : Func} {p : Tmp} {ty : TypeId} (h : fn.results = #[.cell p ty]) (tmps : Array Value) {w : World} {g : Nat} {cs : Array Value} {d : TypeDesc} (hp : tmps.getD p undef = .pointer (some ⟨g, 0, none⟩))
    (hb : Blk w g ty cs) (hu : P.underlying ty = some d) (hd : (match d with | .struct _ | .array _ _ => true | _ => false) = true) (hi : (P.info? ty).map (·.size) = some cs.size) :
    (results fn tmps).run P w = .ok (.agg cs) w := by
  have hp' : tmps[p]?.getD undef = .pointer (some ⟨g, 0, none⟩) := by simpa using hp
  simp [results, h, hp', asAddr, run_loadVar_blk hb hu hd hi]
abbrev zC : Array Value := #[.int .i64 0, .int .i64 0, .int .i64 0, .int .i64 0, .int .i64 0, .int .i64 0, .int .i64 0, .slice none 0 0, .slice none 0 0, .slice none 0 0]
/-- a packet's lists in rows of the call's own -/
def PkOwn (w : World) (base : Nat) (h i l : Value) (p : Pk) : Prop :=
  (∃ n, w.ownsRow base 59 2 h n (lkCells p.hd)) ∧ (∃ n, w.ownsRow base 64 2 i n (lkCells p.it)) ∧ OwnL w base l p.ls
theorem PkOwn.pkM {w : World} {base : Nat} {h i l : Value} {p : Pk} (k : PkOwn w base h i l p) : PkM w w.heap.size h i l p := by
  obtain ⟨⟨_, h1⟩, ⟨_, h2⟩, h3⟩ := k
  exact ⟨lks_own_t h1, lks_own_t h2, h3.las⟩
theorem PkOwn.gr {w w' : World} {base g : Nat} {h i l : Value} {p : Pk} (k : PkOwn w base h i l p) (hg : w.grownBy w' (some g)) (hlt : g < base) : PkOwn w' base h i l p := by
  obtain ⟨⟨_, h1⟩, ⟨_, h2⟩, h3⟩ := k
  exact ⟨⟨_, own_gr14 h1 hg hlt⟩, ⟨_, own_gr14 h2 hg hlt⟩, ownL_gr14 h3 hg hlt⟩
theorem PkOwn.below {w w' : World} {base : Nat} {h i l : Value} {p : Pk} (k : PkOwn w base h i l p) (hb : Below w.heap.size w w') : PkOwn w' base h i l p := by
  obtain ⟨⟨_, h1⟩, ⟨_, h2⟩, h3⟩ := k
  exact ⟨⟨_, own_below h1 hb⟩, ⟨_, own_below h2 hb⟩, h3.below hb⟩
theorem PkOwn.more {w : World} {base base' : Nat} {h i l : Value} {p : Pk} (k : PkOwn w base h i l p) (hb : base' ≤ base) : PkOwn w base' h i l p := by
  obtain ⟨⟨_, h1⟩, ⟨_, h2⟩, h3⟩ := k
  exact ⟨⟨_, own_mono h1 hb⟩, ⟨_, own_mono h2 hb⟩, ownL_more14 h3 hb⟩
/-- what read answers -/
def ReadOutP (w : World) (g : Nat) (r : St × Pk) (e : Ending) (w' : World) : Prop :=
  ∃ h i l, e = .returned (pkV r.2 h i l) ∧ PkOwn w' w.heap.size h i l r.2 ∧ Rdr w' g r.1 ∧ w.grownBy w' (some g)
theorem set1 {w : World} {g : Nat} {t : TypeId} {a0 a1 a2 a3 a4 a5 a6 a7 a8 a9 : Value} (h : Blk w g t #[a0, a1, a2, a3, a4, a5, a6, a7, a8, a9]) (u : Value) : Blk (w.setCell ⟨g, 1, none⟩ u) g t #[a0, u, a2, a3, a4, a5, a6, a7, a8, a9] := h.set_ 1 u
theorem set2 {w : World} {g : Nat} {t : TypeId} {a0 a1 a2 a3 a4 a5 a6 a7 a8 a9 : Value} (h : Blk w g t #[a0, a1, a2, a3, a4, a5, a6, a7, a8, a9]) (u : Value) : Blk (w.setCell ⟨g, 2, none⟩ u) g t #[a0, a1, u, a3, a4, a5, a6, a7, a8, a9] := h.set_ 2 u
theorem set3 {w : World} {g : Nat} {t : TypeId} {a0 a1 a2 a3 a4 a5 a6 a7 a8 a9 : Value} (h : Blk w g t #[a0, a1, a2, a3, a4, a5, a6, a7, a8, a9]) (u : Value) : Blk (w.setCell ⟨g, 3, none⟩ u) g t #[a0, a1, a2, u, a4, a5, a6, a7, a8, a9] := h.set_ 3 u
theorem set4_ {w : World} {g : Nat} {t : TypeId} {a0 a1 a2 a3 a4 a5 a6 a7 a8 a9 : Value} (h : Blk w g t #[a0, a1, a2, a3, a4, a5, a6, a7, a8, a9]) (u : Value) : Blk (w.setCell ⟨g, 4, none⟩ u) g t #[a0, a1, a2, a3, u, a5, a6, a7, a8, a9] := h.set_ 4 u
theorem set5 {w : World} {g : Nat} {t : TypeId} {a0 a1 a2 a3 a4 a5 a6 a7 a8 a9 : Value} (h : Blk w g t #[a0, a1, a2, a3, a4, a5, a6, a7, a8, a9]) (u : Value) : Blk (w.setCell ⟨g, 5, none⟩ u) g t #[a0, a1, a2, a3, a4, u, a6, a7, a8, a9] := h.set_ 5 u
theorem set6 {w : World} {g : Nat} {t : TypeId} {a0 a1 a2 a3 a4 a5 a6 a7 a8 a9 : Value} (h : Blk w g t #[a0, a1, a2, a3, a4, a5, a6, a7, a8, a9]) (u : Value) : Blk (w.setCell ⟨g, 6, none⟩ u) g t #[a0, a1, a2, a3, a4, a5, u, a7, a8, a9] := h.set_ 6 u
theorem set7 {w : World} {g : Nat} {t : TypeId} {a0 a1 a2 a3 a4 a5 a6 a7 a8 a9 : Value} (h : Blk w g t #[a0, a1, a2, a3, a4, a5, a6, a7, a8, a9]) (u : Value) : Blk (w.setCell ⟨g, 7, none⟩ u) g t #[a0, a1, a2, a3, a4, a5, a6, u, a8, a9] := h.set_ 7 u
theorem set8 {w : World} {g : Nat} {t : TypeId} {a0 a1 a2 a3 a4 a5 a6 a7 a8 a9 : Value} (h : Blk w g t #[a0, a1, a2, a3, a4, a5, a6, a7, a8, a9]) (u : Value) : Blk (w.setCell ⟨g, 8, none⟩ u) g t #[a0, a1, a2, a3, a4, a5, a6, a7, u, a9] := h.set_ 8 u
theorem set9 {w : World} {g : Nat} {t : TypeId} {a0 a1 a2 a3 a4 a5 a6 a7 a8 a9 : Value} (h : Blk w g t #[a0, a1, a2, a3, a4, a5, a6, a7, a8, a9]) (u : Value) : Blk (w.setCell ⟨g, 9, none⟩ u) g t #[a0, a1, a2, a3, a4, a5, a6, a7, a8, u] := h.set_ 9 u
theorem tailK1 {p : Pk} {st : St} (h : p.k = 1) : tailC p st = ((hdsC st).1, { p with hd := (hdsC st).2 }) := by simp [tailC, h]
theorem tailK2 {p : Pk} {st : St} (h : p.k = 2) : tailC p st = ((itsC (rnum st 4).1).1, { p with e := ((rnum st 4).2 : Nat), it := (itsC (rnum st 4).1).2 }) := by simp [tailC, h]
theorem tailK5 {p : Pk} {st : St} (h : p.k = 5) : tailC p st = ((itsC st).1, { p with it := (itsC st).2 }) := by simp [tailC, h]
theorem tailK3 {p : Pk} {st : St} (h : p.k = 3) : tailC p st = ((rnum (rnum st 4).1 4).1, { p with e := ((rnum st 4).2 : Nat), te := ((rnum (rnum st 4).1 4).2 : Nat) }) := by simp [tailC, h]
theorem tailK4 {p : Pk} {st : St} (h : p.k = 4) : tailC p st = ((lssC st).1, { p with ls := (lssC st).2 }) := by simp [tailC, h]
theorem tailK0 {p : Pk} {st : St} (h1 : p.k ≠ 1) (h2 : p.k ≠ 2) (h3 : p.k ≠ 3) (h4 : p.k ≠ 4) (h5 : p.k ≠ 5) : tailC p st = (st, p) := by simp [tailC, h1, h2, h3, h4, h5]
theorem own_form14 {w : World} {base n sz : Nat} {e : TypeId} {v : Value} {xs : List Value} (h : w.ownsRow base e sz v n xs) : ∃ A m c, v = .slice A m c := by
  obtain ⟨A, c, rfl⟩ := Lsa.own_form h
  exact ⟨A, _, c, rfl⟩
theorem ownL_form14 {w : World} {base : Nat} {v : Value} {l : List La} (h : OwnL w base v l) : ∃ A m c, v = .slice A m c := by
  obtain ⟨A, c, rfl⟩ := h.form
  exact ⟨A, _, c, rfl⟩
set_option maxRecDepth 100000 in
set_option maxHeartbeats 16000000 in
theorem pread_one (g : Nat) (xs : List Nat) (w : World) (h : Rdr w g (xs, true)) (hk : (c1 xs).2 = 1) :
    Calls Try.prog 35 #[ptr g] w (ReadOutP w g (rPk xs)) := by
  have hgs := h.size
  have hb := h.lt
  have n1 : (c1 xs).2 < 256 := rnum_small (st := (xs, true)) (k := 1) (K := 1) rfl hb
  have b1 : ∀ x ∈ (c1 xs).1.1, x < 256 := Chg.rnum_bytes hb
  have b2 : ∀ x ∈ (c2 xs).1.1, x < 256 := Chg.rnum_bytes b1
  have b3 : ∀ x ∈ (c3 xs).1.1, x < 256 := Chg.rnum_bytes b2
  have b4 : ∀ x ∈ (c4 xs).1.1, x < 256 := Chg.rnum_bytes b3
  have b5 : ∀ x ∈ (c5 xs).1.1, x < 256 := Chg.rnum_bytes b4
  have r1 : ∀ W, Rdr W g (xs, true) → Calls Try.prog 54 #[ptr g, .int .i64 1] W fun e w' => e = .returned (.int .u64 ((c1 xs).2 : Nat)) ∧ Rdr w' g (c1 xs).1 ∧ W.grownBy w' (some g) := fun W hW => rnum_any g (xs, true) 1 W hW
  have r2 : ∀ W, Rdr W g (c1 xs).1 → Calls Try.prog 55 #[ptr g] W fun e w' => e = .returned (.tuple #[.int .i64 ((c2 xs).2 : Nat), .int .i64 ((c3 xs).2 : Nat)]) ∧ Rdr w' g (c3 xs).1 ∧ W.grownBy w' (some g) := fun W hW => readWho_any g (c1 xs).1 W hW
  have r3 : ∀ W, Rdr W g (c3 xs).1 → Calls Try.prog 55 #[ptr g] W fun e w' => e = .returned (.tuple #[.int .i64 ((c4 xs).2 : Nat), .int .i64 ((c5 xs).2 : Nat)]) ∧ Rdr w' g (c5 xs).1 ∧ W.grownBy w' (some g) := fun W hW => readWho_any g (c3 xs).1 W hW
  unfold rPk headC
  generalize (c1 xs).2 = N at *
  generalize (c2 xs).2 = F at *
  generalize (c3 xs).2 = B at *
  generalize (c4 xs).2 = D at *
  generalize (c5 xs).2 = DB at *
  generalize (c1 xs).1 = s1 at *
  generalize (c3 xs).1 = s3 at *
  generalize (c5 xs).1 = s5 at *
  rw [tailK1 (show (N : Int) = 1 by omega)]
  have d1 : ((N : Int) == 1) = true := by rw [beq_iff_eq]; omega
  clear hk
  have r4 := fun W (hW : Rdr W g s5) => readHeard_any g s5 W hW
  clear b1 b2 b3 b4 b5 hb
  have R1 := Lib.hid r1; clear r1
  have R2 := Lib.hid r2; clear r2
  have R3 := Lib.hid r3; clear r3
  have R4 := Lib.hid r4; clear r4
  have HR0 := Lib.hid h; clear h
  go_enter Try.func35, Try.ntmps35
  go_wp2_with (first
    | (have HM1 := R1; go_at_call 54; refine (R1.out _ (HR0.out.alloc _)).mono ?_; rintro e1 w1 ⟨rfl, hr1, hg1⟩; have kr1 := (Blk.new w 26 zC).grown hg1 (by simp; omega); have hl1 := kr1.lt; have HR1 := Lib.hid hr1; have HG1 := Lib.hid (grown_trans (World.grownBy_alloc w (Obj.cells zC 26) (some g)) hg1); have KR1 := Lib.hid kr1; clear hr1 hg1 kr1 HM1 R1)
    | (have HM2 := R2; go_at_call 55; refine (R2.out _ (HR1.out.alloc _)).mono ?_; rintro e2 w2 ⟨rfl, hr2, hg2⟩; have k2 := (Blk.new w1 26 #[.int .i64 (N : Nat), .int .i64 0, .int .i64 0, .int .i64 0, .int .i64 0, .int .i64 0, .int .i64 0, .slice none 0 0, .slice none 0 0, .slice none 0 0]).grown hg2 (by simp; omega); have hl2 := k2.lt; have kr2 := (KR1.out.alloc _).grown hg2 (by simp; omega); have g2 := grown_trans (grown_trans HG1.out (World.grownBy_alloc w1 (Obj.cells #[.int .i64 (N : Nat), .int .i64 0, .int .i64 0, .int .i64 0, .int .i64 0, .int .i64 0, .int .i64 0, .slice none 0 0, .slice none 0 0, .slice none 0 0] 26) (some g))) hg2; obtain ⟨x0, x1, x2, x3, x4, x5, x6, x7, x8, x9, x10⟩ := blk_cells10 k2; obtain ⟨f0, f1, f2, f3, f4, f5, f6, f7, f8, f9⟩ := blk_fz10 k2; have K2 := Lib.hid (set2 (set1 k2 (.int .i64 (F : Nat))) (.int .i64 (B : Nat))); have HR2 := Lib.hid ((hr2.setFar ⟨w1.heap.size, 1, none⟩ (by show g < w1.heap.size; omega) (.int .i64 (F : Nat))).setFar ⟨w1.heap.size, 2, none⟩ (by show g < w1.heap.size; omega) (.int .i64 (B : Nat))); have KR2 := Lib.hid ((kr2.far (p := ⟨w1.heap.size, 1, none⟩) (by show w.heap.size ≠ w1.heap.size; omega) (.int .i64 (F : Nat))).far (p := ⟨w1.heap.size, 2, none⟩) (by show w.heap.size ≠ w1.heap.size; omega) (.int .i64 (B : Nat))); have HG2 := Lib.hid (grown_over (grown_over g2 (grown_set _ ⟨w1.heap.size, 1, none⟩ (.int .i64 (F : Nat))) (fun q hq => by cases hq; show w.heap.size ≤ w1.heap.size; omega)) (grown_set _ ⟨w1.heap.size, 2, none⟩ (.int .i64 (B : Nat))) (fun q hq => by cases hq; show w.heap.size ≤ w1.heap.size; omega)); clear hr2 hg2 k2 kr2 g2 HM2 R2)
    | (have HM3 := R3; go_at_call 55; refine (R3.out _ HR2.out).mono ?_; rintro e3 w3 ⟨rfl, hr3, hg3⟩; have k3 := K2.out.grown hg3 (by simp; omega); have hl3 := k3.lt; have kr3 := KR2.out.grown hg3 (by simp; omega); have g3 := grown_trans HG2.out hg3; clear x0 x1 x2 x3 x4 x5 x6 x7 x8 x9 x10 f0 f1 f2 f3 f4 f5 f6 f7 f8 f9; obtain ⟨x0, x1, x2, x3, x4, x5, x6, x7, x8, x9, x10⟩ := blk_cells10 k3; obtain ⟨f0, f1, f2, f3, f4, f5, f6, f7, f8, f9⟩ := blk_fz10 k3; have K3 := Lib.hid (set4_ (set3 k3 (.int .i64 (D : Nat))) (.int .i64 (DB : Nat))); have HR3 := Lib.hid ((hr3.setFar ⟨w1.heap.size, 3, none⟩ (by show g < w1.heap.size; omega) (.int .i64 (D : Nat))).setFar ⟨w1.heap.size, 4, none⟩ (by show g < w1.heap.size; omega) (.int .i64 (DB : Nat))); have KR3 := Lib.hid ((kr3.far (p := ⟨w1.heap.size, 3, none⟩) (by show w.heap.size ≠ w1.heap.size; omega) (.int .i64 (D : Nat))).far (p := ⟨w1.heap.size, 4, none⟩) (by show w.heap.size ≠ w1.heap.size; omega) (.int .i64 (DB : Nat))); have HG3 := Lib.hid (grown_over (grown_over g3 (grown_set _ ⟨w1.heap.size, 3, none⟩ (.int .i64 (D : Nat))) (fun q hq => by cases hq; show w.heap.size ≤ w1.heap.size; omega)) (grown_set _ ⟨w1.heap.size, 4, none⟩ (.int .i64 (DB : Nat))) (fun q hq => by cases hq; show w.heap.size ≤ w1.heap.size; omega)); clear hr3 hg3 k3 kr3 g3 HM3 R3)
    | (have HM4 := R4; go_at_call 56; refine (R4.out _ HR3.out).mono ?_; rintro e4 w4 ⟨v4, q4, rfl, ho4, hr4, hg4⟩; obtain ⟨A4, n4_, c4_, rfl⟩ := own_form14 ho4; have k4 := K3.out.grown hg4 (by simp; omega); have hl4 := k4.lt; have kr4 := KR3.out.grown hg4 (by simp; omega); have g4 := grown_trans HG3.out hg4; clear x0 x1 x2 x3 x4 x5 x6 x7 x8 x9 x10 f0 f1 f2 f3 f4 f5 f6 f7 f8 f9; obtain ⟨x0, x1, x2, x3, x4, x5, x6, x7, x8, x9, x10⟩ := blk_cells10 k4; obtain ⟨f0, f1, f2, f3, f4, f5, f6, f7, f8, f9⟩ := blk_fz10 k4; have K4 := Lib.hid (set7 k4 (.slice A4 n4_ c4_)); have HR4 := Lib.hid (hr4.setFar ⟨w1.heap.size, 7, none⟩ (by show g < w1.heap.size; omega) (.slice A4 n4_ c4_)); have KR4 := Lib.hid (kr4.far (p := ⟨w1.heap.size, 7, none⟩) (by show w.heap.size ≠ w1.heap.size; omega) (.slice A4 n4_ c4_)); have HG4 := Lib.hid (grown_over g4 (grown_set _ ⟨w1.heap.size, 7, none⟩ (.slice A4 n4_ c4_)) (fun q hq => by cases hq; show w.heap.size ≤ w1.heap.size; omega)); have HO := Lib.hid (own_mono (own_gr14 ho4 (grown_set w4 ⟨w1.heap.size, 7, none⟩ (.slice A4 n4_ c4_)) (by show w1.heap.size < _; simp; omega)) (base' := w.heap.size + 1) (by simp; omega)); clear hr4 hg4 k4 kr4 g4 HM4 R4)
    | (refine wpList_load_blk rfl 26 (.tmp 3) rfl w1.heap.size rfl #[.int .i64 (N : Nat), .int .i64 (F : Nat), .int .i64 (B : Nat), .int .i64 (D : Nat), .int .i64 (DB : Nat), .int .i64 0, .int .i64 0, .slice A4 n4_ c4_, .slice none 0 0, .slice none 0 0] K4.out _ Try.underlying26 rfl (by rw [size_pk]; rfl) ?_)
    | (refine wpList_store_blk rfl 26 (.tmp 2) (.tmp 58) rfl w.heap.size #[.int .i64 (N : Nat), .int .i64 (F : Nat), .int .i64 (B : Nat), .int .i64 (D : Nat), .int .i64 (DB : Nat), .int .i64 0, .int .i64 0, .slice A4 n4_ c4_, .slice none 0 0, .slice none 0 0] rfl rfl _ KR4.out (by rw [size_pk]; rfl) rfl (by kernel_rfl) ?_; intro w9 hg9 k9; have K9 := Lib.hid k9; have HR9 := Lib.hid (HR4.out.grown hg9 (fun q hq => by cases hq; omega)); have HG9 := Lib.hid (grown_over HG4.out hg9 (fun q hq => by cases hq; omega)); have HO9 := Lib.hid (own_mono (own_gr14 HO.out hg9 (by omega)) (base' := w.heap.size) (by omega)); clear hg9 k9))
  refine bodyPost_ret (v := .agg #[.int .i64 (N : Nat), .int .i64 (F : Nat), .int .i64 (B : Nat), .int .i64 (D : Nat), .int .i64 (DB : Nat), .int .i64 0, .int .i64 0, .slice A4 n4_ c4_, .slice none 0 0, .slice none 0 0]) ?_ rfl ⟨_, _, _, rfl, ⟨⟨_, HO9.out⟩, ⟨0, World.ownsRow_nil _ _ _ _⟩, ownL_nil _ _⟩, HR9.out, HG9.out⟩
  exact results_blk (P := Try.prog) Try.results35 _ rfl K9.out Try.underlying26 rfl (by rw [size_pk]; rfl)
set_option maxRecDepth 100000 in
set_option maxHeartbeats 16000000 in
theorem pread_two (g : Nat) (xs : List Nat) (w : World) (h : Rdr w g (xs, true)) (hk : (c1 xs).2 = 2) :
    Calls Try.prog 35 #[ptr g] w (ReadOutP w g (rPk xs)) := by
  have hgs := h.size
  have hb := h.lt
  have n1 : (c1 xs).2 < 256 := rnum_small (st := (xs, true)) (k := 1) (K := 1) rfl hb
  have b1 : ∀ x ∈ (c1 xs).1.1, x < 256 := Chg.rnum_bytes hb
  have b2 : ∀ x ∈ (c2 xs).1.1, x < 256 := Chg.rnum_bytes b1
  have b3 : ∀ x ∈ (c3 xs).1.1, x < 256 := Chg.rnum_bytes b2
  have b4 : ∀ x ∈ (c4 xs).1.1, x < 256 := Chg.rnum_bytes b3
  have b5 : ∀ x ∈ (c5 xs).1.1, x < 256 := Chg.rnum_bytes b4
  have r1 : ∀ W, Rdr W g (xs, true) → Calls Try.prog 54 #[ptr g, .int .i64 1] W fun e w' => e = .returned (.int .u64 ((c1 xs).2 : Nat)) ∧ Rdr w' g (c1 xs).1 ∧ W.grownBy w' (some g) := fun W hW => rnum_any g (xs, true) 1 W hW
  have r2 : ∀ W, Rdr W g (c1 xs).1 → Calls Try.prog 55 #[ptr g] W fun e w' => e = .returned (.tuple #[.int .i64 ((c2 xs).2 : Nat), .int .i64 ((c3 xs).2 : Nat)]) ∧ Rdr w' g (c3 xs).1 ∧ W.grownBy w' (some g) := fun W hW => readWho_any g (c1 xs).1 W hW
  have r3 : ∀ W, Rdr W g (c3 xs).1 → Calls Try.prog 55 #[ptr g] W fun e w' => e = .returned (.tuple #[.int .i64 ((c4 xs).2 : Nat), .int .i64 ((c5 xs).2 : Nat)]) ∧ Rdr w' g (c5 xs).1 ∧ W.grownBy w' (some g) := fun W hW => readWho_any g (c3 xs).1 W hW
  unfold rPk headC
  generalize (c1 xs).2 = N at *
  generalize (c2 xs).2 = F at *
  generalize (c3 xs).2 = B at *
  generalize (c4 xs).2 = D at *
  generalize (c5 xs).2 = DB at *
  generalize (c1 xs).1 = s1 at *
  generalize (c3 xs).1 = s3 at *
  generalize (c5 xs).1 = s5 at *
  rw [tailK2 (show (N : Int) = 2 by omega)]
  have d1 : ((N : Int) == 1) = false := by rw [beq_eq_false_iff_ne]; omega
  have d2 : ((N : Int) == 2) = true := by rw [beq_iff_eq]; omega
  clear hk
  have m4 : (rnum s5 4).2 < 4294967296 := rnum_small (k := 4) (K := 4) rfl b5
  have b6 : ∀ x ∈ (rnum s5 4).1.1, x < 256 := Chg.rnum_bytes b5
  have r4 := fun W (hW : Rdr W g s5) => rnum_any g s5 4 W hW
  generalize rnum s5 4 = q at *
  obtain ⟨s6, E0⟩ := q
  simp only at m4 b6 r4 ⊢
  have r5 := fun W (hW : Rdr W g s6) => readItems_any g s6 W hW
  clear b1 b2 b3 b4 b5 hb
  clear b6
  have R1 := Lib.hid r1; clear r1
  have R2 := Lib.hid r2; clear r2
  have R3 := Lib.hid r3; clear r3
  have R4 := Lib.hid r4; clear r4
  have R5 := Lib.hid r5; clear r5
  have HR0 := Lib.hid h; clear h
  go_enter Try.func35, Try.ntmps35
  go_wp2_with (first
    | (have HM1 := R1; go_at_call 54; refine (R1.out _ (HR0.out.alloc _)).mono ?_; rintro e1 w1 ⟨rfl, hr1, hg1⟩; have kr1 := (Blk.new w 26 zC).grown hg1 (by simp; omega); have hl1 := kr1.lt; have HR1 := Lib.hid hr1; have HG1 := Lib.hid (grown_trans (World.grownBy_alloc w (Obj.cells zC 26) (some g)) hg1); have KR1 := Lib.hid kr1; clear hr1 hg1 kr1 HM1 R1)
    | (have HM2 := R2; go_at_call 55; refine (R2.out _ (HR1.out.alloc _)).mono ?_; rintro e2 w2 ⟨rfl, hr2, hg2⟩; have k2 := (Blk.new w1 26 #[.int .i64 (N : Nat), .int .i64 0, .int .i64 0, .int .i64 0, .int .i64 0, .int .i64 0, .int .i64 0, .slice none 0 0, .slice none 0 0, .slice none 0 0]).grown hg2 (by simp; omega); have hl2 := k2.lt; have kr2 := (KR1.out.alloc _).grown hg2 (by simp; omega); have g2 := grown_trans (grown_trans HG1.out (World.grownBy_alloc w1 (Obj.cells #[.int .i64 (N : Nat), .int .i64 0, .int .i64 0, .int .i64 0, .int .i64 0, .int .i64 0, .int .i64 0, .slice none 0 0, .slice none 0 0, .slice none 0 0] 26) (some g))) hg2; obtain ⟨x0, x1, x2, x3, x4, x5, x6, x7, x8, x9, x10⟩ := blk_cells10 k2; obtain ⟨f0, f1, f2, f3, f4, f5, f6, f7, f8, f9⟩ := blk_fz10 k2; have K2 := Lib.hid (set2 (set1 k2 (.int .i64 (F : Nat))) (.int .i64 (B : Nat))); have HR2 := Lib.hid ((hr2.setFar ⟨w1.heap.size, 1, none⟩ (by show g < w1.heap.size; omega) (.int .i64 (F : Nat))).setFar ⟨w1.heap.size, 2, none⟩ (by show g < w1.heap.size; omega) (.int .i64 (B : Nat))); have KR2 := Lib.hid ((kr2.far (p := ⟨w1.heap.size, 1, none⟩) (by show w.heap.size ≠ w1.heap.size; omega) (.int .i64 (F : Nat))).far (p := ⟨w1.heap.size, 2, none⟩) (by show w.heap.size ≠ w1.heap.size; omega) (.int .i64 (B : Nat))); have HG2 := Lib.hid (grown_over (grown_over g2 (grown_set _ ⟨w1.heap.size, 1, none⟩ (.int .i64 (F : Nat))) (fun q hq => by cases hq; show w.heap.size ≤ w1.heap.size; omega)) (grown_set _ ⟨w1.heap.size, 2, none⟩ (.int .i64 (B : Nat))) (fun q hq => by cases hq; show w.heap.size ≤ w1.heap.size; omega)); clear hr2 hg2 k2 kr2 g2 HM2 R2)
    | (have HM3 := R3; go_at_call 55; refine (R3.out _ HR2.out).mono ?_; rintro e3 w3 ⟨rfl, hr3, hg3⟩; have k3 := K2.out.grown hg3 (by simp; omega); have hl3 := k3.lt; have kr3 := KR2.out.grown hg3 (by simp; omega); have g3 := grown_trans HG2.out hg3; clear x0 x1 x2 x3 x4 x5 x6 x7 x8 x9 x10 f0 f1 f2 f3 f4 f5 f6 f7 f8 f9; obtain ⟨x0, x1, x2, x3, x4, x5, x6, x7, x8, x9, x10⟩ := blk_cells10 k3; obtain ⟨f0, f1, f2, f3, f4, f5, f6, f7, f8, f9⟩ := blk_fz10 k3; have K3 := Lib.hid (set4_ (set3 k3 (.int .i64 (D : Nat))) (.int .i64 (DB : Nat))); have HR3 := Lib.hid ((hr3.setFar ⟨w1.heap.size, 3, none⟩ (by show g < w1.heap.size; omega) (.int .i64 (D : Nat))).setFar ⟨w1.heap.size, 4, none⟩ (by show g < w1.heap.size; omega) (.int .i64 (DB : Nat))); have KR3 := Lib.hid ((kr3.far (p := ⟨w1.heap.size, 3, none⟩) (by show w.heap.size ≠ w1.heap.size; omega) (.int .i64 (D : Nat))).far (p := ⟨w1.heap.size, 4, none⟩) (by show w.heap.size ≠ w1.heap.size; omega) (.int .i64 (DB : Nat))); have HG3 := Lib.hid (grown_over (grown_over g3 (grown_set _ ⟨w1.heap.size, 3, none⟩ (.int .i64 (D : Nat))) (fun q hq => by cases hq; show w.heap.size ≤ w1.heap.size; omega)) (grown_set _ ⟨w1.heap.size, 4, none⟩ (.int .i64 (DB : Nat))) (fun q hq => by cases hq; show w.heap.size ≤ w1.heap.size; omega)); clear hr3 hg3 k3 kr3 g3 HM3 R3)
    | (have HM4 := R4; go_at_call 54; refine (R4.out _ HR3.out).mono ?_; rintro e4 w4 ⟨rfl, hr4, hg4⟩; have k4 := K3.out.grown hg4 (by simp; omega); have hl4 := k4.lt; have kr4 := KR3.out.grown hg4 (by simp; omega); have g4 := grown_trans HG3.out hg4; clear x0 x1 x2 x3 x4 x5 x6 x7 x8 x9 x10 f0 f1 f2 f3 f4 f5 f6 f7 f8 f9; obtain ⟨x0, x1, x2, x3, x4, x5, x6, x7, x8, x9, x10⟩ := blk_cells10 k4; obtain ⟨f0, f1, f2, f3, f4, f5, f6, f7, f8, f9⟩ := blk_fz10 k4; have K4 := Lib.hid (set5 k4 (.int .i64 (E0 : Nat))); have HR4 := Lib.hid (hr4.setFar ⟨w1.heap.size, 5, none⟩ (by show g < w1.heap.size; omega) (.int .i64 (E0 : Nat))); have KR4 := Lib.hid (kr4.far (p := ⟨w1.heap.size, 5, none⟩) (by show w.heap.size ≠ w1.heap.size; omega) (.int .i64 (E0 : Nat))); have HG4 := Lib.hid (grown_over g4 (grown_set _ ⟨w1.heap.size, 5, none⟩ (.int .i64 (E0 : Nat))) (fun q hq => by cases hq; show w.heap.size ≤ w1.heap.size; omega)); clear hr4 hg4 k4 kr4 g4 HM4 R4)
    | (have HM5 := R5; go_at_call 57; refine (R5.out _ HR4.out).mono ?_; rintro e5 w5 ⟨v5, q5, rfl, ho5, hr5, hg5⟩; obtain ⟨A5, n5_, c5_, rfl⟩ := own_form14 ho5; have k5 := K4.out.grown hg5 (by simp; omega); have hl5 := k5.lt; have kr5 := KR4.out.grown hg5 (by simp; omega); have g5 := grown_trans HG4.out hg5; clear x0 x1 x2 x3 x4 x5 x6 x7 x8 x9 x10 f0 f1 f2 f3 f4 f5 f6 f7 f8 f9; obtain ⟨x0, x1, x2, x3, x4, x5, x6, x7, x8, x9, x10⟩ := blk_cells10 k5; obtain ⟨f0, f1, f2, f3, f4, f5, f6, f7, f8, f9⟩ := blk_fz10 k5; have K5 := Lib.hid (set8 k5 (.slice A5 n5_ c5_)); have HR5 := Lib.hid (hr5.setFar ⟨w1.heap.size, 8, none⟩ (by show g < w1.heap.size; omega) (.slice A5 n5_ c5_)); have KR5 := Lib.hid (kr5.far (p := ⟨w1.heap.size, 8, none⟩) (by show w.heap.size ≠ w1.heap.size; omega) (.slice A5 n5_ c5_)); have HG5 := Lib.hid (grown_over g5 (grown_set _ ⟨w1.heap.size, 8, none⟩ (.slice A5 n5_ c5_)) (fun q hq => by cases hq; show w.heap.size ≤ w1.heap.size; omega)); have HO := Lib.hid (own_mono (own_gr14 ho5 (grown_set w5 ⟨w1.heap.size, 8, none⟩ (.slice A5 n5_ c5_)) (by show w1.heap.size < _; simp; omega)) (base' := w.heap.size + 1) (by simp; omega)); clear hr5 hg5 k5 kr5 g5 HM5 R5)
    | (refine wpList_load_blk rfl 26 (.tmp 3) rfl w1.heap.size rfl #[.int .i64 (N : Nat), .int .i64 (F : Nat), .int .i64 (B : Nat), .int .i64 (D : Nat), .int .i64 (DB : Nat), .int .i64 (E0 : Nat), .int .i64 0, .slice none 0 0, .slice A5 n5_ c5_, .slice none 0 0] K5.out _ Try.underlying26 rfl (by rw [size_pk]; rfl) ?_)
    | (refine wpList_store_blk rfl 26 (.tmp 2) (.tmp 58) rfl w.heap.size #[.int .i64 (N : Nat), .int .i64 (F : Nat), .int .i64 (B : Nat), .int .i64 (D : Nat), .int .i64 (DB : Nat), .int .i64 (E0 : Nat), .int .i64 0, .slice none 0 0, .slice A5 n5_ c5_, .slice none 0 0] rfl rfl _ KR5.out (by rw [size_pk]; rfl) rfl (by kernel_rfl) ?_; intro w9 hg9 k9; have K9 := Lib.hid k9; have HR9 := Lib.hid (HR5.out.grown hg9 (fun q hq => by cases hq; omega)); have HG9 := Lib.hid (grown_over HG5.out hg9 (fun q hq => by cases hq; omega)); have HO9 := Lib.hid (own_mono (own_gr14 HO.out hg9 (by omega)) (base' := w.heap.size) (by omega)); clear hg9 k9))
  refine bodyPost_ret (v := .agg #[.int .i64 (N : Nat), .int .i64 (F : Nat), .int .i64 (B : Nat), .int .i64 (D : Nat), .int .i64 (DB : Nat), .int .i64 (E0 : Nat), .int .i64 0, .slice none 0 0, .slice A5 n5_ c5_, .slice none 0 0]) ?_ rfl ⟨_, _, _, rfl, ⟨⟨0, World.ownsRow_nil _ _ _ _⟩, ⟨_, HO9.out⟩, ownL_nil _ _⟩, HR9.out, HG9.out⟩
  exact results_blk (P := Try.prog) Try.results35 _ rfl K9.out Try.underlying26 rfl (by rw [size_pk]; rfl)
set_option maxRecDepth 100000 in
set_option maxHeartbeats 16000000 in
theorem pread_three (g : Nat) (xs : List Nat) (w : World) (h : Rdr w g (xs, true)) (hk : (c1 xs).2 = 3) :
    Calls Try.prog 35 #[ptr g] w (ReadOutP w g (rPk xs)) := by
  have hgs := h.size
  have hb := h.lt
  have n1 : (c1 xs).2 < 256 := rnum_small (st := (xs, true)) (k := 1) (K := 1) rfl hb
  have b1 : ∀ x ∈ (c1 xs).1.1, x < 256 := Chg.rnum_bytes hb
  have b2 : ∀ x ∈ (c2 xs).1.1, x < 256 := Chg.rnum_bytes b1
  have b3 : ∀ x ∈ (c3 xs).1.1, x < 256 := Chg.rnum_bytes b2
  have b4 : ∀ x ∈ (c4 xs).1.1, x < 256 := Chg.rnum_bytes b3
  have b5 : ∀ x ∈ (c5 xs).1.1, x < 256 := Chg.rnum_bytes b4
  have r1 : ∀ W, Rdr W g (xs, true) → Calls Try.prog 54 #[ptr g, .int .i64 1] W fun e w' => e = .returned (.int .u64 ((c1 xs).2 : Nat)) ∧ Rdr w' g (c1 xs).1 ∧ W.grownBy w' (some g) := fun W hW => rnum_any g (xs, true) 1 W hW
  have r2 : ∀ W, Rdr W g (c1 xs).1 → Calls Try.prog 55 #[ptr g] W fun e w' => e = .returned (.tuple #[.int .i64 ((c2 xs).2 : Nat), .int .i64 ((c3 xs).2 : Nat)]) ∧ Rdr w' g (c3 xs).1 ∧ W.grownBy w' (some g) := fun W hW => readWho_any g (c1 xs).1 W hW
  have r3 : ∀ W, Rdr W g (c3 xs).1 → Calls Try.prog 55 #[ptr g] W fun e w' => e = .returned (.tuple #[.int .i64 ((c4 xs).2 : Nat), .int .i64 ((c5 xs).2 : Nat)]) ∧ Rdr w' g (c5 xs).1 ∧ W.grownBy w' (some g) := fun W hW => readWho_any g (c3 xs).1 W hW
  unfold rPk headC
  generalize (c1 xs).2 = N at *
  generalize (c2 xs).2 = F at *
  generalize (c3 xs).2 = B at *
  generalize (c4 xs).2 = D at *
  generalize (c5 xs).2 = DB at *
  generalize (c1 xs).1 = s1 at *
  generalize (c3 xs).1 = s3 at *
  generalize (c5 xs).1 = s5 at *
  rw [tailK3 (show (N : Int) = 3 by omega)]
  have d1 : ((N : Int) == 1) = false := by rw [beq_eq_false_iff_ne]; omega
  have d2 : ((N : Int) == 2) = false := by rw [beq_eq_false_iff_ne]; omega
  have d5 : ((N : Int) == 5) = false := by rw [beq_eq_false_iff_ne]; omega
  have d3 : ((N : Int) == 3) = true := by rw [beq_iff_eq]; omega
  clear hk
  have m4 : (rnum s5 4).2 < 4294967296 := rnum_small (k := 4) (K := 4) rfl b5
  have b6 : ∀ x ∈ (rnum s5 4).1.1, x < 256 := Chg.rnum_bytes b5
  have r4 := fun W (hW : Rdr W g s5) => rnum_any g s5 4 W hW
  generalize rnum s5 4 = q at *
  obtain ⟨s6, E0⟩ := q
  simp only at m4 b6 r4 ⊢
  have m5 : (rnum s6 4).2 < 4294967296 := rnum_small (k := 4) (K := 4) rfl b6
  have b7 : ∀ x ∈ (rnum s6 4).1.1, x < 256 := Chg.rnum_bytes b6
  have r5 := fun W (hW : Rdr W g s6) => rnum_any g s6 4 W hW
  generalize rnum s6 4 = q at *
  obtain ⟨s7, E1⟩ := q
  simp only at m5 b7 r5 ⊢
  clear b1 b2 b3 b4 b5 hb
  clear b6
  clear b7
  have R1 := Lib.hid r1; clear r1
  have R2 := Lib.hid r2; clear r2
  have R3 := Lib.hid r3; clear r3
  have R4 := Lib.hid r4; clear r4
  have R5 := Lib.hid r5; clear r5
  have HR0 := Lib.hid h; clear h
  go_enter Try.func35, Try.ntmps35
  go_wp2_with (first
    | (have HM1 := R1; go_at_call 54; refine (R1.out _ (HR0.out.alloc _)).mono ?_; rintro e1 w1 ⟨rfl, hr1, hg1⟩; have kr1 := (Blk.new w 26 zC).grown hg1 (by simp; omega); have hl1 := kr1.lt; have HR1 := Lib.hid hr1; have HG1 := Lib.hid (grown_trans (World.grownBy_alloc w (Obj.cells zC 26) (some g)) hg1); have KR1 := Lib.hid kr1; clear hr1 hg1 kr1 HM1 R1)
    | (have HM2 := R2; go_at_call 55; refine (R2.out _ (HR1.out.alloc _)).mono ?_; rintro e2 w2 ⟨rfl, hr2, hg2⟩; have k2 := (Blk.new w1 26 #[.int .i64 (N : Nat), .int .i64 0, .int .i64 0, .int .i64 0, .int .i64 0, .int .i64 0, .int .i64 0, .slice none 0 0, .slice none 0 0, .slice none 0 0]).grown hg2 (by simp; omega); have hl2 := k2.lt; have kr2 := (KR1.out.alloc _).grown hg2 (by simp; omega); have g2 := grown_trans (grown_trans HG1.out (World.grownBy_alloc w1 (Obj.cells #[.int .i64 (N : Nat), .int .i64 0, .int .i64 0, .int .i64 0, .int .i64 0, .int .i64 0, .int .i64 0, .slice none 0 0, .slice none 0 0, .slice none 0 0] 26) (some g))) hg2; obtain ⟨x0, x1, x2, x3, x4, x5, x6, x7, x8, x9, x10⟩ := blk_cells10 k2; obtain ⟨f0, f1, f2, f3, f4, f5, f6, f7, f8, f9⟩ := blk_fz10 k2; have K2 := Lib.hid (set2 (set1 k2 (.int .i64 (F : Nat))) (.int .i64 (B : Nat))); have HR2 := Lib.hid ((hr2.setFar ⟨w1.heap.size, 1, none⟩ (by show g < w1.heap.size; omega) (.int .i64 (F : Nat))).setFar ⟨w1.heap.size, 2, none⟩ (by show g < w1.heap.size; omega) (.int .i64 (B : Nat))); have KR2 := Lib.hid ((kr2.far (p := ⟨w1.heap.size, 1, none⟩) (by show w.heap.size ≠ w1.heap.size; omega) (.int .i64 (F : Nat))).far (p := ⟨w1.heap.size, 2, none⟩) (by show w.heap.size ≠ w1.heap.size; omega) (.int .i64 (B : Nat))); have HG2 := Lib.hid (grown_over (grown_over g2 (grown_set _ ⟨w1.heap.size, 1, none⟩ (.int .i64 (F : Nat))) (fun q hq => by cases hq; show w.heap.size ≤ w1.heap.size; omega)) (grown_set _ ⟨w1.heap.size, 2, none⟩ (.int .i64 (B : Nat))) (fun q hq => by cases hq; show w.heap.size ≤ w1.heap.size; omega)); clear hr2 hg2 k2 kr2 g2 HM2 R2)
    | (have HM3 := R3; go_at_call 55; refine (R3.out _ HR2.out).mono ?_; rintro e3 w3 ⟨rfl, hr3, hg3⟩; have k3 := K2.out.grown hg3 (by simp; omega); have hl3 := k3.lt; have kr3 := KR2.out.grown hg3 (by simp; omega); have g3 := grown_trans HG2.out hg3; clear x0 x1 x2 x3 x4 x5 x6 x7 x8 x9 x10 f0 f1 f2 f3 f4 f5 f6 f7 f8 f9; obtain ⟨x0, x1, x2, x3, x4, x5, x6, x7, x8, x9, x10⟩ := blk_cells10 k3; obtain ⟨f0, f1, f2, f3, f4, f5, f6, f7, f8, f9⟩ := blk_fz10 k3; have K3 := Lib.hid (set4_ (set3 k3 (.int .i64 (D : Nat))) (.int .i64 (DB : Nat))); have HR3 := Lib.hid ((hr3.setFar ⟨w1.heap.size, 3, none⟩ (by show g < w1.heap.size; omega) (.int .i64 (D : Nat))).setFar ⟨w1.heap.size, 4, none⟩ (by show g < w1.heap.size; omega) (.int .i64 (DB : Nat))); have KR3 := Lib.hid ((kr3.far (p := ⟨w1.heap.size, 3, none⟩) (by show w.heap.size ≠ w1.heap.size; omega) (.int .i64 (D : Nat))).far (p := ⟨w1.heap.size, 4, none⟩) (by show w.heap.size ≠ w1.heap.size; omega) (.int .i64 (DB : Nat))); have HG3 := Lib.hid (grown_over (grown_over g3 (grown_set _ ⟨w1.heap.size, 3, none⟩ (.int .i64 (D : Nat))) (fun q hq => by cases hq; show w.heap.size ≤ w1.heap.size; omega)) (grown_set _ ⟨w1.heap.size, 4, none⟩ (.int .i64 (DB : Nat))) (fun q hq => by cases hq; show w.heap.size ≤ w1.heap.size; omega)); clear hr3 hg3 k3 kr3 g3 HM3 R3)
    | (have HM4 := R4; go_at_call 54; refine (R4.out _ HR3.out).mono ?_; rintro e4 w4 ⟨rfl, hr4, hg4⟩; have k4 := K3.out.grown hg4 (by simp; omega); have hl4 := k4.lt; have kr4 := KR3.out.grown hg4 (by simp; omega); have g4 := grown_trans HG3.out hg4; clear x0 x1 x2 x3 x4 x5 x6 x7 x8 x9 x10 f0 f1 f2 f3 f4 f5 f6 f7 f8 f9; obtain ⟨x0, x1, x2, x3, x4, x5, x6, x7, x8, x9, x10⟩ := blk_cells10 k4; obtain ⟨f0, f1, f2, f3, f4, f5, f6, f7, f8, f9⟩ := blk_fz10 k4; have K4 := Lib.hid (set5 k4 (.int .i64 (E0 : Nat))); have HR4 := Lib.hid (hr4.setFar ⟨w1.heap.size, 5, none⟩ (by show g < w1.heap.size; omega) (.int .i64 (E0 : Nat))); have KR4 := Lib.hid (kr4.far (p := ⟨w1.heap.size, 5, none⟩) (by show w.heap.size ≠ w1.heap.size; omega) (.int .i64 (E0 : Nat))); have HG4 := Lib.hid (grown_over g4 (grown_set _ ⟨w1.heap.size, 5, none⟩ (.int .i64 (E0 : Nat))) (fun q hq => by cases hq; show w.heap.size ≤ w1.heap.size; omega)); clear hr4 hg4 k4 kr4 g4 HM4 R4)
    | (have HM5 := R5; go_at_call 54; refine (R5.out _ HR4.out).mono ?_; rintro e5 w5 ⟨rfl, hr5, hg5⟩; have k5 := K4.out.grown hg5 (by simp; omega); have hl5 := k5.lt; have kr5 := KR4.out.grown hg5 (by simp; omega); have g5 := grown_trans HG4.out hg5; clear x0 x1 x2 x3 x4 x5 x6 x7 x8 x9 x10 f0 f1 f2 f3 f4 f5 f6 f7 f8 f9; obtain ⟨x0, x1, x2, x3, x4, x5, x6, x7, x8, x9, x10⟩ := blk_cells10 k5; obtain ⟨f0, f1, f2, f3, f4, f5, f6, f7, f8, f9⟩ := blk_fz10 k5; have K5 := Lib.hid (set6 k5 (.int .i64 (E1 : Nat))); have HR5 := Lib.hid (hr5.setFar ⟨w1.heap.size, 6, none⟩ (by show g < w1.heap.size; omega) (.int .i64 (E1 : Nat))); have KR5 := Lib.hid (kr5.far (p := ⟨w1.heap.size, 6, none⟩) (by show w.heap.size ≠ w1.heap.size; omega) (.int .i64 (E1 : Nat))); have HG5 := Lib.hid (grown_over g5 (grown_set _ ⟨w1.heap.size, 6, none⟩ (.int .i64 (E1 : Nat))) (fun q hq => by cases hq; show w.heap.size ≤ w1.heap.size; omega)); clear hr5 hg5 k5 kr5 g5 HM5 R5)
    | (refine wpList_load_blk rfl 26 (.tmp 3) rfl w1.heap.size rfl #[.int .i64 (N : Nat), .int .i64 (F : Nat), .int .i64 (B : Nat), .int .i64 (D : Nat), .int .i64 (DB : Nat), .int .i64 (E0 : Nat), .int .i64 (E1 : Nat), .slice none 0 0, .slice none 0 0, .slice none 0 0] K5.out _ Try.underlying26 rfl (by rw [size_pk]; rfl) ?_)
    | (refine wpList_store_blk rfl 26 (.tmp 2) (.tmp 58) rfl w.heap.size #[.int .i64 (N : Nat), .int .i64 (F : Nat), .int .i64 (B : Nat), .int .i64 (D : Nat), .int .i64 (DB : Nat), .int .i64 (E0 : Nat), .int .i64 (E1 : Nat), .slice none 0 0, .slice none 0 0, .slice none 0 0] rfl rfl _ KR5.out (by rw [size_pk]; rfl) rfl (by kernel_rfl) ?_; intro w9 hg9 k9; have K9 := Lib.hid k9; have HR9 := Lib.hid (HR5.out.grown hg9 (fun q hq => by cases hq; omega)); have HG9 := Lib.hid (grown_over HG5.out hg9 (fun q hq => by cases hq; omega)); clear hg9 k9))
  refine bodyPost_ret (v := .agg #[.int .i64 (N : Nat), .int .i64 (F : Nat), .int .i64 (B : Nat), .int .i64 (D : Nat), .int .i64 (DB : Nat), .int .i64 (E0 : Nat), .int .i64 (E1 : Nat), .slice none 0 0, .slice none 0 0, .slice none 0 0]) ?_ rfl ⟨_, _, _, rfl, ⟨⟨0, World.ownsRow_nil _ _ _ _⟩, ⟨0, World.ownsRow_nil _ _ _ _⟩, ownL_nil _ _⟩, HR9.out, HG9.out⟩
  exact results_blk (P := Try.prog) Try.results35 _ rfl K9.out Try.underlying26 rfl (by rw [size_pk]; rfl)
set_option maxRecDepth 100000 in
set_option maxHeartbeats 16000000 in
theorem pread_four (g : Nat) (xs : List Nat) (w : World) (h : Rdr w g (xs, true)) (hk : (c1 xs).2 = 4) :
    Calls Try.prog 35 #[ptr g] w (ReadOutP w g (rPk xs)) := by
  have hgs := h.size
  have hb := h.lt
  have n1 : (c1 xs).2 < 256 := rnum_small (st := (xs, true)) (k := 1) (K := 1) rfl hb
  have b1 : ∀ x ∈ (c1 xs).1.1, x < 256 := Chg.rnum_bytes hb
  have b2 : ∀ x ∈ (c2 xs).1.1, x < 256 := Chg.rnum_bytes b1
  have b3 : ∀ x ∈ (c3 xs).1.1, x < 256 := Chg.rnum_bytes b2
  have b4 : ∀ x ∈ (c4 xs).1.1, x < 256 := Chg.rnum_bytes b3
  have b5 : ∀ x ∈ (c5 xs).1.1, x < 256 := Chg.rnum_bytes b4
  have r1 : ∀ W, Rdr W g (xs, true) → Calls Try.prog 54 #[ptr g, .int .i64 1] W fun e w' => e = .returned (.int .u64 ((c1 xs).2 : Nat)) ∧ Rdr w' g (c1 xs).1 ∧ W.grownBy w' (some g) := fun W hW => rnum_any g (xs, true) 1 W hW
  have r2 : ∀ W, Rdr W g (c1 xs).1 → Calls Try.prog 55 #[ptr g] W fun e w' => e = .returned (.tuple #[.int .i64 ((c2 xs).2 : Nat), .int .i64 ((c3 xs).2 : Nat)]) ∧ Rdr w' g (c3 xs).1 ∧ W.grownBy w' (some g) := fun W hW => readWho_any g (c1 xs).1 W hW
  have r3 : ∀ W, Rdr W g (c3 xs).1 → Calls Try.prog 55 #[ptr g] W fun e w' => e = .returned (.tuple #[.int .i64 ((c4 xs).2 : Nat), .int .i64 ((c5 xs).2 : Nat)]) ∧ Rdr w' g (c5 xs).1 ∧ W.grownBy w' (some g) := fun W hW => readWho_any g (c3 xs).1 W hW
  unfold rPk headC
  generalize (c1 xs).2 = N at *
  generalize (c2 xs).2 = F at *
  generalize (c3 xs).2 = B at *
  generalize (c4 xs).2 = D at *
  generalize (c5 xs).2 = DB at *
  generalize (c1 xs).1 = s1 at *
  generalize (c3 xs).1 = s3 at *
  generalize (c5 xs).1 = s5 at *
  rw [tailK4 (show (N : Int) = 4 by omega)]
  have d1 : ((N : Int) == 1) = false := by rw [beq_eq_false_iff_ne]; omega
  have d2 : ((N : Int) == 2) = false := by rw [beq_eq_false_iff_ne]; omega
  have d5 : ((N : Int) == 5) = false := by rw [beq_eq_false_iff_ne]; omega
  have d3 : ((N : Int) == 3) = false := by rw [beq_eq_false_iff_ne]; omega
  have d4 : ((N : Int) == 4) = true := by rw [beq_iff_eq]; omega
  clear hk
  have r4 := fun W (hW : Rdr W g s5) => readLsas_any g s5 W hW
  clear b1 b2 b3 b4 b5 hb
  have R1 := Lib.hid r1; clear r1
  have R2 := Lib.hid r2; clear r2
  have R3 := Lib.hid r3; clear r3
  have R4 := Lib.hid r4; clear r4
  have HR0 := Lib.hid h; clear h
  go_enter Try.func35, Try.ntmps35
  go_wp2_with (first
    | (have HM1 := R1; go_at_call 54; refine (R1.out _ (HR0.out.alloc _)).mono ?_; rintro e1 w1 ⟨rfl, hr1, hg1⟩; have kr1 := (Blk.new w 26 zC).grown hg1 (by simp; omega); have hl1 := kr1.lt; have HR1 := Lib.hid hr1; have HG1 := Lib.hid (grown_trans (World.grownBy_alloc w (Obj.cells zC 26) (some g)) hg1); have KR1 := Lib.hid kr1; clear hr1 hg1 kr1 HM1 R1)
    | (have HM2 := R2; go_at_call 55; refine (R2.out _ (HR1.out.alloc _)).mono ?_; rintro e2 w2 ⟨rfl, hr2, hg2⟩; have k2 := (Blk.new w1 26 #[.int .i64 (N : Nat), .int .i64 0, .int .i64 0, .int .i64 0, .int .i64 0, .int .i64 0, .int .i64 0, .slice none 0 0, .slice none 0 0, .slice none 0 0]).grown hg2 (by simp; omega); have hl2 := k2.lt; have kr2 := (KR1.out.alloc _).grown hg2 (by simp; omega); have g2 := grown_trans (grown_trans HG1.out (World.grownBy_alloc w1 (Obj.cells #[.int .i64 (N : Nat), .int .i64 0, .int .i64 0, .int .i64 0, .int .i64 0, .int .i64 0, .int .i64 0, .slice none 0 0, .slice none 0 0, .slice none 0 0] 26) (some g))) hg2; obtain ⟨x0, x1, x2, x3, x4, x5, x6, x7, x8, x9, x10⟩ := blk_cells10 k2; obtain ⟨f0, f1, f2, f3, f4, f5, f6, f7, f8, f9⟩ := blk_fz10 k2; have K2 := Lib.hid (set2 (set1 k2 (.int .i64 (F : Nat))) (.int .i64 (B : Nat))); have HR2 := Lib.hid ((hr2.setFar ⟨w1.heap.size, 1, none⟩ (by show g < w1.heap.size; omega) (.int .i64 (F : Nat))).setFar ⟨w1.heap.size, 2, none⟩ (by show g < w1.heap.size; omega) (.int .i64 (B : Nat))); have KR2 := Lib.hid ((kr2.far (p := ⟨w1.heap.size, 1, none⟩) (by show w.heap.size ≠ w1.heap.size; omega) (.int .i64 (F : Nat))).far (p := ⟨w1.heap.size, 2, none⟩) (by show w.heap.size ≠ w1.heap.size; omega) (.int .i64 (B : Nat))); have HG2 := Lib.hid (grown_over (grown_over g2 (grown_set _ ⟨w1.heap.size, 1, none⟩ (.int .i64 (F : Nat))) (fun q hq => by cases hq; show w.heap.size ≤ w1.heap.size; omega)) (grown_set _ ⟨w1.heap.size, 2, none⟩ (.int .i64 (B : Nat))) (fun q hq => by cases hq; show w.heap.size ≤ w1.heap.size; omega)); clear hr2 hg2 k2 kr2 g2 HM2 R2)
    | (have HM3 := R3; go_at_call 55; refine (R3.out _ HR2.out).mono ?_; rintro e3 w3 ⟨rfl, hr3, hg3⟩; have k3 := K2.out.grown hg3 (by simp; omega); have hl3 := k3.lt; have kr3 := KR2.out.grown hg3 (by simp; omega); have g3 := grown_trans HG2.out hg3; clear x0 x1 x2 x3 x4 x5 x6 x7 x8 x9 x10 f0 f1 f2 f3 f4 f5 f6 f7 f8 f9; obtain ⟨x0, x1, x2, x3, x4, x5, x6, x7, x8, x9, x10⟩ := blk_cells10 k3; obtain ⟨f0, f1, f2, f3, f4, f5, f6, f7, f8, f9⟩ := blk_fz10 k3; have K3 := Lib.hid (set4_ (set3 k3 (.int .i64 (D : Nat))) (.int .i64 (DB : Nat))); have HR3 := Lib.hid ((hr3.setFar ⟨w1.heap.size, 3, none⟩ (by show g < w1.heap.size; omega) (.int .i64 (D : Nat))).setFar ⟨w1.heap.size, 4, none⟩ (by show g < w1.heap.size; omega) (.int .i64 (DB : Nat))); have KR3 := Lib.hid ((kr3.far (p := ⟨w1.heap.size, 3, none⟩) (by show w.heap.size ≠ w1.heap.size; omega) (.int .i64 (D : Nat))).far (p := ⟨w1.heap.size, 4, none⟩) (by show w.heap.size ≠ w1.heap.size; omega) (.int .i64 (DB : Nat))); have HG3 := Lib.hid (grown_over (grown_over g3 (grown_set _ ⟨w1.heap.size, 3, none⟩ (.int .i64 (D : Nat))) (fun q hq => by cases hq; show w.heap.size ≤ w1.heap.size; omega)) (grown_set _ ⟨w1.heap.size, 4, none⟩ (.int .i64 (DB : Nat))) (fun q hq => by cases hq; show w.heap.size ≤ w1.heap.size; omega)); clear hr3 hg3 k3 kr3 g3 HM3 R3)
    | (have HM4 := R4; go_at_call 58; refine (R4.out _ HR3.out).mono ?_; rintro e4 w4 ⟨v4, rfl, ho4, hr4, hg4⟩; obtain ⟨A4, n4_, c4_, rfl⟩ := ownL_form14 ho4; have k4 := K3.out.grown hg4 (by simp; omega); have hl4 := k4.lt; have kr4 := KR3.out.grown hg4 (by simp; omega); have g4 := grown_trans HG3.out hg4; clear x0 x1 x2 x3 x4 x5 x6 x7 x8 x9 x10 f0 f1 f2 f3 f4 f5 f6 f7 f8 f9; obtain ⟨x0, x1, x2, x3, x4, x5, x6, x7, x8, x9, x10⟩ := blk_cells10 k4; obtain ⟨f0, f1, f2, f3, f4, f5, f6, f7, f8, f9⟩ := blk_fz10 k4; have K4 := Lib.hid (set9 k4 (.slice A4 n4_ c4_)); have HR4 := Lib.hid (hr4.setFar ⟨w1.heap.size, 9, none⟩ (by show g < w1.heap.size; omega) (.slice A4 n4_ c4_)); have KR4 := Lib.hid (kr4.far (p := ⟨w1.heap.size, 9, none⟩) (by show w.heap.size ≠ w1.heap.size; omega) (.slice A4 n4_ c4_)); have HG4 := Lib.hid (grown_over g4 (grown_set _ ⟨w1.heap.size, 9, none⟩ (.slice A4 n4_ c4_)) (fun q hq => by cases hq; show w.heap.size ≤ w1.heap.size; omega)); have HO := Lib.hid (ownL_more14 (ownL_gr14 ho4 (grown_set w4 ⟨w1.heap.size, 9, none⟩ (.slice A4 n4_ c4_)) (by show w1.heap.size < _; simp; omega)) (base' := w.heap.size + 1) (by simp; omega)); clear hr4 hg4 k4 kr4 g4 HM4 R4)
    | (refine wpList_load_blk rfl 26 (.tmp 3) rfl w1.heap.size rfl #[.int .i64 (N : Nat), .int .i64 (F : Nat), .int .i64 (B : Nat), .int .i64 (D : Nat), .int .i64 (DB : Nat), .int .i64 0, .int .i64 0, .slice none 0 0, .slice none 0 0, .slice A4 n4_ c4_] K4.out _ Try.underlying26 rfl (by rw [size_pk]; rfl) ?_)
    | (refine wpList_store_blk rfl 26 (.tmp 2) (.tmp 58) rfl w.heap.size #[.int .i64 (N : Nat), .int .i64 (F : Nat), .int .i64 (B : Nat), .int .i64 (D : Nat), .int .i64 (DB : Nat), .int .i64 0, .int .i64 0, .slice none 0 0, .slice none 0 0, .slice A4 n4_ c4_] rfl rfl _ KR4.out (by rw [size_pk]; rfl) rfl (by kernel_rfl) ?_; intro w9 hg9 k9; have K9 := Lib.hid k9; have HR9 := Lib.hid (HR4.out.grown hg9 (fun q hq => by cases hq; omega)); have HG9 := Lib.hid (grown_over HG4.out hg9 (fun q hq => by cases hq; omega)); have HO9 := Lib.hid (ownL_more14 (ownL_gr14 HO.out hg9 (by omega)) (base' := w.heap.size) (by omega)); clear hg9 k9))
  refine bodyPost_ret (v := .agg #[.int .i64 (N : Nat), .int .i64 (F : Nat), .int .i64 (B : Nat), .int .i64 (D : Nat), .int .i64 (DB : Nat), .int .i64 0, .int .i64 0, .slice none 0 0, .slice none 0 0, .slice A4 n4_ c4_]) ?_ rfl ⟨_, _, _, rfl, ⟨⟨0, World.ownsRow_nil _ _ _ _⟩, ⟨0, World.ownsRow_nil _ _ _ _⟩, HO9.out⟩, HR9.out, HG9.out⟩
  exact results_blk (P := Try.prog) Try.results35 _ rfl K9.out Try.underlying26 rfl (by rw [size_pk]; rfl)
set_option maxRecDepth 100000 in
set_option maxHeartbeats 16000000 in
theorem pread_five (g : Nat) (xs : List Nat) (w : World) (h : Rdr w g (xs, true)) (hk : (c1 xs).2 = 5) :
    Calls Try.prog 35 #[ptr g] w (ReadOutP w g (rPk xs)) := by
  have hgs := h.size
  have hb := h.lt
  have n1 : (c1 xs).2 < 256 := rnum_small (st := (xs, true)) (k := 1) (K := 1) rfl hb
  have b1 : ∀ x ∈ (c1 xs).1.1, x < 256 := Chg.rnum_bytes hb
  have b2 : ∀ x ∈ (c2 xs).1.1, x < 256 := Chg.rnum_bytes b1
  have b3 : ∀ x ∈ (c3 xs).1.1, x < 256 := Chg.rnum_bytes b2
  have b4 : ∀ x ∈ (c4 xs).1.1, x < 256 := Chg.rnum_bytes b3
  have b5 : ∀ x ∈ (c5 xs).1.1, x < 256 := Chg.rnum_bytes b4
  have r1 : ∀ W, Rdr W g (xs, true) → Calls Try.prog 54 #[ptr g, .int .i64 1] W fun e w' => e = .returned (.int .u64 ((c1 xs).2 : Nat)) ∧ Rdr w' g (c1 xs).1 ∧ W.grownBy w' (some g) := fun W hW => rnum_any g (xs, true) 1 W hW
  have r2 : ∀ W, Rdr W g (c1 xs).1 → Calls Try.prog 55 #[ptr g] W fun e w' => e = .returned (.tuple #[.int .i64 ((c2 xs).2 : Nat), .int .i64 ((c3 xs).2 : Nat)]) ∧ Rdr w' g (c3 xs).1 ∧ W.grownBy w' (some g) := fun W hW => readWho_any g (c1 xs).1 W hW
  have r3 : ∀ W, Rdr W g (c3 xs).1 → Calls Try.prog 55 #[ptr g] W fun e w' => e = .returned (.tuple #[.int .i64 ((c4 xs).2 : Nat), .int .i64 ((c5 xs).2 : Nat)]) ∧ Rdr w' g (c5 xs).1 ∧ W.grownBy w' (some g) := fun W hW => readWho_any g (c3 xs).1 W hW
  unfold rPk headC
  generalize (c1 xs).2 = N at *
  generalize (c2 xs).2 = F at *
  generalize (c3 xs).2 = B at *
  generalize (c4 xs).2 = D at *
  generalize (c5 xs).2 = DB at *
  generalize (c1 xs).1 = s1 at *
  generalize (c3 xs).1 = s3 at *
  generalize (c5 xs).1 = s5 at *
  rw [tailK5 (show (N : Int) = 5 by omega)]
  have d1 : ((N : Int) == 1) = false := by rw [beq_eq_false_iff_ne]; omega
  have d2 : ((N : Int) == 2) = false := by rw [beq_eq_false_iff_ne]; omega
  have d5 : ((N : Int) == 5) = true := by rw [beq_iff_eq]; omega
  clear hk
  have r4 := fun W (hW : Rdr W g s5) => readItems_any g s5 W hW
  clear b1 b2 b3 b4 b5 hb
  have R1 := Lib.hid r1; clear r1
  have R2 := Lib.hid r2; clear r2
  have R3 := Lib.hid r3; clear r3
  have R4 := Lib.hid r4; clear r4
  have HR0 := Lib.hid h; clear h
  go_enter Try.func35, Try.ntmps35
  go_wp2_with (first
    | (have HM1 := R1; go_at_call 54; refine (R1.out _ (HR0.out.alloc _)).mono ?_; rintro e1 w1 ⟨rfl, hr1, hg1⟩; have kr1 := (Blk.new w 26 zC).grown hg1 (by simp; omega); have hl1 := kr1.lt; have HR1 := Lib.hid hr1; have HG1 := Lib.hid (grown_trans (World.grownBy_alloc w (Obj.cells zC 26) (some g)) hg1); have KR1 := Lib.hid kr1; clear hr1 hg1 kr1 HM1 R1)
    | (have HM2 := R2; go_at_call 55; refine (R2.out _ (HR1.out.alloc _)).mono ?_; rintro e2 w2 ⟨rfl, hr2, hg2⟩; have k2 := (Blk.new w1 26 #[.int .i64 (N : Nat), .int .i64 0, .int .i64 0, .int .i64 0, .int .i64 0, .int .i64 0, .int .i64 0, .slice none 0 0, .slice none 0 0, .slice none 0 0]).grown hg2 (by simp; omega); have hl2 := k2.lt; have kr2 := (KR1.out.alloc _).grown hg2 (by simp; omega); have g2 := grown_trans (grown_trans HG1.out (World.grownBy_alloc w1 (Obj.cells #[.int .i64 (N : Nat), .int .i64 0, .int .i64 0, .int .i64 0, .int .i64 0, .int .i64 0, .int .i64 0, .slice none 0 0, .slice none 0 0, .slice none 0 0] 26) (some g))) hg2; obtain ⟨x0, x1, x2, x3, x4, x5, x6, x7, x8, x9, x10⟩ := blk_cells10 k2; obtain ⟨f0, f1, f2, f3, f4, f5, f6, f7, f8, f9⟩ := blk_fz10 k2; have K2 := Lib.hid (set2 (set1 k2 (.int .i64 (F : Nat))) (.int .i64 (B : Nat))); have HR2 := Lib.hid ((hr2.setFar ⟨w1.heap.size, 1, none⟩ (by show g < w1.heap.size; omega) (.int .i64 (F : Nat))).setFar ⟨w1.heap.size, 2, none⟩ (by show g < w1.heap.size; omega) (.int .i64 (B : Nat))); have KR2 := Lib.hid ((kr2.far (p := ⟨w1.heap.size, 1, none⟩) (by show w.heap.size ≠ w1.heap.size; omega) (.int .i64 (F : Nat))).far (p := ⟨w1.heap.size, 2, none⟩) (by show w.heap.size ≠ w1.heap.size; omega) (.int .i64 (B : Nat))); have HG2 := Lib.hid (grown_over (grown_over g2 (grown_set _ ⟨w1.heap.size, 1, none⟩ (.int .i64 (F : Nat))) (fun q hq => by cases hq; show w.heap.size ≤ w1.heap.size; omega)) (grown_set _ ⟨w1.heap.size, 2, none⟩ (.int .i64 (B : Nat))) (fun q hq => by cases hq; show w.heap.size ≤ w1.heap.size; omega)); clear hr2 hg2 k2 kr2 g2 HM2 R2)
    | (have HM3 := R3; go_at_call 55; refine (R3.out _ HR2.out).mono ?_; rintro e3 w3 ⟨rfl, hr3, hg3⟩; have k3 := K2.out.grown hg3 (by simp; omega); have hl3 := k3.lt; have kr3 := KR2.out.grown hg3 (by simp; omega); have g3 := grown_trans HG2.out hg3; clear x0 x1 x2 x3 x4 x5 x6 x7 x8 x9 x10 f0 f1 f2 f3 f4 f5 f6 f7 f8 f9; obtain ⟨x0, x1, x2, x3, x4, x5, x6, x7, x8, x9, x10⟩ := blk_cells10 k3; obtain ⟨f0, f1, f2, f3, f4, f5, f6, f7, f8, f9⟩ := blk_fz10 k3; have K3 := Lib.hid (set4_ (set3 k3 (.int .i64 (D : Nat))) (.int .i64 (DB : Nat))); have HR3 := Lib.hid ((hr3.setFar ⟨w1.heap.size, 3, none⟩ (by show g < w1.heap.size; omega) (.int .i64 (D : Nat))).setFar ⟨w1.heap.size, 4, none⟩ (by show g < w1.heap.size; omega) (.int .i64 (DB : Nat))); have KR3 := Lib.hid ((kr3.far (p := ⟨w1.heap.size, 3, none⟩) (by show w.heap.size ≠ w1.heap.size; omega) (.int .i64 (D : Nat))).far (p := ⟨w1.heap.size, 4, none⟩) (by show w.heap.size ≠ w1.heap.size; omega) (.int .i64 (DB : Nat))); have HG3 := Lib.hid (grown_over (grown_over g3 (grown_set _ ⟨w1.heap.size, 3, none⟩ (.int .i64 (D : Nat))) (fun q hq => by cases hq; show w.heap.size ≤ w1.heap.size; omega)) (grown_set _ ⟨w1.heap.size, 4, none⟩ (.int .i64 (DB : Nat))) (fun q hq => by cases hq; show w.heap.size ≤ w1.heap.size; omega)); clear hr3 hg3 k3 kr3 g3 HM3 R3)
    | (have HM4 := R4; go_at_call 57; refine (R4.out _ HR3.out).mono ?_; rintro e4 w4 ⟨v4, q4, rfl, ho4, hr4, hg4⟩; obtain ⟨A4, n4_, c4_, rfl⟩ := own_form14 ho4; have k4 := K3.out.grown hg4 (by simp; omega); have hl4 := k4.lt; have kr4 := KR3.out.grown hg4 (by simp; omega); have g4 := grown_trans HG3.out hg4; clear x0 x1 x2 x3 x4 x5 x6 x7 x8 x9 x10 f0 f1 f2 f3 f4 f5 f6 f7 f8 f9; obtain ⟨x0, x1, x2, x3, x4, x5, x6, x7, x8, x9, x10⟩ := blk_cells10 k4; obtain ⟨f0, f1, f2, f3, f4, f5, f6, f7, f8, f9⟩ := blk_fz10 k4; have K4 := Lib.hid (set8 k4 (.slice A4 n4_ c4_)); have HR4 := Lib.hid (hr4.setFar ⟨w1.heap.size, 8, none⟩ (by show g < w1.heap.size; omega) (.slice A4 n4_ c4_)); have KR4 := Lib.hid (kr4.far (p := ⟨w1.heap.size, 8, none⟩) (by show w.heap.size ≠ w1.heap.size; omega) (.slice A4 n4_ c4_)); have HG4 := Lib.hid (grown_over g4 (grown_set _ ⟨w1.heap.size, 8, none⟩ (.slice A4 n4_ c4_)) (fun q hq => by cases hq; show w.heap.size ≤ w1.heap.size; omega)); have HO := Lib.hid (own_mono (own_gr14 ho4 (grown_set w4 ⟨w1.heap.size, 8, none⟩ (.slice A4 n4_ c4_)) (by show w1.heap.size < _; simp; omega)) (base' := w.heap.size + 1) (by simp; omega)); clear hr4 hg4 k4 kr4 g4 HM4 R4)
    | (refine wpList_load_blk rfl 26 (.tmp 3) rfl w1.heap.size rfl #[.int .i64 (N : Nat), .int .i64 (F : Nat), .int .i64 (B : Nat), .int .i64 (D : Nat), .int .i64 (DB : Nat), .int .i64 0, .int .i64 0, .slice none 0 0, .slice A4 n4_ c4_, .slice none 0 0] K4.out _ Try.underlying26 rfl (by rw [size_pk]; rfl) ?_)
    | (refine wpList_store_blk rfl 26 (.tmp 2) (.tmp 58) rfl w.heap.size #[.int .i64 (N : Nat), .int .i64 (F : Nat), .int .i64 (B : Nat), .int .i64 (D : Nat), .int .i64 (DB : Nat), .int .i64 0, .int .i64 0, .slice none 0 0, .slice A4 n4_ c4_, .slice none 0 0] rfl rfl _ KR4.out (by rw [size_pk]; rfl) rfl (by kernel_rfl) ?_; intro w9 hg9 k9; have K9 := Lib.hid k9; have HR9 := Lib.hid (HR4.out.grown hg9 (fun q hq => by cases hq; omega)); have HG9 := Lib.hid (grown_over HG4.out hg9 (fun q hq => by cases hq; omega)); have HO9 := Lib.hid (own_mono (own_gr14 HO.out hg9 (by omega)) (base' := w.heap.size) (by omega)); clear hg9 k9))
  refine bodyPost_ret (v := .agg #[.int .i64 (N : Nat), .int .i64 (F : Nat), .int .i64 (B : Nat), .int .i64 (D : Nat), .int .i64 (DB : Nat), .int .i64 0, .int .i64 0, .slice none 0 0, .slice A4 n4_ c4_, .slice none 0 0]) ?_ rfl ⟨_, _, _, rfl, ⟨⟨0, World.ownsRow_nil _ _ _ _⟩, ⟨_, HO9.out⟩, ownL_nil _ _⟩, HR9.out, HG9.out⟩
  exact results_blk (P := Try.prog) Try.results35 _ rfl K9.out Try.underlying26 rfl (by rw [size_pk]; rfl)
set_option maxRecDepth 100000 in
set_option maxHeartbeats 16000000 in
theorem pread_none (g : Nat) (xs : List Nat) (w : World) (h : Rdr w g (xs, true)) (k1 : (c1 xs).2 ≠ 1) (k2 : (c1 xs).2 ≠ 2) (k3 : (c1 xs).2 ≠ 3) (k4 : (c1 xs).2 ≠ 4) (k5 : (c1 xs).2 ≠ 5) :
    Calls Try.prog 35 #[ptr g] w (ReadOutP w g (rPk xs)) := by
  have hgs := h.size
  have hb := h.lt
  have n1 : (c1 xs).2 < 256 := rnum_small (st := (xs, true)) (k := 1) (K := 1) rfl hb
  have b1 : ∀ x ∈ (c1 xs).1.1, x < 256 := Chg.rnum_bytes hb
  have b2 : ∀ x ∈ (c2 xs).1.1, x < 256 := Chg.rnum_bytes b1
  have b3 : ∀ x ∈ (c3 xs).1.1, x < 256 := Chg.rnum_bytes b2
  have b4 : ∀ x ∈ (c4 xs).1.1, x < 256 := Chg.rnum_bytes b3
  have b5 : ∀ x ∈ (c5 xs).1.1, x < 256 := Chg.rnum_bytes b4
  have r1 : ∀ W, Rdr W g (xs, true) → Calls Try.prog 54 #[ptr g, .int .i64 1] W fun e w' => e = .returned (.int .u64 ((c1 xs).2 : Nat)) ∧ Rdr w' g (c1 xs).1 ∧ W.grownBy w' (some g) := fun W hW => rnum_any g (xs, true) 1 W hW
  have r2 : ∀ W, Rdr W g (c1 xs).1 → Calls Try.prog 55 #[ptr g] W fun e w' => e = .returned (.tuple #[.int .i64 ((c2 xs).2 : Nat), .int .i64 ((c3 xs).2 : Nat)]) ∧ Rdr w' g (c3 xs).1 ∧ W.grownBy w' (some g) := fun W hW => readWho_any g (c1 xs).1 W hW
  have r3 : ∀ W, Rdr W g (c3 xs).1 → Calls Try.prog 55 #[ptr g] W fun e w' => e = .returned (.tuple #[.int .i64 ((c4 xs).2 : Nat), .int .i64 ((c5 xs).2 : Nat)]) ∧ Rdr w' g (c5 xs).1 ∧ W.grownBy w' (some g) := fun W hW => readWho_any g (c3 xs).1 W hW
  unfold rPk headC
  generalize (c1 xs).2 = N at *
  generalize (c2 xs).2 = F at *
  generalize (c3 xs).2 = B at *
  generalize (c4 xs).2 = D at *
  generalize (c5 xs).2 = DB at *
  generalize (c1 xs).1 = s1 at *
  generalize (c3 xs).1 = s3 at *
  generalize (c5 xs).1 = s5 at *
  rw [tailK0 (show (N : Int) ≠ 1 by omega) (show (N : Int) ≠ 2 by omega) (show (N : Int) ≠ 3 by omega) (show (N : Int) ≠ 4 by omega) (show (N : Int) ≠ 5 by omega)]
  have d1 : ((N : Int) == 1) = false := by rw [beq_eq_false_iff_ne]; omega
  have d2 : ((N : Int) == 2) = false := by rw [beq_eq_false_iff_ne]; omega
  have d5 : ((N : Int) == 5) = false := by rw [beq_eq_false_iff_ne]; omega
  have d3 : ((N : Int) == 3) = false := by rw [beq_eq_false_iff_ne]; omega
  have d4 : ((N : Int) == 4) = false := by rw [beq_eq_false_iff_ne]; omega
  clear k1 k2 k3 k4 k5
  clear b1 b2 b3 b4 b5 hb
  have R1 := Lib.hid r1; clear r1
  have R2 := Lib.hid r2; clear r2
  have R3 := Lib.hid r3; clear r3
  have HR0 := Lib.hid h; clear h
  go_enter Try.func35, Try.ntmps35
  go_wp2_with (first
    | (have HM1 := R1; go_at_call 54; refine (R1.out _ (HR0.out.alloc _)).mono ?_; rintro e1 w1 ⟨rfl, hr1, hg1⟩; have kr1 := (Blk.new w 26 zC).grown hg1 (by simp; omega); have hl1 := kr1.lt; have HR1 := Lib.hid hr1; have HG1 := Lib.hid (grown_trans (World.grownBy_alloc w (Obj.cells zC 26) (some g)) hg1); have KR1 := Lib.hid kr1; clear hr1 hg1 kr1 HM1 R1)
    | (have HM2 := R2; go_at_call 55; refine (R2.out _ (HR1.out.alloc _)).mono ?_; rintro e2 w2 ⟨rfl, hr2, hg2⟩; have k2 := (Blk.new w1 26 #[.int .i64 (N : Nat), .int .i64 0, .int .i64 0, .int .i64 0, .int .i64 0, .int .i64 0, .int .i64 0, .slice none 0 0, .slice none 0 0, .slice none 0 0]).grown hg2 (by simp; omega); have hl2 := k2.lt; have kr2 := (KR1.out.alloc _).grown hg2 (by simp; omega); have g2 := grown_trans (grown_trans HG1.out (World.grownBy_alloc w1 (Obj.cells #[.int .i64 (N : Nat), .int .i64 0, .int .i64 0, .int .i64 0, .int .i64 0, .int .i64 0, .int .i64 0, .slice none 0 0, .slice none 0 0, .slice none 0 0] 26) (some g))) hg2; obtain ⟨x0, x1, x2, x3, x4, x5, x6, x7, x8, x9, x10⟩ := blk_cells10 k2; obtain ⟨f0, f1, f2, f3, f4, f5, f6, f7, f8, f9⟩ := blk_fz10 k2; have K2 := Lib.hid (set2 (set1 k2 (.int .i64 (F : Nat))) (.int .i64 (B : Nat))); have HR2 := Lib.hid ((hr2.setFar ⟨w1.heap.size, 1, none⟩ (by show g < w1.heap.size; omega) (.int .i64 (F : Nat))).setFar ⟨w1.heap.size, 2, none⟩ (by show g < w1.heap.size; omega) (.int .i64 (B : Nat))); have KR2 := Lib.hid ((kr2.far (p := ⟨w1.heap.size, 1, none⟩) (by show w.heap.size ≠ w1.heap.size; omega) (.int .i64 (F : Nat))).far (p := ⟨w1.heap.size, 2, none⟩) (by show w.heap.size ≠ w1.heap.size; omega) (.int .i64 (B : Nat))); have HG2 := Lib.hid (grown_over (grown_over g2 (grown_set _ ⟨w1.heap.size, 1, none⟩ (.int .i64 (F : Nat))) (fun q hq => by cases hq; show w.heap.size ≤ w1.heap.size; omega)) (grown_set _ ⟨w1.heap.size, 2, none⟩ (.int .i64 (B : Nat))) (fun q hq => by cases hq; show w.heap.size ≤ w1.heap.size; omega)); clear hr2 hg2 k2 kr2 g2 HM2 R2)
    | (have HM3 := R3; go_at_call 55; refine (R3.out _ HR2.out).mono ?_; rintro e3 w3 ⟨rfl, hr3, hg3⟩; have k3 := K2.out.grown hg3 (by simp; omega); have hl3 := k3.lt; have kr3 := KR2.out.grown hg3 (by simp; omega); have g3 := grown_trans HG2.out hg3; clear x0 x1 x2 x3 x4 x5 x6 x7 x8 x9 x10 f0 f1 f2 f3 f4 f5 f6 f7 f8 f9; obtain ⟨x0, x1, x2, x3, x4, x5, x6, x7, x8, x9, x10⟩ := blk_cells10 k3; obtain ⟨f0, f1, f2, f3, f4, f5, f6, f7, f8, f9⟩ := blk_fz10 k3; have K3 := Lib.hid (set4_ (set3 k3 (.int .i64 (D : Nat))) (.int .i64 (DB : Nat))); have HR3 := Lib.hid ((hr3.setFar ⟨w1.heap.size, 3, none⟩ (by show g < w1.heap.size; omega) (.int .i64 (D : Nat))).setFar ⟨w1.heap.size, 4, none⟩ (by show g < w1.heap.size; omega) (.int .i64 (DB : Nat))); have KR3 := Lib.hid ((kr3.far (p := ⟨w1.heap.size, 3, none⟩) (by show w.heap.size ≠ w1.heap.size; omega) (.int .i64 (D : Nat))).far (p := ⟨w1.heap.size, 4, none⟩) (by show w.heap.size ≠ w1.heap.size; omega) (.int .i64 (DB : Nat))); have HG3 := Lib.hid (grown_over (grown_over g3 (grown_set _ ⟨w1.heap.size, 3, none⟩ (.int .i64 (D : Nat))) (fun q hq => by cases hq; show w.heap.size ≤ w1.heap.size; omega)) (grown_set _ ⟨w1.heap.size, 4, none⟩ (.int .i64 (DB : Nat))) (fun q hq => by cases hq; show w.heap.size ≤ w1.heap.size; omega)); clear hr3 hg3 k3 kr3 g3 HM3 R3)
    | (refine wpList_load_blk rfl 26 (.tmp 3) rfl w1.heap.size rfl #[.int .i64 (N : Nat), .int .i64 (F : Nat), .int .i64 (B : Nat), .int .i64 (D : Nat), .int .i64 (DB : Nat), .int .i64 0, .int .i64 0, .slice none 0 0, .slice none 0 0, .slice none 0 0] K3.out _ Try.underlying26 rfl (by rw [size_pk]; rfl) ?_)
    | (refine wpList_store_blk rfl 26 (.tmp 2) (.tmp 58) rfl w.heap.size #[.int .i64 (N : Nat), .int .i64 (F : Nat), .int .i64 (B : Nat), .int .i64 (D : Nat), .int .i64 (DB : Nat), .int .i64 0, .int .i64 0, .slice none 0 0, .slice none 0 0, .slice none 0 0] rfl rfl _ KR3.out (by rw [size_pk]; rfl) rfl (by kernel_rfl) ?_; intro w9 hg9 k9; have K9 := Lib.hid k9; have HR9 := Lib.hid (HR3.out.grown hg9 (fun q hq => by cases hq; omega)); have HG9 := Lib.hid (grown_over HG3.out hg9 (fun q hq => by cases hq; omega)); clear hg9 k9))
  refine bodyPost_ret (v := .agg #[.int .i64 (N : Nat), .int .i64 (F : Nat), .int .i64 (B : Nat), .int .i64 (D : Nat), .int .i64 (DB : Nat), .int .i64 0, .int .i64 0, .slice none 0 0, .slice none 0 0, .slice none 0 0]) ?_ rfl ⟨_, _, _, rfl, ⟨⟨0, World.ownsRow_nil _ _ _ _⟩, ⟨0, World.ownsRow_nil _ _ _ _⟩, ownL_nil _ _⟩, HR9.out, HG9.out⟩
  exact results_blk (P := Try.prog) Try.results35 _ rfl K9.out Try.underlying26 rfl (by rw [size_pk]; rfl)
theorem pread_any (g : Nat) (xs : List Nat) (w : World) (h : Rdr w g (xs, true)) :
    Calls Try.prog 35 #[ptr g] w (ReadOutP w g (rPk xs)) := by
  by_cases k1 : (c1 xs).2 = 1
  · exact pread_one g xs w h k1
  by_cases k2 : (c1 xs).2 = 2
  · exact pread_two g xs w h k2
  by_cases k3 : (c1 xs).2 = 3
  · exact pread_three g xs w h k3
  by_cases k4 : (c1 xs).2 = 4
  · exact pread_four g xs w h k4
  by_cases k5 : (c1 xs).2 = 5
  · exact pread_five g xs w h k5
  exact pread_none g xs w h k1 k2 k3 k4 k5
end Go.Proofs.Ytpolpppnajfhdaa.Pkt
/- The contracts of a reader of bytes: Left and Done (layer 2). -/
namespace Go.Proofs.Ytpolpppnajfhdaa.Oct
open Go.RowKit Go.Proofs.Ytpolpppnajfhdaa.Mem
set_option linter.unusedVariables false
set_option maxHeartbeats 400000 in
theorem left_any (g : Nat) (st : St) (w : World) (h : Rdr w g st) :
    Calls Try.prog 60 #[ptr g] w fun e w' => e = .returned (.int .i64 (st.1.length : Nat)) ∧ w = w' := by
  obtain ⟨A, n, c, hb, hx, hnc, hm⟩ := h
  have hc0 : w.cell? ⟨g, 0, none⟩ = some (.slice A n c) := by rw [hb.cell]; rfl
  have hl := hx.1
  have HL := Lib.hid hl; clear hl
  go_enter Try.func60, Try.ntmps60
  go_wp2
  go_ret
  exact ⟨ret_int (by rw [HL.out]), rfl⟩
set_option maxHeartbeats 400000 in
theorem done_any (g : Nat) (st : St) (w : World) (h : Rdr w g st) :
    Calls Try.prog 36 #[ptr g] w fun e w' => e = .returned (.bool (st.2 && decide (st.1.length = 0))) ∧ w = w' := by
  obtain ⟨xs, s⟩ := st
  have h1 := wrong_any g _ w h
  have h2 := left_any g _ w h
  have H1 := Lib.hid h1; clear h1
  have H2 := Lib.hid h2; clear h2
  cases s
  · go_enter Try.func36, Try.ntmps36
    go_wp2_with (first
      | (go_at_call 59; refine (H1.out).mono ?_; rintro e w' ⟨rfl, rfl⟩)
      | (go_at_call 60; refine (H2.out).mono ?_; rintro e w' ⟨rfl, rfl⟩))
    go_ret
    exact ⟨rfl, rfl⟩
  · go_enter Try.func36, Try.ntmps36
    go_wp2_with (first
      | (go_at_call 59; refine (H1.out).mono ?_; rintro e w' ⟨rfl, rfl⟩)
      | (go_at_call 60; refine (H2.out).mono ?_; rintro e w' ⟨rfl, rfl⟩))
    go_ret
    exact ⟨ret_bool (by rw [beq0, Bool.true_and]), rfl⟩
end Go.Proofs.Ytpolpppnajfhdaa.Oct
/- The packet whose bytes they are (layer 14): the contract of packet.Get. Condition: at most 2000 bytes. -/
namespace Go.Proofs.Ytpolpppnajfhdaa.Pkt
open Go.RowKit Go.Proofs.Ytpolpppnajfhdaa.Mem Go.Proofs.Ytpolpppnajfhdaa.Oct Go.Proofs.Ytpolpppnajfhdaa.Lsa Go.Proofs.Ytpolpppnajfhdaa.Bas
open Go.Proofs.Ytpolpppnajfhdaa.Chg (low1 low_low low2 blk_second)
set_option linter.unusedVariables false
set_option linter.unusedSimpArgs false
def errP (r : Option Pk) : Int := match r with | some _ => 0 | none => 2
/-- what Get answers -/
def GetOutP (w : World) (r : Option Pk) (e : Ending) (w' : World) : Prop :=
  ∃ h i l, e = .returned (.tuple #[pkV (r.getD zeroP) h i l, .int .i64 (errP r)]) ∧ PkM w' w'.heap.size h i l (r.getD zeroP) ∧ Below w.heap.size w w'
theorem below_gr {w w1 w2 : World} (h : Below w.heap.size w w1) (hg : w1.grownBy w2 (some w.heap.size)) : Below w.heap.size w w2 := h.grown hg h.size (fun q hq => by cases hq; exact Nat.le_refl _)
set_option maxRecDepth 100000 in
set_option maxHeartbeats 16000000 in
theorem pget_any (v : Value) (xs : List Nat) (w : World) (h : Sl w w.heap.size v xs) (hxl : xs.length ≤ 2000) :
    Calls Try.prog 13 #[v] w (GetOutP w (getC xs)) := by
  obtain ⟨A, n, c, rfl, _⟩ := id h
  have hb0 := low1 (Below.refl w.heap.size w) (.cells zC 26)
  have k0 := Blk.new w 26 zC
  have op := open_sl _ xs _ ((h.below hb0 (Nat.le_refl _)).more hb0.size) hxl
  have hol : (Crc.outOf xs).length ≤ 2000 := by unfold Crc.outOf; split <;> simp; omega
  have NO : ∀ (W : World), getC xs = none → Below w.heap.size w W → GetOutP w (getC xs) (.returned (.tuple #[pkV zeroP (.slice none 0 0) (.slice none 0 0) (.slice none 0 0), .int .i64 2])) W := by
    intro W hc hW
    rw [hc]
    exact ⟨_, _, _, rfl, ⟨lks_nil _ _, lks_nil _ _, las_nil _ _⟩, hW⟩
  have HNO := Lib.hid NO; clear NO
  have HB0 := Lib.hid hb0; clear hb0
  have K0 := Lib.hid k0; clear k0
  cases hok : Crc.okOf xs
  · have hc : getC xs = none := by unfold getC; rw [hok]; rfl
    rw [hok] at op
    have OP := Lib.hid op; clear op h
    have HC := Lib.hid hc; clear hc hok
    go_enter Try.func13, Try.ntmps13
    go_wp2_with (first
      | (go_at_call 33; refine (OP.out).mono ?_; rintro e1 w1 ⟨A1, m1, q1, rfl, hs1, hb1⟩; have K1 := Lib.hid (K0.out.below hb1 K0.out.lt); have HB1 := Lib.hid (low_low HB0.out hb1); clear hs1 hb1)
      | (refine wpList_store_blk rfl 26 (.tmp 2) (.tmp 15) rfl w.heap.size zC rfl rfl _ K1.out (by rw [size_pk]; rfl) rfl (by kernel_rfl) ?_; intro w9 hg9 k9; have K9 := Lib.hid k9; have HB9 := Lib.hid (below_gr HB1.out hg9); clear hg9 k9))
    refine bodyPost_ret (v := .tuple #[.agg zC, .int .i64 2]) ?_ rfl (HNO.out w9 HC.out HB9.out)
    exact results_blk_tmp (P := Try.prog) Try.results13 _ rfl _ rfl K9.out Try.underlying26 rfl (by rw [size_pk]; rfl)
  · rw [hok] at op
    have hcv : getC xs = if (endC (Crc.outOf xs) && mayP (rPk (Crc.outOf xs)).2) = true then some (rPk (Crc.outOf xs)).2 else none := by unfold getC; rw [hok]; rfl
    generalize Crc.outOf xs = ys at *
    have rd := fun (A1 : Option Addr) (m1 q1 : Nat) (W : World) (hW : Sl W W.heap.size (.slice A1 m1 q1) ys) => Oct.read_any (.slice A1 m1 q1) ys W hW (by omega)
    have pr := fun (g : Nat) (W : World) (hW : Rdr W g (ys, true)) => pread_any g ys W hW
    unfold ReadOutP at pr
    have dn := fun (g : Nat) (W : World) (hW : Rdr W g (rPk ys).1) => done_any g (rPk ys).1 W hW
    have hend : ((rPk ys).1.2 && decide ((rPk ys).1.1.length = 0)) = endC ys := rfl
    rw [hend] at dn
    have ck := fun (A1 A2 A3 : Option Addr) (n1 z1 n2 z2 n3 z3 : Nat) (W : World) (hW : PkM W W.heap.size (.slice A1 n1 z1) (.slice A2 n2 z2) (.slice A3 n3 z3) (rPk ys).2) => pcheck_any (rPk ys).2 A1 A2 A3 n1 z1 n2 z2 n3 z3 W hW
    clear hend hol hok
    generalize endC ys = z at *
    generalize (rPk ys).1 = t9 at *
    generalize (rPk ys).2 = p at *
    have OP := Lib.hid op; clear op h
    have RD := Lib.hid rd; clear rd
    have PR := Lib.hid pr; clear pr
    have DN := Lib.hid dn; clear dn
    cases z
    · have HC := Lib.hid (show getC xs = none by rw [hcv]; rfl); clear hcv ck
      go_enter Try.func13, Try.ntmps13
      go_wp2_with (first
        | (go_at_call 33; refine (OP.out).mono ?_; rintro e1 w1 ⟨A1, m1, q1, rfl, hs1, hb1⟩; have K1 := Lib.hid (K0.out.below hb1 K0.out.lt); have HB1 := Lib.hid (low_low HB0.out hb1); have HS1 := Lib.hid hs1; clear hs1 hb1)
        | (go_at_call 34; refine (RD.out _ _ _ _ HS1.out).mono ?_; rintro e2 w2 ⟨g, rfl, hg, hr2, hb2⟩; have K2 := Lib.hid (K1.out.below hb2 K1.out.lt); have hwg : w.heap.size < g := (by have := K1.out.lt; omega); have HB2 := Lib.hid (low_low HB1.out hb2); have HR2 := Lib.hid hr2; clear hr2 hb2 hg)
        | (go_at_call 35; refine (PR.out _ _ HR2.out).mono ?_; rintro e3 w3 ⟨h_, i_, l_, rfl, ho3, hr3, hg3⟩; obtain ⟨B1, b1, y1, rfl⟩ := own_form14 ho3.1.choose_spec; obtain ⟨B2, b2, y2, rfl⟩ := own_form14 ho3.2.1.choose_spec; obtain ⟨B3, b3, y3, rfl⟩ := ownL_form14 ho3.2.2; have K3 := Lib.hid ((K2.out.grown hg3 (by simp; omega)).alloc (.cells (pkC p (.slice B1 b1 y1) (.slice B2 b2 y2) (.slice B3 b3 y3)) 26)); have HB3 := Lib.hid (low1 (HB2.out.grown hg3 HB2.out.size (fun q hq => by cases hq; omega)) (.cells (pkC p (.slice B1 b1 y1) (.slice B2 b2 y2) (.slice B3 b3 y3)) 26)); have HR3 := Lib.hid (hr3.alloc (.cells (pkC p (.slice B1 b1 y1) (.slice B2 b2 y2) (.slice B3 b3 y3)) 26)); clear hr3 hg3 ho3)
        | (go_at_call 36; refine (DN.out _ _ HR3.out).mono ?_; rintro e4 w4 ⟨rfl, rfl⟩)
        | (refine wpList_store_blk rfl 26 (.tmp 2) (.tmp 28) rfl w.heap.size zC rfl rfl _ K3.out (by rw [size_pk]; rfl) rfl (by kernel_rfl) ?_; intro w9 hg9 k9; have K9 := Lib.hid k9; have HB9 := Lib.hid (below_gr HB3.out hg9); clear hg9 k9))
      refine bodyPost_ret (v := .tuple #[.agg zC, .int .i64 2]) ?_ rfl (HNO.out w9 HC.out HB9.out)
      exact results_blk_tmp (P := Try.prog) Try.results13 _ rfl _ rfl K9.out Try.underlying26 rfl (by rw [size_pk]; rfl)
    · cases hm : mayP p
      · rw [hm, errI_f] at ck
        have CK := Lib.hid ck; clear ck
        have HC := Lib.hid (show getC xs = none by rw [hcv, hm]; rfl); clear hcv hm
        go_enter Try.func13, Try.ntmps13
        go_wp2_with (first
          | (go_at_call 33; refine (OP.out).mono ?_; rintro e1 w1 ⟨A1, m1, q1, rfl, hs1, hb1⟩; have K1 := Lib.hid (K0.out.below hb1 K0.out.lt); have HB1 := Lib.hid (low_low HB0.out hb1); have HS1 := Lib.hid hs1; clear hs1 hb1)
          | (go_at_call 34; refine (RD.out _ _ _ _ HS1.out).mono ?_; rintro e2 w2 ⟨g, rfl, hg, hr2, hb2⟩; have K2 := Lib.hid (K1.out.below hb2 K1.out.lt); have hwg : w.heap.size < g := (by have := K1.out.lt; omega); have HB2 := Lib.hid (low_low HB1.out hb2); have HR2 := Lib.hid hr2; clear hr2 hb2 hg)
          | (go_at_call 35; refine (PR.out _ _ HR2.out).mono ?_; rintro e3 w3 ⟨h_, i_, l_, rfl, ho3, hr3, hg3⟩; obtain ⟨B1, b1, y1, rfl⟩ := own_form14 ho3.1.choose_spec; obtain ⟨B2, b2, y2, rfl⟩ := own_form14 ho3.2.1.choose_spec; obtain ⟨B3, b3, y3, rfl⟩ := ownL_form14 ho3.2.2; have hbx := low1 (Below.refl w3.heap.size w3) (.cells (pkC p (.slice B1 b1 y1) (.slice B2 b2 y2) (.slice B3 b3 y3)) 26); have HP3 := Lib.hid (ho3.pkM.up hbx); have K3 := Lib.hid ((K2.out.grown hg3 (by simp; omega)).alloc (.cells (pkC p (.slice B1 b1 y1) (.slice B2 b2 y2) (.slice B3 b3 y3)) 26)); have HB3 := Lib.hid (low1 (HB2.out.grown hg3 HB2.out.size (fun q hq => by cases hq; omega)) (.cells (pkC p (.slice B1 b1 y1) (.slice B2 b2 y2) (.slice B3 b3 y3)) 26)); have HR3 := Lib.hid (hr3.alloc (.cells (pkC p (.slice B1 b1 y1) (.slice B2 b2 y2) (.slice B3 b3 y3)) 26)); clear hr3 hg3 ho3 hbx)
          | (go_at_call 36; refine (DN.out _ _ HR3.out).mono ?_; rintro e4 w4 ⟨rfl, rfl⟩)
          | (go_at_call 9; refine (CK.out _ _ _ _ _ _ _ _ _ _ HP3.out).mono ?_; rintro e5 w5 ⟨rfl, hb5⟩; have K5 := Lib.hid (K3.out.below hb5 K3.out.lt); have HB5 := Lib.hid (low_low HB3.out hb5); clear hb5)
          | (refine wpList_store_blk rfl 26 (.tmp 2) (.tmp 28) rfl w.heap.size zC rfl rfl _ K5.out (by rw [size_pk]; rfl) rfl (by kernel_rfl) ?_; intro w9 hg9 k9; have K9 := Lib.hid k9; have HB9 := Lib.hid (below_gr HB5.out hg9); clear hg9 k9))
        refine bodyPost_ret (v := .tuple #[.agg zC, .int .i64 2]) ?_ rfl (HNO.out w9 HC.out HB9.out)
        exact results_blk_tmp (P := Try.prog) Try.results13 _ rfl _ rfl K9.out Try.underlying26 rfl (by rw [size_pk]; rfl)
      · rw [hm, errI_t] at ck
        have CK := Lib.hid ck; clear ck
        have HC := Lib.hid (show getC xs = some p by rw [hcv, hm]; rfl); clear hcv hm HNO
        go_enter Try.func13, Try.ntmps13
        go_wp2_with (first
          | (go_at_call 33; refine (OP.out).mono ?_; rintro e1 w1 ⟨A1, m1, q1, rfl, hs1, hb1⟩; have K1 := Lib.hid (K0.out.below hb1 K0.out.lt); have HB1 := Lib.hid (low_low HB0.out hb1); have HS1 := Lib.hid hs1; clear hs1 hb1)
          | (go_at_call 34; refine (RD.out _ _ _ _ HS1.out).mono ?_; rintro e2 w2 ⟨g, rfl, hg, hr2, hb2⟩; have K2 := Lib.hid (K1.out.below hb2 K1.out.lt); have hwg : w.heap.size < g := (by have := K1.out.lt; omega); have HB2 := Lib.hid (low_low HB1.out hb2); have hw2 := HB2.out.size; have hl2 := K2.out.lt; have HR2 := Lib.hid hr2; clear hr2 hb2 hg)
          | (go_at_call 35; refine (PR.out _ _ HR2.out).mono ?_; rintro e3 w3 ⟨h_, i_, l_, rfl, ho3, hr3, hg3⟩; obtain ⟨B1, b1, y1, rfl⟩ := own_form14 ho3.1.choose_spec; obtain ⟨B2, b2, y2, rfl⟩ := own_form14 ho3.2.1.choose_spec; obtain ⟨B3, b3, y3, rfl⟩ := ownL_form14 ho3.2.2; have hbx := low1 (Below.refl w3.heap.size w3) (.cells (pkC p (.slice B1 b1 y1) (.slice B2 b2 y2) (.slice B3 b3 y3)) 26); have HO3 := Lib.hid ((ho3.below hbx).more (base' := w.heap.size + 1) (by omega)); have HP3 := Lib.hid (ho3.pkM.up hbx); have K3 := Lib.hid ((K2.out.grown hg3 (by simp; omega)).alloc (.cells (pkC p (.slice B1 b1 y1) (.slice B2 b2 y2) (.slice B3 b3 y3)) 26)); have KB3 := Lib.hid (Blk.new w3 26 (pkC p (.slice B1 b1 y1) (.slice B2 b2 y2) (.slice B3 b3 y3))); have HB3 := Lib.hid (low1 (HB2.out.grown hg3 HB2.out.size (fun q hq => by cases hq; omega)) (.cells (pkC p (.slice B1 b1 y1) (.slice B2 b2 y2) (.slice B3 b3 y3)) 26)); have HR3 := Lib.hid (hr3.alloc (.cells (pkC p (.slice B1 b1 y1) (.slice B2 b2 y2) (.slice B3 b3 y3)) 26)); clear hr3 hg3 ho3 hbx)
          | (go_at_call 36; refine (DN.out _ _ HR3.out).mono ?_; rintro e4 w4 ⟨rfl, rfl⟩)
          | (go_at_call 9; refine (CK.out _ _ _ _ _ _ _ _ _ _ HP3.out).mono ?_; rintro e5 w5 ⟨rfl, hb5⟩; have K5 := Lib.hid (K3.out.below hb5 K3.out.lt); have KB5 := Lib.hid (KB3.out.below hb5 KB3.out.lt); have HB5 := Lib.hid (low_low HB3.out hb5); have HO5 := Lib.hid (HO3.out.below hb5); clear hb5)
          | (refine wpList_load_blk rfl 26 (.tmp 7) rfl w3.heap.size rfl (pkC p (.slice B1 b1 y1) (.slice B2 b2 y2) (.slice B3 b3 y3)) KB5.out _ Try.underlying26 rfl (by rw [size_pk]; rfl) ?_)
          | (refine wpList_store_blk rfl 26 (.tmp 2) (.tmp 29) rfl w.heap.size (pkC p (.slice B1 b1 y1) (.slice B2 b2 y2) (.slice B3 b3 y3)) rfl rfl _ K5.out (by rw [size_pk]; rfl) rfl (by kernel_rfl) ?_; intro w9 hg9 k9; have K9 := Lib.hid k9; have HB9 := Lib.hid (below_gr HB5.out hg9); have HO9 := Lib.hid (HO5.out.gr hg9 (Nat.lt_succ_self _)); clear hg9 k9))
        refine bodyPost_ret (v := .tuple #[.agg (pkC p (.slice B1 b1 y1) (.slice B2 b2 y2) (.slice B3 b3 y3)), .int .i64 0]) ?_ rfl (by rw [HC.out]; exact ⟨_, _, _, rfl, HO9.out.pkM, HB9.out⟩)
        exact results_blk_tmp (P := Try.prog) Try.results13 _ rfl _ rfl K9.out Try.underlying26 rfl (by rw [size_pk]; rfl)
end Go.Proofs.Ytpolpppnajfhdaa.Pkt
/- The laws' own little example of layer 9: it is awake; and how many links an Lsa has. -/
namespace Go.Proofs.Ytpolpppnajfhdaa.Lsa
open Go.RowKit Go.Proofs.Ytpolpppnajfhdaa.Mem Go.Proofs.Ytpolpppnajfhdaa.Oct
set_option linter.unusedVariables false
set_option linter.unusedSimpArgs false
end Go.Proofs.Ytpolpppnajfhdaa.Lsa
/- The laws' own little example of layer 14: it is awake; and whether a packet is light. -/
namespace Go.Proofs.Ytpolpppnajfhdaa.Pkt
open Go.RowKit Go.Proofs.Ytpolpppnajfhdaa.Mem Go.Proofs.Ytpolpppnajfhdaa.Oct Go.Proofs.Ytpolpppnajfhdaa.Lsa Go.Proofs.Ytpolpppnajfhdaa.Bas
open Go.Proofs.Ytpolpppnajfhdaa.Chg (low1 low_low low2 blk_second)
set_option linter.unusedVariables false
set_option linter.unusedSimpArgs false
theorem sl_row {w : World} {base n : Nat} {v : Value} {xs : List Nat} (h : w.ownsRow base 5 1 v n (vals xs)) (hx : ∀ x ∈ xs, x < 256) (hn : n ≤ 1000000) : Sl w w.heap.size v xs := sl_own h hx hn
def exP : Pk := ⟨3, 1, 1, 2, 0, 1, 2, [], [], []⟩
theorem exP_may : mayP exP = true := by decide
theorem exP_len : (putP exP).length = 23 := by
  rw [putP_length]
  rfl
set_option maxRecDepth 20000 in
set_option maxHeartbeats 4000000 in
theorem awake14_any (w : World) : Calls Try.prog 7 #[] w fun e w' => e = .returned (.bool true) ∧ Below w.heap.size w w' := by
  have p1 := fun (W : World) => pput_yes exP none none none 0 0 0 0 0 0 W ⟨lks_nil _ _, lks_nil _ _, las_nil _ _⟩ exP_may
  have p2 := fun (v : Value) (W : World) (hv : Sl W W.heap.size v (putP exP)) => pget_any v (putP exP) W hv (by rw [exP_len]; omega)
  rw [getC_back exP_may] at p2
  unfold PPutOut at p1
  unfold GetOutP at p2
  rw [exP_len] at p1
  have hlt := putP_lt exP
  generalize putP exP = xs at *
  simp only [pkV, exP, Option.getD, errP] at p1 p2
  have P1 := Lib.hid p1; clear p1
  have P2 := Lib.hid p2; clear p2
  have HLT := Lib.hid hlt; clear hlt
  go_enter Try.func7, Try.ntmps7
  go_wp2_with (first
    | (go_at_call 8; refine (P1.out _).mono ?_; rintro e w1 ⟨A1, n1, c1, rfl, hn1, ho1, hb1⟩; have hd1 : (n1 : Int) = 23 := (by omega); subst hn1; have HS1 := Lib.hid (sl_row ho1 HLT.out (by omega)); have HB1 := Lib.hid hb1; clear ho1 hb1)
    | (go_at_call 13; refine (P2.out _ _ HS1.out).mono ?_; rintro e w2 ⟨h_, i_, l_, rfl, hp2, hb2⟩; obtain ⟨B1, b1, y1, rfl, _⟩ := id hp2.1; obtain ⟨B2, b2, y2, rfl, _⟩ := id hp2.2.1; obtain ⟨B3, b3, y3, rfl, _⟩ := id hp2.2.2; have HB2 := Lib.hid (low_low HB1.out hb2); clear hp2 hb2))
  go_ret
  exact ⟨rfl, low1 HB2.out _⟩
end Go.Proofs.Ytpolpppnajfhdaa.Pkt
/- Arms for drawn regions: a struct by value stored into a block as a whole. No program is named here. -/
namespace Go.Proofs.Ytpolpppnajfhdaa.Mem
open Go.RowKit
set_option linter.unusedVariables false
section
variable {P : Program}
end
end Go.Proofs.Ytpolpppnajfhdaa.Mem
