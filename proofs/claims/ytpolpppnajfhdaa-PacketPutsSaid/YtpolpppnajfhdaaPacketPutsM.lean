/- PacketPutsM: the texts PkOpen, PkGet, PkReads, PkRead, PkGot, PkAwake, PkIn, PkRefSame, PkSame, PkRefPut, PacketPuts in one. (Printed by tools/merge.py.) -/
import Derived.Test.YtpolpppnajfhdaaBasIn
import Derived.Test.YtpolpppnajfhdaaBasMem
import Derived.Test.YtpolpppnajfhdaaBasRef
import Derived.Test.YtpolpppnajfhdaaBasSame
import Derived.Test.YtpolpppnajfhdaaBaseGet
import Derived.Test.YtpolpppnajfhdaaBaseSame
import Derived.Test.YtpolpppnajfhdaaBaseWithin
import Derived.Test.YtpolpppnajfhdaaBytes
import Derived.Test.YtpolpppnajfhdaaChgCheck
import Derived.Test.YtpolpppnajfhdaaCrcOpen
import Derived.Test.YtpolpppnajfhdaaLsaAwake
import Derived.Test.YtpolpppnajfhdaaLsaRead
import Derived.Test.YtpolpppnajfhdaaLsaRefPut
import Derived.Test.YtpolpppnajfhdaaPkBack
import Derived.Test.YtpolpppnajfhdaaPkCheck
import Derived.Test.YtpolpppnajfhdaaPkPut
import Derived.Test.YtpolpppnajfhdaaPkRefMay
import Derived.Test.YtpolpppnajfhdaaPut
import Derived.Test.YtpolpppnajfhdaaReader
import Derived.Test.YtpolpppnajfhdaaReaderEnd
import Derived.Test.YtpolpppnajfhdaaRowArm
import Derived.Test.YtpolpppnajfhdaaSame
import Derived.Test.YtpolpppnajfhdaaSeal
import Derived.Below
import Derived.ChangeOld
import Derived.Deep.Cut
import Derived.Deep.CutRange
import Derived.Deep.RegionHeld3
import Derived.IntWalk
import Derived.Lib.SmallJoins
import Derived.OpenShut
import Derived.ProofKit
import Derived.ShutString
import Derived.WalkKit
/- check.Open, its answer as a slice (layer 14's need): the bytes without their check, in memory of the call. Condition: at most 2000 bytes. -/
namespace Go.Proofs.Ytpolpppnajfhdaa.Pkt
open Go.RowKit Go.Proofs.Ytpolpppnajfhdaa.Mem
set_option linter.unusedVariables false
set_option linter.unusedSimpArgs false
set_option maxHeartbeats 400000 in
theorem open_sl_long (ad : Addr) (k c : Nat) (xs : List Nat) (w : World) (h : k + 4 ≤ 2000) (hkc : k + 4 ≤ c) (hm : c ≤ maxLen) (hb : Crc.Bts w w.heap.size (some ad) (k + 4) xs) :
    Calls Try.prog 33 #[.slice (some ad) (k + 4) c] w fun e w' => ∃ A' k' c', e = .returned (.tuple #[.slice A' k' c', .bool (Crc.okOf xs)]) ∧ Sl w' w'.heap.size (.slice A' k' c') (Crc.outOf xs) ∧ Below w.heap.size w w' := by
  unfold maxLen at hm
  have hkI : (k : Int) ≤ (c : Int) := by omega
  have s1 := Crc.seal_bts (some ad) k c (xs.take k) w (by omega) (fun h => by cases h) (Crc.Bts.take hb (by omega))
  have hlen := hb.1
  have hok : Crc.okOf xs = decide (Crc.sealed (xs.take k) = xs) := by
    unfold Crc.okOf
    rw [hlen, show k + 4 - 4 = k by omega]
    by_cases e : Crc.sealed (xs.take k) = xs
    · rw [decide_eq_true e, decide_eq_true ⟨by omega, e⟩]
    · rw [decide_eq_false e, decide_eq_false (fun h => e h.2)]
  have hout : Crc.outOf xs = if Crc.sealed (xs.take k) = xs then xs.take k else [] := by
    unfold Crc.outOf
    rw [hok, hlen, show k + 4 - 4 = k by omega]
    by_cases e : Crc.sealed (xs.take k) = xs <;> simp [e]
  have S1 := Lib.hid s1; clear s1
  have HB := Lib.hid hb; clear hb
  have HO := Lib.hid hok; clear hok
  have HU := Lib.hid hout; clear hout
  have HL := Lib.hid hlen; clear hlen
  have ceq := fun (A' : Option Addr) (c' : Nat) (w1 : World) (h1 : Crc.Bts w1 w1.heap.size A' (k + 4) (Crc.sealed (xs.take k))) (h2 : Below w.heap.size w w1) =>
    Crc.equal_any A' (some ad) (k + 4) (k + 4) c' c _ _ (Crc.sealed (xs.take k)) xs w1 h1 (Crc.Bts.below HB.out h2 (Nat.le_refl _))
  by_cases e : Crc.sealed (xs.take k) = xs
  · rw [decide_eq_true e] at ceq
    have E := Lib.hid ceq; clear ceq
    have HE := Lib.hid e; clear e
    go_enter Try.func33, Try.ntmps33
    go_wp2_with (first
      | (go_at_call 23; refine (S1.out).mono ?_; rintro e w1 ⟨A', c', rfl, hb1, hc1, hm1, hbel1⟩; have HB1 := Lib.hid hb1; clear hb1; unfold maxLen at hm1; have hc1I : (k : Int) ≤ (c' : Int) := by omega)
      | (go_at_call 53; refine (E.out A' c' w1 HB1.out hbel1).mono ?_; rintro e w' ⟨rfl, rfl⟩))
    go_ret2
    refine ⟨A', k, k, by rw [HO.out, decide_eq_true HE.out]; rfl, ?_, hbel1⟩
    rw [HU.out, if_pos HE.out]
    have h3 := Crc.Bts.take HB1.out (k := k) (by omega)
    rw [Crc.sealed_take (by rw [List.length_take, HL.out]; omega)] at h3
    obtain ⟨ad', had'⟩ := Crc.Bts.some_ HB1.out (by omega)
    exact sl_of h3 (Nat.le_refl _) (by unfold maxLen; omega) (fun hh => by rw [had'] at hh; cases hh)
  · rw [decide_eq_false e] at ceq
    have E := Lib.hid ceq; clear ceq
    have HE := Lib.hid e; clear e
    go_enter Try.func33, Try.ntmps33
    go_wp2_with (first
      | (go_at_call 23; refine (S1.out).mono ?_; rintro e w1 ⟨A', c', rfl, hb1, hc1, hm1, hbel1⟩; have HB1 := Lib.hid hb1; clear hb1)
      | (go_at_call 53; refine (E.out A' c' w1 HB1.out hbel1).mono ?_; rintro e w' ⟨rfl, rfl⟩))
    go_ret2
    refine ⟨none, 0, 0, by rw [HO.out, decide_eq_false HE.out]; rfl, ?_, hbel1⟩
    rw [HU.out, if_neg HE.out]
    exact sl_nil _ _
theorem open_sl (v : Value) (xs : List Nat) (w : World) (h : Sl w w.heap.size v xs) (hl : xs.length ≤ 2000) :
    Calls Try.prog 33 #[v] w fun e w' => ∃ A' k' c', e = .returned (.tuple #[.slice A' k' c', .bool (Crc.okOf xs)]) ∧ Sl w' w'.heap.size (.slice A' k' c') (Crc.outOf xs) ∧ Below w.heap.size w w' := by
  obtain ⟨A, n, c, rfl, hb, hkc, hm, hA⟩ := h
  have hn := hb.1
  rcases Nat.lt_or_ge n 4 with hn4 | hn4
  · refine (Crc.open_short A n c w hn4).mono ?_
    rintro e w' ⟨rfl, rfl⟩
    have hx := Crc.ok_short (xs := xs) (by omega)
    refine ⟨none, 0, 0, by rw [hx], ?_, Below.refl _ _⟩
    rw [Crc.out_of_not hx]
    exact sl_nil _ _
  · obtain ⟨k, rfl⟩ : ∃ k, n = k + 4 := ⟨n - 4, by omega⟩
    obtain ⟨ad, rfl⟩ := Crc.Bts.some_ hb (by omega)
    exact open_sl_long ad k c xs w (by omega) hkc hm hb
end Go.Proofs.Ytpolpppnajfhdaa.Pkt
/- How the code reads a packet's bytes (layer 14), and that it finds what the document finds. Pure: no function of the program is called. -/
namespace Go.Proofs.Ytpolpppnajfhdaa.Pkt
open Go.Proofs.Ytpolpppnajfhdaa.Oct Go.Proofs.Ytpolpppnajfhdaa.Lsa Go.Proofs.Ytpolpppnajfhdaa.Bas Go.Proofs.Ytpolpppnajfhdaa.Chg
set_option linter.unusedVariables false
set_option linter.unusedSimpArgs false
def rit (p : St × List Lk) : St × List Lk := ((rnum (rnum p.1 1).1 8).1, p.2 ++ [((((rnum p.1 1).2 : Nat) : Int), sgn (rnum (rnum p.1 1).1 8).2)])
def rits (st : St) : Nat → St × List Lk
  | 0 => (st, [])
  | k + 1 => rit (rits st k)
theorem rits_len (st : St) (k : Nat) : (rits st k).2.length = k := by
  induction k with
  | zero => rfl
  | succ k ih => simp [rits, rit, ih]
theorem rits_bytes (st : St) (h : ∀ x ∈ st.1, x < 256) : ∀ k, ∀ x ∈ (rits st k).1.1, x < 256
  | 0 => h
  | k + 1 => by
    rw [rits]
    unfold rit
    exact rnum_bytes (rnum_bytes (rits_bytes st h k))
theorem rits_sound (st : St) (h : ∀ x ∈ st.1, x < 256) : ∀ k, (rits st k).1.2 = true → (∀ x ∈ (rits st k).2, 0 ≤ x.2) → st.1 = itBytes (rits st k).2 ++ (rits st k).1.1 ∧ st.2 = true
  | 0, ht, _ => ⟨by simp [rits, itBytes], ht⟩
  | k + 1, ht, ha => by
    have hb := rits_bytes st h k
    have ih := rits_sound st h k
    rw [rits] at ht ha ⊢
    generalize rits st k = q at *
    obtain ⟨t, l⟩ := q
    simp only [rit] at ht ha ⊢
    obtain ⟨e2, t2⟩ := rnum_sound (st := (rnum t 1).1) (K := 8) (k := 8) rfl (rnum_bytes hb) ht
    obtain ⟨e1, t1⟩ := rnum_sound (st := t) (K := 1) (k := 1) rfl hb t2
    obtain ⟨i1, i2⟩ := ih t1 (fun x hx => ha x (by simp [hx]))
    refine ⟨?_, i2⟩
    have h0 := ha _ (List.mem_append_right l (List.mem_cons_self ..))
    simp only at h0 i1
    have d := sgn_back (rnum_small (st := (rnum t 1).1) (k := 8) (K := 8) rfl (rnum_bytes hb)) h0
    rw [itBytes_app]
    simp only [d, Int.toNat_natCast, List.append_assoc]
    rw [i1, ← e2, ← e1]
theorem rits_back (more : List Nat) (l : List Lk) (c : Int) (h0 : 0 ≤ c) (ho : itOk c l = true) : ∀ k, k ≤ l.length → rits (itBytes l ++ more, true) k = ((itBytes (l.drop k) ++ more, true), l.take k)
  | 0, _ => by simp [rits]
  | k + 1, hk => by
    have hkl : k < l.length := by omega
    rw [rits, rits_back more l c h0 ho k (by omega), drop_at l (0, 0) k hkl]
    have hm : l.getD k (0, 0) ∈ l := by
      simp only [List.getD, List.getElem?_eq_getElem hkl, Option.getD_some]
      exact List.getElem_mem _
    have ha : ∀ {m : List Lk} {d : Int}, 0 ≤ d → itOk d m = true → ∀ x ∈ m, (1 ≤ x.1 ∧ x.1 ≤ 64) ∧ 1 ≤ x.2 ∧ x.2 ≤ 4611686018427387904 := by
      intro m
      induction m with
      | nil => intro d _ _ x hx; simp at hx
      | cons a r ih =>
        intro d hd h x hx
        simp only [itOk, itOne, Lsa.win, Bool.and_eq_true, decide_eq_true_eq] at h
        rcases List.mem_cons.1 hx with rfl | hx
        · exact ⟨h.1.1, h.1.2.1⟩
        · exact ih (d := a.1) (by omega) h.2 x hx
    obtain ⟨⟨b1, b2⟩, b3, b4⟩ := ha h0 ho _ hm
    have e2 : l.take (k + 1) = l.take k ++ [l.getD k (0, 0)] := by
      rw [List.take_succ_eq_append_getElem hkl]
      simp [List.getD, List.getElem?_eq_getElem hkl]
    rw [e2]
    generalize l.getD k (0, 0) = x at *
    rw [itBytes_cons, List.append_assoc, List.append_assoc]
    unfold rit
    simp only
    rw [rnum_be (k := 1) (K := 1) rfl _ (by omega) (by omega) (by omega)]
    simp only
    rw [rnum_be (k := 8) (K := 8) rfl _ (by omega) (by omega) (by omega)]
    simp only
    rw [sgn_small (by omega), Int.toNat_of_nonneg (by omega), Int.toNat_of_nonneg (by omega)]
def c1 (xs : List Nat) : St × Nat := rnum (xs, true) 1
def c2 (xs : List Nat) : St × Nat := rnum (c1 xs).1 1
def c3 (xs : List Nat) : St × Nat := rnum (c2 xs).1 4
def c4 (xs : List Nat) : St × Nat := rnum (c3 xs).1 1
def c5 (xs : List Nat) : St × Nat := rnum (c4 xs).1 4
def headC (xs : List Nat) : Pk := ⟨((c1 xs).2 : Nat), ((c2 xs).2 : Nat), ((c3 xs).2 : Nat), ((c4 xs).2 : Nat), ((c5 xs).2 : Nat), 0, 0, [], [], []⟩
/-- how many there are, and what is behind it -/
def mOf (st : St) : St × Nat := rnum st 1
def hdsC (st : St) : St × List Lk := rlks (mOf st).1 (mOf st).2
def itsC (st : St) : St × List Lk := rits (mOf st).1 (mOf st).2
def lssC (st : St) : St × List La := rdbs (mOf st).1 (mOf st).2
def tailC (p : Pk) (st : St) : St × Pk :=
  if p.k = 1 then ((hdsC st).1, { p with hd := (hdsC st).2 })
  else if p.k = 2 then ((itsC (rnum st 4).1).1, { p with e := ((rnum st 4).2 : Nat), it := (itsC (rnum st 4).1).2 })
  else if p.k = 5 then ((itsC st).1, { p with it := (itsC st).2 })
  else if p.k = 3 then ((rnum (rnum st 4).1 4).1, { p with e := ((rnum st 4).2 : Nat), te := ((rnum (rnum st 4).1 4).2 : Nat) })
  else if p.k = 4 then ((lssC st).1, { p with ls := (lssC st).2 })
  else (st, p)
def rPk (xs : List Nat) : St × Pk := tailC (headC xs) (c5 xs).1
def endC (xs : List Nat) : Bool := (rPk xs).1.2 && decide ((rPk xs).1.1.length = 0)
def getC (xs : List Nat) : Option Pk := if (Crc.okOf xs && (endC (Crc.outOf xs) && mayP (rPk (Crc.outOf xs)).2)) = true then some (rPk (Crc.outOf xs)).2 else none
theorem lsBytes_db (l : List La) : lsBytes l = dbBytes l := rfl
theorem tail_sound {p : Pk} {st : St} (hb : ∀ x ∈ st.1, x < 256) (h0 : p.e = 0 ∧ p.te = 0 ∧ p.hd = [] ∧ p.it = [] ∧ p.ls = []) (ht : (tailC p st).1.2 = true) (hz : (tailC p st).1.1 = []) (hm : mayP (tailC p st).2 = true) :
    st.1 = midP (tailC p st).2 ++ (linkBytes (tailC p st).2.hd ++ (itBytes (tailC p st).2.it ++ lsBytes (tailC p st).2.ls)) ∧ st.2 = true := by
  obtain ⟨k, f, b, t, tb, e, te, hd, it, ls⟩ := p
  simp only at h0
  obtain ⟨rfl, rfl, rfl, rfl, rfl⟩ := h0
  have bm : ∀ x ∈ (mOf st).1.1, x < 256 := rnum_bytes hb
  unfold tailC at ht hz hm ⊢
  by_cases k1 : k = 1
  · subst k1
    simp only [if_pos] at ht hz ⊢
    obtain ⟨e1, t1, _⟩ := rlks_sound (mOf st).1 bm (mOf st).2 ht
    obtain ⟨e0, t0⟩ := rnum_sound (st := st) (K := 1) (k := 1) rfl hb t1
    have hl : (hdsC st).2.length = (mOf st).2 := rlks_len _ _
    have hz' : (rlks (mOf st).1 (mOf st).2).1.1 = [] := hz
    rw [hz', List.append_nil] at e1
    refine ⟨?_, t0⟩
    rw [e0]
    show be 1 (mOf st).2 ++ (mOf st).1.1 = _
    rw [e1]
    simp [midP, hasE, count, itBytes, lsBytes, hl]
    rfl
  by_cases k2 : k = 2
  · subst k2
    simp only [show (2 : Int) ≠ 1 by decide, if_false, if_true, if_pos] at ht hz hm ⊢
    have b4 : ∀ x ∈ (rnum st 4).1.1, x < 256 := rnum_bytes hb
    have bm : ∀ x ∈ (mOf (rnum st 4).1).1.1, x < 256 := rnum_bytes b4
    have hi : itOk 0 (itsC (rnum st 4).1).2 = true := (mayP_iff.1 hm).2.2.2.1
    have ha := fun (x : Lk) hx => (show 0 ≤ x.2 from by
      have : ∀ {m : List Lk} {d : Int}, itOk d m = true → ∀ x ∈ m, 0 ≤ x.2 := by
        intro m
        induction m with
        | nil => intro d _ x hx; simp at hx
        | cons a r ih =>
          intro d h x hx
          simp only [itOk, itOne, Lsa.win, Bool.and_eq_true, decide_eq_true_eq] at h
          rcases List.mem_cons.1 hx with rfl | hx
          · omega
          · exact ih h.2 x hx
      exact this hi x hx)
    obtain ⟨e2, t2⟩ := rits_sound (mOf (rnum st 4).1).1 bm (mOf (rnum st 4).1).2 ht ha
    obtain ⟨e1, t1⟩ := rnum_sound (st := (rnum st 4).1) (K := 1) (k := 1) rfl b4 t2
    obtain ⟨e0, t0⟩ := rnum_sound (st := st) (K := 4) (k := 4) rfl hb t1
    have hl : (itsC (rnum st 4).1).2.length = (mOf (rnum st 4).1).2 := rits_len _ _
    have hz' : (rits (mOf (rnum st 4).1).1 (mOf (rnum st 4).1).2).1.1 = [] := hz
    rw [hz', List.append_nil] at e2
    refine ⟨?_, t0⟩
    rw [e0, e1]
    show be 4 (rnum st 4).2 ++ (be 1 (mOf (rnum st 4).1).2 ++ (mOf (rnum st 4).1).1.1) = _
    rw [e2]
    simp [midP, hasE, count, linkBytes, lsBytes, hl]
    rfl
  by_cases k5 : k = 5
  · subst k5
    simp only [show (5 : Int) ≠ 1 by decide, show (5 : Int) ≠ 2 by decide, if_false, if_true, if_pos] at ht hz hm ⊢
    have hi : itOk 0 (itsC st).2 = true := (mayP_iff.1 hm).2.2.2.1
    have ha := fun (x : Lk) hx => (show 0 ≤ x.2 from by
      have : ∀ {m : List Lk} {d : Int}, itOk d m = true → ∀ x ∈ m, 0 ≤ x.2 := by
        intro m
        induction m with
        | nil => intro d _ x hx; simp at hx
        | cons a r ih =>
          intro d h x hx
          simp only [itOk, itOne, Lsa.win, Bool.and_eq_true, decide_eq_true_eq] at h
          rcases List.mem_cons.1 hx with rfl | hx
          · omega
          · exact ih h.2 x hx
      exact this hi x hx)
    obtain ⟨e1, t1⟩ := rits_sound (mOf st).1 bm (mOf st).2 ht ha
    obtain ⟨e0, t0⟩ := rnum_sound (st := st) (K := 1) (k := 1) rfl hb t1
    have hl : (itsC st).2.length = (mOf st).2 := rits_len _ _
    have hz' : (rits (mOf st).1 (mOf st).2).1.1 = [] := hz
    rw [hz', List.append_nil] at e1
    refine ⟨?_, t0⟩
    rw [e0]
    show be 1 (mOf st).2 ++ (mOf st).1.1 = _
    rw [e1]
    simp [midP, hasE, count, linkBytes, lsBytes, hl]
    rfl
  by_cases k3 : k = 3
  · subst k3
    simp only [show (3 : Int) ≠ 1 by decide, show (3 : Int) ≠ 2 by decide, show (3 : Int) ≠ 5 by decide, if_false, if_true, if_pos] at ht hz hm ⊢
    have b4 : ∀ x ∈ (rnum st 4).1.1, x < 256 := rnum_bytes hb
    obtain ⟨e1, t1⟩ := rnum_sound (st := (rnum st 4).1) (K := 4) (k := 4) rfl b4 ht
    obtain ⟨e0, t0⟩ := rnum_sound (st := st) (K := 4) (k := 4) rfl hb t1
    rw [hz, List.append_nil] at e1
    refine ⟨?_, t0⟩
    rw [e0, e1]
    simp [midP, hasE, linkBytes, itBytes, lsBytes]
  by_cases k4 : k = 4
  · subst k4
    simp only [show (4 : Int) ≠ 1 by decide, show (4 : Int) ≠ 2 by decide, show (4 : Int) ≠ 5 by decide, show (4 : Int) ≠ 3 by decide, if_false, if_true, if_pos] at ht hz hm ⊢
    have hi : dbOk 0 (lssC st).2 = true := (mayP_iff.1 hm).2.2.1
    obtain ⟨e1, t1⟩ := rdbs_sound bm (mOf st).2 ht (dbOk_all hi)
    obtain ⟨e0, t0⟩ := rnum_sound (st := st) (K := 1) (k := 1) rfl hb t1
    have hl : (lssC st).2.length = (mOf st).2 := rdbs_len _ _
    have hz' : (rdbs (mOf st).1 (mOf st).2).1.1 = [] := hz
    rw [hz', List.append_nil] at e1
    refine ⟨?_, t0⟩
    rw [e0]
    show be 1 (mOf st).2 ++ (mOf st).1.1 = _
    rw [e1]
    simp [midP, hasE, count, linkBytes, itBytes, hl]
    rfl
  · simp only [k1, k2, k5, k3, k4, if_false] at hm
    have hk := (mayP_iff.1 hm).2.2.2.2.2
    simp [kindOk, k1, k2, k5, k3, k4] at hk
theorem tail_head (p : Pk) (st : St) : (tailC p st).2.k = p.k ∧ (tailC p st).2.f = p.f ∧ (tailC p st).2.b = p.b ∧ (tailC p st).2.t = p.t ∧ (tailC p st).2.tb = p.tb := by
  unfold tailC
  repeat' (first | (split; exact ⟨rfl, rfl, rfl, rfl, rfl⟩) | (split) | exact ⟨rfl, rfl, rfl, rfl, rfl⟩)
theorem rPk_sound {xs : List Nat} (hx : ∀ x ∈ xs, x < 256) (he : endC xs = true) (hm : mayP (rPk xs).2 = true) : bodyP (rPk xs).2 = xs := by
  simp only [endC, Bool.and_eq_true, decide_eq_true_eq] at he
  obtain ⟨ht, hz⟩ := he
  have hz := List.eq_nil_of_length_eq_zero hz
  have b1 : ∀ x ∈ (c1 xs).1.1, x < 256 := rnum_bytes hx
  have b2 : ∀ x ∈ (c2 xs).1.1, x < 256 := rnum_bytes b1
  have b3 : ∀ x ∈ (c3 xs).1.1, x < 256 := rnum_bytes b2
  have b4 : ∀ x ∈ (c4 xs).1.1, x < 256 := rnum_bytes b3
  have b5 : ∀ x ∈ (c5 xs).1.1, x < 256 := rnum_bytes b4
  obtain ⟨e6, t5⟩ := tail_sound (p := headC xs) (st := (c5 xs).1) b5 ⟨rfl, rfl, rfl, rfl, rfl⟩ ht hz hm
  obtain ⟨e5, t4⟩ := rnum_sound (st := (c4 xs).1) (K := 4) (k := 4) rfl b4 t5
  obtain ⟨e4, t3⟩ := rnum_sound (st := (c3 xs).1) (K := 1) (k := 1) rfl b3 t4
  obtain ⟨e3, t2⟩ := rnum_sound (st := (c2 xs).1) (K := 4) (k := 4) rfl b2 t3
  obtain ⟨e2, t1⟩ := rnum_sound (st := (c1 xs).1) (K := 1) (k := 1) rfl b1 t2
  obtain ⟨e1, _⟩ := rnum_sound (st := (xs, true)) (K := 1) (k := 1) rfl hx t1
  obtain ⟨g1, g2, g3, g4, g5⟩ := tail_head (headC xs) (c5 xs).1
  have hh : headP (rPk xs).2 = be 1 (c1 xs).2 ++ (be 1 (c2 xs).2 ++ (be 4 (c3 xs).2 ++ (be 1 (c4 xs).2 ++ be 4 (c5 xs).2))) := by
    unfold headP rPk
    rw [g1, g2, g3, g4, g5]
    simp [headC]
  unfold bodyP
  rw [hh]
  have f1 : xs = be 1 (c1 xs).2 ++ (c1 xs).1.1 := e1
  have f2 : (c1 xs).1.1 = be 1 (c2 xs).2 ++ (c2 xs).1.1 := e2
  have f3 : (c2 xs).1.1 = be 4 (c3 xs).2 ++ (c3 xs).1.1 := e3
  have f4 : (c3 xs).1.1 = be 1 (c4 xs).2 ++ (c4 xs).1.1 := e4
  have f5 : (c4 xs).1.1 = be 4 (c5 xs).2 ++ (c5 xs).1.1 := e5
  have f6 : (c5 xs).1.1 = midP (rPk xs).2 ++ (linkBytes (rPk xs).2.hd ++ (itBytes (rPk xs).2.it ++ lsBytes (rPk xs).2.ls)) := e6
  rw [← f6]
  simp only [List.append_assoc]
  rw [← f5, ← f4, ← f3, ← f2, ← f1]
theorem rPk_back {p : Pk} (h : mayP p = true) : rPk (bodyP p) = (([], true), p) := by
  obtain ⟨hen, hhd, hls, hit, hep, hk⟩ := mayP_iff.1 h
  have hil := itOk_len (c := 0) (by omega) (by omega) hit
  simp only [ends, Lsa.win, Bool.and_eq_true, decide_eq_true_eq] at hen
  have hkk : p.k = 1 ∨ p.k = 2 ∨ p.k = 3 ∨ p.k = 4 ∨ p.k = 5 := by
    unfold kindOk at hk
    by_cases a : p.k = 1
    · exact .inl a
    by_cases b : p.k = 2
    · exact .inr (.inl b)
    by_cases c : p.k = 3
    · exact .inr (.inr (.inl c))
    by_cases d : p.k = 4
    · exact .inr (.inr (.inr (.inl d)))
    by_cases e : p.k = 5
    · exact .inr (.inr (.inr (.inr e)))
    · simp [a, b, c, d, e] at hk
  obtain ⟨R, hR⟩ : ∃ R, R = midP p ++ (linkBytes p.hd ++ (itBytes p.it ++ lsBytes p.ls)) := ⟨_, rfl⟩
  have hxs : bodyP p = be 1 p.k.toNat ++ (be 1 p.f.toNat ++ (be 4 p.b.toNat ++ (be 1 p.t.toNat ++ (be 4 p.tb.toNat ++ R)))) := by
    rw [hR]; simp [bodyP, headP]
  generalize bodyP p = xs at *
  have g1 : c1 xs = ((be 1 p.f.toNat ++ (be 4 p.b.toNat ++ (be 1 p.t.toNat ++ (be 4 p.tb.toNat ++ R))), true), p.k.toNat) := by
    unfold c1; rw [hxs]; exact rnum_be rfl _ (by omega) (by omega) (by omega)
  have g2 : c2 xs = ((be 4 p.b.toNat ++ (be 1 p.t.toNat ++ (be 4 p.tb.toNat ++ R)), true), p.f.toNat) := by
    unfold c2; rw [g1]; exact rnum_be rfl _ (by omega) (by omega) (by omega)
  have g3 : c3 xs = ((be 1 p.t.toNat ++ (be 4 p.tb.toNat ++ R), true), p.b.toNat) := by
    unfold c3; rw [g2]; exact rnum_be rfl _ (by omega) (by omega) (by omega)
  have g4 : c4 xs = ((be 4 p.tb.toNat ++ R, true), p.t.toNat) := by
    unfold c4; rw [g3]; exact rnum_be rfl _ (by omega) (by omega) (by omega)
  have g5 : c5 xs = ((R, true), p.tb.toNat) := by
    unfold c5; rw [g4]; exact rnum_be rfl _ (by omega) (by omega) (by omega)
  have gh : headC xs = ⟨p.k, p.f, p.b, p.t, p.tb, 0, 0, [], [], []⟩ := by
    unfold headC
    rw [g1, g2, g3, g4, g5]
    simp only
    rw [Int.toNat_of_nonneg (by omega), Int.toNat_of_nonneg (by omega), Int.toNat_of_nonneg (by omega), Int.toNat_of_nonneg (by omega), Int.toNat_of_nonneg (by omega)]
  unfold rPk
  rw [gh, g5]
  clear g1 g2 g3 g4 g5 gh hxs
  obtain ⟨k, f, b, t, tb, e, te, hd, it, ls⟩ := p
  simp only at *
  rcases hkk with rfl | rfl | rfl | rfl | rfl
  all_goals simp [epochs, hasE, kindOk, Lsa.win] at hep hk
  · obtain ⟨rfl, rfl⟩ := hep
    obtain ⟨h16, rfl, rfl⟩ := hk
    have hm : mOf (R, true) = ((linkBytes hd, true), hd.length) := by
      rw [hR]
      simp only [midP, hasE, count, itBytes, lsBytes]
      simp
      exact rnum_be (k := 1) (K := 1) rfl _ (by omega) (by omega) (by omega)
    have hq : hdsC (R, true) = (([], true), hd) := by
      unfold hdsC
      rw [hm]
      have := rlks_back hd [] (ep_all hhd (Int.le_refl 0)) hd.length (Nat.le_refl _)
      rw [List.append_nil, List.drop_length, List.take_length] at this
      exact this
    unfold tailC
    simp [hq]
  · obtain ⟨he, rfl⟩ := hep
    obtain ⟨rfl, rfl⟩ := hk
    have h4 : rnum (R, true) 4 = ((be 1 it.length ++ itBytes it, true), e.toNat) := by
      rw [hR]
      simp only [midP, hasE, count, linkBytes, lsBytes]
      simp
      exact rnum_be (k := 4) (K := 4) rfl _ (by omega) (by omega) (by omega)
    have hm : mOf (be 1 it.length ++ itBytes it, true) = ((itBytes it, true), it.length) := rnum_be (k := 1) (K := 1) rfl _ (by omega) (by omega) (by omega)
    have hq : itsC (rnum (R, true) 4).1 = (([], true), it) := by
      rw [h4]
      unfold itsC
      rw [hm]
      have := rits_back [] it 0 (Int.le_refl 0) hit it.length (Nat.le_refl _)
      rw [List.append_nil, List.drop_length, List.take_length] at this
      exact this
    rw [h4] at hq
    simp only at hq
    unfold tailC
    simp [h4, hq, Int.toNat_of_nonneg (show 0 ≤ e by omega)]
  · obtain ⟨he, hte⟩ := hep
    obtain ⟨rfl, rfl, rfl⟩ := hk
    have h4 : rnum (R, true) 4 = ((be 4 te.toNat, true), e.toNat) := by
      rw [hR]
      simp only [midP, hasE, count, linkBytes, lsBytes, itBytes]
      simp
      exact rnum_be (k := 4) (K := 4) rfl _ (by omega) (by omega) (by omega)
    have h5 : rnum (be 4 te.toNat, true) 4 = (([], true), te.toNat) := by
      have := rnum_be (k := 4) (K := 4) (n := te.toNat) rfl [] (by omega) (by omega) (by omega)
      rwa [List.append_nil] at this
    unfold tailC
    simp [h4, h5, Int.toNat_of_nonneg (show 0 ≤ e by omega), Int.toNat_of_nonneg (show 0 ≤ te by omega)]
  · obtain ⟨rfl, rfl⟩ := hep
    obtain ⟨rfl, rfl, hk1, hk8⟩ := hk
    have hm : mOf (R, true) = ((dbBytes ls, true), ls.length) := by
      rw [hR]
      simp only [midP, hasE, count, linkBytes, itBytes]
      simp
      exact rnum_be (k := 1) (K := 1) rfl _ (by omega) (by omega) (by omega)
    have hq : lssC (R, true) = (([], true), ls) := by
      unfold lssC
      rw [hm]
      have := rdbs_back ls [] (dbOk_all hls) ls.length (Nat.le_refl _)
      rw [List.append_nil, List.drop_length, List.take_length] at this
      exact this
    unfold tailC
    simp [hq]
  · obtain ⟨rfl, rfl⟩ := hep
    obtain ⟨rfl, rfl⟩ := hk
    have hm : mOf (R, true) = ((itBytes it, true), it.length) := by
      rw [hR]
      simp only [midP, hasE, count, linkBytes, lsBytes]
      simp
      exact rnum_be (k := 1) (K := 1) rfl _ (by omega) (by omega) (by omega)
    have hq : itsC (R, true) = (([], true), it) := by
      unfold itsC
      rw [hm]
      have := rits_back [] it 0 (Int.le_refl 0) hit it.length (Nat.le_refl _)
      rw [List.append_nil, List.drop_length, List.take_length] at this
      exact this
    unfold tailC
    simp [hq]
theorem ok_put (p : Pk) : Crc.okOf (putP p) = true ∧ Crc.outOf (putP p) = bodyP p := by
  have hl := putP_length p
  have ht : (putP p).take ((putP p).length - 4) = bodyP p := by
    rw [hl, Nat.add_sub_cancel]
    exact Crc.sealed_take rfl
  have ho : Crc.okOf (putP p) = true := by
    unfold Crc.okOf
    rw [ht]
    exact decide_eq_true ⟨by omega, rfl⟩
  refine ⟨ho, ?_⟩
  unfold Crc.outOf
  rw [if_pos ho, ht]
theorem getC_sound {xs : List Nat} {p : Pk} (hx : ∀ x ∈ xs, x < 256) (h : getC xs = some p) : mayP p = true ∧ putP p = xs := by
  unfold getC at h
  split at h
  · next hc =>
    cases h
    simp only [Bool.and_eq_true] at hc
    obtain ⟨ho, he, hm⟩ := hc
    refine ⟨hm, ?_⟩
    have hb : Crc.outOf xs = xs.take (xs.length - 4) := by unfold Crc.outOf; rw [if_pos ho]
    have hs := rPk_sound (xs := Crc.outOf xs) (by rw [hb]; exact fun x hx' => hx x (List.mem_of_mem_take hx')) he hm
    unfold putP
    rw [hs, hb]
    exact (of_decide_eq_true ho).2
  · cases h
theorem getC_back {p : Pk} (h : mayP p = true) : getC (putP p) = some p := by
  obtain ⟨h1, h2⟩ := ok_put p
  unfold getC endC
  rw [h1, h2, rPk_back h, h]
  rfl
theorem getC_eq {xs : List Nat} (hx : ∀ x ∈ xs, x < 256) : getC xs = getP xs := by
  apply Option.ext
  intro p
  rw [getP_iff]
  constructor
  · exact getC_sound hx
  · rintro ⟨h, rfl⟩
    exact getC_back h
end Go.Proofs.Ytpolpppnajfhdaa.Pkt
/- What the code reads of a packet (layer 14): the contracts of packet.readWho, readHeard, readItems, readLsas. -/
namespace Go.Proofs.Ytpolpppnajfhdaa.Pkt
open Go.RowKit Go.Proofs.Ytpolpppnajfhdaa.Mem Go.Proofs.Ytpolpppnajfhdaa.Oct Go.Proofs.Ytpolpppnajfhdaa.Lsa Go.Proofs.Ytpolpppnajfhdaa.Bas
open Go.Proofs.Ytpolpppnajfhdaa.Chg (low1 low_low low2 blk_second)
set_option linter.unusedVariables false
set_option linter.unusedSimpArgs false
theorem info_heard : (Try.prog.info? 59).map (fun i => (i.zero, i.size, i.bytes)) = some (some (.agg #[.int .i64 0, .int .i64 0]), 2, 16) := by kernel_rfl
theorem info_item : (Try.prog.info? 64).map (fun i => (i.zero, i.size, i.bytes)) = some (some (.agg #[.int .i64 0, .int .i64 0]), 2, 16) := by kernel_rfl
theorem info_lsa : (Try.prog.info? 49).map (fun i => (i.zero, i.size, i.bytes)) = some (some (.agg #[.int .i64 0, .int .i64 0, .slice none 0 0]), 3, 40) := by kernel_rfl
theorem reads_two (w : World) (t : TypeId) (a b : Int) (g : Nat) (hg : g = w.heap.size) : Reads (w.alloc (.cells #[.int .i64 a, .int .i64 b] t)) (w.heap.size + 1) 2 (some ⟨g, 0, none⟩) 1 (lkCells [(a, b)]) := by
  subst hg
  refine ⟨rfl, fun _ => ⟨_, rfl, Nat.lt_succ_self _, fun j u hu => ?_⟩⟩
  have hk := Blk.new w t #[.int .i64 a, .int .i64 b]
  rw [add_plain, Nat.zero_add, hk.cell]
  simpa [lkCells] using hu
theorem reads_lsa14 (w : World) (a : La) (u : Value) (g : Nat) (hg : g = w.heap.size) : Reads (w.alloc (.cells #[.int .i64 a.o, .int .i64 a.s, u] 49)) (w.heap.size + 1) 3 (some ⟨g, 0, none⟩) 1 (rowL a u) := by
  subst hg
  refine ⟨rfl, fun _ => ⟨_, rfl, Nat.lt_succ_self _, fun j v hu => ?_⟩⟩
  have hk := Blk.new w 49 #[.int .i64 a.o, .int .i64 a.s, u]
  rw [add_plain, Nat.zero_add, hk.cell]
  simpa [rowL] using hu
theorem rowL_one14 (a : La) (A : Option Addr) (n c : Nat) : ∀ x ∈ rowL a (.slice A n c), x.oneCell' = true := rowL_one a _ rfl
theorem lks_own_t {w : World} {t : TypeId} {base n : Nat} {v : Value} {ls : List Lk} (h : w.ownsRow base t 2 v n (lkCells ls)) : Lks w w.heap.size v ls := by
  have hl : ls.length = n := by have := h.1; rw [lkCells_length] at this; omega
  rcases h.2 with ⟨rfl, h0⟩ | ⟨g, cap, cur, rfl, hg, hh, hnc, hm, hs, ht⟩
  · have : ls = [] := List.eq_nil_of_length_eq_zero (by omega)
    subst this
    exact lks_nil _ _
  · have hlt : g < w.heap.size := (h.lt g rfl).2
    refine ⟨_, n, cap, rfl, hl, hnc, hm, (fun e => by cases e), fun _ => ⟨g, 0, rfl, hlt, fun i hi => ?_⟩⟩
    have hc := lkCells_at ls i (by omega)
    have l2 := lkCells_length ls
    rw [Nat.zero_add, h.cellAt (i * 2) (by omega), h.cellAt (i * 2 + 1) (by omega)]
    exact hc
theorem own_gr14 {w w' : World} {base g n sz : Nat} {e : TypeId} {v : Value} {xs : List Value} (h : w.ownsRow base e sz v n xs) (hg : w.grownBy w' (some g)) (hlt : g < base) : w'.ownsRow base e sz v n xs :=
  h.kept hg (.inr (fun e => by have := (h.lt g e).1; omega))
theorem lkT_gr14 {w w' : World} {base g : Nat} {u : Value} {ls : List Lk} (h : LkT w base u ls) (hg : w.grownBy w' (some g)) (hlt : g < base) : LkT w' base u ls := by
  obtain ⟨n, h⟩ := h
  exact ⟨n, own_gr14 h hg hlt⟩
theorem ownL_gr14 {w w' : World} {base g : Nat} {v : Value} {l : List La} (h : OwnL w base v l) (hg : w.grownBy w' (some g)) (hlt : g < base) : OwnL w' base v l := by
  obtain ⟨us, h1, h2, h3⟩ := h
  exact ⟨us, h1, own_gr14 h2 hg hlt, fun i hi => lkT_gr14 (h3 i hi) hg hlt⟩
theorem ownL_more14 {w : World} {base base' : Nat} {v : Value} {l : List La} (h : OwnL w base v l) (hb : base' ≤ base) : OwnL w base' v l := by
  obtain ⟨us, h1, h2, h3⟩ := h
  exact ⟨us, h1, own_mono h2 hb, fun i hi => (h3 i hi).more hb⟩
set_option maxRecDepth 20000 in
set_option maxHeartbeats 4000000 in
theorem readWho_any (g : Nat) (st : St) (w : World) (h : Rdr w g st) :
    Calls Try.prog 55 #[ptr g] w fun e w' => e = .returned (.tuple #[.int .i64 ((rnum st 1).2 : Nat), .int .i64 ((rnum (rnum st 1).1 4).2 : Nat)]) ∧ Rdr w' g (rnum (rnum st 1).1 4).1 ∧ w.grownBy w' (some g) := by
  have n1 : (rnum st 1).2 < 256 := rnum_lt (st := st) (k := 1) (K := 1) rfl h.lt
  have n2 : (rnum (rnum st 1).1 4).2 < 4294967296 := rnum_small (k := 4) (K := 4) rfl (Chg.rnum_bytes h.lt)
  have r1 := rnum_any g st 1 w h
  generalize rnum st 1 = q at *
  obtain ⟨st1, N1⟩ := q
  simp only at n1 n2 r1 ⊢
  have r2 := fun W (hW : Rdr W g st1) => rnum_any g st1 4 W hW
  generalize rnum st1 4 = q at *
  obtain ⟨st2, N2⟩ := q
  simp only at n2 r2 ⊢
  have R1 := Lib.hid r1; clear r1
  have R2 := Lib.hid r2; clear r2 h
  go_enter Try.func55, Try.ntmps55
  go_wp2_with (first
    | (have HM1 := R1; go_at_call 54; refine (R1.out).mono ?_; rintro e w1 ⟨rfl, hr1, hg1⟩; have HR1 := Lib.hid hr1; have HG1 := Lib.hid hg1; clear hr1 hg1 HM1 R1)
    | (go_at_call 54; refine (R2.out _ HR1.out).mono ?_; rintro e w2 ⟨rfl, hr2, hg2⟩; have HR2 := Lib.hid hr2; have HG2 := Lib.hid (grown_trans HG1.out hg2); clear hr2 hg2))
  refine bodyPost_ret (v := .tuple #[.int .i64 (N1 : Nat), .int .i64 (N2 : Nat)]) ?_ rfl ⟨rfl, HR2.out, HG2.out⟩
  simp [results, Try.results55, go_sem]
set_option maxRecDepth 20000 in
set_option maxHeartbeats 8000000 in
theorem readHeard_any (g : Nat) (st : St) (w : World) (h : Rdr w g st) :
    Calls Try.prog 56 #[ptr g] w fun e w' => ∃ v n, e = .returned v ∧ w'.ownsRow w.heap.size 59 2 v n (lkCells (hdsC st).2) ∧ Rdr w' g (hdsC st).1 ∧ w.grownBy w' (some g) := by
  unfold hdsC mOf
  obtain ⟨i0, hi, hz0, hz1, hz2⟩ := info_parts info_heard
  have hgs := h.size
  have HI := Lib.hid hi; clear hi
  have HZ0 := Lib.hid hz0; clear hz0
  have HZ1 := Lib.hid hz1; clear hz1
  have HZ2 := Lib.hid hz2; clear hz2
  have nm : (rnum st 1).2 < 256 := rnum_lt (st := st) (k := 1) (K := 1) rfl h.lt
  have rm := rnum_any g st 1 w h
  generalize rnum st 1 = q at *
  obtain ⟨st, m⟩ := q
  simp only at nm rm ⊢
  have RM := Lib.hid rm; clear rm h
  go_enter Try.func56, Try.ntmps56
  go_wp2_with (go_at_call 54; refine (RM.out).mono ?_; rintro e w1 ⟨rfl, hr1, hg1⟩; have HR := Lib.hid hr1; have HG1 := Lib.hid hg1; clear hr1 hg1)
  clear RM
  go_loopw [3, 9] (fun z i wr => ∃ k : Nat, k ≤ m ∧ i = .int .i64 k ∧ wr.ownsRow w.heap.size 59 2 z k (lkCells (rlks st k).2) ∧ Rdr wr g (rlks st k).1 ∧ w.grownBy wr (some g)) (fun _ i _ => m - (intOf i).toNat)
  case atStart => exact ⟨0, Nat.zero_le _, rfl, World.ownsRow_nil _ _ _ _, HR.out, HG1.out⟩
  case round =>
    clear HR HG1
    obtain ⟨k, hk, rfl, hown, hr, hg⟩ := hrel
    by_cases hlt : k < m
    · have hx := hr.lt
      have hws := hg.size
      have hs : rlks st (k + 1) = rlk (rlks st k) := rfl
      generalize rlks st k = p at *
      obtain ⟨st0, l0⟩ := p
      simp only at hown hr hx
      simp only [rlk] at hs
      have rw_ := readWho_any g st0 wr hr
      generalize (rnum st0 1).2 = N1 at *
      generalize (rnum (rnum st0 1).1 4).2 = N2 at *
      generalize (rnum (rnum st0 1).1 4).1 = st2 at *
      have HS := Lib.hid hs; clear hs
      have RW := Lib.hid rw_; clear rw_
      have hl0 : (lkCells l0).length = k * 2 := hown.1
      have HG := Lib.hid hg; clear hg hx
      have HRR := Lib.hid hr; clear hr
      have HOW := Lib.hid hown; clear hown hl0
      obtain ⟨A5, c5, rfl⟩ := Lsa.own_form HOW.out
      go_wp2_with (first
        | (go_at_call 55; refine (RW.out).mono ?_; rintro e w2 ⟨rfl, hr2, hg2⟩; have HG2 := Lib.hid (grown_trans HG.out hg2); have HO2 := Lib.hid (own_gr14 HOW.out hg2 hgs); have HR2 := Lib.hid hr2; have hws2 := HG2.out.size; clear hr2 hg2)
        | (at_builtin; (refine wpList_append_any _ rfl (.tmp 16) (.tmp 20) 22 rfl w.heap.size 59 i0 (.agg #[.int .i64 0, .int .i64 0]) 2 16 Try.underlying22 HI.out HZ0.out HZ1.out HZ2.out rfl (by decide) (.slice A5 k c5) k (lkCells l0) rfl (HO2.out.alloc _) (w2.heap.size + 1) (some ⟨w2.heap.size, 0, none⟩) 1 1 (lkCells [((N1 : Nat), (N2 : Nat))]) rfl (reads_two w2 _ _ _ _ rfl) (lkCells_one' _) (by unfold maxLen; omega) (by omega) (by simp; omega) ?_; intro v3 w3 hown3 hg3 _)))
      have hg9 := grown_over (HG2.out) (grown_trans (World.grownBy_alloc w2 (Obj.cells #[.int .i64 (N1 : Nat), .int .i64 (N2 : Nat)] 59) _) hg3) (fun q hq => (HO2.out.lt q hq).1)
      have hr9 := (HR2.out.alloc (Obj.cells #[.int .i64 (N1 : Nat), .int .i64 (N2 : Nat)] 59)).grown hg3 (fun q hq => Nat.lt_of_lt_of_le hgs (HO2.out.lt q hq).1)
      rw [← lkCells_app] at hown3
      go_roundw
      case rel => exact ⟨k + 1, by omega, by go_num, by rw [HS.out]; exact hown3, by rw [HS.out]; exact hr9, hg9⟩
      case measure => simp [intOf]; omega
    · obtain rfl : k = m := by omega
      have HOW := Lib.hid hown; clear hown
      have HRR := Lib.hid hr; clear hr
      have HG := Lib.hid hg; clear hg
      go_wp2
      go_ret
      exact ⟨_, _, rfl, HOW.out, HRR.out, HG.out⟩
set_option maxRecDepth 20000 in
set_option maxHeartbeats 8000000 in
theorem readItems_any (g : Nat) (st : St) (w : World) (h : Rdr w g st) :
    Calls Try.prog 57 #[ptr g] w fun e w' => ∃ v n, e = .returned v ∧ w'.ownsRow w.heap.size 64 2 v n (lkCells (itsC st).2) ∧ Rdr w' g (itsC st).1 ∧ w.grownBy w' (some g) := by
  unfold itsC mOf
  obtain ⟨i0, hi, hz0, hz1, hz2⟩ := info_parts info_item
  have hgs := h.size
  have HI := Lib.hid hi; clear hi
  have HZ0 := Lib.hid hz0; clear hz0
  have HZ1 := Lib.hid hz1; clear hz1
  have HZ2 := Lib.hid hz2; clear hz2
  have nm : (rnum st 1).2 < 256 := rnum_lt (st := st) (k := 1) (K := 1) rfl h.lt
  have rm := rnum_any g st 1 w h
  generalize rnum st 1 = q at *
  obtain ⟨st, m⟩ := q
  simp only at nm rm ⊢
  have RM := Lib.hid rm; clear rm h
  go_enter Try.func57, Try.ntmps57
  go_wp2_with (go_at_call 54; refine (RM.out).mono ?_; rintro e w1 ⟨rfl, hr1, hg1⟩; have HR := Lib.hid hr1; have HG1 := Lib.hid hg1; clear hr1 hg1)
  clear RM
  go_loopw [3, 7] (fun z i wr => ∃ k : Nat, k ≤ m ∧ i = .int .i64 k ∧ wr.ownsRow w.heap.size 64 2 z k (lkCells (rits st k).2) ∧ Rdr wr g (rits st k).1 ∧ w.grownBy wr (some g)) (fun _ i _ => m - (intOf i).toNat)
  case atStart => exact ⟨0, Nat.zero_le _, rfl, World.ownsRow_nil _ _ _ _, HR.out, HG1.out⟩
  case round =>
    clear HR HG1
    obtain ⟨k, hk, rfl, hown, hr, hg⟩ := hrel
    by_cases hlt : k < m
    · have hx := hr.lt
      have hws := hg.size
      have hs : rits st (k + 1) = rit (rits st k) := rfl
      generalize rits st k = p at *
      obtain ⟨st0, l0⟩ := p
      simp only at hown hr hx
      simp only [rit] at hs
      have n1 := rnum_lt (st := st0) (k := 1) (K := 1) rfl hx
      have r1 := rnum_any g st0 1 wr hr
      have n2 : (rnum (rnum st0 1).1 8).2 < 18446744073709551616 := rnum_small (k := 8) (K := 8) rfl (Chg.rnum_bytes hx)
      generalize rnum st0 1 = q at *
      obtain ⟨st1, N1⟩ := q
      simp only at n1 n2 r1 hs
      have r2 := fun W (hW : Rdr W g st1) => rnum_any g st1 8 W hW
      generalize rnum st1 8 = q at *
      obtain ⟨st2, N2⟩ := q
      simp only at n2 r2 hs
      have hww := sgn_wrap n2
      obtain ⟨sN, hsN⟩ : ∃ sN, sN = sgn N2 := ⟨_, rfl⟩
      rw [← hsN] at hww hs
      clear hsN
      have HS := Lib.hid hs; clear hs
      have R1 := Lib.hid r1; clear r1
      have R2 := Lib.hid r2; clear r2
      have hl0 : (lkCells l0).length = k * 2 := hown.1
      have HG := Lib.hid hg; clear hg hx
      have HRR := Lib.hid hr; clear hr
      have HOW := Lib.hid hown; clear hown hl0
      obtain ⟨A5, c5, rfl⟩ := Lsa.own_form HOW.out
      go_wp2_with (first
        | (have HM0 := R1; go_at_call 54; refine (R1.out).mono ?_; rintro e w1 ⟨rfl, hr1, hg1⟩; have HG1 := Lib.hid (grown_trans HG.out hg1); have HO1 := Lib.hid (own_gr14 HOW.out hg1 hgs); have HR1 := Lib.hid hr1; clear hr1 hg1 HM0 R1)
        | (go_at_call 54; refine (R2.out _ HR1.out).mono ?_; rintro e w2 ⟨rfl, hr2, hg2⟩; have HG2 := Lib.hid (grown_trans HG1.out hg2); have HO2 := Lib.hid (own_gr14 HO1.out hg2 hgs); have HR2 := Lib.hid hr2; have hws2 := HG2.out.size; clear hr2 hg2)
        | (at_builtin; (refine wpList_append_any _ rfl (.tmp 9) (.tmp 17) 23 rfl w.heap.size 64 i0 (.agg #[.int .i64 0, .int .i64 0]) 2 16 Try.underlying23 HI.out HZ0.out HZ1.out HZ2.out rfl (by decide) (.slice A5 k c5) k (lkCells l0) rfl (HO2.out.alloc _) (w2.heap.size + 1) (some ⟨w2.heap.size, 0, none⟩) 1 1 (lkCells [((N1 : Nat), sN)]) rfl (reads_two w2 _ _ _ _ rfl) (lkCells_one' _) (by unfold maxLen; omega) (by omega) (by simp; omega) ?_; intro v3 w3 hown3 hg3 _)))
      have hg9 := grown_over (HG2.out) (grown_trans (World.grownBy_alloc w2 (Obj.cells #[.int .i64 (N1 : Nat), .int .i64 sN] 64) _) hg3) (fun q hq => (HO2.out.lt q hq).1)
      have hr9 := (HR2.out.alloc (Obj.cells #[.int .i64 (N1 : Nat), .int .i64 sN] 64)).grown hg3 (fun q hq => Nat.lt_of_lt_of_le hgs (HO2.out.lt q hq).1)
      rw [← lkCells_app] at hown3
      go_roundw
      case rel => exact ⟨k + 1, by omega, by go_num, by rw [HS.out]; exact hown3, by rw [HS.out]; exact hr9, hg9⟩
      case measure => simp [intOf]; omega
    · obtain rfl : k = m := by omega
      have HOW := Lib.hid hown; clear hown
      have HRR := Lib.hid hr; clear hr
      have HG := Lib.hid hg; clear hg
      go_wp2
      go_ret
      exact ⟨_, _, rfl, HOW.out, HRR.out, HG.out⟩
set_option maxRecDepth 20000 in
set_option maxHeartbeats 8000000 in
theorem readLsas_any (g : Nat) (st : St) (w : World) (h : Rdr w g st) :
    Calls Try.prog 58 #[ptr g] w fun e w' => ∃ v, e = .returned v ∧ OwnL w' w.heap.size v (lssC st).2 ∧ Rdr w' g (lssC st).1 ∧ w.grownBy w' (some g) := by
  unfold lssC mOf
  obtain ⟨i0, hi, hz0, hz1, hz2⟩ := info_parts info_lsa
  have hgs := h.size
  have HI := Lib.hid hi; clear hi
  have HZ0 := Lib.hid hz0; clear hz0
  have HZ1 := Lib.hid hz1; clear hz1
  have HZ2 := Lib.hid hz2; clear hz2
  have nm : (rnum st 1).2 < 256 := rnum_lt (st := st) (k := 1) (K := 1) rfl h.lt
  have rm := rnum_any g st 1 w h
  generalize rnum st 1 = q at *
  obtain ⟨st, m⟩ := q
  simp only at nm rm ⊢
  have RM := Lib.hid rm; clear rm h
  go_enter Try.func58, Try.ntmps58
  go_wp2_with (go_at_call 54; refine (RM.out).mono ?_; rintro e w1 ⟨rfl, hr1, hg1⟩; have HR := Lib.hid hr1; have HG1 := Lib.hid hg1; clear hr1 hg1)
  clear RM
  go_loopw [3, 9] (fun z i wr => ∃ k : Nat, k ≤ m ∧ i = .int .i64 k ∧ OwnL wr w.heap.size z (rdbs st k).2 ∧ Rdr wr g (rdbs st k).1 ∧ w.grownBy wr (some g)) (fun _ i _ => m - (intOf i).toNat)
  case atStart => exact ⟨0, Nat.zero_le _, rfl, ownL_nil _ _, HR.out, HG1.out⟩
  case round =>
    clear HR HG1
    obtain ⟨k, hk, rfl, hown, hr, hg⟩ := hrel
    by_cases hlt : k < m
    · have hws := hg.size
      have hlen := rdbs_len st k
      have hs : rdbs st (k + 1) = ((rAll (rdbs st k).1).1, (rdbs st k).2 ++ [laOf (rdbs st k).1]) := rfl
      generalize rdbs st k = q at *
      obtain ⟨st0, db⟩ := q
      simp only at hown hr hlen hs
      obtain ⟨a, hal⟩ : ∃ a, a = laOf st0 := ⟨_, rfl⟩
      rw [← hal] at hs
      have lr : Calls Try.prog 68 #[ptr g] wr (fun e w' => ∃ v, e = .returned (.tuple #[lsaV a.o a.s v, .bool (rOk st0)]) ∧ (∃ n, w'.ownsRow wr.heap.size 85 2 v n (lkCells a.ls)) ∧ Rdr w' g (rAll st0).1 ∧ wr.grownBy w' (some g)) := by
        rw [hal]
        exact lread_own g st0 wr hr
      generalize rOk st0 = ok at lr
      generalize (rAll st0).1 = st2 at *
      have LR := Lib.hid lr; clear lr hal hr
      have HS := Lib.hid hs; clear hs
      have HG := Lib.hid hg; clear hg
      have HLEN := Lib.hid hlen; clear hlen
      have HOW0 := Lib.hid hown
      obtain ⟨us, hus, how, hlk⟩ := hown
      obtain ⟨Ad, cd, rfl⟩ := Lsa.own_form how
      have HUS := Lib.hid hus; clear hus
      have HOW := Lib.hid how; clear how
      have HLK := Lib.hid hlk; clear hlk
      go_wp2_with (first
        | (go_at_call 68; refine (LR.out).mono ?_; rintro e w5 ⟨u5, rfl, ⟨nu, ho5⟩, hr5, hg5⟩; obtain ⟨Au, cu, rfl⟩ := Lsa.own_form ho5; have hs5 := hg5.size; have HG5 := Lib.hid (grown_trans HG.out hg5); have HO5 := Lib.hid ((own_gr14 HOW.out hg5 hgs).alloc (Obj.cells #[.int .i64 a.o, .int .i64 a.s, .slice Au nu cu] 49)); have HL5 := Lib.hid (fun i (hi : i < db.length) => LkT.below (lkT_gr14 (HLK.out i hi) hg5 hgs) (low1 (Below.refl w5.heap.size w5) (Obj.cells #[.int .i64 a.o, .int .i64 a.s, .slice Au nu cu] 49))); have HU5 := Lib.hid (LkT.below (⟨_, own_mono ho5 hws⟩ : LkT w5 w.heap.size (.slice Au nu cu) a.ls) (low1 (Below.refl w5.heap.size w5) (Obj.cells #[.int .i64 a.o, .int .i64 a.s, .slice Au nu cu] 49))); have HR5 := Lib.hid (hr5.alloc (Obj.cells #[.int .i64 a.o, .int .i64 a.s, .slice Au nu cu] 49)); clear ho5 hr5 hg5)
        | (at_builtin; (refine wpList_append_any _ rfl (.tmp 16) (.tmp 18) 24 rfl w.heap.size 49 i0 (.agg #[.int .i64 0, .int .i64 0, .slice none 0 0]) 3 40 Try.underlying24 HI.out HZ0.out HZ1.out HZ2.out rfl (by decide) (.slice Ad db.length cd) db.length (flatL db us) rfl (HO5.out.alloc _) ((w5.alloc (.cells #[.int .i64 a.o, .int .i64 a.s, .slice Au nu cu] 49)).heap.size + 1) (some ⟨w5.heap.size + 1, 0, none⟩) 1 1 (rowL a (.slice Au nu cu)) rfl (reads_lsa14 (w5.alloc (.cells #[.int .i64 a.o, .int .i64 a.s, .slice Au nu cu] 49)) a (.slice Au nu cu) _ (by simp)) (rowL_one14 a Au nu cu) (by have := HLEN.out; unfold maxLen; omega) (by have := HLEN.out; omega) (by simp; omega) ?_; intro v7 w7 hown7 hg7 _)))
      have hg8 : (w5.alloc (Obj.cells #[.int .i64 a.o, .int .i64 a.s, .slice Au nu cu] 49)).grownBy w7 (Value.slice Ad db.length cd).ownBlock := grown_trans (World.grownBy_alloc _ _ _) hg7
      have hl9 : OwnL w7 w.heap.size v7 (db ++ [a]) := ownL_push HUS.out HO5.out HL5.out HU5.out hown7 hg8
      have hg9 := grown_over HG5.out (grown_trans (World.grownBy_alloc w5 (Obj.cells #[.int .i64 a.o, .int .i64 a.s, .slice Au nu cu] 49) _) hg8) (fun q hq => (HO5.out.lt q hq).1)
      have hr9 := HR5.out.grown hg8 (fun q hq => Nat.lt_of_lt_of_le hgs (HO5.out.lt q hq).1)
      go_roundw
      case rel => exact ⟨k + 1, by omega, by go_num, by rw [HS.out]; exact hl9, by rw [HS.out]; exact hr9, hg9⟩
      case measure => simp [intOf]; omega
    · obtain rfl : k = m := by omega
      obtain ⟨A5, c5, rfl⟩ := hown.form
      have HOW := Lib.hid hown; clear hown
      have HRR := Lib.hid hr; clear hr
      have HG := Lib.hid hg; clear hg
      go_wp2
      go_ret
      exact ⟨_, rfl, HOW.out, HRR.out, HG.out⟩
end Go.Proofs.Ytpolpppnajfhdaa.Pkt
/- The packet that is read next (layer 14): the contract of packet.read. -/
namespace Go.Proofs.Ytpolpppnajfhdaa.Pkt
open Go.RowKit Go.Proofs.Ytpolpppnajfhdaa.Mem Go.Proofs.Ytpolpppnajfhdaa.Oct Go.Proofs.Ytpolpppnajfhdaa.Lsa Go.Proofs.Ytpolpppnajfhdaa.Bas
open Go.Proofs.Ytpolpppnajfhdaa.Chg (low1 low_low low2 blk_second)
set_option linter.unusedVariables false
set_option linter.unusedSimpArgs false
theorem size_pk : (Try.prog.info? 26).map (·.size) = some 10 := by kernel_rfl
theorem blk_fz10 {w : World} {g : Nat} {t : TypeId} {cs : Array Value} (h : Blk w g t cs) : w.frozen? ⟨g, 0, none⟩ = false ∧ w.frozen? ⟨g, 1, none⟩ = false ∧ w.frozen? ⟨g, 2, none⟩ = false ∧ w.frozen? ⟨g, 3, none⟩ = false ∧ w.frozen? ⟨g, 4, none⟩ = false ∧ w.frozen? ⟨g, 5, none⟩ = false ∧ w.frozen? ⟨g, 6, none⟩ = false ∧ w.frozen? ⟨g, 7, none⟩ = false ∧ w.frozen? ⟨g, 8, none⟩ = false ∧ w.frozen? ⟨g, 9, none⟩ = false := ⟨h.frozen 0, h.frozen 1, h.frozen 2, h.frozen 3, h.frozen 4, h.frozen 5, h.frozen 6, h.frozen 7, h.frozen 8, h.frozen 9⟩
theorem results_blk {P : Program} {fn : Func} {p : Tmp} {ty : TypeId} (h : fn.results = #[.cell p ty]) (tmps : Array Value) {w : World} {g : Nat} {cs : Array Value} {d : TypeDesc} (hp : tmps.getD p undef = .pointer (some ⟨g, 0, none⟩))
    (hb : Blk w g ty cs) (hu : P.underlying ty = some d) (hd : (match d with | .struct _ | .array _ _ => true | _ => false) = true) (hi : (P.info? ty).map (·.size) = some cs.size) :
    (results fn tmps).run P w = .ok (.agg cs) w := by
  have hp' : tmps[p]?.getD undef = .pointer (some ⟨g, 0, none⟩) := by simpa using hp
  simp [results, h, hp', asAddr, run_loadVar_blk hb hu hd hi]
abbrev zC : Array Value := #[.int .i64 0, .int .i64 0, .int .i64 0, .int .i64 0, .int .i64 0, .int .i64 0, .int .i64 0, .slice none 0 0, .slice none 0 0, .slice none 0 0]
/-- a packet's lists in rows of the call's own -/
def PkOwn (w : World) (base : Nat) (h i l : Value) (p : Pk) : Prop :=
  (∃ n, w.ownsRow base 59 2 h n (lkCells p.hd)) ∧ (∃ n, w.ownsRow base 64 2 i n (lkCells p.it)) ∧ OwnL w base l p.ls
theorem PkOwn.pkM {w : World} {base : Nat} {h i l : Value} {p : Pk} (k : PkOwn w base h i l p) : PkM w w.heap.size h i l p := by
  obtain ⟨⟨_, h1⟩, ⟨_, h2⟩, h3⟩ := k
  exact ⟨lks_own_t h1, lks_own_t h2, h3.las⟩
theorem PkOwn.gr {w w' : World} {base g : Nat} {h i l : Value} {p : Pk} (k : PkOwn w base h i l p) (hg : w.grownBy w' (some g)) (hlt : g < base) : PkOwn w' base h i l p := by
  obtain ⟨⟨_, h1⟩, ⟨_, h2⟩, h3⟩ := k
  exact ⟨⟨_, own_gr14 h1 hg hlt⟩, ⟨_, own_gr14 h2 hg hlt⟩, ownL_gr14 h3 hg hlt⟩
theorem PkOwn.below {w w' : World} {base : Nat} {h i l : Value} {p : Pk} (k : PkOwn w base h i l p) (hb : Below w.heap.size w w') : PkOwn w' base h i l p := by
  obtain ⟨⟨_, h1⟩, ⟨_, h2⟩, h3⟩ := k
  exact ⟨⟨_, own_below h1 hb⟩, ⟨_, own_below h2 hb⟩, h3.below hb⟩
theorem PkOwn.more {w : World} {base base' : Nat} {h i l : Value} {p : Pk} (k : PkOwn w base h i l p) (hb : base' ≤ base) : PkOwn w base' h i l p := by
  obtain ⟨⟨_, h1⟩, ⟨_, h2⟩, h3⟩ := k
  exact ⟨⟨_, own_mono h1 hb⟩, ⟨_, own_mono h2 hb⟩, ownL_more14 h3 hb⟩
theorem pkOwn_nil (w : World) (base : Nat) (k f b t tb e te : Int) : PkOwn w base (.slice none 0 0) (.slice none 0 0) (.slice none 0 0) ⟨k, f, b, t, tb, e, te, [], [], []⟩ :=
  ⟨⟨0, World.ownsRow_nil _ _ _ _⟩, ⟨0, World.ownsRow_nil _ _ _ _⟩, ownL_nil _ _⟩
/-- what read answers -/
def ReadOutP (w : World) (g : Nat) (r : St × Pk) (e : Ending) (w' : World) : Prop :=
  ∃ h i l, e = .returned (pkV r.2 h i l) ∧ PkOwn w' w.heap.size h i l r.2 ∧ Rdr w' g r.1 ∧ w.grownBy w' (some g)
theorem set1 {w : World} {g : Nat} {t : TypeId} {a0 a1 a2 a3 a4 a5 a6 a7 a8 a9 : Value} (h : Blk w g t #[a0, a1, a2, a3, a4, a5, a6, a7, a8, a9]) (u : Value) : Blk (w.setCell ⟨g, 1, none⟩ u) g t #[a0, u, a2, a3, a4, a5, a6, a7, a8, a9] := h.set_ 1 u
theorem set2 {w : World} {g : Nat} {t : TypeId} {a0 a1 a2 a3 a4 a5 a6 a7 a8 a9 : Value} (h : Blk w g t #[a0, a1, a2, a3, a4, a5, a6, a7, a8, a9]) (u : Value) : Blk (w.setCell ⟨g, 2, none⟩ u) g t #[a0, a1, u, a3, a4, a5, a6, a7, a8, a9] := h.set_ 2 u
theorem set3 {w : World} {g : Nat} {t : TypeId} {a0 a1 a2 a3 a4 a5 a6 a7 a8 a9 : Value} (h : Blk w g t #[a0, a1, a2, a3, a4, a5, a6, a7, a8, a9]) (u : Value) : Blk (w.setCell ⟨g, 3, none⟩ u) g t #[a0, a1, a2, u, a4, a5, a6, a7, a8, a9] := h.set_ 3 u
theorem set4_ {w : World} {g : Nat} {t : TypeId} {a0 a1 a2 a3 a4 a5 a6 a7 a8 a9 : Value} (h : Blk w g t #[a0, a1, a2, a3, a4, a5, a6, a7, a8, a9]) (u : Value) : Blk (w.setCell ⟨g, 4, none⟩ u) g t #[a0, a1, a2, a3, u, a5, a6, a7, a8, a9] := h.set_ 4 u
theorem set5 {w : World} {g : Nat} {t : TypeId} {a0 a1 a2 a3 a4 a5 a6 a7 a8 a9 : Value} (h : Blk w g t #[a0, a1, a2, a3, a4, a5, a6, a7, a8, a9]) (u : Value) : Blk (w.setCell ⟨g, 5, none⟩ u) g t #[a0, a1, a2, a3, a4, u, a6, a7, a8, a9] := h.set_ 5 u
theorem set6 {w : World} {g : Nat} {t : TypeId} {a0 a1 a2 a3 a4 a5 a6 a7 a8 a9 : Value} (h : Blk w g t #[a0, a1, a2, a3, a4, a5, a6, a7, a8, a9]) (u : Value) : Blk (w.setCell ⟨g, 6, none⟩ u) g t #[a0, a1, a2, a3, a4, a5, u, a7, a8, a9] := h.set_ 6 u
theorem set7 {w : World} {g : Nat} {t : TypeId} {a0 a1 a2 a3 a4 a5 a6 a7 a8 a9 : Value} (h : Blk w g t #[a0, a1, a2, a3, a4, a5, a6, a7, a8, a9]) (u : Value) : Blk (w.setCell ⟨g, 7, none⟩ u) g t #[a0, a1, a2, a3, a4, a5, a6, u, a8, a9] := h.set_ 7 u
theorem set8 {w : World} {g : Nat} {t : TypeId} {a0 a1 a2 a3 a4 a5 a6 a7 a8 a9 : Value} (h : Blk w g t #[a0, a1, a2, a3, a4, a5, a6, a7, a8, a9]) (u : Value) : Blk (w.setCell ⟨g, 8, none⟩ u) g t #[a0, a1, a2, a3, a4, a5, a6, a7, u, a9] := h.set_ 8 u
theorem set9 {w : World} {g : Nat} {t : TypeId} {a0 a1 a2 a3 a4 a5 a6 a7 a8 a9 : Value} (h : Blk w g t #[a0, a1, a2, a3, a4, a5, a6, a7, a8, a9]) (u : Value) : Blk (w.setCell ⟨g, 9, none⟩ u) g t #[a0, a1, a2, a3, a4, a5, a6, a7, a8, u] := h.set_ 9 u
theorem tailK1 {p : Pk} {st : St} (h : p.k = 1) : tailC p st = ((hdsC st).1, { p with hd := (hdsC st).2 }) := by simp [tailC, h]
theorem tailK2 {p : Pk} {st : St} (h : p.k = 2) : tailC p st = ((itsC (rnum st 4).1).1, { p with e := ((rnum st 4).2 : Nat), it := (itsC (rnum st 4).1).2 }) := by simp [tailC, h]
theorem tailK5 {p : Pk} {st : St} (h : p.k = 5) : tailC p st = ((itsC st).1, { p with it := (itsC st).2 }) := by simp [tailC, h]
theorem tailK3 {p : Pk} {st : St} (h : p.k = 3) : tailC p st = ((rnum (rnum st 4).1 4).1, { p with e := ((rnum st 4).2 : Nat), te := ((rnum (rnum st 4).1 4).2 : Nat) }) := by simp [tailC, h]
theorem tailK4 {p : Pk} {st : St} (h : p.k = 4) : tailC p st = ((lssC st).1, { p with ls := (lssC st).2 }) := by simp [tailC, h]
theorem tailK0 {p : Pk} {st : St} (h1 : p.k ≠ 1) (h2 : p.k ≠ 2) (h3 : p.k ≠ 3) (h4 : p.k ≠ 4) (h5 : p.k ≠ 5) : tailC p st = (st, p) := by simp [tailC, h1, h2, h3, h4, h5]
theorem own_form14 {w : World} {base n sz : Nat} {e : TypeId} {v : Value} {xs : List Value} (h : w.ownsRow base e sz v n xs) : ∃ A m c, v = .slice A m c := by
  obtain ⟨A, c, rfl⟩ := Lsa.own_form h
  exact ⟨A, _, c, rfl⟩
theorem ownL_form14 {w : World} {base : Nat} {v : Value} {l : List La} (h : OwnL w base v l) : ∃ A m c, v = .slice A m c := by
  obtain ⟨A, c, rfl⟩ := h.form
  exact ⟨A, _, c, rfl⟩
set_option maxRecDepth 100000 in
set_option maxHeartbeats 16000000 in
theorem pread_one (g : Nat) (xs : List Nat) (w : World) (h : Rdr w g (xs, true)) (hk : (c1 xs).2 = 1) :
    Calls Try.prog 35 #[ptr g] w (ReadOutP w g (rPk xs)) := by
  have hgs := h.size
  have hb := h.lt
  have n1 : (c1 xs).2 < 256 := rnum_small (st := (xs, true)) (k := 1) (K := 1) rfl hb
  have b1 : ∀ x ∈ (c1 xs).1.1, x < 256 := Chg.rnum_bytes hb
  have b2 : ∀ x ∈ (c2 xs).1.1, x < 256 := Chg.rnum_bytes b1
  have b3 : ∀ x ∈ (c3 xs).1.1, x < 256 := Chg.rnum_bytes b2
  have b4 : ∀ x ∈ (c4 xs).1.1, x < 256 := Chg.rnum_bytes b3
  have b5 : ∀ x ∈ (c5 xs).1.1, x < 256 := Chg.rnum_bytes b4
  have r1 : ∀ W, Rdr W g (xs, true) → Calls Try.prog 54 #[ptr g, .int .i64 1] W fun e w' => e = .returned (.int .u64 ((c1 xs).2 : Nat)) ∧ Rdr w' g (c1 xs).1 ∧ W.grownBy w' (some g) := fun W hW => rnum_any g (xs, true) 1 W hW
  have r2 : ∀ W, Rdr W g (c1 xs).1 → Calls Try.prog 55 #[ptr g] W fun e w' => e = .returned (.tuple #[.int .i64 ((c2 xs).2 : Nat), .int .i64 ((c3 xs).2 : Nat)]) ∧ Rdr w' g (c3 xs).1 ∧ W.grownBy w' (some g) := fun W hW => readWho_any g (c1 xs).1 W hW
  have r3 : ∀ W, Rdr W g (c3 xs).1 → Calls Try.prog 55 #[ptr g] W fun e w' => e = .returned (.tuple #[.int .i64 ((c4 xs).2 : Nat), .int .i64 ((c5 xs).2 : Nat)]) ∧ Rdr w' g (c5 xs).1 ∧ W.grownBy w' (some g) := fun W hW => readWho_any g (c3 xs).1 W hW
  unfold rPk headC
  generalize (c1 xs).2 = N at *
  generalize (c2 xs).2 = F at *
  generalize (c3 xs).2 = B at *
  generalize (c4 xs).2 = D at *
  generalize (c5 xs).2 = DB at *
  generalize (c1 xs).1 = s1 at *
  generalize (c3 xs).1 = s3 at *
  generalize (c5 xs).1 = s5 at *
  rw [tailK1 (show (N : Int) = 1 by omega)]
  have d1 : ((N : Int) == 1) = true := by rw [beq_iff_eq]; omega
  clear hk
  have r4 := fun W (hW : Rdr W g s5) => readHeard_any g s5 W hW
  clear b1 b2 b3 b4 b5 hb
  have R1 := Lib.hid r1; clear r1
  have R2 := Lib.hid r2; clear r2
  have R3 := Lib.hid r3; clear r3
  have R4 := Lib.hid r4; clear r4
  have HR0 := Lib.hid h; clear h
  go_enter Try.func35, Try.ntmps35
  go_wp2_with (first
    | (have HM1 := R1; go_at_call 54; refine (R1.out _ (HR0.out.alloc _)).mono ?_; rintro e1 w1 ⟨rfl, hr1, hg1⟩; have kr1 := (Blk.new w 26 zC).grown hg1 (by simp; omega); have hl1 := kr1.lt; have HR1 := Lib.hid hr1; have HG1 := Lib.hid (grown_trans (World.grownBy_alloc w (Obj.cells zC 26) (some g)) hg1); have KR1 := Lib.hid kr1; clear hr1 hg1 kr1 HM1 R1)
    | (have HM2 := R2; go_at_call 55; refine (R2.out _ (HR1.out.alloc _)).mono ?_; rintro e2 w2 ⟨rfl, hr2, hg2⟩; have k2 := (Blk.new w1 26 #[.int .i64 (N : Nat), .int .i64 0, .int .i64 0, .int .i64 0, .int .i64 0, .int .i64 0, .int .i64 0, .slice none 0 0, .slice none 0 0, .slice none 0 0]).grown hg2 (by simp; omega); have hl2 := k2.lt; have kr2 := (KR1.out.alloc _).grown hg2 (by simp; omega); have g2 := grown_trans (grown_trans HG1.out (World.grownBy_alloc w1 (Obj.cells #[.int .i64 (N : Nat), .int .i64 0, .int .i64 0, .int .i64 0, .int .i64 0, .int .i64 0, .int .i64 0, .slice none 0 0, .slice none 0 0, .slice none 0 0] 26) (some g))) hg2; obtain ⟨x0, x1, x2, x3, x4, x5, x6, x7, x8, x9, x10⟩ := blk_cells10 k2; obtain ⟨f0, f1, f2, f3, f4, f5, f6, f7, f8, f9⟩ := blk_fz10 k2; have K2 := Lib.hid (set2 (set1 k2 (.int .i64 (F : Nat))) (.int .i64 (B : Nat))); have HR2 := Lib.hid ((hr2.setFar ⟨w1.heap.size, 1, none⟩ (by show g < w1.heap.size; omega) (.int .i64 (F : Nat))).setFar ⟨w1.heap.size, 2, none⟩ (by show g < w1.heap.size; omega) (.int .i64 (B : Nat))); have KR2 := Lib.hid ((kr2.far (p := ⟨w1.heap.size, 1, none⟩) (by show w.heap.size ≠ w1.heap.size; omega) (.int .i64 (F : Nat))).far (p := ⟨w1.heap.size, 2, none⟩) (by show w.heap.size ≠ w1.heap.size; omega) (.int .i64 (B : Nat))); have HG2 := Lib.hid (grown_over (grown_over g2 (grown_set _ ⟨w1.heap.size, 1, none⟩ (.int .i64 (F : Nat))) (fun q hq => by cases hq; show w.heap.size ≤ w1.heap.size; omega)) (grown_set _ ⟨w1.heap.size, 2, none⟩ (.int .i64 (B : Nat))) (fun q hq => by cases hq; show w.heap.size ≤ w1.heap.size; omega)); clear hr2 hg2 k2 kr2 g2 HM2 R2)
    | (have HM3 := R3; go_at_call 55; refine (R3.out _ HR2.out).mono ?_; rintro e3 w3 ⟨rfl, hr3, hg3⟩; have k3 := K2.out.grown hg3 (by simp; omega); have hl3 := k3.lt; have kr3 := KR2.out.grown hg3 (by simp; omega); have g3 := grown_trans HG2.out hg3; clear x0 x1 x2 x3 x4 x5 x6 x7 x8 x9 x10 f0 f1 f2 f3 f4 f5 f6 f7 f8 f9; obtain ⟨x0, x1, x2, x3, x4, x5, x6, x7, x8, x9, x10⟩ := blk_cells10 k3; obtain ⟨f0, f1, f2, f3, f4, f5, f6, f7, f8, f9⟩ := blk_fz10 k3; have K3 := Lib.hid (set4_ (set3 k3 (.int .i64 (D : Nat))) (.int .i64 (DB : Nat))); have HR3 := Lib.hid ((hr3.setFar ⟨w1.heap.size, 3, none⟩ (by show g < w1.heap.size; omega) (.int .i64 (D : Nat))).setFar ⟨w1.heap.size, 4, none⟩ (by show g < w1.heap.size; omega) (.int .i64 (DB : Nat))); have KR3 := Lib.hid ((kr3.far (p := ⟨w1.heap.size, 3, none⟩) (by show w.heap.size ≠ w1.heap.size; omega) (.int .i64 (D : Nat))).far (p := ⟨w1.heap.size, 4, none⟩) (by show w.heap.size ≠ w1.heap.size; omega) (.int .i64 (DB : Nat))); have HG3 := Lib.hid (grown_over (grown_over g3 (grown_set _ ⟨w1.heap.size, 3, none⟩ (.int .i64 (D : Nat))) (fun q hq => by cases hq; show w.heap.size ≤ w1.heap.size; omega)) (grown_set _ ⟨w1.heap.size, 4, none⟩ (.int .i64 (DB : Nat))) (fun q hq => by cases hq; show w.heap.size ≤ w1.heap.size; omega)); clear hr3 hg3 k3 kr3 g3 HM3 R3)
    | (have HM4 := R4; go_at_call 56; refine (R4.out _ HR3.out).mono ?_; rintro e4 w4 ⟨v4, q4, rfl, ho4, hr4, hg4⟩; obtain ⟨A4, n4_, c4_, rfl⟩ := own_form14 ho4; have k4 := K3.out.grown hg4 (by simp; omega); have hl4 := k4.lt; have kr4 := KR3.out.grown hg4 (by simp; omega); have g4 := grown_trans HG3.out hg4; clear x0 x1 x2 x3 x4 x5 x6 x7 x8 x9 x10 f0 f1 f2 f3 f4 f5 f6 f7 f8 f9; obtain ⟨x0, x1, x2, x3, x4, x5, x6, x7, x8, x9, x10⟩ := blk_cells10 k4; obtain ⟨f0, f1, f2, f3, f4, f5, f6, f7, f8, f9⟩ := blk_fz10 k4; have K4 := Lib.hid (set7 k4 (.slice A4 n4_ c4_)); have HR4 := Lib.hid (hr4.setFar ⟨w1.heap.size, 7, none⟩ (by show g < w1.heap.size; omega) (.slice A4 n4_ c4_)); have KR4 := Lib.hid (kr4.far (p := ⟨w1.heap.size, 7, none⟩) (by show w.heap.size ≠ w1.heap.size; omega) (.slice A4 n4_ c4_)); have HG4 := Lib.hid (grown_over g4 (grown_set _ ⟨w1.heap.size, 7, none⟩ (.slice A4 n4_ c4_)) (fun q hq => by cases hq; show w.heap.size ≤ w1.heap.size; omega)); have HO := Lib.hid (own_mono (own_gr14 ho4 (grown_set w4 ⟨w1.heap.size, 7, none⟩ (.slice A4 n4_ c4_)) (by show w1.heap.size < _; simp; omega)) (base' := w.heap.size + 1) (by simp; omega)); clear hr4 hg4 k4 kr4 g4 HM4 R4)
    | (refine wpList_load_blk rfl 26 (.tmp 3) rfl w1.heap.size rfl #[.int .i64 (N : Nat), .int .i64 (F : Nat), .int .i64 (B : Nat), .int .i64 (D : Nat), .int .i64 (DB : Nat), .int .i64 0, .int .i64 0, .slice A4 n4_ c4_, .slice none 0 0, .slice none 0 0] K4.out _ Try.underlying26 rfl (by rw [size_pk]; rfl) ?_)
    | (refine wpList_store_blk rfl 26 (.tmp 2) (.tmp 58) rfl w.heap.size #[.int .i64 (N : Nat), .int .i64 (F : Nat), .int .i64 (B : Nat), .int .i64 (D : Nat), .int .i64 (DB : Nat), .int .i64 0, .int .i64 0, .slice A4 n4_ c4_, .slice none 0 0, .slice none 0 0] rfl rfl _ KR4.out (by rw [size_pk]; rfl) rfl (by kernel_rfl) ?_; intro w9 hg9 k9; have K9 := Lib.hid k9; have HR9 := Lib.hid (HR4.out.grown hg9 (fun q hq => by cases hq; omega)); have HG9 := Lib.hid (grown_over HG4.out hg9 (fun q hq => by cases hq; omega)); have HO9 := Lib.hid (own_mono (own_gr14 HO.out hg9 (by omega)) (base' := w.heap.size) (by omega)); clear hg9 k9))
  refine bodyPost_ret (v := .agg #[.int .i64 (N : Nat), .int .i64 (F : Nat), .int .i64 (B : Nat), .int .i64 (D : Nat), .int .i64 (DB : Nat), .int .i64 0, .int .i64 0, .slice A4 n4_ c4_, .slice none 0 0, .slice none 0 0]) ?_ rfl ⟨_, _, _, rfl, ⟨⟨_, HO9.out⟩, ⟨0, World.ownsRow_nil _ _ _ _⟩, ownL_nil _ _⟩, HR9.out, HG9.out⟩
  exact results_blk (P := Try.prog) Try.results35 _ rfl K9.out Try.underlying26 rfl (by rw [size_pk]; rfl)
set_option maxRecDepth 100000 in
set_option maxHeartbeats 16000000 in
theorem pread_two (g : Nat) (xs : List Nat) (w : World) (h : Rdr w g (xs, true)) (hk : (c1 xs).2 = 2) :
    Calls Try.prog 35 #[ptr g] w (ReadOutP w g (rPk xs)) := by
  have hgs := h.size
  have hb := h.lt
  have n1 : (c1 xs).2 < 256 := rnum_small (st := (xs, true)) (k := 1) (K := 1) rfl hb
  have b1 : ∀ x ∈ (c1 xs).1.1, x < 256 := Chg.rnum_bytes hb
  have b2 : ∀ x ∈ (c2 xs).1.1, x < 256 := Chg.rnum_bytes b1
  have b3 : ∀ x ∈ (c3 xs).1.1, x < 256 := Chg.rnum_bytes b2
  have b4 : ∀ x ∈ (c4 xs).1.1, x < 256 := Chg.rnum_bytes b3
  have b5 : ∀ x ∈ (c5 xs).1.1, x < 256 := Chg.rnum_bytes b4
  have r1 : ∀ W, Rdr W g (xs, true) → Calls Try.prog 54 #[ptr g, .int .i64 1] W fun e w' => e = .returned (.int .u64 ((c1 xs).2 : Nat)) ∧ Rdr w' g (c1 xs).1 ∧ W.grownBy w' (some g) := fun W hW => rnum_any g (xs, true) 1 W hW
  have r2 : ∀ W, Rdr W g (c1 xs).1 → Calls Try.prog 55 #[ptr g] W fun e w' => e = .returned (.tuple #[.int .i64 ((c2 xs).2 : Nat), .int .i64 ((c3 xs).2 : Nat)]) ∧ Rdr w' g (c3 xs).1 ∧ W.grownBy w' (some g) := fun W hW => readWho_any g (c1 xs).1 W hW
  have r3 : ∀ W, Rdr W g (c3 xs).1 → Calls Try.prog 55 #[ptr g] W fun e w' => e = .returned (.tuple #[.int .i64 ((c4 xs).2 : Nat), .int .i64 ((c5 xs).2 : Nat)]) ∧ Rdr w' g (c5 xs).1 ∧ W.grownBy w' (some g) := fun W hW => readWho_any g (c3 xs).1 W hW
  unfold rPk headC
  generalize (c1 xs).2 = N at *
  generalize (c2 xs).2 = F at *
  generalize (c3 xs).2 = B at *
  generalize (c4 xs).2 = D at *
  generalize (c5 xs).2 = DB at *
  generalize (c1 xs).1 = s1 at *
  generalize (c3 xs).1 = s3 at *
  generalize (c5 xs).1 = s5 at *
  rw [tailK2 (show (N : Int) = 2 by omega)]
  have d1 : ((N : Int) == 1) = false := by rw [beq_eq_false_iff_ne]; omega
  have d2 : ((N : Int) == 2) = true := by rw [beq_iff_eq]; omega
  clear hk
  have m4 : (rnum s5 4).2 < 4294967296 := rnum_small (k := 4) (K := 4) rfl b5
  have b6 : ∀ x ∈ (rnum s5 4).1.1, x < 256 := Chg.rnum_bytes b5
  have r4 := fun W (hW : Rdr W g s5) => rnum_any g s5 4 W hW
  generalize rnum s5 4 = q at *
  obtain ⟨s6, E0⟩ := q
  simp only at m4 b6 r4 ⊢
  have r5 := fun W (hW : Rdr W g s6) => readItems_any g s6 W hW
  clear b1 b2 b3 b4 b5 hb
  clear b6
  have R1 := Lib.hid r1; clear r1
  have R2 := Lib.hid r2; clear r2
  have R3 := Lib.hid r3; clear r3
  have R4 := Lib.hid r4; clear r4
  have R5 := Lib.hid r5; clear r5
  have HR0 := Lib.hid h; clear h
  go_enter Try.func35, Try.ntmps35
  go_wp2_with (first
    | (have HM1 := R1; go_at_call 54; refine (R1.out _ (HR0.out.alloc _)).mono ?_; rintro e1 w1 ⟨rfl, hr1, hg1⟩; have kr1 := (Blk.new w 26 zC).grown hg1 (by simp; omega); have hl1 := kr1.lt; have HR1 := Lib.hid hr1; have HG1 := Lib.hid (grown_trans (World.grownBy_alloc w (Obj.cells zC 26) (some g)) hg1); have KR1 := Lib.hid kr1; clear hr1 hg1 kr1 HM1 R1)
    | (have HM2 := R2; go_at_call 55; refine (R2.out _ (HR1.out.alloc _)).mono ?_; rintro e2 w2 ⟨rfl, hr2, hg2⟩; have k2 := (Blk.new w1 26 #[.int .i64 (N : Nat), .int .i64 0, .int .i64 0, .int .i64 0, .int .i64 0, .int .i64 0, .int .i64 0, .slice none 0 0, .slice none 0 0, .slice none 0 0]).grown hg2 (by simp; omega); have hl2 := k2.lt; have kr2 := (KR1.out.alloc _).grown hg2 (by simp; omega); have g2 := grown_trans (grown_trans HG1.out (World.grownBy_alloc w1 (Obj.cells #[.int .i64 (N : Nat), .int .i64 0, .int .i64 0, .int .i64 0, .int .i64 0, .int .i64 0, .int .i64 0, .slice none 0 0, .slice none 0 0, .slice none 0 0] 26) (some g))) hg2; obtain ⟨x0, x1, x2, x3, x4, x5, x6, x7, x8, x9, x10⟩ := blk_cells10 k2; obtain ⟨f0, f1, f2, f3, f4, f5, f6, f7, f8, f9⟩ := blk_fz10 k2; have K2 := Lib.hid (set2 (set1 k2 (.int .i64 (F : Nat))) (.int .i64 (B : Nat))); have HR2 := Lib.hid ((hr2.setFar ⟨w1.heap.size, 1, none⟩ (by show g < w1.heap.size; omega) (.int .i64 (F : Nat))).setFar ⟨w1.heap.size, 2, none⟩ (by show g < w1.heap.size; omega) (.int .i64 (B : Nat))); have KR2 := Lib.hid ((kr2.far (p := ⟨w1.heap.size, 1, none⟩) (by show w.heap.size ≠ w1.heap.size; omega) (.int .i64 (F : Nat))).far (p := ⟨w1.heap.size, 2, none⟩) (by show w.heap.size ≠ w1.heap.size; omega) (.int .i64 (B : Nat))); have HG2 := Lib.hid (grown_over (grown_over g2 (grown_set _ ⟨w1.heap.size, 1, none⟩ (.int .i64 (F : Nat))) (fun q hq => by cases hq; show w.heap.size ≤ w1.heap.size; omega)) (grown_set _ ⟨w1.heap.size, 2, none⟩ (.int .i64 (B : Nat))) (fun q hq => by cases hq; show w.heap.size ≤ w1.heap.size; omega)); clear hr2 hg2 k2 kr2 g2 HM2 R2)
    | (have HM3 := R3; go_at_call 55; refine (R3.out _ HR2.out).mono ?_; rintro e3 w3 ⟨rfl, hr3, hg3⟩; have k3 := K2.out.grown hg3 (by simp; omega); have hl3 := k3.lt; have kr3 := KR2.out.grown hg3 (by simp; omega); have g3 := grown_trans HG2.out hg3; clear x0 x1 x2 x3 x4 x5 x6 x7 x8 x9 x10 f0 f1 f2 f3 f4 f5 f6 f7 f8 f9; obtain ⟨x0, x1, x2, x3, x4, x5, x6, x7, x8, x9, x10⟩ := blk_cells10 k3; obtain ⟨f0, f1, f2, f3, f4, f5, f6, f7, f8, f9⟩ := blk_fz10 k3; have K3 := Lib.hid (set4_ (set3 k3 (.int .i64 (D : Nat))) (.int .i64 (DB : Nat))); have HR3 := Lib.hid ((hr3.setFar ⟨w1.heap.size, 3, none⟩ (by show g < w1.heap.size; omega) (.int .i64 (D : Nat))).setFar ⟨w1.heap.size, 4, none⟩ (by show g < w1.heap.size; omega) (.int .i64 (DB : Nat))); have KR3 := Lib.hid ((kr3.far (p := ⟨w1.heap.size, 3, none⟩) (by show w.heap.size ≠ w1.heap.size; omega) (.int .i64 (D : Nat))).far (p := ⟨w1.heap.size, 4, none⟩) (by show w.heap.size ≠ w1.heap.size; omega) (.int .i64 (DB : Nat))); have HG3 := Lib.hid (grown_over (grown_over g3 (grown_set _ ⟨w1.heap.size, 3, none⟩ (.int .i64 (D : Nat))) (fun q hq => by cases hq; show w.heap.size ≤ w1.heap.size; omega)) (grown_set _ ⟨w1.heap.size, 4, none⟩ (.int .i64 (DB : Nat))) (fun q hq => by cases hq; show w.heap.size ≤ w1.heap.size; omega)); clear hr3 hg3 k3 kr3 g3 HM3 R3)
    | (have HM4 := R4; go_at_call 54; refine (R4.out _ HR3.out).mono ?_; rintro e4 w4 ⟨rfl, hr4, hg4⟩; have k4 := K3.out.grown hg4 (by simp; omega); have hl4 := k4.lt; have kr4 := KR3.out.grown hg4 (by simp; omega); have g4 := grown_trans HG3.out hg4; clear x0 x1 x2 x3 x4 x5 x6 x7 x8 x9 x10 f0 f1 f2 f3 f4 f5 f6 f7 f8 f9; obtain ⟨x0, x1, x2, x3, x4, x5, x6, x7, x8, x9, x10⟩ := blk_cells10 k4; obtain ⟨f0, f1, f2, f3, f4, f5, f6, f7, f8, f9⟩ := blk_fz10 k4; have K4 := Lib.hid (set5 k4 (.int .i64 (E0 : Nat))); have HR4 := Lib.hid (hr4.setFar ⟨w1.heap.size, 5, none⟩ (by show g < w1.heap.size; omega) (.int .i64 (E0 : Nat))); have KR4 := Lib.hid (kr4.far (p := ⟨w1.heap.size, 5, none⟩) (by show w.heap.size ≠ w1.heap.size; omega) (.int .i64 (E0 : Nat))); have HG4 := Lib.hid (grown_over g4 (grown_set _ ⟨w1.heap.size, 5, none⟩ (.int .i64 (E0 : Nat))) (fun q hq => by cases hq; show w.heap.size ≤ w1.heap.size; omega)); clear hr4 hg4 k4 kr4 g4 HM4 R4)
    | (have HM5 := R5; go_at_call 57; refine (R5.out _ HR4.out).mono ?_; rintro e5 w5 ⟨v5, q5, rfl, ho5, hr5, hg5⟩; obtain ⟨A5, n5_, c5_, rfl⟩ := own_form14 ho5; have k5 := K4.out.grown hg5 (by simp; omega); have hl5 := k5.lt; have kr5 := KR4.out.grown hg5 (by simp; omega); have g5 := grown_trans HG4.out hg5; clear x0 x1 x2 x3 x4 x5 x6 x7 x8 x9 x10 f0 f1 f2 f3 f4 f5 f6 f7 f8 f9; obtain ⟨x0, x1, x2, x3, x4, x5, x6, x7, x8, x9, x10⟩ := blk_cells10 k5; obtain ⟨f0, f1, f2, f3, f4, f5, f6, f7, f8, f9⟩ := blk_fz10 k5; have K5 := Lib.hid (set8 k5 (.slice A5 n5_ c5_)); have HR5 := Lib.hid (hr5.setFar ⟨w1.heap.size, 8, none⟩ (by show g < w1.heap.size; omega) (.slice A5 n5_ c5_)); have KR5 := Lib.hid (kr5.far (p := ⟨w1.heap.size, 8, none⟩) (by show w.heap.size ≠ w1.heap.size; omega) (.slice A5 n5_ c5_)); have HG5 := Lib.hid (grown_over g5 (grown_set _ ⟨w1.heap.size, 8, none⟩ (.slice A5 n5_ c5_)) (fun q hq => by cases hq; show w.heap.size ≤ w1.heap.size; omega)); have HO := Lib.hid (own_mono (own_gr14 ho5 (grown_set w5 ⟨w1.heap.size, 8, none⟩ (.slice A5 n5_ c5_)) (by show w1.heap.size < _; simp; omega)) (base' := w.heap.size + 1) (by simp; omega)); clear hr5 hg5 k5 kr5 g5 HM5 R5)
    | (refine wpList_load_blk rfl 26 (.tmp 3) rfl w1.heap.size rfl #[.int .i64 (N : Nat), .int .i64 (F : Nat), .int .i64 (B : Nat), .int .i64 (D : Nat), .int .i64 (DB : Nat), .int .i64 (E0 : Nat), .int .i64 0, .slice none 0 0, .slice A5 n5_ c5_, .slice none 0 0] K5.out _ Try.underlying26 rfl (by rw [size_pk]; rfl) ?_)
    | (refine wpList_store_blk rfl 26 (.tmp 2) (.tmp 58) rfl w.heap.size #[.int .i64 (N : Nat), .int .i64 (F : Nat), .int .i64 (B : Nat), .int .i64 (D : Nat), .int .i64 (DB : Nat), .int .i64 (E0 : Nat), .int .i64 0, .slice none 0 0, .slice A5 n5_ c5_, .slice none 0 0] rfl rfl _ KR5.out (by rw [size_pk]; rfl) rfl (by kernel_rfl) ?_; intro w9 hg9 k9; have K9 := Lib.hid k9; have HR9 := Lib.hid (HR5.out.grown hg9 (fun q hq => by cases hq; omega)); have HG9 := Lib.hid (grown_over HG5.out hg9 (fun q hq => by cases hq; omega)); have HO9 := Lib.hid (own_mono (own_gr14 HO.out hg9 (by omega)) (base' := w.heap.size) (by omega)); clear hg9 k9))
  refine bodyPost_ret (v := .agg #[.int .i64 (N : Nat), .int .i64 (F : Nat), .int .i64 (B : Nat), .int .i64 (D : Nat), .int .i64 (DB : Nat), .int .i64 (E0 : Nat), .int .i64 0, .slice none 0 0, .slice A5 n5_ c5_, .slice none 0 0]) ?_ rfl ⟨_, _, _, rfl, ⟨⟨0, World.ownsRow_nil _ _ _ _⟩, ⟨_, HO9.out⟩, ownL_nil _ _⟩, HR9.out, HG9.out⟩
  exact results_blk (P := Try.prog) Try.results35 _ rfl K9.out Try.underlying26 rfl (by rw [size_pk]; rfl)
set_option maxRecDepth 100000 in
set_option maxHeartbeats 16000000 in
theorem pread_three (g : Nat) (xs : List Nat) (w : World) (h : Rdr w g (xs, true)) (hk : (c1 xs).2 = 3) :
    Calls Try.prog 35 #[ptr g] w (ReadOutP w g (rPk xs)) := by
  have hgs := h.size
  have hb := h.lt
  have n1 : (c1 xs).2 < 256 := rnum_small (st := (xs, true)) (k := 1) (K := 1) rfl hb
  have b1 : ∀ x ∈ (c1 xs).1.1, x < 256 := Chg.rnum_bytes hb
  have b2 : ∀ x ∈ (c2 xs).1.1, x < 256 := Chg.rnum_bytes b1
  have b3 : ∀ x ∈ (c3 xs).1.1, x < 256 := Chg.rnum_bytes b2
  have b4 : ∀ x ∈ (c4 xs).1.1, x < 256 := Chg.rnum_bytes b3
  have b5 : ∀ x ∈ (c5 xs).1.1, x < 256 := Chg.rnum_bytes b4
  have r1 : ∀ W, Rdr W g (xs, true) → Calls Try.prog 54 #[ptr g, .int .i64 1] W fun e w' => e = .returned (.int .u64 ((c1 xs).2 : Nat)) ∧ Rdr w' g (c1 xs).1 ∧ W.grownBy w' (some g) := fun W hW => rnum_any g (xs, true) 1 W hW
  have r2 : ∀ W, Rdr W g (c1 xs).1 → Calls Try.prog 55 #[ptr g] W fun e w' => e = .returned (.tuple #[.int .i64 ((c2 xs).2 : Nat), .int .i64 ((c3 xs).2 : Nat)]) ∧ Rdr w' g (c3 xs).1 ∧ W.grownBy w' (some g) := fun W hW => readWho_any g (c1 xs).1 W hW
  have r3 : ∀ W, Rdr W g (c3 xs).1 → Calls Try.prog 55 #[ptr g] W fun e w' => e = .returned (.tuple #[.int .i64 ((c4 xs).2 : Nat), .int .i64 ((c5 xs).2 : Nat)]) ∧ Rdr w' g (c5 xs).1 ∧ W.grownBy w' (some g) := fun W hW => readWho_any g (c3 xs).1 W hW
  unfold rPk headC
  generalize (c1 xs).2 = N at *
  generalize (c2 xs).2 = F at *
  generalize (c3 xs).2 = B at *
  generalize (c4 xs).2 = D at *
  generalize (c5 xs).2 = DB at *
  generalize (c1 xs).1 = s1 at *
  generalize (c3 xs).1 = s3 at *
  generalize (c5 xs).1 = s5 at *
  rw [tailK3 (show (N : Int) = 3 by omega)]
  have d1 : ((N : Int) == 1) = false := by rw [beq_eq_false_iff_ne]; omega
  have d2 : ((N : Int) == 2) = false := by rw [beq_eq_false_iff_ne]; omega
  have d5 : ((N : Int) == 5) = false := by rw [beq_eq_false_iff_ne]; omega
  have d3 : ((N : Int) == 3) = true := by rw [beq_iff_eq]; omega
  clear hk
  have m4 : (rnum s5 4).2 < 4294967296 := rnum_small (k := 4) (K := 4) rfl b5
  have b6 : ∀ x ∈ (rnum s5 4).1.1, x < 256 := Chg.rnum_bytes b5
  have r4 := fun W (hW : Rdr W g s5) => rnum_any g s5 4 W hW
  generalize rnum s5 4 = q at *
  obtain ⟨s6, E0⟩ := q
  simp only at m4 b6 r4 ⊢
  have m5 : (rnum s6 4).2 < 4294967296 := rnum_small (k := 4) (K := 4) rfl b6
  have b7 : ∀ x ∈ (rnum s6 4).1.1, x < 256 := Chg.rnum_bytes b6
  have r5 := fun W (hW : Rdr W g s6) => rnum_any g s6 4 W hW
  generalize rnum s6 4 = q at *
  obtain ⟨s7, E1⟩ := q
  simp only at m5 b7 r5 ⊢
  clear b1 b2 b3 b4 b5 hb
  clear b6
  clear b7
  have R1 := Lib.hid r1; clear r1
  have R2 := Lib.hid r2; clear r2
  have R3 := Lib.hid r3; clear r3
  have R4 := Lib.hid r4; clear r4
  have R5 := Lib.hid r5; clear r5
  have HR0 := Lib.hid h; clear h
  go_enter Try.func35, Try.ntmps35
  go_wp2_with (first
    | (have HM1 := R1; go_at_call 54; refine (R1.out _ (HR0.out.alloc _)).mono ?_; rintro e1 w1 ⟨rfl, hr1, hg1⟩; have kr1 := (Blk.new w 26 zC).grown hg1 (by simp; omega); have hl1 := kr1.lt; have HR1 := Lib.hid hr1; have HG1 := Lib.hid (grown_trans (World.grownBy_alloc w (Obj.cells zC 26) (some g)) hg1); have KR1 := Lib.hid kr1; clear hr1 hg1 kr1 HM1 R1)
    | (have HM2 := R2; go_at_call 55; refine (R2.out _ (HR1.out.alloc _)).mono ?_; rintro e2 w2 ⟨rfl, hr2, hg2⟩; have k2 := (Blk.new w1 26 #[.int .i64 (N : Nat), .int .i64 0, .int .i64 0, .int .i64 0, .int .i64 0, .int .i64 0, .int .i64 0, .slice none 0 0, .slice none 0 0, .slice none 0 0]).grown hg2 (by simp; omega); have hl2 := k2.lt; have kr2 := (KR1.out.alloc _).grown hg2 (by simp; omega); have g2 := grown_trans (grown_trans HG1.out (World.grownBy_alloc w1 (Obj.cells #[.int .i64 (N : Nat), .int .i64 0, .int .i64 0, .int .i64 0, .int .i64 0, .int .i64 0, .int .i64 0, .slice none 0 0, .slice none 0 0, .slice none 0 0] 26) (some g))) hg2; obtain ⟨x0, x1, x2, x3, x4, x5, x6, x7, x8, x9, x10⟩ := blk_cells10 k2; obtain ⟨f0, f1, f2, f3, f4, f5, f6, f7, f8, f9⟩ := blk_fz10 k2; have K2 := Lib.hid (set2 (set1 k2 (.int .i64 (F : Nat))) (.int .i64 (B : Nat))); have HR2 := Lib.hid ((hr2.setFar ⟨w1.heap.size, 1, none⟩ (by show g < w1.heap.size; omega) (.int .i64 (F : Nat))).setFar ⟨w1.heap.size, 2, none⟩ (by show g < w1.heap.size; omega) (.int .i64 (B : Nat))); have KR2 := Lib.hid ((kr2.far (p := ⟨w1.heap.size, 1, none⟩) (by show w.heap.size ≠ w1.heap.size; omega) (.int .i64 (F : Nat))).far (p := ⟨w1.heap.size, 2, none⟩) (by show w.heap.size ≠ w1.heap.size; omega) (.int .i64 (B : Nat))); have HG2 := Lib.hid (grown_over (grown_over g2 (grown_set _ ⟨w1.heap.size, 1, none⟩ (.int .i64 (F : Nat))) (fun q hq => by cases hq; show w.heap.size ≤ w1.heap.size; omega)) (grown_set _ ⟨w1.heap.size, 2, none⟩ (.int .i64 (B : Nat))) (fun q hq => by cases hq; show w.heap.size ≤ w1.heap.size; omega)); clear hr2 hg2 k2 kr2 g2 HM2 R2)
    | (have HM3 := R3; go_at_call 55; refine (R3.out _ HR2.out).mono ?_; rintro e3 w3 ⟨rfl, hr3, hg3⟩; have k3 := K2.out.grown hg3 (by simp; omega); have hl3 := k3.lt; have kr3 := KR2.out.grown hg3 (by simp; omega); have g3 := grown_trans HG2.out hg3; clear x0 x1 x2 x3 x4 x5 x6 x7 x8 x9 x10 f0 f1 f2 f3 f4 f5 f6 f7 f8 f9; obtain ⟨x0, x1, x2, x3, x4, x5, x6, x7, x8, x9, x10⟩ := blk_cells10 k3; obtain ⟨f0, f1, f2, f3, f4, f5, f6, f7, f8, f9⟩ := blk_fz10 k3; have K3 := Lib.hid (set4_ (set3 k3 (.int .i64 (D : Nat))) (.int .i64 (DB : Nat))); have HR3 := Lib.hid ((hr3.setFar ⟨w1.heap.size, 3, none⟩ (by show g < w1.heap.size; omega) (.int .i64 (D : Nat))).setFar ⟨w1.heap.size, 4, none⟩ (by show g < w1.heap.size; omega) (.int .i64 (DB : Nat))); have KR3 := Lib.hid ((kr3.far (p := ⟨w1.heap.size, 3, none⟩) (by show w.heap.size ≠ w1.heap.size; omega) (.int .i64 (D : Nat))).far (p := ⟨w1.heap.size, 4, none⟩) (by show w.heap.size ≠ w1.heap.size; omega) (.int .i64 (DB : Nat))); have HG3 := Lib.hid (grown_over (grown_over g3 (grown_set _ ⟨w1.heap.size, 3, none⟩ (.int .i64 (D : Nat))) (fun q hq => by cases hq; show w.heap.size ≤ w1.heap.size; omega)) (grown_set _ ⟨w1.heap.size, 4, none⟩ (.int .i64 (DB : Nat))) (fun q hq => by cases hq; show w.heap.size ≤ w1.heap.size; omega)); clear hr3 hg3 k3 kr3 g3 HM3 R3)
    | (have HM4 := R4; go_at_call 54; refine (R4.out _ HR3.out).mono ?_; rintro e4 w4 ⟨rfl, hr4, hg4⟩; have k4 := K3.out.grown hg4 (by simp; omega); have hl4 := k4.lt; have kr4 := KR3.out.grown hg4 (by simp; omega); have g4 := grown_trans HG3.out hg4; clear x0 x1 x2 x3 x4 x5 x6 x7 x8 x9 x10 f0 f1 f2 f3 f4 f5 f6 f7 f8 f9; obtain ⟨x0, x1, x2, x3, x4, x5, x6, x7, x8, x9, x10⟩ := blk_cells10 k4; obtain ⟨f0, f1, f2, f3, f4, f5, f6, f7, f8, f9⟩ := blk_fz10 k4; have K4 := Lib.hid (set5 k4 (.int .i64 (E0 : Nat))); have HR4 := Lib.hid (hr4.setFar ⟨w1.heap.size, 5, none⟩ (by show g < w1.heap.size; omega) (.int .i64 (E0 : Nat))); have KR4 := Lib.hid (kr4.far (p := ⟨w1.heap.size, 5, none⟩) (by show w.heap.size ≠ w1.heap.size; omega) (.int .i64 (E0 : Nat))); have HG4 := Lib.hid (grown_over g4 (grown_set _ ⟨w1.heap.size, 5, none⟩ (.int .i64 (E0 : Nat))) (fun q hq => by cases hq; show w.heap.size ≤ w1.heap.size; omega)); clear hr4 hg4 k4 kr4 g4 HM4 R4)
    | (have HM5 := R5; go_at_call 54; refine (R5.out _ HR4.out).mono ?_; rintro e5 w5 ⟨rfl, hr5, hg5⟩; have k5 := K4.out.grown hg5 (by simp; omega); have hl5 := k5.lt; have kr5 := KR4.out.grown hg5 (by simp; omega); have g5 := grown_trans HG4.out hg5; clear x0 x1 x2 x3 x4 x5 x6 x7 x8 x9 x10 f0 f1 f2 f3 f4 f5 f6 f7 f8 f9; obtain ⟨x0, x1, x2, x3, x4, x5, x6, x7, x8, x9, x10⟩ := blk_cells10 k5; obtain ⟨f0, f1, f2, f3, f4, f5, f6, f7, f8, f9⟩ := blk_fz10 k5; have K5 := Lib.hid (set6 k5 (.int .i64 (E1 : Nat))); have HR5 := Lib.hid (hr5.setFar ⟨w1.heap.size, 6, none⟩ (by show g < w1.heap.size; omega) (.int .i64 (E1 : Nat))); have KR5 := Lib.hid (kr5.far (p := ⟨w1.heap.size, 6, none⟩) (by show w.heap.size ≠ w1.heap.size; omega) (.int .i64 (E1 : Nat))); have HG5 := Lib.hid (grown_over g5 (grown_set _ ⟨w1.heap.size, 6, none⟩ (.int .i64 (E1 : Nat))) (fun q hq => by cases hq; show w.heap.size ≤ w1.heap.size; omega)); clear hr5 hg5 k5 kr5 g5 HM5 R5)
    | (refine wpList_load_blk rfl 26 (.tmp 3) rfl w1.heap.size rfl #[.int .i64 (N : Nat), .int .i64 (F : Nat), .int .i64 (B : Nat), .int .i64 (D : Nat), .int .i64 (DB : Nat), .int .i64 (E0 : Nat), .int .i64 (E1 : Nat), .slice none 0 0, .slice none 0 0, .slice none 0 0] K5.out _ Try.underlying26 rfl (by rw [size_pk]; rfl) ?_)
    | (refine wpList_store_blk rfl 26 (.tmp 2) (.tmp 58) rfl w.heap.size #[.int .i64 (N : Nat), .int .i64 (F : Nat), .int .i64 (B : Nat), .int .i64 (D : Nat), .int .i64 (DB : Nat), .int .i64 (E0 : Nat), .int .i64 (E1 : Nat), .slice none 0 0, .slice none 0 0, .slice none 0 0] rfl rfl _ KR5.out (by rw [size_pk]; rfl) rfl (by kernel_rfl) ?_; intro w9 hg9 k9; have K9 := Lib.hid k9; have HR9 := Lib.hid (HR5.out.grown hg9 (fun q hq => by cases hq; omega)); have HG9 := Lib.hid (grown_over HG5.out hg9 (fun q hq => by cases hq; omega)); clear hg9 k9))
  refine bodyPost_ret (v := .agg #[.int .i64 (N : Nat), .int .i64 (F : Nat), .int .i64 (B : Nat), .int .i64 (D : Nat), .int .i64 (DB : Nat), .int .i64 (E0 : Nat), .int .i64 (E1 : Nat), .slice none 0 0, .slice none 0 0, .slice none 0 0]) ?_ rfl ⟨_, _, _, rfl, ⟨⟨0, World.ownsRow_nil _ _ _ _⟩, ⟨0, World.ownsRow_nil _ _ _ _⟩, ownL_nil _ _⟩, HR9.out, HG9.out⟩
  exact results_blk (P := Try.prog) Try.results35 _ rfl K9.out Try.underlying26 rfl (by rw [size_pk]; rfl)
set_option maxRecDepth 100000 in
set_option maxHeartbeats 16000000 in
theorem pread_four (g : Nat) (xs : List Nat) (w : World) (h : Rdr w g (xs, true)) (hk : (c1 xs).2 = 4) :
    Calls Try.prog 35 #[ptr g] w (ReadOutP w g (rPk xs)) := by
  have hgs := h.size
  have hb := h.lt
  have n1 : (c1 xs).2 < 256 := rnum_small (st := (xs, true)) (k := 1) (K := 1) rfl hb
  have b1 : ∀ x ∈ (c1 xs).1.1, x < 256 := Chg.rnum_bytes hb
  have b2 : ∀ x ∈ (c2 xs).1.1, x < 256 := Chg.rnum_bytes b1
  have b3 : ∀ x ∈ (c3 xs).1.1, x < 256 := Chg.rnum_bytes b2
  have b4 : ∀ x ∈ (c4 xs).1.1, x < 256 := Chg.rnum_bytes b3
  have b5 : ∀ x ∈ (c5 xs).1.1, x < 256 := Chg.rnum_bytes b4
  have r1 : ∀ W, Rdr W g (xs, true) → Calls Try.prog 54 #[ptr g, .int .i64 1] W fun e w' => e = .returned (.int .u64 ((c1 xs).2 : Nat)) ∧ Rdr w' g (c1 xs).1 ∧ W.grownBy w' (some g) := fun W hW => rnum_any g (xs, true) 1 W hW
  have r2 : ∀ W, Rdr W g (c1 xs).1 → Calls Try.prog 55 #[ptr g] W fun e w' => e = .returned (.tuple #[.int .i64 ((c2 xs).2 : Nat), .int .i64 ((c3 xs).2 : Nat)]) ∧ Rdr w' g (c3 xs).1 ∧ W.grownBy w' (some g) := fun W hW => readWho_any g (c1 xs).1 W hW
  have r3 : ∀ W, Rdr W g (c3 xs).1 → Calls Try.prog 55 #[ptr g] W fun e w' => e = .returned (.tuple #[.int .i64 ((c4 xs).2 : Nat), .int .i64 ((c5 xs).2 : Nat)]) ∧ Rdr w' g (c5 xs).1 ∧ W.grownBy w' (some g) := fun W hW => readWho_any g (c3 xs).1 W hW
  unfold rPk headC
  generalize (c1 xs).2 = N at *
  generalize (c2 xs).2 = F at *
  generalize (c3 xs).2 = B at *
  generalize (c4 xs).2 = D at *
  generalize (c5 xs).2 = DB at *
  generalize (c1 xs).1 = s1 at *
  generalize (c3 xs).1 = s3 at *
  generalize (c5 xs).1 = s5 at *
  rw [tailK4 (show (N : Int) = 4 by omega)]
  have d1 : ((N : Int) == 1) = false := by rw [beq_eq_false_iff_ne]; omega
  have d2 : ((N : Int) == 2) = false := by rw [beq_eq_false_iff_ne]; omega
  have d5 : ((N : Int) == 5) = false := by rw [beq_eq_false_iff_ne]; omega
  have d3 : ((N : Int) == 3) = false := by rw [beq_eq_false_iff_ne]; omega
  have d4 : ((N : Int) == 4) = true := by rw [beq_iff_eq]; omega
  clear hk
  have r4 := fun W (hW : Rdr W g s5) => readLsas_any g s5 W hW
  clear b1 b2 b3 b4 b5 hb
  have R1 := Lib.hid r1; clear r1
  have R2 := Lib.hid r2; clear r2
  have R3 := Lib.hid r3; clear r3
  have R4 := Lib.hid r4; clear r4
  have HR0 := Lib.hid h; clear h
  go_enter Try.func35, Try.ntmps35
  go_wp2_with (first
    | (have HM1 := R1; go_at_call 54; refine (R1.out _ (HR0.out.alloc _)).mono ?_; rintro e1 w1 ⟨rfl, hr1, hg1⟩; have kr1 := (Blk.new w 26 zC).grown hg1 (by simp; omega); have hl1 := kr1.lt; have HR1 := Lib.hid hr1; have HG1 := Lib.hid (grown_trans (World.grownBy_alloc w (Obj.cells zC 26) (some g)) hg1); have KR1 := Lib.hid kr1; clear hr1 hg1 kr1 HM1 R1)
    | (have HM2 := R2; go_at_call 55; refine (R2.out _ (HR1.out.alloc _)).mono ?_; rintro e2 w2 ⟨rfl, hr2, hg2⟩; have k2 := (Blk.new w1 26 #[.int .i64 (N : Nat), .int .i64 0, .int .i64 0, .int .i64 0, .int .i64 0, .int .i64 0, .int .i64 0, .slice none 0 0, .slice none 0 0, .slice none 0 0]).grown hg2 (by simp; omega); have hl2 := k2.lt; have kr2 := (KR1.out.alloc _).grown hg2 (by simp; omega); have g2 := grown_trans (grown_trans HG1.out (World.grownBy_alloc w1 (Obj.cells #[.int .i64 (N : Nat), .int .i64 0, .int .i64 0, .int .i64 0, .int .i64 0, .int .i64 0, .int .i64 0, .slice none 0 0, .slice none 0 0, .slice none 0 0] 26) (some g))) hg2; obtain ⟨x0, x1, x2, x3, x4, x5, x6, x7, x8, x9, x10⟩ := blk_cells10 k2; obtain ⟨f0, f1, f2, f3, f4, f5, f6, f7, f8, f9⟩ := blk_fz10 k2; have K2 := Lib.hid (set2 (set1 k2 (.int .i64 (F : Nat))) (.int .i64 (B : Nat))); have HR2 := Lib.hid ((hr2.setFar ⟨w1.heap.size, 1, none⟩ (by show g < w1.heap.size; omega) (.int .i64 (F : Nat))).setFar ⟨w1.heap.size, 2, none⟩ (by show g < w1.heap.size; omega) (.int .i64 (B : Nat))); have KR2 := Lib.hid ((kr2.far (p := ⟨w1.heap.size, 1, none⟩) (by show w.heap.size ≠ w1.heap.size; omega) (.int .i64 (F : Nat))).far (p := ⟨w1.heap.size, 2, none⟩) (by show w.heap.size ≠ w1.heap.size; omega) (.int .i64 (B : Nat))); have HG2 := Lib.hid (grown_over (grown_over g2 (grown_set _ ⟨w1.heap.size, 1, none⟩ (.int .i64 (F : Nat))) (fun q hq => by cases hq; show w.heap.size ≤ w1.heap.size; omega)) (grown_set _ ⟨w1.heap.size, 2, none⟩ (.int .i64 (B : Nat))) (fun q hq => by cases hq; show w.heap.size ≤ w1.heap.size; omega)); clear hr2 hg2 k2 kr2 g2 HM2 R2)
    | (have HM3 := R3; go_at_call 55; refine (R3.out _ HR2.out).mono ?_; rintro e3 w3 ⟨rfl, hr3, hg3⟩; have k3 := K2.out.grown hg3 (by simp; omega); have hl3 := k3.lt; have kr3 := KR2.out.grown hg3 (by simp; omega); have g3 := grown_trans HG2.out hg3; clear x0 x1 x2 x3 x4 x5 x6 x7 x8 x9 x10 f0 f1 f2 f3 f4 f5 f6 f7 f8 f9; obtain ⟨x0, x1, x2, x3, x4, x5, x6, x7, x8, x9, x10⟩ := blk_cells10 k3; obtain ⟨f0, f1, f2, f3, f4, f5, f6, f7, f8, f9⟩ := blk_fz10 k3; have K3 := Lib.hid (set4_ (set3 k3 (.int .i64 (D : Nat))) (.int .i64 (DB : Nat))); have HR3 := Lib.hid ((hr3.setFar ⟨w1.heap.size, 3, none⟩ (by show g < w1.heap.size; omega) (.int .i64 (D : Nat))).setFar ⟨w1.heap.size, 4, none⟩ (by show g < w1.heap.size; omega) (.int .i64 (DB : Nat))); have KR3 := Lib.hid ((kr3.far (p := ⟨w1.heap.size, 3, none⟩) (by show w.heap.size ≠ w1.heap.size; omega) (.int .i64 (D : Nat))).far (p := ⟨w1.heap.size, 4, none⟩) (by show w.heap.size ≠ w1.heap.size; omega) (.int .i64 (DB : Nat))); have HG3 := Lib.hid (grown_over (grown_over g3 (grown_set _ ⟨w1.heap.size, 3, none⟩ (.int .i64 (D : Nat))) (fun q hq => by cases hq; show w.heap.size ≤ w1.heap.size; omega)) (grown_set _ ⟨w1.heap.size, 4, none⟩ (.int .i64 (DB : Nat))) (fun q hq => by cases hq; show w.heap.size ≤ w1.heap.size; omega)); clear hr3 hg3 k3 kr3 g3 HM3 R3)
    | (have HM4 := R4; go_at_call 58; refine (R4.out _ HR3.out).mono ?_; rintro e4 w4 ⟨v4, rfl, ho4, hr4, hg4⟩; obtain ⟨A4, n4_, c4_, rfl⟩ := ownL_form14 ho4; have k4 := K3.out.grown hg4 (by simp; omega); have hl4 := k4.lt; have kr4 := KR3.out.grown hg4 (by simp; omega); have g4 := grown_trans HG3.out hg4; clear x0 x1 x2 x3 x4 x5 x6 x7 x8 x9 x10 f0 f1 f2 f3 f4 f5 f6 f7 f8 f9; obtain ⟨x0, x1, x2, x3, x4, x5, x6, x7, x8, x9, x10⟩ := blk_cells10 k4; obtain ⟨f0, f1, f2, f3, f4, f5, f6, f7, f8, f9⟩ := blk_fz10 k4; have K4 := Lib.hid (set9 k4 (.slice A4 n4_ c4_)); have HR4 := Lib.hid (hr4.setFar ⟨w1.heap.size, 9, none⟩ (by show g < w1.heap.size; omega) (.slice A4 n4_ c4_)); have KR4 := Lib.hid (kr4.far (p := ⟨w1.heap.size, 9, none⟩) (by show w.heap.size ≠ w1.heap.size; omega) (.slice A4 n4_ c4_)); have HG4 := Lib.hid (grown_over g4 (grown_set _ ⟨w1.heap.size, 9, none⟩ (.slice A4 n4_ c4_)) (fun q hq => by cases hq; show w.heap.size ≤ w1.heap.size; omega)); have HO := Lib.hid (ownL_more14 (ownL_gr14 ho4 (grown_set w4 ⟨w1.heap.size, 9, none⟩ (.slice A4 n4_ c4_)) (by show w1.heap.size < _; simp; omega)) (base' := w.heap.size + 1) (by simp; omega)); clear hr4 hg4 k4 kr4 g4 HM4 R4)
    | (refine wpList_load_blk rfl 26 (.tmp 3) rfl w1.heap.size rfl #[.int .i64 (N : Nat), .int .i64 (F : Nat), .int .i64 (B : Nat), .int .i64 (D : Nat), .int .i64 (DB : Nat), .int .i64 0, .int .i64 0, .slice none 0 0, .slice none 0 0, .slice A4 n4_ c4_] K4.out _ Try.underlying26 rfl (by rw [size_pk]; rfl) ?_)
    | (refine wpList_store_blk rfl 26 (.tmp 2) (.tmp 58) rfl w.heap.size #[.int .i64 (N : Nat), .int .i64 (F : Nat), .int .i64 (B : Nat), .int .i64 (D : Nat), .int .i64 (DB : Nat), .int .i64 0, .int .i64 0, .slice none 0 0, .slice none 0 0, .slice A4 n4_ c4_] rfl rfl _ KR4.out (by rw [size_pk]; rfl) rfl (by kernel_rfl) ?_; intro w9 hg9 k9; have K9 := Lib.hid k9; have HR9 := Lib.hid (HR4.out.grown hg9 (fun q hq => by cases hq; omega)); have HG9 := Lib.hid (grown_over HG4.out hg9 (fun q hq => by cases hq; omega)); have HO9 := Lib.hid (ownL_more14 (ownL_gr14 HO.out hg9 (by omega)) (base' := w.heap.size) (by omega)); clear hg9 k9))
  refine bodyPost_ret (v := .agg #[.int .i64 (N : Nat), .int .i64 (F : Nat), .int .i64 (B : Nat), .int .i64 (D : Nat), .int .i64 (DB : Nat), .int .i64 0, .int .i64 0, .slice none 0 0, .slice none 0 0, .slice A4 n4_ c4_]) ?_ rfl ⟨_, _, _, rfl, ⟨⟨0, World.ownsRow_nil _ _ _ _⟩, ⟨0, World.ownsRow_nil _ _ _ _⟩, HO9.out⟩, HR9.out, HG9.out⟩
  exact results_blk (P := Try.prog) Try.results35 _ rfl K9.out Try.underlying26 rfl (by rw [size_pk]; rfl)
set_option maxRecDepth 100000 in
set_option maxHeartbeats 16000000 in
theorem pread_five (g : Nat) (xs : List Nat) (w : World) (h : Rdr w g (xs, true)) (hk : (c1 xs).2 = 5) :
    Calls Try.prog 35 #[ptr g] w (ReadOutP w g (rPk xs)) := by
  have hgs := h.size
  have hb := h.lt
  have n1 : (c1 xs).2 < 256 := rnum_small (st := (xs, true)) (k := 1) (K := 1) rfl hb
  have b1 : ∀ x ∈ (c1 xs).1.1, x < 256 := Chg.rnum_bytes hb
  have b2 : ∀ x ∈ (c2 xs).1.1, x < 256 := Chg.rnum_bytes b1
  have b3 : ∀ x ∈ (c3 xs).1.1, x < 256 := Chg.rnum_bytes b2
  have b4 : ∀ x ∈ (c4 xs).1.1, x < 256 := Chg.rnum_bytes b3
  have b5 : ∀ x ∈ (c5 xs).1.1, x < 256 := Chg.rnum_bytes b4
  have r1 : ∀ W, Rdr W g (xs, true) → Calls Try.prog 54 #[ptr g, .int .i64 1] W fun e w' => e = .returned (.int .u64 ((c1 xs).2 : Nat)) ∧ Rdr w' g (c1 xs).1 ∧ W.grownBy w' (some g) := fun W hW => rnum_any g (xs, true) 1 W hW
  have r2 : ∀ W, Rdr W g (c1 xs).1 → Calls Try.prog 55 #[ptr g] W fun e w' => e = .returned (.tuple #[.int .i64 ((c2 xs).2 : Nat), .int .i64 ((c3 xs).2 : Nat)]) ∧ Rdr w' g (c3 xs).1 ∧ W.grownBy w' (some g) := fun W hW => readWho_any g (c1 xs).1 W hW
  have r3 : ∀ W, Rdr W g (c3 xs).1 → Calls Try.prog 55 #[ptr g] W fun e w' => e = .returned (.tuple #[.int .i64 ((c4 xs).2 : Nat), .int .i64 ((c5 xs).2 : Nat)]) ∧ Rdr w' g (c5 xs).1 ∧ W.grownBy w' (some g) := fun W hW => readWho_any g (c3 xs).1 W hW
  unfold rPk headC
  generalize (c1 xs).2 = N at *
  generalize (c2 xs).2 = F at *
  generalize (c3 xs).2 = B at *
  generalize (c4 xs).2 = D at *
  generalize (c5 xs).2 = DB at *
  generalize (c1 xs).1 = s1 at *
  generalize (c3 xs).1 = s3 at *
  generalize (c5 xs).1 = s5 at *
  rw [tailK5 (show (N : Int) = 5 by omega)]
  have d1 : ((N : Int) == 1) = false := by rw [beq_eq_false_iff_ne]; omega
  have d2 : ((N : Int) == 2) = false := by rw [beq_eq_false_iff_ne]; omega
  have d5 : ((N : Int) == 5) = true := by rw [beq_iff_eq]; omega
  clear hk
  have r4 := fun W (hW : Rdr W g s5) => readItems_any g s5 W hW
  clear b1 b2 b3 b4 b5 hb
  have R1 := Lib.hid r1; clear r1
  have R2 := Lib.hid r2; clear r2
  have R3 := Lib.hid r3; clear r3
  have R4 := Lib.hid r4; clear r4
  have HR0 := Lib.hid h; clear h
  go_enter Try.func35, Try.ntmps35
  go_wp2_with (first
    | (have HM1 := R1; go_at_call 54; refine (R1.out _ (HR0.out.alloc _)).mono ?_; rintro e1 w1 ⟨rfl, hr1, hg1⟩; have kr1 := (Blk.new w 26 zC).grown hg1 (by simp; omega); have hl1 := kr1.lt; have HR1 := Lib.hid hr1; have HG1 := Lib.hid (grown_trans (World.grownBy_alloc w (Obj.cells zC 26) (some g)) hg1); have KR1 := Lib.hid kr1; clear hr1 hg1 kr1 HM1 R1)
    | (have HM2 := R2; go_at_call 55; refine (R2.out _ (HR1.out.alloc _)).mono ?_; rintro e2 w2 ⟨rfl, hr2, hg2⟩; have k2 := (Blk.new w1 26 #[.int .i64 (N : Nat), .int .i64 0, .int .i64 0, .int .i64 0, .int .i64 0, .int .i64 0, .int .i64 0, .slice none 0 0, .slice none 0 0, .slice none 0 0]).grown hg2 (by simp; omega); have hl2 := k2.lt; have kr2 := (KR1.out.alloc _).grown hg2 (by simp; omega); have g2 := grown_trans (grown_trans HG1.out (World.grownBy_alloc w1 (Obj.cells #[.int .i64 (N : Nat), .int .i64 0, .int .i64 0, .int .i64 0, .int .i64 0, .int .i64 0, .int .i64 0, .slice none 0 0, .slice none 0 0, .slice none 0 0] 26) (some g))) hg2; obtain ⟨x0, x1, x2, x3, x4, x5, x6, x7, x8, x9, x10⟩ := blk_cells10 k2; obtain ⟨f0, f1, f2, f3, f4, f5, f6, f7, f8, f9⟩ := blk_fz10 k2; have K2 := Lib.hid (set2 (set1 k2 (.int .i64 (F : Nat))) (.int .i64 (B : Nat))); have HR2 := Lib.hid ((hr2.setFar ⟨w1.heap.size, 1, none⟩ (by show g < w1.heap.size; omega) (.int .i64 (F : Nat))).setFar ⟨w1.heap.size, 2, none⟩ (by show g < w1.heap.size; omega) (.int .i64 (B : Nat))); have KR2 := Lib.hid ((kr2.far (p := ⟨w1.heap.size, 1, none⟩) (by show w.heap.size ≠ w1.heap.size; omega) (.int .i64 (F : Nat))).far (p := ⟨w1.heap.size, 2, none⟩) (by show w.heap.size ≠ w1.heap.size; omega) (.int .i64 (B : Nat))); have HG2 := Lib.hid (grown_over (grown_over g2 (grown_set _ ⟨w1.heap.size, 1, none⟩ (.int .i64 (F : Nat))) (fun q hq => by cases hq; show w.heap.size ≤ w1.heap.size; omega)) (grown_set _ ⟨w1.heap.size, 2, none⟩ (.int .i64 (B : Nat))) (fun q hq => by cases hq; show w.heap.size ≤ w1.heap.size; omega)); clear hr2 hg2 k2 kr2 g2 HM2 R2)
    | (have HM3 := R3; go_at_call 55; refine (R3.out _ HR2.out).mono ?_; rintro e3 w3 ⟨rfl, hr3, hg3⟩; have k3 := K2.out.grown hg3 (by simp; omega); have hl3 := k3.lt; have kr3 := KR2.out.grown hg3 (by simp; omega); have g3 := grown_trans HG2.out hg3; clear x0 x1 x2 x3 x4 x5 x6 x7 x8 x9 x10 f0 f1 f2 f3 f4 f5 f6 f7 f8 f9; obtain ⟨x0, x1, x2, x3, x4, x5, x6, x7, x8, x9, x10⟩ := blk_cells10 k3; obtain ⟨f0, f1, f2, f3, f4, f5, f6, f7, f8, f9⟩ := blk_fz10 k3; have K3 := Lib.hid (set4_ (set3 k3 (.int .i64 (D : Nat))) (.int .i64 (DB : Nat))); have HR3 := Lib.hid ((hr3.setFar ⟨w1.heap.size, 3, none⟩ (by show g < w1.heap.size; omega) (.int .i64 (D : Nat))).setFar ⟨w1.heap.size, 4, none⟩ (by show g < w1.heap.size; omega) (.int .i64 (DB : Nat))); have KR3 := Lib.hid ((kr3.far (p := ⟨w1.heap.size, 3, none⟩) (by show w.heap.size ≠ w1.heap.size; omega) (.int .i64 (D : Nat))).far (p := ⟨w1.heap.size, 4, none⟩) (by show w.heap.size ≠ w1.heap.size; omega) (.int .i64 (DB : Nat))); have HG3 := Lib.hid (grown_over (grown_over g3 (grown_set _ ⟨w1.heap.size, 3, none⟩ (.int .i64 (D : Nat))) (fun q hq => by cases hq; show w.heap.size ≤ w1.heap.size; omega)) (grown_set _ ⟨w1.heap.size, 4, none⟩ (.int .i64 (DB : Nat))) (fun q hq => by cases hq; show w.heap.size ≤ w1.heap.size; omega)); clear hr3 hg3 k3 kr3 g3 HM3 R3)
    | (have HM4 := R4; go_at_call 57; refine (R4.out _ HR3.out).mono ?_; rintro e4 w4 ⟨v4, q4, rfl, ho4, hr4, hg4⟩; obtain ⟨A4, n4_, c4_, rfl⟩ := own_form14 ho4; have k4 := K3.out.grown hg4 (by simp; omega); have hl4 := k4.lt; have kr4 := KR3.out.grown hg4 (by simp; omega); have g4 := grown_trans HG3.out hg4; clear x0 x1 x2 x3 x4 x5 x6 x7 x8 x9 x10 f0 f1 f2 f3 f4 f5 f6 f7 f8 f9; obtain ⟨x0, x1, x2, x3, x4, x5, x6, x7, x8, x9, x10⟩ := blk_cells10 k4; obtain ⟨f0, f1, f2, f3, f4, f5, f6, f7, f8, f9⟩ := blk_fz10 k4; have K4 := Lib.hid (set8 k4 (.slice A4 n4_ c4_)); have HR4 := Lib.hid (hr4.setFar ⟨w1.heap.size, 8, none⟩ (by show g < w1.heap.size; omega) (.slice A4 n4_ c4_)); have KR4 := Lib.hid (kr4.far (p := ⟨w1.heap.size, 8, none⟩) (by show w.heap.size ≠ w1.heap.size; omega) (.slice A4 n4_ c4_)); have HG4 := Lib.hid (grown_over g4 (grown_set _ ⟨w1.heap.size, 8, none⟩ (.slice A4 n4_ c4_)) (fun q hq => by cases hq; show w.heap.size ≤ w1.heap.size; omega)); have HO := Lib.hid (own_mono (own_gr14 ho4 (grown_set w4 ⟨w1.heap.size, 8, none⟩ (.slice A4 n4_ c4_)) (by show w1.heap.size < _; simp; omega)) (base' := w.heap.size + 1) (by simp; omega)); clear hr4 hg4 k4 kr4 g4 HM4 R4)
    | (refine wpList_load_blk rfl 26 (.tmp 3) rfl w1.heap.size rfl #[.int .i64 (N : Nat), .int .i64 (F : Nat), .int .i64 (B : Nat), .int .i64 (D : Nat), .int .i64 (DB : Nat), .int .i64 0, .int .i64 0, .slice none 0 0, .slice A4 n4_ c4_, .slice none 0 0] K4.out _ Try.underlying26 rfl (by rw [size_pk]; rfl) ?_)
    | (refine wpList_store_blk rfl 26 (.tmp 2) (.tmp 58) rfl w.heap.size #[.int .i64 (N : Nat), .int .i64 (F : Nat), .int .i64 (B : Nat), .int .i64 (D : Nat), .int .i64 (DB : Nat), .int .i64 0, .int .i64 0, .slice none 0 0, .slice A4 n4_ c4_, .slice none 0 0] rfl rfl _ KR4.out (by rw [size_pk]; rfl) rfl (by kernel_rfl) ?_; intro w9 hg9 k9; have K9 := Lib.hid k9; have HR9 := Lib.hid (HR4.out.grown hg9 (fun q hq => by cases hq; omega)); have HG9 := Lib.hid (grown_over HG4.out hg9 (fun q hq => by cases hq; omega)); have HO9 := Lib.hid (own_mono (own_gr14 HO.out hg9 (by omega)) (base' := w.heap.size) (by omega)); clear hg9 k9))
  refine bodyPost_ret (v := .agg #[.int .i64 (N : Nat), .int .i64 (F : Nat), .int .i64 (B : Nat), .int .i64 (D : Nat), .int .i64 (DB : Nat), .int .i64 0, .int .i64 0, .slice none 0 0, .slice A4 n4_ c4_, .slice none 0 0]) ?_ rfl ⟨_, _, _, rfl, ⟨⟨0, World.ownsRow_nil _ _ _ _⟩, ⟨_, HO9.out⟩, ownL_nil _ _⟩, HR9.out, HG9.out⟩
  exact results_blk (P := Try.prog) Try.results35 _ rfl K9.out Try.underlying26 rfl (by rw [size_pk]; rfl)
set_option maxRecDepth 100000 in
set_option maxHeartbeats 16000000 in
theorem pread_none (g : Nat) (xs : List Nat) (w : World) (h : Rdr w g (xs, true)) (k1 : (c1 xs).2 ≠ 1) (k2 : (c1 xs).2 ≠ 2) (k3 : (c1 xs).2 ≠ 3) (k4 : (c1 xs).2 ≠ 4) (k5 : (c1 xs).2 ≠ 5) :
    Calls Try.prog 35 #[ptr g] w (ReadOutP w g (rPk xs)) := by
  have hgs := h.size
  have hb := h.lt
  have n1 : (c1 xs).2 < 256 := rnum_small (st := (xs, true)) (k := 1) (K := 1) rfl hb
  have b1 : ∀ x ∈ (c1 xs).1.1, x < 256 := Chg.rnum_bytes hb
  have b2 : ∀ x ∈ (c2 xs).1.1, x < 256 := Chg.rnum_bytes b1
  have b3 : ∀ x ∈ (c3 xs).1.1, x < 256 := Chg.rnum_bytes b2
  have b4 : ∀ x ∈ (c4 xs).1.1, x < 256 := Chg.rnum_bytes b3
  have b5 : ∀ x ∈ (c5 xs).1.1, x < 256 := Chg.rnum_bytes b4
  have r1 : ∀ W, Rdr W g (xs, true) → Calls Try.prog 54 #[ptr g, .int .i64 1] W fun e w' => e = .returned (.int .u64 ((c1 xs).2 : Nat)) ∧ Rdr w' g (c1 xs).1 ∧ W.grownBy w' (some g) := fun W hW => rnum_any g (xs, true) 1 W hW
  have r2 : ∀ W, Rdr W g (c1 xs).1 → Calls Try.prog 55 #[ptr g] W fun e w' => e = .returned (.tuple #[.int .i64 ((c2 xs).2 : Nat), .int .i64 ((c3 xs).2 : Nat)]) ∧ Rdr w' g (c3 xs).1 ∧ W.grownBy w' (some g) := fun W hW => readWho_any g (c1 xs).1 W hW
  have r3 : ∀ W, Rdr W g (c3 xs).1 → Calls Try.prog 55 #[ptr g] W fun e w' => e = .returned (.tuple #[.int .i64 ((c4 xs).2 : Nat), .int .i64 ((c5 xs).2 : Nat)]) ∧ Rdr w' g (c5 xs).1 ∧ W.grownBy w' (some g) := fun W hW => readWho_any g (c3 xs).1 W hW
  unfold rPk headC
  generalize (c1 xs).2 = N at *
  generalize (c2 xs).2 = F at *
  generalize (c3 xs).2 = B at *
  generalize (c4 xs).2 = D at *
  generalize (c5 xs).2 = DB at *
  generalize (c1 xs).1 = s1 at *
  generalize (c3 xs).1 = s3 at *
  generalize (c5 xs).1 = s5 at *
  rw [tailK0 (show (N : Int) ≠ 1 by omega) (show (N : Int) ≠ 2 by omega) (show (N : Int) ≠ 3 by omega) (show (N : Int) ≠ 4 by omega) (show (N : Int) ≠ 5 by omega)]
  have d1 : ((N : Int) == 1) = false := by rw [beq_eq_false_iff_ne]; omega
  have d2 : ((N : Int) == 2) = false := by rw [beq_eq_false_iff_ne]; omega
  have d5 : ((N : Int) == 5) = false := by rw [beq_eq_false_iff_ne]; omega
  have d3 : ((N : Int) == 3) = false := by rw [beq_eq_false_iff_ne]; omega
  have d4 : ((N : Int) == 4) = false := by rw [beq_eq_false_iff_ne]; omega
  clear k1 k2 k3 k4 k5
  clear b1 b2 b3 b4 b5 hb
  have R1 := Lib.hid r1; clear r1
  have R2 := Lib.hid r2; clear r2
  have R3 := Lib.hid r3; clear r3
  have HR0 := Lib.hid h; clear h
  go_enter Try.func35, Try.ntmps35
  go_wp2_with (first
    | (have HM1 := R1; go_at_call 54; refine (R1.out _ (HR0.out.alloc _)).mono ?_; rintro e1 w1 ⟨rfl, hr1, hg1⟩; have kr1 := (Blk.new w 26 zC).grown hg1 (by simp; omega); have hl1 := kr1.lt; have HR1 := Lib.hid hr1; have HG1 := Lib.hid (grown_trans (World.grownBy_alloc w (Obj.cells zC 26) (some g)) hg1); have KR1 := Lib.hid kr1; clear hr1 hg1 kr1 HM1 R1)
    | (have HM2 := R2; go_at_call 55; refine (R2.out _ (HR1.out.alloc _)).mono ?_; rintro e2 w2 ⟨rfl, hr2, hg2⟩; have k2 := (Blk.new w1 26 #[.int .i64 (N : Nat), .int .i64 0, .int .i64 0, .int .i64 0, .int .i64 0, .int .i64 0, .int .i64 0, .slice none 0 0, .slice none 0 0, .slice none 0 0]).grown hg2 (by simp; omega); have hl2 := k2.lt; have kr2 := (KR1.out.alloc _).grown hg2 (by simp; omega); have g2 := grown_trans (grown_trans HG1.out (World.grownBy_alloc w1 (Obj.cells #[.int .i64 (N : Nat), .int .i64 0, .int .i64 0, .int .i64 0, .int .i64 0, .int .i64 0, .int .i64 0, .slice none 0 0, .slice none 0 0, .slice none 0 0] 26) (some g))) hg2; obtain ⟨x0, x1, x2, x3, x4, x5, x6, x7, x8, x9, x10⟩ := blk_cells10 k2; obtain ⟨f0, f1, f2, f3, f4, f5, f6, f7, f8, f9⟩ := blk_fz10 k2; have K2 := Lib.hid (set2 (set1 k2 (.int .i64 (F : Nat))) (.int .i64 (B : Nat))); have HR2 := Lib.hid ((hr2.setFar ⟨w1.heap.size, 1, none⟩ (by show g < w1.heap.size; omega) (.int .i64 (F : Nat))).setFar ⟨w1.heap.size, 2, none⟩ (by show g < w1.heap.size; omega) (.int .i64 (B : Nat))); have KR2 := Lib.hid ((kr2.far (p := ⟨w1.heap.size, 1, none⟩) (by show w.heap.size ≠ w1.heap.size; omega) (.int .i64 (F : Nat))).far (p := ⟨w1.heap.size, 2, none⟩) (by show w.heap.size ≠ w1.heap.size; omega) (.int .i64 (B : Nat))); have HG2 := Lib.hid (grown_over (grown_over g2 (grown_set _ ⟨w1.heap.size, 1, none⟩ (.int .i64 (F : Nat))) (fun q hq => by cases hq; show w.heap.size ≤ w1.heap.size; omega)) (grown_set _ ⟨w1.heap.size, 2, none⟩ (.int .i64 (B : Nat))) (fun q hq => by cases hq; show w.heap.size ≤ w1.heap.size; omega)); clear hr2 hg2 k2 kr2 g2 HM2 R2)
    | (have HM3 := R3; go_at_call 55; refine (R3.out _ HR2.out).mono ?_; rintro e3 w3 ⟨rfl, hr3, hg3⟩; have k3 := K2.out.grown hg3 (by simp; omega); have hl3 := k3.lt; have kr3 := KR2.out.grown hg3 (by simp; omega); have g3 := grown_trans HG2.out hg3; clear x0 x1 x2 x3 x4 x5 x6 x7 x8 x9 x10 f0 f1 f2 f3 f4 f5 f6 f7 f8 f9; obtain ⟨x0, x1, x2, x3, x4, x5, x6, x7, x8, x9, x10⟩ := blk_cells10 k3; obtain ⟨f0, f1, f2, f3, f4, f5, f6, f7, f8, f9⟩ := blk_fz10 k3; have K3 := Lib.hid (set4_ (set3 k3 (.int .i64 (D : Nat))) (.int .i64 (DB : Nat))); have HR3 := Lib.hid ((hr3.setFar ⟨w1.heap.size, 3, none⟩ (by show g < w1.heap.size; omega) (.int .i64 (D : Nat))).setFar ⟨w1.heap.size, 4, none⟩ (by show g < w1.heap.size; omega) (.int .i64 (DB : Nat))); have KR3 := Lib.hid ((kr3.far (p := ⟨w1.heap.size, 3, none⟩) (by show w.heap.size ≠ w1.heap.size; omega) (.int .i64 (D : Nat))).far (p := ⟨w1.heap.size, 4, none⟩) (by show w.heap.size ≠ w1.heap.size; omega) (.int .i64 (DB : Nat))); have HG3 := Lib.hid (grown_over (grown_over g3 (grown_set _ ⟨w1.heap.size, 3, none⟩ (.int .i64 (D : Nat))) (fun q hq => by cases hq; show w.heap.size ≤ w1.heap.size; omega)) (grown_set _ ⟨w1.heap.size, 4, none⟩ (.int .i64 (DB : Nat))) (fun q hq => by cases hq; show w.heap.size ≤ w1.heap.size; omega)); clear hr3 hg3 k3 kr3 g3 HM3 R3)
    | (refine wpList_load_blk rfl 26 (.tmp 3) rfl w1.heap.size rfl #[.int .i64 (N : Nat), .int .i64 (F : Nat), .int .i64 (B : Nat), .int .i64 (D : Nat), .int .i64 (DB : Nat), .int .i64 0, .int .i64 0, .slice none 0 0, .slice none 0 0, .slice none 0 0] K3.out _ Try.underlying26 rfl (by rw [size_pk]; rfl) ?_)
    | (refine wpList_store_blk rfl 26 (.tmp 2) (.tmp 58) rfl w.heap.size #[.int .i64 (N : Nat), .int .i64 (F : Nat), .int .i64 (B : Nat), .int .i64 (D : Nat), .int .i64 (DB : Nat), .int .i64 0, .int .i64 0, .slice none 0 0, .slice none 0 0, .slice none 0 0] rfl rfl _ KR3.out (by rw [size_pk]; rfl) rfl (by kernel_rfl) ?_; intro w9 hg9 k9; have K9 := Lib.hid k9; have HR9 := Lib.hid (HR3.out.grown hg9 (fun q hq => by cases hq; omega)); have HG9 := Lib.hid (grown_over HG3.out hg9 (fun q hq => by cases hq; omega)); clear hg9 k9))
  refine bodyPost_ret (v := .agg #[.int .i64 (N : Nat), .int .i64 (F : Nat), .int .i64 (B : Nat), .int .i64 (D : Nat), .int .i64 (DB : Nat), .int .i64 0, .int .i64 0, .slice none 0 0, .slice none 0 0, .slice none 0 0]) ?_ rfl ⟨_, _, _, rfl, ⟨⟨0, World.ownsRow_nil _ _ _ _⟩, ⟨0, World.ownsRow_nil _ _ _ _⟩, ownL_nil _ _⟩, HR9.out, HG9.out⟩
  exact results_blk (P := Try.prog) Try.results35 _ rfl K9.out Try.underlying26 rfl (by rw [size_pk]; rfl)
theorem pread_any (g : Nat) (xs : List Nat) (w : World) (h : Rdr w g (xs, true)) :
    Calls Try.prog 35 #[ptr g] w (ReadOutP w g (rPk xs)) := by
  by_cases k1 : (c1 xs).2 = 1
  · exact pread_one g xs w h k1
  by_cases k2 : (c1 xs).2 = 2
  · exact pread_two g xs w h k2
  by_cases k3 : (c1 xs).2 = 3
  · exact pread_three g xs w h k3
  by_cases k4 : (c1 xs).2 = 4
  · exact pread_four g xs w h k4
  by_cases k5 : (c1 xs).2 = 5
  · exact pread_five g xs w h k5
  exact pread_none g xs w h k1 k2 k3 k4 k5
end Go.Proofs.Ytpolpppnajfhdaa.Pkt
/- The packet whose bytes they are (layer 14): the contract of packet.Get. Condition: at most 2000 bytes. -/
namespace Go.Proofs.Ytpolpppnajfhdaa.Pkt
open Go.RowKit Go.Proofs.Ytpolpppnajfhdaa.Mem Go.Proofs.Ytpolpppnajfhdaa.Oct Go.Proofs.Ytpolpppnajfhdaa.Lsa Go.Proofs.Ytpolpppnajfhdaa.Bas
open Go.Proofs.Ytpolpppnajfhdaa.Chg (low1 low_low low2 blk_second)
set_option linter.unusedVariables false
set_option linter.unusedSimpArgs false
def errP (r : Option Pk) : Int := match r with | some _ => 0 | none => 2
/-- what Get answers -/
def GetOutP (w : World) (r : Option Pk) (e : Ending) (w' : World) : Prop :=
  ∃ h i l, e = .returned (.tuple #[pkV (r.getD zeroP) h i l, .int .i64 (errP r)]) ∧ PkM w' w'.heap.size h i l (r.getD zeroP) ∧ Below w.heap.size w w'
theorem below_gr {w w1 w2 : World} (h : Below w.heap.size w w1) (hg : w1.grownBy w2 (some w.heap.size)) : Below w.heap.size w w2 := h.grown hg h.size (fun q hq => by cases hq; exact Nat.le_refl _)
set_option maxRecDepth 100000 in
set_option maxHeartbeats 16000000 in
theorem pget_any (v : Value) (xs : List Nat) (w : World) (h : Sl w w.heap.size v xs) (hxl : xs.length ≤ 2000) :
    Calls Try.prog 13 #[v] w (GetOutP w (getC xs)) := by
  obtain ⟨A, n, c, rfl, _⟩ := id h
  have hb0 := low1 (Below.refl w.heap.size w) (.cells zC 26)
  have k0 := Blk.new w 26 zC
  have op := open_sl _ xs _ ((h.below hb0 (Nat.le_refl _)).more hb0.size) hxl
  have hol : (Crc.outOf xs).length ≤ 2000 := by unfold Crc.outOf; split <;> simp; omega
  have NO : ∀ (W : World), getC xs = none → Below w.heap.size w W → GetOutP w (getC xs) (.returned (.tuple #[pkV zeroP (.slice none 0 0) (.slice none 0 0) (.slice none 0 0), .int .i64 2])) W := by
    intro W hc hW
    rw [hc]
    exact ⟨_, _, _, rfl, ⟨lks_nil _ _, lks_nil _ _, las_nil _ _⟩, hW⟩
  have HNO := Lib.hid NO; clear NO
  have HB0 := Lib.hid hb0; clear hb0
  have K0 := Lib.hid k0; clear k0
  cases hok : Crc.okOf xs
  · have hc : getC xs = none := by unfold getC; rw [hok]; rfl
    rw [hok] at op
    have OP := Lib.hid op; clear op h
    have HC := Lib.hid hc; clear hc hok
    go_enter Try.func13, Try.ntmps13
    go_wp2_with (first
      | (go_at_call 33; refine (OP.out).mono ?_; rintro e1 w1 ⟨A1, m1, q1, rfl, hs1, hb1⟩; have K1 := Lib.hid (K0.out.below hb1 K0.out.lt); have HB1 := Lib.hid (low_low HB0.out hb1); clear hs1 hb1)
      | (refine wpList_store_blk rfl 26 (.tmp 2) (.tmp 15) rfl w.heap.size zC rfl rfl _ K1.out (by rw [size_pk]; rfl) rfl (by kernel_rfl) ?_; intro w9 hg9 k9; have K9 := Lib.hid k9; have HB9 := Lib.hid (below_gr HB1.out hg9); clear hg9 k9))
    refine bodyPost_ret (v := .tuple #[.agg zC, .int .i64 2]) ?_ rfl (HNO.out w9 HC.out HB9.out)
    exact results_blk_tmp (P := Try.prog) Try.results13 _ rfl _ rfl K9.out Try.underlying26 rfl (by rw [size_pk]; rfl)
  · rw [hok] at op
    have hcv : getC xs = if (endC (Crc.outOf xs) && mayP (rPk (Crc.outOf xs)).2) = true then some (rPk (Crc.outOf xs)).2 else none := by unfold getC; rw [hok]; rfl
    generalize Crc.outOf xs = ys at *
    have rd := fun (A1 : Option Addr) (m1 q1 : Nat) (W : World) (hW : Sl W W.heap.size (.slice A1 m1 q1) ys) => Oct.read_any (.slice A1 m1 q1) ys W hW (by omega)
    have pr := fun (g : Nat) (W : World) (hW : Rdr W g (ys, true)) => pread_any g ys W hW
    unfold ReadOutP at pr
    have dn := fun (g : Nat) (W : World) (hW : Rdr W g (rPk ys).1) => done_any g (rPk ys).1 W hW
    have hend : ((rPk ys).1.2 && decide ((rPk ys).1.1.length = 0)) = endC ys := rfl
    rw [hend] at dn
    have ck := fun (A1 A2 A3 : Option Addr) (n1 z1 n2 z2 n3 z3 : Nat) (W : World) (hW : PkM W W.heap.size (.slice A1 n1 z1) (.slice A2 n2 z2) (.slice A3 n3 z3) (rPk ys).2) => pcheck_any (rPk ys).2 A1 A2 A3 n1 z1 n2 z2 n3 z3 W hW
    clear hend hol hok
    generalize endC ys = z at *
    generalize (rPk ys).1 = t9 at *
    generalize (rPk ys).2 = p at *
    have OP := Lib.hid op; clear op h
    have RD := Lib.hid rd; clear rd
    have PR := Lib.hid pr; clear pr
    have DN := Lib.hid dn; clear dn
    cases z
    · have HC := Lib.hid (show getC xs = none by rw [hcv]; rfl); clear hcv ck
      go_enter Try.func13, Try.ntmps13
      go_wp2_with (first
        | (go_at_call 33; refine (OP.out).mono ?_; rintro e1 w1 ⟨A1, m1, q1, rfl, hs1, hb1⟩; have K1 := Lib.hid (K0.out.below hb1 K0.out.lt); have HB1 := Lib.hid (low_low HB0.out hb1); have HS1 := Lib.hid hs1; clear hs1 hb1)
        | (go_at_call 34; refine (RD.out _ _ _ _ HS1.out).mono ?_; rintro e2 w2 ⟨g, rfl, hg, hr2, hb2⟩; have K2 := Lib.hid (K1.out.below hb2 K1.out.lt); have hwg : w.heap.size < g := (by have := K1.out.lt; omega); have HB2 := Lib.hid (low_low HB1.out hb2); have HR2 := Lib.hid hr2; clear hr2 hb2 hg)
        | (go_at_call 35; refine (PR.out _ _ HR2.out).mono ?_; rintro e3 w3 ⟨h_, i_, l_, rfl, ho3, hr3, hg3⟩; obtain ⟨B1, b1, y1, rfl⟩ := own_form14 ho3.1.choose_spec; obtain ⟨B2, b2, y2, rfl⟩ := own_form14 ho3.2.1.choose_spec; obtain ⟨B3, b3, y3, rfl⟩ := ownL_form14 ho3.2.2; have K3 := Lib.hid ((K2.out.grown hg3 (by simp; omega)).alloc (.cells (pkC p (.slice B1 b1 y1) (.slice B2 b2 y2) (.slice B3 b3 y3)) 26)); have HB3 := Lib.hid (low1 (HB2.out.grown hg3 HB2.out.size (fun q hq => by cases hq; omega)) (.cells (pkC p (.slice B1 b1 y1) (.slice B2 b2 y2) (.slice B3 b3 y3)) 26)); have HR3 := Lib.hid (hr3.alloc (.cells (pkC p (.slice B1 b1 y1) (.slice B2 b2 y2) (.slice B3 b3 y3)) 26)); clear hr3 hg3 ho3)
        | (go_at_call 36; refine (DN.out _ _ HR3.out).mono ?_; rintro e4 w4 ⟨rfl, rfl⟩)
        | (refine wpList_store_blk rfl 26 (.tmp 2) (.tmp 28) rfl w.heap.size zC rfl rfl _ K3.out (by rw [size_pk]; rfl) rfl (by kernel_rfl) ?_; intro w9 hg9 k9; have K9 := Lib.hid k9; have HB9 := Lib.hid (below_gr HB3.out hg9); clear hg9 k9))
      refine bodyPost_ret (v := .tuple #[.agg zC, .int .i64 2]) ?_ rfl (HNO.out w9 HC.out HB9.out)
      exact results_blk_tmp (P := Try.prog) Try.results13 _ rfl _ rfl K9.out Try.underlying26 rfl (by rw [size_pk]; rfl)
    · cases hm : mayP p
      · rw [hm, errI_f] at ck
        have CK := Lib.hid ck; clear ck
        have HC := Lib.hid (show getC xs = none by rw [hcv, hm]; rfl); clear hcv hm
        go_enter Try.func13, Try.ntmps13
        go_wp2_with (first
          | (go_at_call 33; refine (OP.out).mono ?_; rintro e1 w1 ⟨A1, m1, q1, rfl, hs1, hb1⟩; have K1 := Lib.hid (K0.out.below hb1 K0.out.lt); have HB1 := Lib.hid (low_low HB0.out hb1); have HS1 := Lib.hid hs1; clear hs1 hb1)
          | (go_at_call 34; refine (RD.out _ _ _ _ HS1.out).mono ?_; rintro e2 w2 ⟨g, rfl, hg, hr2, hb2⟩; have K2 := Lib.hid (K1.out.below hb2 K1.out.lt); have hwg : w.heap.size < g := (by have := K1.out.lt; omega); have HB2 := Lib.hid (low_low HB1.out hb2); have HR2 := Lib.hid hr2; clear hr2 hb2 hg)
          | (go_at_call 35; refine (PR.out _ _ HR2.out).mono ?_; rintro e3 w3 ⟨h_, i_, l_, rfl, ho3, hr3, hg3⟩; obtain ⟨B1, b1, y1, rfl⟩ := own_form14 ho3.1.choose_spec; obtain ⟨B2, b2, y2, rfl⟩ := own_form14 ho3.2.1.choose_spec; obtain ⟨B3, b3, y3, rfl⟩ := ownL_form14 ho3.2.2; have hbx := low1 (Below.refl w3.heap.size w3) (.cells (pkC p (.slice B1 b1 y1) (.slice B2 b2 y2) (.slice B3 b3 y3)) 26); have HP3 := Lib.hid (ho3.pkM.up hbx); have K3 := Lib.hid ((K2.out.grown hg3 (by simp; omega)).alloc (.cells (pkC p (.slice B1 b1 y1) (.slice B2 b2 y2) (.slice B3 b3 y3)) 26)); have HB3 := Lib.hid (low1 (HB2.out.grown hg3 HB2.out.size (fun q hq => by cases hq; omega)) (.cells (pkC p (.slice B1 b1 y1) (.slice B2 b2 y2) (.slice B3 b3 y3)) 26)); have HR3 := Lib.hid (hr3.alloc (.cells (pkC p (.slice B1 b1 y1) (.slice B2 b2 y2) (.slice B3 b3 y3)) 26)); clear hr3 hg3 ho3 hbx)
          | (go_at_call 36; refine (DN.out _ _ HR3.out).mono ?_; rintro e4 w4 ⟨rfl, rfl⟩)
          | (go_at_call 9; refine (CK.out _ _ _ _ _ _ _ _ _ _ HP3.out).mono ?_; rintro e5 w5 ⟨rfl, hb5⟩; have K5 := Lib.hid (K3.out.below hb5 K3.out.lt); have HB5 := Lib.hid (low_low HB3.out hb5); clear hb5)
          | (refine wpList_store_blk rfl 26 (.tmp 2) (.tmp 28) rfl w.heap.size zC rfl rfl _ K5.out (by rw [size_pk]; rfl) rfl (by kernel_rfl) ?_; intro w9 hg9 k9; have K9 := Lib.hid k9; have HB9 := Lib.hid (below_gr HB5.out hg9); clear hg9 k9))
        refine bodyPost_ret (v := .tuple #[.agg zC, .int .i64 2]) ?_ rfl (HNO.out w9 HC.out HB9.out)
        exact results_blk_tmp (P := Try.prog) Try.results13 _ rfl _ rfl K9.out Try.underlying26 rfl (by rw [size_pk]; rfl)
      · rw [hm, errI_t] at ck
        have CK := Lib.hid ck; clear ck
        have HC := Lib.hid (show getC xs = some p by rw [hcv, hm]; rfl); clear hcv hm HNO
        go_enter Try.func13, Try.ntmps13
        go_wp2_with (first
          | (go_at_call 33; refine (OP.out).mono ?_; rintro e1 w1 ⟨A1, m1, q1, rfl, hs1, hb1⟩; have K1 := Lib.hid (K0.out.below hb1 K0.out.lt); have HB1 := Lib.hid (low_low HB0.out hb1); have HS1 := Lib.hid hs1; clear hs1 hb1)
          | (go_at_call 34; refine (RD.out _ _ _ _ HS1.out).mono ?_; rintro e2 w2 ⟨g, rfl, hg, hr2, hb2⟩; have K2 := Lib.hid (K1.out.below hb2 K1.out.lt); have hwg : w.heap.size < g := (by have := K1.out.lt; omega); have HB2 := Lib.hid (low_low HB1.out hb2); have hw2 := HB2.out.size; have hl2 := K2.out.lt; have HR2 := Lib.hid hr2; clear hr2 hb2 hg)
          | (go_at_call 35; refine (PR.out _ _ HR2.out).mono ?_; rintro e3 w3 ⟨h_, i_, l_, rfl, ho3, hr3, hg3⟩; obtain ⟨B1, b1, y1, rfl⟩ := own_form14 ho3.1.choose_spec; obtain ⟨B2, b2, y2, rfl⟩ := own_form14 ho3.2.1.choose_spec; obtain ⟨B3, b3, y3, rfl⟩ := ownL_form14 ho3.2.2; have hbx := low1 (Below.refl w3.heap.size w3) (.cells (pkC p (.slice B1 b1 y1) (.slice B2 b2 y2) (.slice B3 b3 y3)) 26); have HO3 := Lib.hid ((ho3.below hbx).more (base' := w.heap.size + 1) (by omega)); have HP3 := Lib.hid (ho3.pkM.up hbx); have K3 := Lib.hid ((K2.out.grown hg3 (by simp; omega)).alloc (.cells (pkC p (.slice B1 b1 y1) (.slice B2 b2 y2) (.slice B3 b3 y3)) 26)); have KB3 := Lib.hid (Blk.new w3 26 (pkC p (.slice B1 b1 y1) (.slice B2 b2 y2) (.slice B3 b3 y3))); have HB3 := Lib.hid (low1 (HB2.out.grown hg3 HB2.out.size (fun q hq => by cases hq; omega)) (.cells (pkC p (.slice B1 b1 y1) (.slice B2 b2 y2) (.slice B3 b3 y3)) 26)); have HR3 := Lib.hid (hr3.alloc (.cells (pkC p (.slice B1 b1 y1) (.slice B2 b2 y2) (.slice B3 b3 y3)) 26)); clear hr3 hg3 ho3 hbx)
          | (go_at_call 36; refine (DN.out _ _ HR3.out).mono ?_; rintro e4 w4 ⟨rfl, rfl⟩)
          | (go_at_call 9; refine (CK.out _ _ _ _ _ _ _ _ _ _ HP3.out).mono ?_; rintro e5 w5 ⟨rfl, hb5⟩; have K5 := Lib.hid (K3.out.below hb5 K3.out.lt); have KB5 := Lib.hid (KB3.out.below hb5 KB3.out.lt); have HB5 := Lib.hid (low_low HB3.out hb5); have HO5 := Lib.hid (HO3.out.below hb5); clear hb5)
          | (refine wpList_load_blk rfl 26 (.tmp 7) rfl w3.heap.size rfl (pkC p (.slice B1 b1 y1) (.slice B2 b2 y2) (.slice B3 b3 y3)) KB5.out _ Try.underlying26 rfl (by rw [size_pk]; rfl) ?_)
          | (refine wpList_store_blk rfl 26 (.tmp 2) (.tmp 29) rfl w.heap.size (pkC p (.slice B1 b1 y1) (.slice B2 b2 y2) (.slice B3 b3 y3)) rfl rfl _ K5.out (by rw [size_pk]; rfl) rfl (by kernel_rfl) ?_; intro w9 hg9 k9; have K9 := Lib.hid k9; have HB9 := Lib.hid (below_gr HB5.out hg9); have HO9 := Lib.hid (HO5.out.gr hg9 (Nat.lt_succ_self _)); clear hg9 k9))
        refine bodyPost_ret (v := .tuple #[.agg (pkC p (.slice B1 b1 y1) (.slice B2 b2 y2) (.slice B3 b3 y3)), .int .i64 0]) ?_ rfl (by rw [HC.out]; exact ⟨_, _, _, rfl, HO9.out.pkM, HB9.out⟩)
        exact results_blk_tmp (P := Try.prog) Try.results13 _ rfl _ rfl K9.out Try.underlying26 rfl (by rw [size_pk]; rfl)
end Go.Proofs.Ytpolpppnajfhdaa.Pkt
/- The laws' own little example of layer 14: it is awake; and whether a packet is light. -/
namespace Go.Proofs.Ytpolpppnajfhdaa.Pkt
open Go.RowKit Go.Proofs.Ytpolpppnajfhdaa.Mem Go.Proofs.Ytpolpppnajfhdaa.Oct Go.Proofs.Ytpolpppnajfhdaa.Lsa Go.Proofs.Ytpolpppnajfhdaa.Bas
open Go.Proofs.Ytpolpppnajfhdaa.Chg (low1 low_low low2 blk_second)
set_option linter.unusedVariables false
set_option linter.unusedSimpArgs false
theorem sl_row {w : World} {base n : Nat} {v : Value} {xs : List Nat} (h : w.ownsRow base 5 1 v n (vals xs)) (hx : ∀ x ∈ xs, x < 256) (hn : n ≤ 1000000) : Sl w w.heap.size v xs := sl_own h hx hn
def exP : Pk := ⟨3, 1, 1, 2, 0, 1, 2, [], [], []⟩
theorem exP_may : mayP exP = true := by decide
theorem exP_len : (putP exP).length = 23 := by
  rw [putP_length]
  rfl
set_option maxRecDepth 20000 in
set_option maxHeartbeats 4000000 in
theorem awake14_any (w : World) : Calls Try.prog 7 #[] w fun e w' => e = .returned (.bool true) ∧ Below w.heap.size w w' := by
  have p1 := fun (W : World) => pput_yes exP none none none 0 0 0 0 0 0 W ⟨lks_nil _ _, lks_nil _ _, las_nil _ _⟩ exP_may
  have p2 := fun (v : Value) (W : World) (hv : Sl W W.heap.size v (putP exP)) => pget_any v (putP exP) W hv (by rw [exP_len]; omega)
  rw [getC_back exP_may] at p2
  unfold PPutOut at p1
  unfold GetOutP at p2
  rw [exP_len] at p1
  have hlt := putP_lt exP
  generalize putP exP = xs at *
  simp only [pkV, exP, Option.getD, errP] at p1 p2
  have P1 := Lib.hid p1; clear p1
  have P2 := Lib.hid p2; clear p2
  have HLT := Lib.hid hlt; clear hlt
  go_enter Try.func7, Try.ntmps7
  go_wp2_with (first
    | (go_at_call 8; refine (P1.out _).mono ?_; rintro e w1 ⟨A1, n1, c1, rfl, hn1, ho1, hb1⟩; have hd1 : (n1 : Int) = 23 := (by omega); subst hn1; have HS1 := Lib.hid (sl_row ho1 HLT.out (by omega)); have HB1 := Lib.hid hb1; clear ho1 hb1)
    | (go_at_call 13; refine (P2.out _ _ HS1.out).mono ?_; rintro e w2 ⟨h_, i_, l_, rfl, hp2, hb2⟩; obtain ⟨B1, b1, y1, rfl, _⟩ := id hp2.1; obtain ⟨B2, b2, y2, rfl, _⟩ := id hp2.2.1; obtain ⟨B3, b3, y3, rfl, _⟩ := id hp2.2.2; have HB2 := Lib.hid (low_low HB1.out hb2); clear hp2 hb2))
  go_ret
  exact ⟨rfl, low1 HB2.out _⟩
def small14 (a : La) : Bool := decide (a.ls.length ≤ 40)
def lightP (p : Pk) : Bool := (p.ls.take 21).all small14 && (decide (p.ls.length ≤ 20) && (decide (p.hd.length ≤ 40) && decide (p.it.length ≤ 100)))
theorem small14_step (l : List La) (k : Nat) (hk : k < l.length) : (l.take (k + 1)).all small14 = ((l.take k).all small14 && small14 (l.getD k zeroL)) := by
  rw [List.take_succ_eq_append_getElem hk, List.all_append]
  simp [List.getD, List.getElem?_eq_getElem hk]
theorem small14_no (p : Pk) (k : Nat) (hk : k < p.ls.length) (h20 : k ≤ 20) (h : small14 (p.ls.getD k zeroL) = false) : lightP p = false := by
  have : (p.ls.take 21).all small14 = false := by
    rw [List.all_eq_false]
    refine ⟨p.ls.getD k zeroL, ?_, by rw [h]; exact Bool.false_ne_true⟩
    rw [List.mem_take_iff_getElem]
    exact ⟨k, by omega, by simp [List.getD, List.getElem?_eq_getElem hk]⟩
  simp [lightP, this]
set_option maxRecDepth 100000 in
set_option maxHeartbeats 8000000 in
theorem light14_any (p : Pk) (A1 A2 A3 : Option Addr) (n1 z1 n2 z2 n3 z3 : Nat) (w : World) (h : PkM w w.heap.size (.slice A1 n1 z1) (.slice A2 n2 z2) (.slice A3 n3 z3) p) :
    Calls Try.prog 6 #[pkV p (.slice A1 n1 z1) (.slice A2 n2 z2) (.slice A3 n3 z3)] w fun e w' => e = .returned (.bool (lightP p)) ∧ Below w.heap.size w w' := by
  obtain ⟨h1, h2, h3⟩ := h
  obtain ⟨hl, hnc, hcm, _⟩ := las_len h3
  have hl1 := (lks_len h1).1
  have hl2 := (lks_len h2).1
  unfold maxLen at hcm
  have hb := low1 (Below.refl w.heap.size w) (.cells (pkC p (.slice A1 n1 z1) (.slice A2 n2 z2) (.slice A3 n3 z3)) 26)
  have k0 := Blk.new w 26 (pkC p (.slice A1 n1 z1) (.slice A2 n2 z2) (.slice A3 n3 z3))
  have DB := Lib.hid (fun (W : World) (hW : Below w.heap.size w W) => h3.keep hW)
  obtain ⟨z, hz⟩ : ∃ z, z = lightP p := ⟨_, rfl⟩
  rw [← hz]
  have HZ := Lib.hid hz; clear hz
  have HL := Lib.hid hl; clear hl
  have HL1 := Lib.hid hl1; clear hl1
  have HL2 := Lib.hid hl2; clear hl2
  have HB := Lib.hid hb; clear hb
  have K0 := Lib.hid k0; clear k0 h1 h2 h3
  go_enter Try.func6, Try.ntmps6
  go_wp2_with (fail)
  go_loopw [3] (fun i wr => ∃ k : Nat, k ≤ n3 ∧ k ≤ 21 ∧ i = .int .i64 k ∧ (p.ls.take k).all small14 = true ∧ Below w.heap.size w wr ∧ Blk wr w.heap.size 26 (pkC p (.slice A1 n1 z1) (.slice A2 n2 z2) (.slice A3 n3 z3))) (fun i _ => n3 - (intOf i).toNat)
  case atStart => exact ⟨0, Nat.zero_le _, by omega, rfl, rfl, HB.out, K0.out⟩
  case round =>
    clear HB K0
    obtain ⟨k, hk, hk21, rfl, hall, hbw, hkw⟩ := hrel
    have HBW := Lib.hid hbw; clear hbw
    have HKW := Lib.hid hkw; clear hkw
    obtain ⟨x0, x1, x2, x3, x4, x5, x6, x7, x8, x9, x10⟩ := blk_cells10 HKW.out
    by_cases hlt : k < n3
    · have p1 : decide (k < n3) = true := by simp; omega
      by_cases h20 : k ≤ 20
      · have p2 : decide ((k : Int) ≤ 20) = true := by simp; omega
        obtain ⟨b, off, rfl, hb, hc⟩ := las_at (DB.out wr HBW.out) (by omega)
        obtain ⟨u, hr, hlk⟩ := hc k hlt
        have hst := small14_step p.ls k (by have := HL.out; omega)
        have hno := small14_no p k (by have := HL.out; omega) h20
        rw [hall, Bool.true_and] at hst
        generalize p.ls.getD k zeroL = x at *
        obtain ⟨Au, nu, cu, rfl, hlx, _⟩ := id hlk
        have c0 : wr.cell? ⟨b, off + k * 3, none⟩ = some (.int .i64 x.o) := hr 0 _ rfl
        have c1 : wr.cell? ⟨b, off + k * 3 + 1, none⟩ = some (.int .i64 x.s) := hr 1 _ rfl
        have c2 : wr.cell? ⟨b, off + k * 3 + 2, none⟩ = some (.slice Au nu cu) := hr 2 _ rfl
        clear hc hr hlk hall
        by_cases h40 : nu ≤ 40
        · have lt := light_any x.o x.s Au nu cu wr true (by simp; omega)
          have HST := Lib.hid (hst.trans (show small14 x = true by simp [small14, hlx, h40])); clear hst hno hlx
          have LT := Lib.hid lt; clear lt
          go_wp2_with (go_at_call 17; refine (LT.out).mono ?_; rintro e w3 ⟨rfl, hb3⟩; have HB3 := Lib.hid (low_low HBW.out hb3); have HK3 := Lib.hid (HKW.out.below hb3 HKW.out.lt); clear hb3)
          go_roundw
          case rel => exact ⟨k + 1, by omega, by omega, by go_num, HST.out, HB3.out, HK3.out⟩
          case measure => simp [intOf]; omega
        · have lt := light_any x.o x.s Au nu cu wr false (by simp; omega)
          have HNO := Lib.hid (hno (show small14 x = false by simp [small14, hlx]; omega)); clear hst hno hlx
          have LT := Lib.hid lt; clear lt
          go_wp2_with (go_at_call 17; refine (LT.out).mono ?_; rintro e w3 ⟨rfl, hb3⟩; have HB3 := Lib.hid (low_low HBW.out hb3); clear hb3)
          go_ret
          exact ⟨ret_bool (by rw [HZ.out, HNO.out]), HB3.out⟩
      · have p2 : decide ((k : Int) ≤ 20) = false := by simp; omega
        have p3 : decide ((n3 : Int) ≤ 20) = false := by simp; omega
        have hzf : z = false := by
          rw [HZ.out, lightP, HL.out]
          simp
          omega
        have HZF := Lib.hid hzf; clear hzf hall
        go_wp2
        go_ret
        exact ⟨ret_bool (by rw [HZF.out]), HBW.out⟩
    · have p1 : decide (k < n3) = false := by simp; omega
      obtain rfl : n3 = k := by omega
      have hzt : z = (decide ((n3 : Int) ≤ 20) && (decide ((n1 : Int) ≤ 40) && decide ((n2 : Int) ≤ 100))) := by
        rw [HZ.out, lightP, HL.out, HL1.out, HL2.out]
        have e : p.ls.take 21 = p.ls.take n3 := by rw [List.take_of_length_le (by have := HL.out; omega), List.take_of_length_le (by have := HL.out; omega)]
        rw [e, hall, Bool.true_and, show decide (n3 ≤ 20) = decide ((n3 : Int) ≤ 20) from decide_eq_decide.2 (by omega), show decide (n1 ≤ 40) = decide ((n1 : Int) ≤ 40) from decide_eq_decide.2 (by omega), show decide (n2 ≤ 100) = decide ((n2 : Int) ≤ 100) from decide_eq_decide.2 (by omega)]
      have HZT := Lib.hid hzt; clear hzt hall
      cases q1 : decide ((n3 : Int) ≤ 20)
      · go_wp2
        go_ret
        exact ⟨ret_bool (by rw [HZT.out, q1]; rfl), HBW.out⟩
      cases q2 : decide ((n1 : Int) ≤ 40)
      · go_wp2
        go_ret
        exact ⟨ret_bool (by rw [HZT.out, q1, q2]; rfl), HBW.out⟩
      · go_wp2
        go_ret
        exact ⟨ret_bool (by rw [HZT.out, q1, q2]; simp), HBW.out⟩
end Go.Proofs.Ytpolpppnajfhdaa.Pkt
/- Packets that came in (layer 14): what a law is told of a packet by value; a struct of ten one-cell fields, opened. No program's function is named here. -/
namespace Go.Proofs.Ytpolpppnajfhdaa.Pkt
open Go.RowKit Go.Proofs.Ytpolpppnajfhdaa.Mem Go.Proofs.Ytpolpppnajfhdaa.Lsa Go.Proofs.Ytpolpppnajfhdaa.Bas Go.Proofs.Ytpolpppnajfhdaa.Chg
set_option linter.unusedVariables false
set_option linter.unusedSimpArgs false
section
open Go.ChangeShapes Go.WideShapes Go.Deep Go.Joins
variable {H : Type} {enc : TypeId × Value → H} {P : Program} {w : World} {base : Nat} {spare : Nat → Bool} {held : Bool}
theorem array10 {α : Type} {cs : Array α} (h : cs.size = 10) : ∃ c0 c1 c2 c3 c4 c5 c6 c7 c8 c9, cs = #[c0, c1, c2, c3, c4, c5, c6, c7, c8, c9] := by
  obtain ⟨l⟩ := cs
  match l, h with
  | [c0, c1, c2, c3, c4, c5, c6, c7, c8, c9], _ => exact ⟨c0, c1, c2, c3, c4, c5, c6, c7, c8, c9, rfl⟩
theorem open_agg10 {r : Reach} {b0 : Nat} {t : TypeId} {f0 f1 f2 f3 f4 f5 f6 f7 f8 f9 : Field} {v : Value} {d : DataW H} {p : List MemPlace} (hs : P.underlying t = some (.struct #[f0, f1, f2, f3, f4, f5, f6, f7, f8, f9])) (hone : oneCellFields P #[f0, f1, f2, f3, f4, f5, f6, f7, f8, f9] = true) (hC : P.cellsOf t = 10)
    (hv : Value.okWide P w r b0 t v) (h : DataW.Trod enc P w base spare held t v d p) :
    ∃ (v0 v1 v2 v3 v4 v5 v6 v7 v8 v9 : Value) (y0 y1 y2 y3 y4 y5 y6 y7 y8 y9 : DataW H × List MemPlace) (n : Nat), v = .agg #[v0, v1, v2, v3, v4, v5, v6, v7, v8, v9] ∧ DataW.trod enc P w base spare held n f0.type [v0] = some y0 ∧ DataW.trod enc P w base spare held n f1.type [v1] = some y1 ∧ DataW.trod enc P w base spare held n f2.type [v2] = some y2 ∧ DataW.trod enc P w base spare held n f3.type [v3] = some y3 ∧ DataW.trod enc P w base spare held n f4.type [v4] = some y4 ∧ DataW.trod enc P w base spare held n f5.type [v5] = some y5 ∧ DataW.trod enc P w base spare held n f6.type [v6] = some y6 ∧ DataW.trod enc P w base spare held n f7.type [v7] = some y7 ∧ DataW.trod enc P w base spare held n f8.type [v8] = some y8 ∧ DataW.trod enc P w base spare held n f9.type [v9] = some y9 := by
  obtain ⟨cs, rfl, hsz⟩ := okWide_struct hs hv
  obtain ⟨c0, c1, c2, c3, c4, c5, c6, c7, c8, c9, rfl⟩ := array10 (hsz.trans hC)
  obtain ⟨fuel, hf⟩ := h
  obtain ⟨xs, n, _, hx, hl, hlen, hg⟩ := DataW.trod_struct hs hf
  match xs, hlen with
  | [y0, y1, y2, y3, y4, y5, y6, y7, y8, y9], _ =>
    obtain ⟨o0, k0⟩ := hone_of hone 0 f0 rfl
    have g0 := hg 0 f0 rfl
    obtain ⟨o1, k1⟩ := hone_of hone 1 f1 rfl
    have g1 := hg 1 f1 rfl
    obtain ⟨o2, k2⟩ := hone_of hone 2 f2 rfl
    have g2 := hg 2 f2 rfl
    obtain ⟨o3, k3⟩ := hone_of hone 3 f3 rfl
    have g3 := hg 3 f3 rfl
    obtain ⟨o4, k4⟩ := hone_of hone 4 f4 rfl
    have g4 := hg 4 f4 rfl
    obtain ⟨o5, k5⟩ := hone_of hone 5 f5 rfl
    have g5 := hg 5 f5 rfl
    obtain ⟨o6, k6⟩ := hone_of hone 6 f6 rfl
    have g6 := hg 6 f6 rfl
    obtain ⟨o7, k7⟩ := hone_of hone 7 f7 rfl
    have g7 := hg 7 f7 rfl
    obtain ⟨o8, k8⟩ := hone_of hone 8 f8 rfl
    have g8 := hg 8 f8 rfl
    obtain ⟨o9, k9⟩ := hone_of hone 9 f9 rfl
    have g9 := hg 9 f9 rfl
    exact ⟨c0, c1, c2, c3, c4, c5, c6, c7, c8, c9, y0, y1, y2, y3, y4, y5, y6, y7, y8, y9, n, rfl, by simpa [Value.cells, o0, k0] using g0, by simpa [Value.cells, o1, k1] using g1, by simpa [Value.cells, o2, k2] using g2, by simpa [Value.cells, o3, k3] using g3, by simpa [Value.cells, o4, k4] using g4, by simpa [Value.cells, o5, k5] using g5, by simpa [Value.cells, o6, k6] using g6, by simpa [Value.cells, o7, k7] using g7, by simpa [Value.cells, o8, k8] using g8, by simpa [Value.cells, o9, k9] using g9⟩
end
section
open Go.ChangeShapes Go.WideShapes Go.ChangeAt Go.Joins
variable {H : Type} {enc : TypeId × Value → H} {W : World} {base : Nat} {held : Bool}
set_option maxRecDepth 20000 in
theorem open_heard_at {fuel : Nat} {v : Value} {y : DataW H × List MemPlace} (h : DataW.trod enc Try.prog W base (fun _ => true) held fuel 22 [v] = some y) : LkR W v := by
  rcases open_slice_fields Try.underlying22 Try.underlying59 (by kernel_rfl) (by kernel_rfl) h with ⟨hcs, _⟩ | ⟨x, l, c, m, D, Pl, hcs, _, hl, hm, hmm, _, hh⟩
  · injection hcs with hcs _
    exact ⟨none, 0, 0, hcs, .inl ⟨rfl, rfl, rfl⟩⟩
  · injection hcs with hcs _
    refine ⟨some x, l, c, hcs, .inr ⟨_, rfl, hl, hm, fun i hi j hj => ?_⟩⟩
    obtain ⟨ys, n, _, _, _, hg⟩ := hh i (by rw [hmm, if_pos rfl]; exact hi)
    match j, hj with
    | 0, _ =>
      obtain ⟨v, y, hc, _, ht⟩ := hg 0 _ rfl
      exact ⟨v, hc, open_num_at Try.underlying3 ht⟩
    | 1, _ =>
      obtain ⟨v, y, hc, _, ht⟩ := hg 1 _ rfl
      exact ⟨v, hc, open_num_at Try.underlying3 ht⟩
set_option maxRecDepth 20000 in
theorem open_items_at {fuel : Nat} {v : Value} {y : DataW H × List MemPlace} (h : DataW.trod enc Try.prog W base (fun _ => true) held fuel 23 [v] = some y) : LkR W v := by
  rcases open_slice_fields Try.underlying23 Try.underlying64 (by kernel_rfl) (by kernel_rfl) h with ⟨hcs, _⟩ | ⟨x, l, c, m, D, Pl, hcs, _, hl, hm, hmm, _, hh⟩
  · injection hcs with hcs _
    exact ⟨none, 0, 0, hcs, .inl ⟨rfl, rfl, rfl⟩⟩
  · injection hcs with hcs _
    refine ⟨some x, l, c, hcs, .inr ⟨_, rfl, hl, hm, fun i hi j hj => ?_⟩⟩
    obtain ⟨ys, n, _, _, _, hg⟩ := hh i (by rw [hmm, if_pos rfl]; exact hi)
    match j, hj with
    | 0, _ =>
      obtain ⟨v, y, hc, _, ht⟩ := hg 0 _ rfl
      exact ⟨v, hc, open_num_at Try.underlying3 ht⟩
    | 1, _ =>
      obtain ⟨v, y, hc, _, ht⟩ := hg 1 _ rfl
      exact ⟨v, hc, open_num_at Try.underlying3 ht⟩
set_option maxRecDepth 20000 in
theorem open_packet_at {v : Value} {d : DataW H} {p : List MemPlace} {r : Reach} {b0 : Nat} (hv : Value.okWide Try.prog W r b0 26 v) (h : DataW.Trod enc Try.prog W base (fun _ => true) held 26 v d p) :
    ∃ c0 c1 c2 c3 c4 c5 c6 c7 c8 c9, v = .agg #[c0, c1, c2, c3, c4, c5, c6, c7, c8, c9] ∧ NumOf .i64 c0 ∧ NumOf .i64 c1 ∧ NumOf .i64 c2 ∧ NumOf .i64 c3 ∧ NumOf .i64 c4 ∧ NumOf .i64 c5 ∧ NumOf .i64 c6 ∧ LkR W c7 ∧ LkR W c8 ∧ LasR W c9 := by
  obtain ⟨u0, u1, u2, u3, u4, u5, u6, u7, u8, u9, _, _, _, _, _, _, _, _, _, _, _, rfl, g0, g1, g2, g3, g4, g5, g6, g7, g8, g9⟩ := open_agg10 Try.underlying26 (by kernel_rfl) (by kernel_rfl) hv h
  exact ⟨u0, u1, u2, u3, u4, u5, u6, u7, u8, u9, rfl, open_num_at Try.underlying3 g0, open_num_at Try.underlying3 g1, open_num_at Try.underlying3 g2, open_num_at Try.underlying3 g3, open_num_at Try.underlying3 g4, open_num_at Try.underlying3 g5, open_num_at Try.underlying3 g6, open_heard_at g7, open_items_at g8, open_lsas_at g9⟩
end
/-- a packet that came in -/
theorem pk_in {w : World} {c0 c1 c2 c3 c4 c5 c6 c7 c8 c9 : Value} (h0 : NumOf .i64 c0) (h1 : NumOf .i64 c1) (h2 : NumOf .i64 c2) (h3 : NumOf .i64 c3) (h4 : NumOf .i64 c4) (h5 : NumOf .i64 c5) (h6 : NumOf .i64 c6) (h7 : LkR w c7) (h8 : LkR w c8) (h9 : LasR w c9) :
    ∃ (p : Pk) (A1 A2 A3 : Option Addr) (n1 z1 n2 z2 n3 z3 : Nat), (Value.agg #[c0, c1, c2, c3, c4, c5, c6, c7, c8, c9]) = pkV p (.slice A1 n1 z1) (.slice A2 n2 z2) (.slice A3 n3 z3) ∧ PkM w w.heap.size (.slice A1 n1 z1) (.slice A2 n2 z2) (.slice A3 n3 z3) p := by
  obtain ⟨x0, rfl, _⟩ := h0
  obtain ⟨x1, rfl, _⟩ := h1
  obtain ⟨x2, rfl, _⟩ := h2
  obtain ⟨x3, rfl, _⟩ := h3
  obtain ⟨x4, rfl, _⟩ := h4
  obtain ⟨x5, rfl, _⟩ := h5
  obtain ⟨x6, rfl, _⟩ := h6
  obtain ⟨A1, n1, z1, rfl, r1⟩ := h7
  obtain ⟨hd, k1⟩ := lks_in r1
  obtain ⟨A2, n2, z2, rfl, r2⟩ := h8
  obtain ⟨it, k2⟩ := lks_in r2
  obtain ⟨ls, k3⟩ := las_in h9
  obtain ⟨A3, n3, z3, rfl, _⟩ := id k3
  exact ⟨⟨x0, x1, x2, x3, x4, x5, x6, hd, it, ls⟩, A1, A2, A3, n1, z1, n2, z2, n3, z3, rfl, k1, k2, k3⟩
end Go.Proofs.Ytpolpppnajfhdaa.Pkt
/- Whether packets are alike (layer 14): the contract of the reference's Same. Printed by tools/packet/same.py. -/
namespace Go.Proofs.Ytpolpppnajfhdaa.Pkt
open Go.RowKit Go.Proofs.Ytpolpppnajfhdaa.Mem Go.Proofs.Ytpolpppnajfhdaa.Lsa Go.Proofs.Ytpolpppnajfhdaa.Bas
set_option linter.unusedVariables false
set_option linter.unusedSimpArgs false
/-- alike but for their rows, which are as long -/
def heads (p q : Pk) : Prop := p.k = q.k ∧ p.f = q.f ∧ p.b = q.b ∧ p.t = q.t ∧ p.tb = q.tb ∧ p.e = q.e ∧ p.te = q.te ∧ p.hd.length = q.hd.length ∧ p.it.length = q.it.length
instance (p q : Pk) : Decidable (heads p q) := by unfold heads; exact inferInstance
def sameP (p q : Pk) : Bool := decide (heads p q) && (decide (p.hd = q.hd) && (decide (p.it = q.it) && sameDb p.ls q.ls))
theorem sameP_iff {p q : Pk} : sameP p q = true ↔ p = q := by
  constructor
  · intro h
    simp only [sameP, Bool.and_eq_true, decide_eq_true_eq, sameDb_iff] at h
    obtain ⟨⟨h1, h2, h3, h4, h5, h6, h7, _⟩, h8, h9, h10⟩ := h
    cases p; cases q; simp_all
  · rintro rfl
    simp [sameP, heads, sameDb_iff]
theorem drop_eq_step {l l' : List Lk} {k : Nat} (h : k < l.length) (h' : k < l'.length) : (l.drop k = l'.drop k) ↔ (l.getD k (0, 0) = l'.getD k (0, 0) ∧ l.drop (k + 1) = l'.drop (k + 1)) := by
  rw [drop_at l (0, 0) k h, drop_at l' (0, 0) k h']
  simp
set_option maxRecDepth 100000 in
set_option maxHeartbeats 8000000 in
theorem rsame_no (p q : Pk) (A1 A2 A3 D1 D2 D3 : Option Addr) (n1 z1 n2 z2 n3 z3 m1 y1 m2 y2 m3 y3 : Nat) (w : World) (hl1 : p.hd.length = n1) (hl2 : p.it.length = n2) (hl4 : q.hd.length = m1) (hl5 : q.it.length = m2) (hno : ¬ heads p q) :
    Calls Try.prog 12 #[pkV p (.slice A1 n1 z1) (.slice A2 n2 z2) (.slice A3 n3 z3), pkV q (.slice D1 m1 y1) (.slice D2 m2 y2) (.slice D3 m3 y3)] w fun e w' => e = .returned (.bool false) ∧ Below w.heap.size w w' := by
  unfold heads at hno
  rw [hl1, hl2, hl4, hl5] at hno
  have HN := Lib.hid hno; clear hno hl1 hl2 hl4 hl5
  go_enter Try.func12, Try.ntmps12
  go_upto_region 3 with fail
  all_goals first
    | (exfalso
       simp only [bne_eq_false_iff_eq] at *
       exact HN.out ⟨by omega, by omega, by omega, by omega, by omega, by omega, by omega, by omega, by omega⟩)
    | (go_wp2
       go_ret
       exact ⟨rfl, palloc (palloc (Below.refl w.heap.size w) _ (Nat.le_refl _)) _ (by simp)⟩)
set_option maxRecDepth 100000 in
set_option maxHeartbeats 8000000 in
theorem rsame_yes (p q : Pk) (A1 A2 A3 D1 D2 D3 : Option Addr) (n1 z1 n2 z2 n3 z3 m1 y1 m2 y2 m3 y3 : Nat) (w : World) (h : PkM w w.heap.size (.slice A1 n1 z1) (.slice A2 n2 z2) (.slice A3 n3 z3) p) (h' : PkM w w.heap.size (.slice D1 m1 y1) (.slice D2 m2 y2) (.slice D3 m3 y3) q) (hyes : heads p q) :
    Calls Try.prog 12 #[pkV p (.slice A1 n1 z1) (.slice A2 n2 z2) (.slice A3 n3 z3), pkV q (.slice D1 m1 y1) (.slice D2 m2 y2) (.slice D3 m3 y3)] w fun e w' => e = .returned (.bool (sameP p q)) ∧ Below w.heap.size w w' := by
  obtain ⟨h1, h2, h3⟩ := h
  obtain ⟨h4, h5, h6⟩ := h'
  obtain ⟨hl1, hc1, hm1, _⟩ := lks_len h1
  obtain ⟨hl2, hc2, hm2, _⟩ := lks_len h2
  have hl4 := (lks_len h4).1
  have hl5 := (lks_len h5).1
  have HH := Lib.hid hyes
  obtain ⟨g0, g1, g2, g3, g4, g5, g6, g7, g8⟩ := hyes
  rw [hl1, hl4] at g7
  rw [hl2, hl5] at g8
  unfold maxLen at hm1 hm2
  have b0 : (p.k != q.k) = false := bne_eq_false_iff_eq.2 g0
  have b1 : (p.f != q.f) = false := bne_eq_false_iff_eq.2 g1
  have b2 : (p.b != q.b) = false := bne_eq_false_iff_eq.2 g2
  have b3 : (p.t != q.t) = false := bne_eq_false_iff_eq.2 g3
  have b4 : (p.tb != q.tb) = false := bne_eq_false_iff_eq.2 g4
  have b5 : (p.e != q.e) = false := bne_eq_false_iff_eq.2 g5
  have b6 : (p.te != q.te) = false := bne_eq_false_iff_eq.2 g6
  have b7 : ((n1 : Int) != (m1 : Int)) = false := by rw [g7]; exact bne_self_eq_false _
  have b8 : ((n2 : Int) != (m2 : Int)) = false := by rw [g8]; exact bne_self_eq_false _
  have b9 : n1 ≤ m1 := by omega
  have b10 : m1 ≤ n1 := by omega
  have b11 : n2 ≤ m2 := by omega
  have b12 : m2 ≤ n2 := by omega
  have H1 := Lib.hid h1; have H2 := Lib.hid h2; have H3 := Lib.hid h3; have H4 := Lib.hid h4; have H5 := Lib.hid h5; have H6 := Lib.hid h6
  have HL1 := Lib.hid hl1; have HL2 := Lib.hid hl2; have HL4 := Lib.hid hl4; have HL5 := Lib.hid hl5
  clear h1 h2 h3 h4 h5 h6 hl1 hl2 hl4 hl5 g0 g1 g2 g3 g4 g5 g6 g7 g8
  have KP := Lib.hid ((Blk.new w 26 (pkC p (.slice A1 n1 z1) (.slice A2 n2 z2) (.slice A3 n3 z3))).alloc (.cells (pkC q (.slice D1 m1 y1) (.slice D2 m2 y2) (.slice D3 m3 y3)) 26))
  have kq := Blk.new (w.alloc (.cells (pkC p (.slice A1 n1 z1) (.slice A2 n2 z2) (.slice A3 n3 z3)) 26)) 26 (pkC q (.slice D1 m1 y1) (.slice D2 m2 y2) (.slice D3 m3 y3))
  rw [show (w.alloc (.cells (pkC p (.slice A1 n1 z1) (.slice A2 n2 z2) (.slice A3 n3 z3)) 26)).heap.size = w.heap.size + 1 from by simp] at kq
  have KQ := Lib.hid kq; clear kq
  have HB := Lib.hid (palloc (palloc (Below.refl w.heap.size w) (.cells (pkC p (.slice A1 n1 z1) (.slice A2 n2 z2) (.slice A3 n3 z3)) 26) (Nat.le_refl _)) (.cells (pkC q (.slice D1 m1 y1) (.slice D2 m2 y2) (.slice D3 m3 y3)) 26) (by simp))
  go_enter Try.func12, Try.ntmps12
  go_wp2
  go_loopw [5] (fun i wr => ∃ (k : Nat), k ≤ n1 ∧ i = .int .i64 k ∧ Hid ((p.hd = q.hd) ↔ (p.hd.drop k = q.hd.drop k)) ∧ Hid (Blk wr w.heap.size 26 (pkC p (.slice A1 n1 z1) (.slice A2 n2 z2) (.slice A3 n3 z3))) ∧ Hid (Blk wr (w.heap.size + 1) 26 (pkC q (.slice D1 m1 y1) (.slice D2 m2 y2) (.slice D3 m3 y3))) ∧ Hid (Below w.heap.size w wr)) (fun i _ => n1 - (intOf i).toNat)
  case atStart => exact ⟨0, Nat.zero_le _, rfl, Lib.hid Iff.rfl, KP, KQ, HB⟩
  case round =>
    clear KP KQ HB
    obtain ⟨k, hk, rfl, HOK, KP, KQ, HB⟩ := hrel
    obtain ⟨p0, p1, p2, p3, p4, p5, p6, p7, p8, p9, pl⟩ := blk_cells10 KP.out
    obtain ⟨q0, q1, q2, q3, q4, q5, q6, q7, q8, q9, ql⟩ := blk_cells10 KQ.out
    clear p0 p1 p2 p3 p4 p5 p6 q0 q1 q2 q3 q4 q5 q6
    by_cases hlt : k < n1
    · obtain ⟨b, off, rfl, hb, hc⟩ := lks_at H1.out (by omega)
      obtain ⟨d, off', rfl, hd, hc'⟩ := lks_at H4.out (by omega)
      obtain ⟨c0, c1_⟩ := hc k hlt
      obtain ⟨e0, e1_⟩ := hc' k (by omega)
      replace c0 := (HB.out.cell (p := ⟨b, off + k * 2, none⟩) hb).trans c0
      replace c1_ := (HB.out.cell (p := ⟨b, off + k * 2 + 1, none⟩) hb).trans c1_
      replace e0 := (HB.out.cell (p := ⟨d, off' + k * 2, none⟩) hd).trans e0
      replace e1_ := (HB.out.cell (p := ⟨d, off' + k * 2 + 1, none⟩) hd).trans e1_
      have hst := drop_eq_step (l := p.hd) (l' := q.hd) (k := k) (by have := HL1.out; omega) (by have := HL4.out; omega)
      have hok := HOK.out.trans hst
      have hkm : k < m1 := by omega
      clear hc hc' hst HOK
      generalize p.hd.getD k (0, 0) = x at *
      generalize q.hd.getD k (0, 0) = y at *
      obtain ⟨t, u⟩ := x
      obtain ⟨t', u'⟩ := y
      simp only at c0 c1_ e0 e1_ hok
      have HOK := Lib.hid hok; clear hok
      have hcs : ¬ t = t' ∨ t' = t ∧ ¬ u = u' ∨ t' = t ∧ u' = u := by omega
      rcases hcs with hn | ⟨rfl, hn⟩ | ⟨rfl, rfl⟩
      iterate 2
        · have HN := Lib.hid (show ¬ (p.hd = q.hd) from fun h => by have := HOK.out.1 h; simp only [Prod.mk.injEq] at this; omega)
          go_wp2
          go_quiet (fail)
          go_wp2
          go_ret
          exact ⟨ret_bool (by unfold sameP; rw [decide_eq_false HN.out]; simp), below_drewN HB.out _⟩
      · have HN := Lib.hid (show (p.hd = q.hd) ↔ (p.hd.drop (k + 1) = q.hd.drop (k + 1)) from HOK.out.trans (by simp))
        go_wp2
        go_quiet (fail)
        go_wp2
        go_roundw
        case rel => exact ⟨k + 1, by omega, by go_num, HN, Lib.hid (KP.out.drewN _), Lib.hid (KQ.out.drewN _), Lib.hid (below_drewN HB.out _)⟩
        case measure => simp [intOf]; omega
    · obtain rfl : n1 = k := by omega
      have HE1 := Lib.hid (show p.hd = q.hd from HOK.out.2 (by rw [List.drop_eq_nil_of_le (by have := HL1.out; omega), List.drop_eq_nil_of_le (by have := HL4.out; omega)]))
      go_wp2
      clear p7 p8 p9 q7 q8 q9 pl ql
      go_loopw [6] (fun i wr => ∃ (k : Nat), k ≤ n2 ∧ i = .int .i64 k ∧ Hid ((p.it = q.it) ↔ (p.it.drop k = q.it.drop k)) ∧ Hid (Blk wr w.heap.size 26 (pkC p (.slice A1 n1 z1) (.slice A2 n2 z2) (.slice A3 n3 z3))) ∧ Hid (Blk wr (w.heap.size + 1) 26 (pkC q (.slice D1 m1 y1) (.slice D2 m2 y2) (.slice D3 m3 y3))) ∧ Hid (Below w.heap.size w wr)) (fun i _ => n2 - (intOf i).toNat)
      case atStart => exact ⟨0, Nat.zero_le _, rfl, Lib.hid Iff.rfl, KP, KQ, HB⟩
      case round =>
        clear KP KQ HB
        obtain ⟨k, hk, rfl, HOK, KP, KQ, HB⟩ := hrel
        obtain ⟨p0, p1, p2, p3, p4, p5, p6, p7, p8, p9, pl⟩ := blk_cells10 KP.out
        obtain ⟨q0, q1, q2, q3, q4, q5, q6, q7, q8, q9, ql⟩ := blk_cells10 KQ.out
        clear p0 p1 p2 p3 p4 p5 p6 q0 q1 q2 q3 q4 q5 q6
        by_cases hlt : k < n2
        · obtain ⟨b, off, rfl, hb, hc⟩ := lks_at H2.out (by omega)
          obtain ⟨d, off', rfl, hd, hc'⟩ := lks_at H5.out (by omega)
          obtain ⟨c0, c1_⟩ := hc k hlt
          obtain ⟨e0, e1_⟩ := hc' k (by omega)
          replace c0 := (HB.out.cell (p := ⟨b, off + k * 2, none⟩) hb).trans c0
          replace c1_ := (HB.out.cell (p := ⟨b, off + k * 2 + 1, none⟩) hb).trans c1_
          replace e0 := (HB.out.cell (p := ⟨d, off' + k * 2, none⟩) hd).trans e0
          replace e1_ := (HB.out.cell (p := ⟨d, off' + k * 2 + 1, none⟩) hd).trans e1_
          have hst := drop_eq_step (l := p.it) (l' := q.it) (k := k) (by have := HL2.out; omega) (by have := HL5.out; omega)
          have hok := HOK.out.trans hst
          have hkm : k < m2 := by omega
          clear hc hc' hst HOK
          generalize p.it.getD k (0, 0) = x at *
          generalize q.it.getD k (0, 0) = y at *
          obtain ⟨t, u⟩ := x
          obtain ⟨t', u'⟩ := y
          simp only at c0 c1_ e0 e1_ hok
          have HOK := Lib.hid hok; clear hok
          have hcs : ¬ t = t' ∨ t' = t ∧ ¬ u = u' ∨ t' = t ∧ u' = u := by omega
          rcases hcs with hn | ⟨rfl, hn⟩ | ⟨rfl, rfl⟩
          iterate 2
            · have HN := Lib.hid (show ¬ (p.it = q.it) from fun h => by have := HOK.out.1 h; simp only [Prod.mk.injEq] at this; omega)
              go_wp2
              go_quiet (fail)
              go_wp2
              go_ret
              exact ⟨ret_bool (by unfold sameP; rw [decide_eq_false HN.out]; simp), below_drewN HB.out _⟩
          · have HN := Lib.hid (show (p.it = q.it) ↔ (p.it.drop (k + 1) = q.it.drop (k + 1)) from HOK.out.trans (by simp))
            go_wp2
            go_quiet (fail)
            go_wp2
            go_roundw
            case rel => exact ⟨k + 1, by omega, by go_num, HN, Lib.hid (KP.out.drewN _), Lib.hid (KQ.out.drewN _), Lib.hid (below_drewN HB.out _)⟩
            case measure => simp [intOf]; omega
        · obtain rfl : n2 = k := by omega
          have HE2 := Lib.hid (show p.it = q.it from HOK.out.2 (by rw [List.drop_eq_nil_of_le (by have := HL2.out; omega), List.drop_eq_nil_of_le (by have := HL5.out; omega)]))
          have RA := Lib.hid (fun (W : World) (hW : Below w.heap.size w W) => rall_db A3 D3 n3 m3 z3 y3 p.ls q.ls W (H3.out.up hW) (H6.out.up hW))
          go_wp2_with (go_at_call 32; refine (RA.out _ HB.out).mono ?_; rintro e w6 ⟨rfl, hb6⟩)
          go_ret
          exact ⟨ret_bool (by unfold sameP; rw [decide_eq_true HH.out, decide_eq_true HE1.out, decide_eq_true HE2.out]; simp), HB.out.trans (hb6.mono HB.out.size)⟩
theorem rsame_pk (p q : Pk) (A1 A2 A3 D1 D2 D3 : Option Addr) (n1 z1 n2 z2 n3 z3 m1 y1 m2 y2 m3 y3 : Nat) (w : World) (h : PkM w w.heap.size (.slice A1 n1 z1) (.slice A2 n2 z2) (.slice A3 n3 z3) p) (h' : PkM w w.heap.size (.slice D1 m1 y1) (.slice D2 m2 y2) (.slice D3 m3 y3) q) :
    Calls Try.prog 12 #[pkV p (.slice A1 n1 z1) (.slice A2 n2 z2) (.slice A3 n3 z3), pkV q (.slice D1 m1 y1) (.slice D2 m2 y2) (.slice D3 m3 y3)] w fun e w' => e = .returned (.bool (sameP p q)) ∧ Below w.heap.size w w' := by
  by_cases hh : heads p q
  · exact rsame_yes p q A1 A2 A3 D1 D2 D3 n1 z1 n2 z2 n3 z3 m1 y1 m2 y2 m3 y3 w h h' hh
  · rw [show sameP p q = false by unfold sameP; rw [decide_eq_false hh]; rfl]
    exact rsame_no p q A1 A2 A3 D1 D2 D3 n1 z1 n2 z2 n3 z3 m1 y1 m2 y2 m3 y3 w (lks_len h.1).1 (lks_len h.2.1).1 (lks_len h'.1).1 (lks_len h'.2.1).1 hh
end Go.Proofs.Ytpolpppnajfhdaa.Pkt
/- Whether the code finds packets alike (layer 14): the contracts of slices.Equal at heard and at items, and of packet.Same. -/
namespace Go.Proofs.Ytpolpppnajfhdaa.Pkt
open Go.RowKit Go.Proofs.Ytpolpppnajfhdaa.Mem Go.Proofs.Ytpolpppnajfhdaa.Lsa Go.Proofs.Ytpolpppnajfhdaa.Bas
open Go.Proofs.Ytpolpppnajfhdaa.Chg (low1 low_low low2 blk_second)
set_option linter.unusedVariables false
set_option linter.unusedSimpArgs false
set_option maxRecDepth 20000 in
set_option maxHeartbeats 4000000 in
theorem equal_hd (A A' : Option Addr) (n n' c c' B B' : Nat) (ls ls' : List Lk) (w : World) (h : Lks w B (.slice A n c) ls) (h' : Lks w B' (.slice A' n' c') ls') :
    Calls Try.prog 28 #[.slice A n c, .slice A' n' c'] w fun e w' => e = .returned (.bool (decide (ls = ls'))) ∧ ∃ m, w' = w.drewN m := by
  obtain ⟨hl, hnc, hcm, _⟩ := lks_len h
  obtain ⟨hl', hnc', hcm', _⟩ := lks_len h'
  unfold maxLen at hcm hcm'
  by_cases hn : n = n'
  · subst hn
    have HL := Lib.hid hl; clear hl
    have HL' := Lib.hid hl'; clear hl'
    have HS := Lib.hid h; clear h
    have HS' := Lib.hid h'; clear h'
    obtain ⟨z, hz⟩ : ∃ z, z = decide (ls = ls') := ⟨_, rfl⟩
    rw [← hz]
    have HZ := Lib.hid hz; clear hz
    go_enter Try.func28, Try.ntmps28
    go_wp2
    go_loopw [13] (fun i wr => (∃ k : Nat, k ≤ n ∧ i = .int .i64 k ∧ z = decide (ls.drop k = ls'.drop k)) ∧ ∃ m, wr = w.drewN m) (fun i _ => n - (intOf i).toNat)
    case atStart => exact ⟨⟨0, Nat.zero_le _, rfl, HZ.out⟩, 0, rfl⟩
    case round =>
      obtain ⟨⟨k, hk, rfl, hz⟩, m, rfl⟩ := hrel
      by_cases hlt : k < n
      · obtain ⟨b, off, rfl, hb, hc⟩ := lks_at HS.out (by omega)
        obtain ⟨b', off', rfl, hb', hc'⟩ := lks_at HS'.out (by omega)
        obtain ⟨c0, c1⟩ := hc k hlt
        obtain ⟨d0, d1⟩ := hc' k hlt
        rw [drop_at ls (0, 0) k (by have := HL.out; omega), drop_at ls' (0, 0) k (by have := HL'.out; omega)] at hz
        clear hc hc'
        generalize ls.getD k (0, 0) = x at *
        generalize ls'.getD k (0, 0) = y at *
        obtain ⟨t, u⟩ := x
        obtain ⟨t', u'⟩ := y
        simp only at c0 c1 d0 d1
        by_cases e1 : t = t'
        · subst e1
          by_cases e2 : u = u'
          · subst e2
            rw [dec_cons] at hz
            have HZ2 := Lib.hid hz; clear hz
            go_wp2
            go_quiet (fail)
            go_wp2
            go_roundw
            case rel => exact ⟨⟨k + 1, by omega, by go_num, HZ2.out⟩, _, rfl⟩
            case measure => simp [intOf]; omega
          · rw [dec_ne (fun e => e2 (by injection e))] at hz
            have HZ2 := Lib.hid hz; clear hz
            go_wp2
            go_quiet (fail)
            go_wp2
            go_ret
            exact ⟨ret_bool HZ2.out, _, World.drewN_drewN _ _ _⟩
        · rw [dec_ne (fun e => e1 (by injection e))] at hz
          have HZ2 := Lib.hid hz; clear hz
          go_wp2
          go_quiet (fail)
          go_wp2
          go_ret
          exact ⟨ret_bool HZ2.out, _, World.drewN_drewN _ _ _⟩
      · obtain rfl : k = n := by omega
        rw [List.drop_eq_nil_of_le (by have := HL.out; omega), List.drop_eq_nil_of_le (by have := HL'.out; omega)] at hz
        have HZ2 := Lib.hid hz; clear hz
        go_wp2
        go_ret
        exact ⟨ret_bool (HZ2.out.symm ▸ rfl), m, rfl⟩
  · have hb : ((n : Int) != (n' : Int)) = true := by rw [bne_iff_ne]; omega
    have hd : decide (ls = ls') = false := decide_eq_false (fun e => hn (by rw [← hl, ← hl', e]))
    rw [hd]
    go_enter Try.func28, Try.ntmps28
    go_wp2
    go_ret
    exact ⟨rfl, 0, rfl⟩
set_option maxRecDepth 20000 in
set_option maxHeartbeats 4000000 in
theorem equal_it (A A' : Option Addr) (n n' c c' B B' : Nat) (ls ls' : List Lk) (w : World) (h : Lks w B (.slice A n c) ls) (h' : Lks w B' (.slice A' n' c') ls') :
    Calls Try.prog 29 #[.slice A n c, .slice A' n' c'] w fun e w' => e = .returned (.bool (decide (ls = ls'))) ∧ ∃ m, w' = w.drewN m := by
  obtain ⟨hl, hnc, hcm, _⟩ := lks_len h
  obtain ⟨hl', hnc', hcm', _⟩ := lks_len h'
  unfold maxLen at hcm hcm'
  by_cases hn : n = n'
  · subst hn
    have HL := Lib.hid hl; clear hl
    have HL' := Lib.hid hl'; clear hl'
    have HS := Lib.hid h; clear h
    have HS' := Lib.hid h'; clear h'
    obtain ⟨z, hz⟩ : ∃ z, z = decide (ls = ls') := ⟨_, rfl⟩
    rw [← hz]
    have HZ := Lib.hid hz; clear hz
    go_enter Try.func29, Try.ntmps29
    go_wp2
    go_loopw [13] (fun i wr => (∃ k : Nat, k ≤ n ∧ i = .int .i64 k ∧ z = decide (ls.drop k = ls'.drop k)) ∧ ∃ m, wr = w.drewN m) (fun i _ => n - (intOf i).toNat)
    case atStart => exact ⟨⟨0, Nat.zero_le _, rfl, HZ.out⟩, 0, rfl⟩
    case round =>
      obtain ⟨⟨k, hk, rfl, hz⟩, m, rfl⟩ := hrel
      by_cases hlt : k < n
      · obtain ⟨b, off, rfl, hb, hc⟩ := lks_at HS.out (by omega)
        obtain ⟨b', off', rfl, hb', hc'⟩ := lks_at HS'.out (by omega)
        obtain ⟨c0, c1⟩ := hc k hlt
        obtain ⟨d0, d1⟩ := hc' k hlt
        rw [drop_at ls (0, 0) k (by have := HL.out; omega), drop_at ls' (0, 0) k (by have := HL'.out; omega)] at hz
        clear hc hc'
        generalize ls.getD k (0, 0) = x at *
        generalize ls'.getD k (0, 0) = y at *
        obtain ⟨t, u⟩ := x
        obtain ⟨t', u'⟩ := y
        simp only at c0 c1 d0 d1
        by_cases e1 : t = t'
        · subst e1
          by_cases e2 : u = u'
          · subst e2
            rw [dec_cons] at hz
            have HZ2 := Lib.hid hz; clear hz
            go_wp2
            go_quiet (fail)
            go_wp2
            go_roundw
            case rel => exact ⟨⟨k + 1, by omega, by go_num, HZ2.out⟩, _, rfl⟩
            case measure => simp [intOf]; omega
          · rw [dec_ne (fun e => e2 (by injection e))] at hz
            have HZ2 := Lib.hid hz; clear hz
            go_wp2
            go_quiet (fail)
            go_wp2
            go_ret
            exact ⟨ret_bool HZ2.out, _, World.drewN_drewN _ _ _⟩
        · rw [dec_ne (fun e => e1 (by injection e))] at hz
          have HZ2 := Lib.hid hz; clear hz
          go_wp2
          go_quiet (fail)
          go_wp2
          go_ret
          exact ⟨ret_bool HZ2.out, _, World.drewN_drewN _ _ _⟩
      · obtain rfl : k = n := by omega
        rw [List.drop_eq_nil_of_le (by have := HL.out; omega), List.drop_eq_nil_of_le (by have := HL'.out; omega)] at hz
        have HZ2 := Lib.hid hz; clear hz
        go_wp2
        go_ret
        exact ⟨ret_bool (HZ2.out.symm ▸ rfl), m, rfl⟩
  · have hb : ((n : Int) != (n' : Int)) = true := by rw [bne_iff_ne]; omega
    have hd : decide (ls = ls') = false := decide_eq_false (fun e => hn (by rw [← hl, ← hl', e]))
    rw [hd]
    go_enter Try.func29, Try.ntmps29
    go_wp2
    go_ret
    exact ⟨rfl, 0, rfl⟩
theorem sameP_chain (p q : Pk) : sameP p q = (!(p.k != q.k) && (!(p.f != q.f) && (!(p.b != q.b) && (!(p.t != q.t) && (!(p.tb != q.tb) && (!(p.e != q.e) && (!(p.te != q.te) && (decide (p.hd = q.hd) && (decide (p.it = q.it) && sameDb p.ls q.ls))))))))) := by
  rw [Bool.eq_iff_iff, sameP_iff]
  simp only [Bool.and_eq_true, Bool.not_eq_true', bne_eq_false_iff_eq, decide_eq_true_eq, sameDb_iff]
  constructor
  · rintro rfl
    exact ⟨rfl, rfl, rfl, rfl, rfl, rfl, rfl, rfl, rfl, rfl⟩
  · rintro ⟨h0, h1, h2, h3, h4, h5, h6, h7, h8, h9⟩
    cases p; cases q; simp_all
set_option maxRecDepth 100000 in
set_option maxHeartbeats 8000000 in
theorem psame_any (p q : Pk) (A1 A2 A3 D1 D2 D3 : Option Addr) (n1 z1 n2 z2 n3 z3 m1 y1 m2 y2 m3 y3 : Nat) (w : World) (h : PkM w w.heap.size (.slice A1 n1 z1) (.slice A2 n2 z2) (.slice A3 n3 z3) p) (h' : PkM w w.heap.size (.slice D1 m1 y1) (.slice D2 m2 y2) (.slice D3 m3 y3) q) :
    Calls Try.prog 11 #[pkV p (.slice A1 n1 z1) (.slice A2 n2 z2) (.slice A3 n3 z3), pkV q (.slice D1 m1 y1) (.slice D2 m2 y2) (.slice D3 m3 y3)] w fun e w' => e = .returned (.bool (sameP p q)) ∧ Below w.heap.size w w' := by
  rw [sameP_chain]
  have HB := Lib.hid (low2 w (.cells (pkC p (.slice A1 n1 z1) (.slice A2 n2 z2) (.slice A3 n3 z3)) 26) (.cells (pkC q (.slice D1 m1 y1) (.slice D2 m2 y2) (.slice D3 m3 y3)) 26))
  have K0 := Lib.hid ((Blk.new w 26 (pkC p (.slice A1 n1 z1) (.slice A2 n2 z2) (.slice A3 n3 z3))).alloc (.cells (pkC q (.slice D1 m1 y1) (.slice D2 m2 y2) (.slice D3 m3 y3)) 26))
  have K1 := Lib.hid (blk_second w (.cells (pkC p (.slice A1 n1 z1) (.slice A2 n2 z2) (.slice A3 n3 z3)) 26) 26 (pkC q (.slice D1 m1 y1) (.slice D2 m2 y2) (.slice D3 m3 y3)))
  obtain ⟨h1, h2, h3⟩ := h
  obtain ⟨h4, h5, h6⟩ := h'
  have eh := fun (W : World) (hW : Below w.heap.size w W) => equal_hd A1 D1 n1 m1 z1 y1 _ _ p.hd q.hd W (h1.below hW (Nat.le_refl _)) (h4.below hW (Nat.le_refl _))
  have ei := fun (W : World) (hW : Below w.heap.size w W) => equal_it A2 D2 n2 m2 z2 y2 _ _ p.it q.it W (h2.below hW (Nat.le_refl _)) (h5.below hW (Nat.le_refl _))
  have el := fun (W : World) (hW : Below w.heap.size w W) => eqf_lsa A3 D3 n3 m3 z3 y3 p.ls q.ls W ((h3.keep hW).more hW.size) ((h6.keep hW).more hW.size)
  clear h1 h2 h3 h4 h5 h6
  generalize decide (p.hd = q.hd) = bh at *
  generalize decide (p.it = q.it) = bi at *
  generalize sameDb p.ls q.ls = bl at *
  have EH := Lib.hid eh; clear eh
  have EI := Lib.hid ei; clear ei
  have EL := Lib.hid el; clear el
  cases g0 : (p.k != q.k)
  case true =>
    clear EH EI EL
    go_enter Try.func11, Try.ntmps11
    go_wp2
    go_ret
    exact ⟨ret_bool (by simp), HB.out⟩
  cases g1 : (p.f != q.f)
  case true =>
    clear EH EI EL
    go_enter Try.func11, Try.ntmps11
    go_wp2
    go_ret
    exact ⟨ret_bool (by simp), HB.out⟩
  cases g2 : (p.b != q.b)
  case true =>
    clear EH EI EL
    go_enter Try.func11, Try.ntmps11
    go_wp2
    go_ret
    exact ⟨ret_bool (by simp), HB.out⟩
  cases g3 : (p.t != q.t)
  case true =>
    clear EH EI EL
    go_enter Try.func11, Try.ntmps11
    go_wp2
    go_ret
    exact ⟨ret_bool (by simp), HB.out⟩
  cases g4 : (p.tb != q.tb)
  case true =>
    clear EH EI EL
    go_enter Try.func11, Try.ntmps11
    go_wp2
    go_ret
    exact ⟨ret_bool (by simp), HB.out⟩
  cases g5 : (p.e != q.e)
  case true =>
    clear EH EI EL
    go_enter Try.func11, Try.ntmps11
    go_wp2
    go_ret
    exact ⟨ret_bool (by simp), HB.out⟩
  cases g6 : (p.te != q.te)
  case true =>
    clear EH EI EL
    go_enter Try.func11, Try.ntmps11
    go_wp2
    go_ret
    exact ⟨ret_bool (by simp), HB.out⟩
  cases bh
  · go_enter Try.func11, Try.ntmps11
    go_wp2_with (go_at_call 28; refine (EH.out _ HB.out).mono ?_; rintro e3 w3 ⟨rfl, q3, rfl⟩; have HB3 := Lib.hid (below_drewN HB.out q3))
    go_ret
    exact ⟨ret_bool (by simp), HB3.out⟩
  cases bi
  · go_enter Try.func11, Try.ntmps11
    go_wp2_with (first
      | (go_at_call 28; refine (EH.out _ HB.out).mono ?_; rintro e3 w3 ⟨rfl, q3, rfl⟩; have HB3 := Lib.hid (below_drewN HB.out q3))
      | (go_at_call 29; refine (EI.out _ HB3.out).mono ?_; rintro e4 w4 ⟨rfl, q4, rfl⟩; have HB4 := Lib.hid (below_drewN HB.out (q3 + q4))))
    go_ret
    exact ⟨ret_bool (by simp), HB4.out⟩
  go_enter Try.func11, Try.ntmps11
  go_wp2_with (first
    | (go_at_call 28; refine (EH.out _ HB.out).mono ?_; rintro e3 w3 ⟨rfl, q3, rfl⟩; have HB3 := Lib.hid (below_drewN HB.out q3))
    | (go_at_call 29; refine (EI.out _ HB3.out).mono ?_; rintro e4 w4 ⟨rfl, q4, rfl⟩; have HB4 := Lib.hid (below_drewN HB.out (q3 + q4)))
    | (go_at_call 30; refine (EL.out _ HB4.out).mono ?_; rintro e5 w5 ⟨rfl, hb5⟩; have HB5 := Lib.hid (low_low HB4.out hb5); clear hb5))
  go_ret
  exact ⟨ret_bool (by simp), HB5.out⟩
end Go.Proofs.Ytpolpppnajfhdaa.Pkt
/- A packet's bytes (layer 14): the contract of the reference's Put. Printed by tools/packet/put.py. -/
namespace Go.Proofs.Ytpolpppnajfhdaa.Pkt
open Go.RowKit Go.Proofs.Ytpolpppnajfhdaa.Mem Go.Proofs.Ytpolpppnajfhdaa.Lsa Go.Proofs.Ytpolpppnajfhdaa.Bas Go.Proofs.Ytpolpppnajfhdaa.Oct
set_option linter.unusedVariables false
set_option linter.unusedSimpArgs false
theorem own_two (w : World) (base g : Nat) (hg : g = w.heap.size) (hB : base ≤ w.heap.size) (x y : Int) (a b : Nat) (h : x = (a : Int)) (h' : y = (b : Int)) : (w.alloc (.cells #[.int .u8 x, .int .u8 y] 5)).ownsRow base 5 1 (.slice (some ⟨g, 0, none⟩) 2 2) 2 (vals [a, b]) := by
  subst h h' hg
  exact World.ownsRow_lit w #[.int .u8 (a : Int), .int .u8 (b : Int)] 2 hB (by unfold maxLen; omega) rfl
theorem ref_numI (x : Int) (k : Nat) (w : World) (hk : k ≤ 8) (h0 : 0 ≤ x) (h1 : x < 18446744073709551616) :
    Calls Try.prog 37 #[.int .i64 (k : Nat), .int .u64 x] w fun e w' => ∃ v, e = .returned v ∧ w'.ownsRow w.heap.size 5 1 v k (vals (be k x.toNat)) ∧ Below w.heap.size w w' := by
  have := ref_num k x.toNat w hk (by omega)
  rwa [Int.toNat_of_nonneg h0] at this
theorem laBytes_len14 (a : La) (h : laOk a = true) : (laBytes a).length ≤ 90 := by
  obtain ⟨_, _, h3, _⟩ := may_iff.1 h
  unfold laBytes bytesOf headBytes
  have := linkBytes_length a.ls
  simp only [List.length_append, be_length]
  omega
theorem dbBytes_take14 (db : List La) (k : Nat) (h : ∀ a ∈ db, laOk a = true) : (dbBytes (db.take k)).length ≤ 90 * k := by
  induction k with
  | zero => simp [dbBytes]
  | succ k ih =>
    by_cases hk : k < db.length
    · rw [dbBytes_succ db k hk, List.length_append]
      have := laBytes_len14 (db.getD k zeroL) (h _ (by simp [List.getD, List.getElem?_eq_getElem hk]))
      omega
    · rw [List.take_of_length_le (by omega)] at ih ⊢
      omega
theorem itBytes_succ (l : List Lk) (k : Nat) (h : k < l.length) : itBytes (l.take (k + 1)) = itBytes (l.take k) ++ (be 1 (l.getD k (0, 0)).1.toNat ++ be 8 (l.getD k (0, 0)).2.toNat) := by
  unfold itBytes
  rw [List.take_succ_eq_append_getElem h, List.flatMap_append]
  simp [List.getD, List.getElem?_eq_getElem h]
theorem itOk_all : ∀ {l : List Lk} {c : Int}, itOk c l = true → ∀ a ∈ l, (1 ≤ a.1 ∧ a.1 ≤ 64) ∧ 1 ≤ a.2 ∧ a.2 ≤ 4611686018427387904
  | [], _, _, _, ha => by cases ha
  | x :: r, c, h, a, ha => by
    simp [itOk, itOne, Lsa.win] at h
    rcases List.mem_cons.1 ha with rfl | ha
    · omega
    · exact itOk_all h.2 a ha
/-- so far: bytes of the call's own, the packet in its box -/
def PB (w : World) (cs : Array Value) (n : Nat) (xs : List Nat) (v : Value) (wx : World) : Prop := ∃ A c, v = .slice A n c ∧ wx.ownsRow (w.heap.size + 1) 5 1 v n (vals xs) ∧ Blk wx w.heap.size 26 cs ∧ Below w.heap.size w wx
theorem mayP_num {p : Pk} (h : mayP p = true) : (1 ≤ p.k ∧ p.k ≤ 5) ∧ (1 ≤ p.f ∧ p.f ≤ 64) ∧ (1 ≤ p.t ∧ p.t ≤ 64) ∧ (1 ≤ p.b ∧ p.b ≤ 1073741824) ∧ (0 ≤ p.tb ∧ p.tb ≤ 1073741824) ∧ (0 ≤ p.e ∧ p.e ≤ 1073741824) ∧ (0 ≤ p.te ∧ p.te ≤ 1073741824) ∧ p.hd.length ≤ 16 ∧ p.it.length ≤ 64 ∧ p.ls.length ≤ 8 ∧ count p ≤ 64 := by
  obtain ⟨he, hh, hl, hi, hep, hk⟩ := mayP_iff.1 h
  have hil := itOk_len (c := 0) (by omega) (by omega) hi
  obtain ⟨q1, q2, _, q4, q5, q6⟩ := ends_iff.1 he
  have hq : (0 ≤ p.e ∧ p.e ≤ 1073741824) ∧ (0 ≤ p.te ∧ p.te ≤ 1073741824) := by
    simp only [epochs, Lsa.win, Bool.and_eq_true] at hep
    obtain ⟨h1, h2⟩ := hep
    constructor
    · split at h1
      · simp at h1; omega
      · simp at h1; omega
    · split at h2
      · simp at h2; omega
      · simp at h2; omega
  have hk2 : (1 ≤ p.k ∧ p.k ≤ 5) ∧ p.hd.length ≤ 16 ∧ p.ls.length ≤ 8 ∧ count p ≤ 64 := by
    unfold kindOk at hk
    unfold count
    by_cases a : p.k = 1
    · simp [a] at hk; rw [hk.2.1, hk.2.2]; simp; omega
    by_cases b : p.k = 2
    · simp [b] at hk; rw [hk.1, hk.2]; simp; omega
    by_cases c : p.k = 3
    · simp [c] at hk; rw [hk.1, hk.2.1, hk.2.2]; simp; omega
    by_cases d : p.k = 4
    · simp [d] at hk; rw [hk.1, hk.2.1]; simp; omega
    by_cases e : p.k = 5
    · simp [e] at hk; rw [hk.1, hk.2]; simp; omega
    · simp [a, b, c, d, e] at hk
  exact ⟨hk2.1, q1, q2, q4, ⟨q5, q6⟩, hq.1, hq.2, hk2.2.1, by omega, hk2.2.2.1, hk2.2.2.2⟩
set_option maxRecDepth 100000 in
set_option maxHeartbeats 16000000 in
theorem rput_pk (p : Pk) (A1 A2 A3 : Option Addr) (n1 z1 n2 z2 n3 z3 : Nat) (w : World) (h : PkM w w.heap.size (.slice A1 n1 z1) (.slice A2 n2 z2) (.slice A3 n3 z3) p) (hm : mayP p = true) :
    Calls Try.prog 15 #[pkV p (.slice A1 n1 z1) (.slice A2 n2 z2) (.slice A3 n3 z3)] w fun e w' => ∃ v', e = .returned v' ∧ Sl w' w'.heap.size v' (putP p) ∧ Below w.heap.size w w' := by
  obtain ⟨i0, hi, hz0, hz1, hz2⟩ := info_parts Try.info5
  have HI := Lib.hid hi; have HZ0 := Lib.hid hz0; have HZ1 := Lib.hid hz1; have HZ2 := Lib.hid hz2
  clear hi hz0 hz1 hz2
  obtain ⟨h1, h2, h3⟩ := h
  obtain ⟨hl1, hc1, hm1, _⟩ := lks_len h1
  obtain ⟨hl2, hc2, hm2, _⟩ := lks_len h2
  obtain ⟨hl3, hc3, hm3, _⟩ := las_len h3
  obtain ⟨⟨k1, k5⟩, ⟨f1, f2⟩, ⟨t1, t2⟩, ⟨b1, b2⟩, ⟨tb1, tb2⟩, ⟨e1, e2⟩, ⟨te1, te2⟩, hh16, hi64, hl8, hcn⟩ := mayP_num hm
  have hcnt : (n1 : Int) + (n2 : Int) + (n3 : Int) = ((count p : Nat) : Int) := by unfold count; omega
  rw [hl1] at hh16
  rw [hl2] at hi64
  rw [hl3] at hl8
  have wk : IntKind.u8.wrap p.k = p.k := by rw [IntKind.wrap_u8]; omega
  have wf : IntKind.u8.wrap p.f = p.f := by rw [IntKind.wrap_u8]; omega
  have wt : IntKind.u8.wrap p.t = p.t := by rw [IntKind.wrap_u8]; omega
  have wb : IntKind.u64.wrap p.b = p.b := by rw [IntKind.wrap_u64]; omega
  have wtb : IntKind.u64.wrap p.tb = p.tb := by rw [IntKind.wrap_u64]; omega
  have PALL := Lib.hid (epOk_all (mayP_iff.1 hm).2.1)
  have IALL := Lib.hid (itOk_all (mayP_iff.1 hm).2.2.2.1)
  have LALL := Lib.hid (dbOk_all (mayP_iff.1 hm).2.2.1)
  have RNB := Lib.hid (fun (W : World) => ref_numI p.b 4 W (by omega) (by omega) (by omega))
  have RNT := Lib.hid (fun (W : World) => ref_numI p.tb 4 W (by omega) (by omega) (by omega))
  have RNE := Lib.hid (fun (W : World) => ref_numI p.e 4 W (by omega) (by omega) (by omega))
  have RNF := Lib.hid (fun (W : World) => ref_numI p.te 4 W (by omega) (by omega) (by omega))
  have HM := Lib.hid hm; clear hm
  have H1 := Lib.hid h1; have H2 := Lib.hid h2; have H3 := Lib.hid h3
  have HL1 := Lib.hid hl1; have HL2 := Lib.hid hl2; have HL3 := Lib.hid hl3
  clear h1 h2 h3 hl1 hl2 hl3
  have HCN := Lib.hid hcnt; clear hcnt
  obtain ⟨w0, hw0⟩ : ∃ w0, w0 = w.alloc (.cells (pkC p (.slice A1 n1 z1) (.slice A2 n2 z2) (.slice A3 n3 z3)) 26) := ⟨_, rfl⟩
  have hb1 : Below w.heap.size w w0 := by rw [hw0]; exact up1 (Below.refl _ _) _
  have k0 : Blk w0 w.heap.size 26 (pkC p (.slice A1 n1 z1) (.slice A2 n2 z2) (.slice A3 n3 z3)) := by rw [hw0]; exact Blk.new _ _ _
  have hs0 : w0.heap.size = w.heap.size + 1 := by rw [hw0]; simp
  have HB1 := Lib.hid hb1; clear hb1
  have K0 := Lib.hid k0; clear k0
  have HS0 := Lib.hid hs0; clear hs0
  have HW0 := Lib.hid hw0; clear hw0
  have hs1 : w.heap.size + 1 ≤ w0.heap.size := by rw [HS0.out]; exact Nat.le_refl _
  go_enter Try.func15, Try.ntmps15
  go_upto_region 1 with fail
  rewrite [← HW0.out]
  have x0 := K0.out.cell 0; have x1 := K0.out.cell 1; have x2 := K0.out.cell 2; simp only [List.getElem?_toArray, List.getElem?_cons_zero, List.getElem?_cons_succ] at x0 x1 x2
  go_cut [3] from 7 to 18 (fun v3 wx => PB w (pkC p (.slice A1 n1 z1) (.slice A2 n2 z2) (.slice A3 n3 z3)) 6 (be 1 p.k.toNat ++ (be 1 p.f.toNat ++ be 4 p.b.toNat)) v3 wx)
  case first =>
    go_region_held3 (fun W => W.cell? ⟨w.heap.size, 0, none⟩ = some (.int .i64 p.k) ∧ W.cell? ⟨w.heap.size, 1, none⟩ = some (.int .i64 p.f) ∧ W.cell? ⟨w.heap.size, 2, none⟩ = some (.int .i64 p.b))
      (first
        | with_reducible exact ⟨x0, x1, x2⟩
        | with_reducible exact ⟨y0, y1, y2⟩
        | with_reducible exact ⟨z0, z1, z2⟩
        | go_keep)
      (first
        | (go_at_call 37; refine (RNB.out _).mono ?_; rintro e w2 ⟨v2, rfl, ho2, hb2⟩; have hb2 : Below (w0.alloc (.cells #[.int .u8 p.k, .int .u8 p.f] 5)).heap.size (w0.alloc (.cells #[.int .u8 p.k, .int .u8 p.f] 5)) w2 := undrew hb2; obtain ⟨A2_, c2_, rfl, hr2⟩ := own_reads ho2; have HR2 := Lib.hid hr2; have HB2 := Lib.hid ((up1 HB1.out (.cells #[.int .u8 p.k, .int .u8 p.f] 5)).trans (hb2.mono (up1 HB1.out (.cells #[.int .u8 p.k, .int .u8 p.f] 5)).size)); have K2 := Lib.hid ((K0.out.alloc (.cells #[.int .u8 p.k, .int .u8 p.f] 5)).below hb2 (by simp; omega)); have HOL := Lib.hid (own_below (own_two w0 (w.heap.size + 1) w0.heap.size rfl hs1 p.k p.f p.k.toNat p.f.toNat (by omega) (by omega)) hb2); have y0 := K2.out.cell 0; have y1 := K2.out.cell 1; have y2 := K2.out.cell 2; simp only [List.getElem?_toArray, List.getElem?_cons_zero, List.getElem?_cons_succ] at y0 y1 y2; have hs2 : w0.heap.size ≤ w2.heap.size := (by have := hb2.size; first | exact this | (simp at this; omega)); clear hb2 ho2 hr2)
        | (go_at_call 37; refine (RNB.out _).mono ?_; rintro e w2 ⟨v2, rfl, ho2, hb2⟩; have hb2 : Below w0.heap.size w0 w2 := undrew hb2; obtain ⟨A2_, c2_, rfl, hr2⟩ := own_reads ho2; have HR2 := Lib.hid hr2; have HB2 := Lib.hid (HB1.out.trans (hb2.mono HB1.out.size)); have K2 := Lib.hid (K0.out.below hb2 (by omega)); have HOL := Lib.hid (own_two w2 (w.heap.size + 1) w2.heap.size rfl (Nat.le_trans hs1 hb2.size) p.k p.f p.k.toNat p.f.toNat (by omega) (by omega)); have y0 := K2.out.cell 0; have y1 := K2.out.cell 1; have y2 := K2.out.cell 2; simp only [List.getElem?_toArray, List.getElem?_cons_zero, List.getElem?_cons_succ] at y0 y1 y2; have hs2 : w0.heap.size ≤ w2.heap.size := (by have := hb2.size; first | exact this | (simp at this; omega)); clear hb2 ho2 hr2)
        | (refine step_append_any _ rfl (.tmp 13) (.tmp 17) 29 rfl (w.heap.size + 1) 5 i0 (.int .u8 0) 1 1 Try.underlying29 HI.out HZ0.out HZ1.out HZ2.out rfl (by decide) (.slice (some ⟨w0.heap.size, 0, none⟩) 2 2) 2 (vals [p.k.toNat, p.f.toNat]) rfl HOL.out w2.heap.size A2_ 4 c2_ (vals (be 4 p.b.toNat)) rfl HR2.out (vals_one _) (by unfold maxLen; omega) (by omega) (by first | omega | (simp; omega)) ?_; intro v3 w3 hown hg _; have HB3 := Lib.hid (HB2.out.grown hg HB2.out.size (fun q hq => by have := (HOL.out.lt q hq).1; omega)); have K3 := Lib.hid (K2.out.grown hg (fun e => by have := (HOL.out.lt _ e.symm).1; omega)); have HO3 := Lib.hid (own_fix (n' := 6) (xs := [p.k.toNat, p.f.toNat] ++ be 4 p.b.toNat) hown (vals_append _ _).symm rfl rfl); obtain ⟨A3_, c3_, rfl⟩ := Lsa.own_form HO3.out; have z0 := K3.out.cell 0; have z1 := K3.out.cell 1; have z2 := K3.out.cell 2; simp only [List.getElem?_toArray, List.getElem?_cons_zero, List.getElem?_cons_succ] at z0 z1 z2; clear hown hg)
        | (refine step_append_any _ rfl (.tmp 13) (.tmp 17) 29 rfl (w.heap.size + 1) 5 i0 (.int .u8 0) 1 1 Try.underlying29 HI.out HZ0.out HZ1.out HZ2.out rfl (by decide) (.slice (some ⟨w2.heap.size, 0, none⟩) 2 2) 2 (vals [p.k.toNat, p.f.toNat]) rfl HOL.out w2.heap.size A2_ 4 c2_ (vals (be 4 p.b.toNat)) rfl (HR2.out.alloc (Nat.le_refl _) _) (vals_one _) (by unfold maxLen; omega) (by omega) (by first | omega | (simp; omega)) ?_; intro v3 w3 hown hg _; have HB2b := Lib.hid (up1 HB2.out (.cells #[.int .u8 p.k, .int .u8 p.f] 5)); have K2b := Lib.hid (K2.out.alloc (.cells #[.int .u8 p.k, .int .u8 p.f] 5)); have HB3 := Lib.hid (HB2b.out.grown hg HB2b.out.size (fun q hq => by have := (HOL.out.lt q hq).1; omega)); have K3 := Lib.hid (K2b.out.grown hg (fun e => by have := (HOL.out.lt _ e.symm).1; omega)); have HO3 := Lib.hid (own_fix (n' := 6) (xs := [p.k.toNat, p.f.toNat] ++ be 4 p.b.toNat) hown (vals_append _ _).symm rfl rfl); obtain ⟨A3_, c3_, rfl⟩ := Lsa.own_form HO3.out; have z0 := K3.out.cell 0; have z1 := K3.out.cell 1; have z2 := K3.out.cell 2; simp only [List.getElem?_toArray, List.getElem?_cons_zero, List.getElem?_cons_succ] at z0 z1 z2; clear hown hg))
    all_goals
      go_wp2_with fail
      go_meet
      case rel => exact ⟨_, _, rfl, by rw [show be 1 p.k.toNat ++ (be 1 p.f.toNat ++ be 4 p.b.toNat) = [p.k.toNat, p.f.toNat] ++ be 4 p.b.toNat by rw [be_one (by omega), be_one (by omega)]; rfl]; exact HO3.out, K3.out, HB3.out⟩
  case rest =>
    rename World => wx
    clear x0 x1 x2
    obtain ⟨A5, c5, rfl, hown, hbk, hbw⟩ := hcut
    have HOW := Lib.hid hown; clear hown
    have HBK := Lib.hid hbk; clear hbk
    have HBW := Lib.hid hbw; clear hbw
    have hws := HBK.out.lt
    have hle5 : ∀ q, (Value.slice A5 6 c5).ownBlock = some q → w.heap.size + 1 ≤ q := fun q hq => (HOW.out.lt q hq).1
    have HLE5 := Lib.hid hle5; clear hle5
    obtain ⟨ys, hys⟩ : ∃ ys, ys = be 1 p.k.toNat ++ (be 1 p.f.toNat ++ be 4 p.b.toNat) := ⟨_, rfl⟩
    have hfin : ys ++ [p.t.toNat] ++ be 4 p.tb.toNat = headP p := by
      rw [hys, headP, be_one (n := p.t.toNat) (by omega)]
      simp
    rewrite [← hys] at HOW
    have HFIN := Lib.hid hfin; clear hfin hys
    have q3 := HBK.out.cell 3; have q4 := HBK.out.cell 4; simp only [List.getElem?_toArray, List.getElem?_cons_zero, List.getElem?_cons_succ] at q3 q4
    go_upto_region 2 with fail
    go_cut [3] from 19 to 29 (fun v3 wy => PB w (pkC p (.slice A1 n1 z1) (.slice A2 n2 z2) (.slice A3 n3 z3)) 11 (headP p) v3 wy)
    case first =>
      go_region_held3 (fun W => W.cell? ⟨w.heap.size, 3, none⟩ = some (.int .i64 p.t) ∧ W.cell? ⟨w.heap.size, 4, none⟩ = some (.int .i64 p.tb))
        (first
          | with_reducible exact ⟨q3, q4⟩
          | with_reducible exact ⟨ra3, ra4⟩
          | with_reducible exact ⟨sa3, sa4⟩
          | with_reducible exact ⟨ta3, ta4⟩
          | go_keep)
        (first
          | (refine step_append_any _ rfl (.tmp 19) (.tmp 23) 29 rfl (w.heap.size + 1) 5 i0 (.int .u8 0) 1 1 Try.underlying29 HI.out HZ0.out HZ1.out HZ2.out rfl (by decide) (.slice A5 6 c5) 6 (vals ys) rfl ((HOW.out.alloc (.cells #[.int .u8 p.t] 5)).drew) (wx.heap.size + 1) (some ⟨wx.heap.size, 0, none⟩) 1 1 (vals [p.t.toNat]) rfl ((reads_byte wx wx.heap.size rfl _ p.t.toNat (by omega)).drew) (vals_one _) (by unfold maxLen; omega) (by omega) (by first | omega | (simp; omega)) ?_; intro v6 w6a hown hg _; have hb6 := (Chg.low1 HBW.out (.cells #[.int .u8 p.t] 5)).drew; have HB6a := Lib.hid (hb6.grown hg hb6.size (fun q hq => Nat.le_of_succ_le (HLE5.out q hq))); have K6a := Lib.hid (((HBK.out.alloc (.cells #[.int .u8 p.t] 5)).drew).grown hg (fun e => Nat.lt_irrefl _ (HLE5.out _ e.symm))); have HO6a := Lib.hid (own_fix (n' := 6 + 1) (xs := ys ++ [p.t.toNat]) hown (vals_append _ _).symm rfl rfl); obtain ⟨A6a, c6a, rfl⟩ := Lsa.own_form HO6a.out; have ra3 := K6a.out.cell 3; have ra4 := K6a.out.cell 4; simp only [List.getElem?_toArray, List.getElem?_cons_zero, List.getElem?_cons_succ] at ra3 ra4; have hs6 := K6a.out.lt; clear hown hg hb6)
          | (go_at_call 37; refine (RNT.out _).mono ?_; rintro e w7a ⟨v7, rfl, ho7, hb7⟩; obtain ⟨A7a, c7a, rfl, hr7⟩ := own_reads ho7; have HR7 := Lib.hid hr7; have HB7a := Lib.hid (Chg.low_low HB6a.out hb7); have K7a := Lib.hid (K6a.out.below hb7 hs6); have HO7a := Lib.hid (own_below HO6a.out hb7); have sa3 := K7a.out.cell 3; have sa4 := K7a.out.cell 4; simp only [List.getElem?_toArray, List.getElem?_cons_zero, List.getElem?_cons_succ] at sa3 sa4; have hs7 := K7a.out.lt; clear ho7 hr7 hb7)
          | (refine step_append_any _ rfl (.tmp 24) (.tmp 28) 29 rfl (w.heap.size + 1) 5 i0 (.int .u8 0) 1 1 Try.underlying29 HI.out HZ0.out HZ1.out HZ2.out rfl (by decide) (.slice A6a (6 + 1) c6a) (6 + 1) (vals (ys ++ [p.t.toNat])) rfl HO7a.out w7a.heap.size A7a 4 c7a (vals (be 4 p.tb.toNat)) rfl HR7.out (vals_one _) (by unfold maxLen; omega) (by omega) (by first | omega | (simp; omega)) ?_; intro v8 w8a hown hg _; have HB8a := Lib.hid (HB7a.out.grown hg HB7a.out.size (fun q hq => Nat.le_of_succ_le (HO7a.out.lt q hq).1)); have K8a := Lib.hid (K7a.out.grown hg (fun e => Nat.lt_irrefl _ (HO7a.out.lt _ e.symm).1)); have HO8a := Lib.hid (own_fix (n' := 11) hown (vals_append _ _).symm rfl HFIN.out); have ta3 := K8a.out.cell 3; have ta4 := K8a.out.cell 4; simp only [List.getElem?_toArray, List.getElem?_cons_zero, List.getElem?_cons_succ] at ta3 ta4; clear hown hg))
      all_goals
        obtain ⟨A8, c8, rfl⟩ := Lsa.own_form HO8a.out
        go_wp2_with fail
        go_meet
        case rel => exact ⟨_, _, rfl, HO8a.out, K8a.out, HB8a.out⟩

    case rest =>
      clear HOW HBK HBW HLE5 hws HFIN q3 q4
      rename World => wy
      obtain ⟨A5, c5, rfl, hown, hbk, hbw⟩ := hcut
      have HOW := Lib.hid hown; clear hown
      have HBK := Lib.hid hbk; clear hbk
      have HBW := Lib.hid hbw; clear hbw
      have hws := HBK.out.lt
      have hle5 : ∀ q, (Value.slice A5 11 c5).ownBlock = some q → w.heap.size + 1 ≤ q := fun q hq => (HOW.out.lt q hq).1
      have HLE5 := Lib.hid hle5; clear hle5
      have q0 := HBK.out.cell 0; have q5 := HBK.out.cell 5; simp only [List.getElem?_toArray, List.getElem?_cons_zero, List.getElem?_cons_succ] at q0 q5
      go_upto_region 3 with fail
      go_cut [37] from 30 to 37 (fun v wz => v = .bool (hasE p) ∧ wz = wy)
      case first =>
        have hk : p.k = 2 ∨ p.k = 3 ∨ (p.k ≠ 2 ∧ p.k ≠ 3) := by omega
        rcases hk with hk | hk | hk
        · have b2 : (p.k == 2) = true := by rw [hk]; rfl
          have b3 : (p.k == 3) = false := by rw [hk]; rfl
          have HE := Lib.hid (show true = hasE p by rw [hasE, b2]; rfl)
          have HK := Lib.hid hk; clear hk
          go_wp2_with fail
          go_meet
          case rel => exact ⟨by rw [← HE.out], rfl⟩
        · have b2 : (p.k == 2) = false := by rw [hk]; rfl
          have b3 : (p.k == 3) = true := by rw [hk]; rfl
          have HE := Lib.hid (show true = hasE p by rw [hasE, b2, b3]; rfl)
          have HK := Lib.hid hk; clear hk
          go_wp2_with fail
          go_meet
          case rel => exact ⟨by rw [← HE.out], rfl⟩
        · have b2 : (p.k == 2) = false := beq_false_of_ne hk.1
          have b3 : (p.k == 3) = false := beq_false_of_ne hk.2
          have HE := Lib.hid (show false = hasE p by rw [hasE, b2, b3]; rfl)
          have HK := Lib.hid hk; clear hk
          go_wp2_with fail
          go_meet
          case rel => exact ⟨by rw [← HE.out], rfl⟩
      case rest =>
        obtain ⟨rfl, rfl⟩ := hcut
        obtain ⟨be_, hbe⟩ : ∃ b, b = hasE p := ⟨_, rfl⟩
        obtain ⟨l1, hl1⟩ : ∃ l1, l1 = 11 + (if hasE p then 4 else 0) := ⟨_, rfl⟩
        obtain ⟨x1, hx1⟩ : ∃ x1, x1 = headP p ++ (if hasE p then be 4 p.e.toNat else []) := ⟨_, rfl⟩
        have hl1b : l1 ≤ 15 := by rw [hl1]; split <;> omega
        rewrite [← hbe]
        rewrite [← hbe] at hl1 hx1
        have HBE := Lib.hid hbe; clear hbe
        go_upto_if 37 with fail
        go_cut [3] from 38 to 43 (fun v3 wz => PB w (pkC p (.slice A1 n1 z1) (.slice A2 n2 z2) (.slice A3 n3 z3)) l1 x1 v3 wz)
        case first =>
          cases be_
          · have HX := Lib.hid hx1; have HL := Lib.hid hl1; clear hx1 hl1
            go_wp2_with fail
            go_meet
            case rel => exact ⟨_, _, by rw [HL.out]; rfl, by rw [HX.out, HL.out]; simpa using HOW.out, HBK.out, HBW.out⟩
          · have HX := Lib.hid (show headP p ++ be 4 p.e.toNat = x1 by rw [hx1]; rfl); have HL := Lib.hid (show 15 = l1 by rw [hl1]; rfl); clear hx1 hl1
            go_wp2_with (first
              | (go_at_call 37; refine (RNE.out _).mono ?_; rintro e w6 ⟨v6, rfl, ho, hb⟩; obtain ⟨A6, c6, rfl, hr⟩ := own_reads ho; have HR6 := Lib.hid hr; have HB6 := Lib.hid (Chg.low_low HBW.out hb); have K6 := Lib.hid (HBK.out.below hb HBK.out.lt); have HO6 := Lib.hid (own_below HOW.out hb); have hs6 := K6.out.lt; clear ho hr hb)
              | (at_builtin; (refine wpList_append_any _ rfl (.tmp 38) (.tmp 42) 29 rfl (w.heap.size + 1) 5 i0 (.int .u8 0) 1 1 Try.underlying29 HI.out HZ0.out HZ1.out HZ2.out rfl (by decide) (.slice A5 11 c5) 11 (vals (headP p)) rfl HO6.out w6.heap.size A6 4 c6 (vals (be 4 p.e.toNat)) rfl HR6.out (vals_one _) (by unfold maxLen; omega) (by omega) (by first | omega | (simp; omega)) ?_; intro v7 w7 hown hg _; have hle : ∀ q, (Value.slice A5 11 c5).ownBlock = some q → w.heap.size + 1 ≤ q := fun q hq => (HO6.out.lt q hq).1; have HB7 := Lib.hid (HB6.out.grown hg HB6.out.size (fun q hq => Nat.le_of_succ_le (hle q hq))); have K7 := Lib.hid (K6.out.grown hg (fun e => Nat.lt_irrefl _ (hle _ e.symm))); have HO7 := Lib.hid (own_fix (n' := l1) (xs := x1) hown (vals_append _ _).symm HL.out HX.out); obtain ⟨A7, c7, rfl⟩ := Lsa.own_form HO7.out; have hs7 := K7.out.lt; clear hown hg hle)))
            go_meet
            case rel => exact ⟨_, _, rfl, HO7.out, K7.out, HB7.out⟩
        case rest =>
          clear HOW HBK HBW HLE5 hws q0 q5
          rename World => wz
          obtain ⟨A5, c5, rfl, hown, hbk, hbw⟩ := hcut
          have HOW := Lib.hid hown; clear hown
          have HBK := Lib.hid hbk; clear hbk
          have HBW := Lib.hid hbw; clear hbw
          have hws := HBK.out.lt
          have hle5 : ∀ q, (Value.slice A5 l1 c5).ownBlock = some q → w.heap.size + 1 ≤ q := fun q hq => (HOW.out.lt q hq).1
          have HLE5 := Lib.hid hle5; clear hle5
          have q0 := HBK.out.cell 0; have q6 := HBK.out.cell 6; have q7 := HBK.out.cell 7; have q8 := HBK.out.cell 8; have q9 := HBK.out.cell 9; simp only [List.getElem?_toArray, List.getElem?_cons_zero, List.getElem?_cons_succ] at q0 q6 q7 q8 q9
          obtain ⟨ln, hln⟩ : ∃ ln, ln = 11 + (midP p).length := ⟨_, rfl⟩
          have hlb : ln ≤ 19 := by
            rw [hln, midP_length]
            split
            · omega
            · split <;> omega
          go_upto_if 46 with fail
          generalize hq3 : (p.k == 3) = t3
          have HQ3 := Lib.hid hq3; clear hq3
          go_cut [3] from 47 to 67 (fun v3 wq => PB w (pkC p (.slice A1 n1 z1) (.slice A2 n2 z2) (.slice A3 n3 z3)) ln (headP p ++ midP p) v3 wq)
          case first =>
            cases t3
            rotate_left
            · have b3 : (p.k == 3) = true := HQ3.out
              have hk : p.k = 3 := by simpa using b3
              have b2 : (p.k == 2) = false := by rw [hk]; rfl
              have hm1 : x1 ++ be 4 p.te.toNat = headP p ++ midP p := by
                rw [hx1, HBE.out, midP, hasE, b2, b3]
                simp
              have hl2 : l1 + 4 = ln := by
                rw [hln, midP_length, hl1, HBE.out, hasE, b2, b3]
                rfl
              have HMID := Lib.hid hm1; clear hm1
              have HLN := Lib.hid hl2.symm; clear hl2 hln hl1 hx1
              clear b3 b2 hk
              go_wp2_with (first
                | (go_at_call 37; refine (RNF.out _).mono ?_; rintro e w8 ⟨v8, rfl, ho, hb⟩; obtain ⟨A8, c8, rfl, hr⟩ := own_reads ho; have HR8 := Lib.hid hr; have HB8 := Lib.hid (Chg.low_low HBW.out hb); have K8 := Lib.hid (HBK.out.below hb HBK.out.lt); have HO8 := Lib.hid (own_below HOW.out hb); have hs8 := K8.out.lt; clear ho hr hb)
                | (at_builtin; (refine wpList_append_any _ rfl (.tmp 47) (.tmp 51) 29 rfl (w.heap.size + 1) 5 i0 (.int .u8 0) 1 1 Try.underlying29 HI.out HZ0.out HZ1.out HZ2.out rfl (by decide) (.slice A5 l1 c5) l1 (vals x1) rfl HO8.out w8.heap.size A8 4 c8 (vals (be 4 p.te.toNat)) rfl HR8.out (vals_one _) (by unfold maxLen; omega) (by omega) (by first | omega | (simp; omega)) ?_; intro v9 w9 hown hg _; have hle : ∀ q, (Value.slice A5 l1 c5).ownBlock = some q → w.heap.size + 1 ≤ q := fun q hq => (HO8.out.lt q hq).1; have HB9 := Lib.hid (HB8.out.grown hg HB8.out.size (fun q hq => Nat.le_of_succ_le (hle q hq))); have K9 := Lib.hid (K8.out.grown hg (fun e => Nat.lt_irrefl _ (hle _ e.symm))); have HO9 := Lib.hid (own_fix (n' := ln) (xs := (headP p ++ midP p)) hown (vals_append _ _).symm HLN.out.symm HMID.out); obtain ⟨A9, c9, rfl⟩ := Lsa.own_form HO9.out; have hs9 := K9.out.lt; clear hown hg hle)))
              go_meet
              case rel => exact ⟨_, _, rfl, HO9.out, K9.out, HB9.out⟩
            · have b3 : (p.k == 3) = false := HQ3.out
              have hm1 : x1 ++ [count p] = headP p ++ midP p := by
                rw [hx1, HBE.out, midP, b3, be_one (n := count p) (by omega)]
                simp
              have hl2 : l1 + 1 = ln := by
                rw [hln, midP_length, hl1, HBE.out, hasE, b3]
                cases p.k == 2 <;> rfl
              have HMID := Lib.hid hm1; clear hm1
              have HLN := Lib.hid hl2.symm; clear hl2 hln hl1 hx1
              clear b3
              go_wp2_with (first
                | (at_builtin; (refine wpList_append_any _ rfl (.tmp 53) (.tmp 66) 29 rfl (w.heap.size + 1) 5 i0 (.int .u8 0) 1 1 Try.underlying29 HI.out HZ0.out HZ1.out HZ2.out rfl (by decide) (.slice A5 l1 c5) l1 (vals x1) rfl (HOW.out.alloc (.cells #[.int .u8 ((n1 : Int) + (n2 : Int) + (n3 : Int))] 5)) (wz.heap.size + 1) (some ⟨wz.heap.size, 0, none⟩) 1 1 (vals [count p]) rfl (reads_byte wz wz.heap.size rfl _ (count p) HCN.out) (vals_one _) (by unfold maxLen; omega) (by omega) (by first | omega | (simp; omega)) ?_; intro v8 w8 hown hg _; have hle : ∀ q, (Value.slice A5 l1 c5).ownBlock = some q → w.heap.size + 1 ≤ q := fun q hq => ((HOW.out.alloc (.cells #[.int .u8 ((n1 : Int) + (n2 : Int) + (n3 : Int))] 5)).lt q hq).1; have HB8 := Lib.hid ((Chg.low1 HBW.out (.cells #[.int .u8 ((n1 : Int) + (n2 : Int) + (n3 : Int))] 5)).grown hg (Chg.low1 HBW.out (.cells #[.int .u8 ((n1 : Int) + (n2 : Int) + (n3 : Int))] 5)).size (fun q hq => Nat.le_of_succ_le (hle q hq))); have K8 := Lib.hid ((HBK.out.alloc (.cells #[.int .u8 ((n1 : Int) + (n2 : Int) + (n3 : Int))] 5)).grown hg (fun e => Nat.lt_irrefl _ (hle _ e.symm))); have HO8 := Lib.hid (own_fix (n' := ln) (xs := (headP p ++ midP p)) hown (vals_append _ _).symm HLN.out.symm HMID.out); obtain ⟨A8, c8, rfl⟩ := Lsa.own_form HO8.out; have hs8 := K8.out.lt; clear hown hg hle)))
              go_meet
              case rel => exact ⟨_, _, rfl, HO8.out, K8.out, HB8.out⟩

          case rest =>
            clear HOW HBK HBW HLE5 hws q0 q6 q7 q8 q9
            rename World => wq
            obtain ⟨A5, c5, rfl, hown, hbk, hbw⟩ := hcut
            have HOW := Lib.hid hown; clear hown
            have HBK := Lib.hid hbk; clear hbk
            have HBW := Lib.hid hbw; clear hbw
            have hws := HBK.out.lt
            have hle5 : ∀ q, (Value.slice A5 ln c5).ownBlock = some q → w.heap.size + 1 ≤ q := fun q hq => (HOW.out.lt q hq).1
            have HLE5 := Lib.hid hle5; clear hle5
            obtain ⟨G, hG⟩ : ∃ G, G = headP p ++ midP p := ⟨_, rfl⟩
            rewrite [← hG] at HOW
            have HG := Lib.hid hG; clear hG
            have HLN := Lib.hid hln; clear hln
            have HL1b := Lib.hid hl1; have HX1 := Lib.hid hx1; clear hl1 hx1
            have q7 := HBK.out.cell 7; have q8 := HBK.out.cell 8; have q9 := HBK.out.cell 9; simp only [List.getElem?_toArray, List.getElem?_cons_zero, List.getElem?_cons_succ] at q7 q8 q9
            go_wp2_with fail
            go_loopw [3, 4] (fun z i wr => ∃ k1 lm1 : Nat, k1 ≤ n1 ∧ i = .int .i64 k1 ∧ lm1 = ln + 5 * k1 ∧ PB w (pkC p (.slice A1 n1 z1) (.slice A2 n2 z2) (.slice A3 n3 z3)) lm1 (G ++ linkBytes (p.hd.take k1)) z wr) (fun _ i _ => n1 - (intOf i).toNat)
            case atStart => exact ⟨0, _, Nat.zero_le _, rfl, rfl, _, _, rfl, by simpa [linkBytes] using HOW.out, HBK.out, HBW.out⟩
            case round =>
              clear HOW HBK HBW HLE5 hws
              rename World => wr
              obtain ⟨k1, lm1, hk1, rfl, hlm, hpb⟩ := hrel
              obtain ⟨A5, c5, rfl, hown, hbk, hbw⟩ := hpb
              have HOW := Lib.hid hown; clear hown
              have HBK := Lib.hid hbk; clear hbk
              have HBW := Lib.hid hbw; clear hbw
              have hws := HBK.out.lt
              have hle5 : ∀ q, (Value.slice A5 lm1 c5).ownBlock = some q → w.heap.size + 1 ≤ q := fun q hq => (HOW.out.lt q hq).1
              have HLE5 := Lib.hid hle5; clear hle5
              have q7 := HBK.out.cell 7; have q8 := HBK.out.cell 8; have q9 := HBK.out.cell 9; simp only [List.getElem?_toArray, List.getElem?_cons_zero, List.getElem?_cons_succ] at q7 q8 q9
              have hlb1 : lm1 ≤ 1400 := by omega
              by_cases hlt : k1 < n1
              · obtain ⟨b, off, rfl, hb, hc⟩ := lks_at H1.out (by omega)
                obtain ⟨c0', c1'⟩ := hc k1 hlt
                have hsucc := linkBytes_succ p.hd k1 (by have := HL1.out; omega)
                have hbd := PALL.out (p.hd.getD k1 (0, 0)) (by simp [List.getD, List.getElem?_eq_getElem (show k1 < p.hd.length by have := HL1.out; omega)])
                clear hc
                generalize p.hd.getD k1 (0, 0) = x at *
                obtain ⟨t, u⟩ := x
                unfold Fits at hbd
                simp only at c0' c1' hbd hsucc
                obtain ⟨t', rfl⟩ : ∃ t' : Nat, t = (t' : Int) := ⟨t.toNat, by omega⟩
                obtain ⟨u', rfl⟩ : ∃ u' : Nat, u = (u' : Int) := ⟨u.toNat, by omega⟩
                have HC0 := Lib.hid (fun (W : World) (hW : Below w.heap.size w W) => (hW.cell (p := ⟨b, off + k1 * 2, none⟩) hb).trans c0')
                have HC1 := Lib.hid (fun (W : World) (hW : Below w.heap.size w W) => (hW.cell (p := ⟨b, off + k1 * 2 + 1, none⟩) hb).trans c1')
                have d0 := HC0.out _ HBW.out
                have d1 := HC1.out _ HBW.out
                have rn4 := fun (W : World) => ref_num 4 u' W (by omega) (by omega)
                have e4' : ((4 : Nat) : Int) = 4 := rfl
                rewrite [e4'] at rn4
                have RN4 := Lib.hid rn4; clear rn4 e4'
                have w4' : IntKind.u8.wrap (t' : Int) = (t' : Int) := by rw [IntKind.wrap_u8]; omega
                have w5' : IntKind.u64.wrap (u' : Int) = (u' : Int) := by rw [IntKind.wrap_u64]; omega
                have htb : t' < 256 := by omega
                have hfin : G ++ linkBytes (p.hd.take k1) ++ [t'] ++ be 4 u' = G ++ linkBytes (p.hd.take (k1 + 1)) := by
                  rw [hsucc]
                  simp [lkBytes, be_one htb]
                generalize G ++ linkBytes (p.hd.take k1) = ys at *
                have HFIN := Lib.hid hfin; clear hfin hsucc c0' c1'
                have HLM := Lib.hid hlm; clear hlm
                have hk0 : (0 : Int) ≤ (k1 : Int) := by omega
                have hk1 : (k1 : Int) < (n1 : Int) := by omega
                go_wp2
                go_region_held3 (fun W => W.cell? ⟨w.heap.size, 7, none⟩ = some (.slice (some ⟨b, off, none⟩) n1 z1) ∧ W.cell? ⟨b, off + k1 * 2, none⟩ = some (.int .i64 (t' : Nat)) ∧ W.cell? ⟨b, off + k1 * 2 + 1, none⟩ = some (.int .i64 (u' : Nat)))
                  (first
                    | with_reducible exact ⟨q7, d0, d1⟩
                    | with_reducible exact ⟨rp17, drp10, drp11⟩
                    | with_reducible exact ⟨sp17, dsp10, dsp11⟩
                    | with_reducible exact ⟨tp17, dtp10, dtp11⟩
                    | go_keep)
                  (first
                    | (refine step_append_any _ rfl (.tmp 75) (.tmp 83) 29 rfl (w.heap.size + 1) 5 i0 (.int .u8 0) 1 1 Try.underlying29 HI.out HZ0.out HZ1.out HZ2.out rfl (by decide) (.slice A5 lm1 c5) lm1 (vals ys) rfl ((HOW.out.alloc (.cells #[.int .u8 (t' : Nat)] 5)).drew) (wr.heap.size + 1) (some ⟨wr.heap.size, 0, none⟩) 1 1 (vals [t']) rfl ((reads_byte wr wr.heap.size rfl _ t' (by omega)).drew) (vals_one _) (by unfold maxLen; omega) (by omega) (by first | omega | (simp; omega)) ?_; intro v6 w6p1 hown hg _; have hb6 := (Chg.low1 HBW.out (.cells #[.int .u8 (t' : Nat)] 5)).drew; have HB6p1 := Lib.hid (hb6.grown hg hb6.size (fun q hq => Nat.le_of_succ_le (HLE5.out q hq))); have K6p1 := Lib.hid (((HBK.out.alloc (.cells #[.int .u8 (t' : Nat)] 5)).drew).grown hg (fun e => Nat.lt_irrefl _ (HLE5.out _ e.symm))); have HO6p1 := Lib.hid (own_fix (n' := lm1 + 1) (xs := ys ++ [t']) hown (vals_append _ _).symm rfl rfl); obtain ⟨A6p1, c6p1, rfl⟩ := Lsa.own_form HO6p1.out; have rp17 := K6p1.out.cell 7; simp only [List.getElem?_toArray, List.getElem?_cons_zero, List.getElem?_cons_succ] at rp17; have drp10 := HC0.out _ HB6p1.out; have drp11 := HC1.out _ HB6p1.out; have hs6 := K6p1.out.lt; clear hown hg hb6)
                    | (go_at_call 37; refine (RN4.out _).mono ?_; rintro e w7p1 ⟨v7, rfl, ho7, hb7⟩; obtain ⟨A7p1, c7p1, rfl, hr7⟩ := own_reads ho7; have HR7 := Lib.hid hr7; have HB7p1 := Lib.hid (Chg.low_low HB6p1.out hb7); have K7p1 := Lib.hid (K6p1.out.below hb7 hs6); have HO7p1 := Lib.hid (own_below HO6p1.out hb7); have sp17 := K7p1.out.cell 7; simp only [List.getElem?_toArray, List.getElem?_cons_zero, List.getElem?_cons_succ] at sp17; have dsp10 := HC0.out _ HB7p1.out; have dsp11 := HC1.out _ HB7p1.out; have hs7 := K7p1.out.lt; clear ho7 hr7 hb7)
                    | (refine step_append_any _ rfl (.tmp 84) (.tmp 92) 29 rfl (w.heap.size + 1) 5 i0 (.int .u8 0) 1 1 Try.underlying29 HI.out HZ0.out HZ1.out HZ2.out rfl (by decide) (.slice A6p1 (lm1 + 1) c6p1) (lm1 + 1) (vals (ys ++ [t'])) rfl HO7p1.out w7p1.heap.size A7p1 4 c7p1 (vals (be 4 u')) rfl HR7.out (vals_one _) (by unfold maxLen; omega) (by omega) (by first | omega | (simp; omega)) ?_; intro v8 w8p1 hown hg _; have HB8p1 := Lib.hid (HB7p1.out.grown hg HB7p1.out.size (fun q hq => Nat.le_of_succ_le (HO7p1.out.lt q hq).1)); have K8p1 := Lib.hid (K7p1.out.grown hg (fun e => Nat.lt_irrefl _ (HO7p1.out.lt _ e.symm).1)); have HO8p1 := Lib.hid (own_fix (n' := ln + 5 * (k1 + 1)) hown (vals_append _ _).symm (by have := HLM.out; omega) HFIN.out); have tp17 := K8p1.out.cell 7; simp only [List.getElem?_toArray, List.getElem?_cons_zero, List.getElem?_cons_succ] at tp17; have dtp10 := HC0.out _ HB8p1.out; have dtp11 := HC1.out _ HB8p1.out; clear hown hg))
                obtain ⟨A8, c8, rfl⟩ := Lsa.own_form HO8p1.out
                go_wp2
                go_roundw
                case rel => exact ⟨k1 + 1, _, by omega, by go_num, rfl, _, _, rfl, HO8p1.out, K8p1.out, HB8p1.out⟩
                case measure => simp [intOf]; omega
              · have htk : p.hd.take k1 = p.hd := List.take_of_length_le (by have := HL1.out; omega)
                rewrite [htk] at HOW
                clear htk
                have HLM1 := Lib.hid hlm; clear hlm
                obtain ⟨G1, hG⟩ : ∃ Y, Y = G ++ linkBytes p.hd := ⟨_, rfl⟩
                rewrite [← hG] at HOW
                have HG1 := Lib.hid hG; clear hG
                have hlx1 : lm1 ≤ 99 := by have := HLM1.out; omega
                go_wp2_with fail
                go_loopw [3, 5] (fun z i wr => ∃ k2 lm2 : Nat, k2 ≤ n2 ∧ i = .int .i64 k2 ∧ lm2 = lm1 + 9 * k2 ∧ PB w (pkC p (.slice A1 n1 z1) (.slice A2 n2 z2) (.slice A3 n3 z3)) lm2 (G1 ++ itBytes (p.it.take k2)) z wr) (fun _ i _ => n2 - (intOf i).toNat)
                case atStart => exact ⟨0, _, Nat.zero_le _, rfl, rfl, _, _, rfl, by simpa [itBytes] using HOW.out, HBK.out, HBW.out⟩
                case round =>
                  clear HOW HBK HBW HLE5 hws
                  rename World => wr
                  obtain ⟨k2, lm2, hk2, rfl, hlm, hpb⟩ := hrel
                  obtain ⟨A5, c5, rfl, hown, hbk, hbw⟩ := hpb
                  have HOW := Lib.hid hown; clear hown
                  have HBK := Lib.hid hbk; clear hbk
                  have HBW := Lib.hid hbw; clear hbw
                  have hws := HBK.out.lt
                  have hle5 : ∀ q, (Value.slice A5 lm2 c5).ownBlock = some q → w.heap.size + 1 ≤ q := fun q hq => (HOW.out.lt q hq).1
                  have HLE5 := Lib.hid hle5; clear hle5
                  have q7 := HBK.out.cell 7; have q8 := HBK.out.cell 8; have q9 := HBK.out.cell 9; simp only [List.getElem?_toArray, List.getElem?_cons_zero, List.getElem?_cons_succ] at q7 q8 q9
                  have hlb2 : lm2 ≤ 1400 := by omega
                  by_cases hlt : k2 < n2
                  · obtain ⟨b, off, rfl, hb, hc⟩ := lks_at H2.out (by omega)
                    obtain ⟨c0', c1'⟩ := hc k2 hlt
                    have hsucc := itBytes_succ p.it k2 (by have := HL2.out; omega)
                    have hbd := IALL.out (p.it.getD k2 (0, 0)) (by simp [List.getD, List.getElem?_eq_getElem (show k2 < p.it.length by have := HL2.out; omega)])
                    clear hc
                    generalize p.it.getD k2 (0, 0) = x at *
                    obtain ⟨t, u⟩ := x
                    skip
                    simp only at c0' c1' hbd hsucc
                    obtain ⟨t', rfl⟩ : ∃ t' : Nat, t = (t' : Int) := ⟨t.toNat, by omega⟩
                    obtain ⟨u', rfl⟩ : ∃ u' : Nat, u = (u' : Int) := ⟨u.toNat, by omega⟩
                    have HC0 := Lib.hid (fun (W : World) (hW : Below w.heap.size w W) => (hW.cell (p := ⟨b, off + k2 * 2, none⟩) hb).trans c0')
                    have HC1 := Lib.hid (fun (W : World) (hW : Below w.heap.size w W) => (hW.cell (p := ⟨b, off + k2 * 2 + 1, none⟩) hb).trans c1')
                    have d0 := HC0.out _ HBW.out
                    have d1 := HC1.out _ HBW.out
                    have rn4 := fun (W : World) => ref_num 8 u' W (by omega) (by omega)
                    have e4' : ((8 : Nat) : Int) = 8 := rfl
                    rewrite [e4'] at rn4
                    have RN4 := Lib.hid rn4; clear rn4 e4'
                    have w4' : IntKind.u8.wrap (t' : Int) = (t' : Int) := by rw [IntKind.wrap_u8]; omega
                    have w5' : IntKind.u64.wrap (u' : Int) = (u' : Int) := by rw [IntKind.wrap_u64]; omega
                    have htb : t' < 256 := by omega
                    have hfin : G1 ++ itBytes (p.it.take k2) ++ [t'] ++ be 8 u' = G1 ++ itBytes (p.it.take (k2 + 1)) := by
                      rw [hsucc]
                      simp [be_one htb]
                    generalize G1 ++ itBytes (p.it.take k2) = ys at *
                    have HFIN := Lib.hid hfin; clear hfin hsucc c0' c1'
                    have HLM := Lib.hid hlm; clear hlm
                    have hk0 : (0 : Int) ≤ (k2 : Int) := by omega
                    have hk1 : (k2 : Int) < (n2 : Int) := by omega
                    go_wp2
                    go_region_held3 (fun W => W.cell? ⟨w.heap.size, 8, none⟩ = some (.slice (some ⟨b, off, none⟩) n2 z2) ∧ W.cell? ⟨b, off + k2 * 2, none⟩ = some (.int .i64 (t' : Nat)) ∧ W.cell? ⟨b, off + k2 * 2 + 1, none⟩ = some (.int .i64 (u' : Nat)))
                      (first
                        | with_reducible exact ⟨q8, d0, d1⟩
                        | with_reducible exact ⟨rp28, drp20, drp21⟩
                        | with_reducible exact ⟨sp28, dsp20, dsp21⟩
                        | with_reducible exact ⟨tp28, dtp20, dtp21⟩
                        | go_keep)
                      (first
                        | (refine step_append_any _ rfl (.tmp 101) (.tmp 109) 29 rfl (w.heap.size + 1) 5 i0 (.int .u8 0) 1 1 Try.underlying29 HI.out HZ0.out HZ1.out HZ2.out rfl (by decide) (.slice A5 lm2 c5) lm2 (vals ys) rfl ((HOW.out.alloc (.cells #[.int .u8 (t' : Nat)] 5)).drew) (wr.heap.size + 1) (some ⟨wr.heap.size, 0, none⟩) 1 1 (vals [t']) rfl ((reads_byte wr wr.heap.size rfl _ t' (by omega)).drew) (vals_one _) (by unfold maxLen; omega) (by omega) (by first | omega | (simp; omega)) ?_; intro v6 w6p2 hown hg _; have hb6 := (Chg.low1 HBW.out (.cells #[.int .u8 (t' : Nat)] 5)).drew; have HB6p2 := Lib.hid (hb6.grown hg hb6.size (fun q hq => Nat.le_of_succ_le (HLE5.out q hq))); have K6p2 := Lib.hid (((HBK.out.alloc (.cells #[.int .u8 (t' : Nat)] 5)).drew).grown hg (fun e => Nat.lt_irrefl _ (HLE5.out _ e.symm))); have HO6p2 := Lib.hid (own_fix (n' := lm2 + 1) (xs := ys ++ [t']) hown (vals_append _ _).symm rfl rfl); obtain ⟨A6p2, c6p2, rfl⟩ := Lsa.own_form HO6p2.out; have rp28 := K6p2.out.cell 8; simp only [List.getElem?_toArray, List.getElem?_cons_zero, List.getElem?_cons_succ] at rp28; have drp20 := HC0.out _ HB6p2.out; have drp21 := HC1.out _ HB6p2.out; have hs6 := K6p2.out.lt; clear hown hg hb6)
                        | (go_at_call 37; refine (RN4.out _).mono ?_; rintro e w7p2 ⟨v7, rfl, ho7, hb7⟩; obtain ⟨A7p2, c7p2, rfl, hr7⟩ := own_reads ho7; have HR7 := Lib.hid hr7; have HB7p2 := Lib.hid (Chg.low_low HB6p2.out hb7); have K7p2 := Lib.hid (K6p2.out.below hb7 hs6); have HO7p2 := Lib.hid (own_below HO6p2.out hb7); have sp28 := K7p2.out.cell 8; simp only [List.getElem?_toArray, List.getElem?_cons_zero, List.getElem?_cons_succ] at sp28; have dsp20 := HC0.out _ HB7p2.out; have dsp21 := HC1.out _ HB7p2.out; have hs7 := K7p2.out.lt; clear ho7 hr7 hb7)
                        | (refine step_append_any _ rfl (.tmp 110) (.tmp 118) 29 rfl (w.heap.size + 1) 5 i0 (.int .u8 0) 1 1 Try.underlying29 HI.out HZ0.out HZ1.out HZ2.out rfl (by decide) (.slice A6p2 (lm2 + 1) c6p2) (lm2 + 1) (vals (ys ++ [t'])) rfl HO7p2.out w7p2.heap.size A7p2 8 c7p2 (vals (be 8 u')) rfl HR7.out (vals_one _) (by unfold maxLen; omega) (by omega) (by first | omega | (simp; omega)) ?_; intro v8 w8p2 hown hg _; have HB8p2 := Lib.hid (HB7p2.out.grown hg HB7p2.out.size (fun q hq => Nat.le_of_succ_le (HO7p2.out.lt q hq).1)); have K8p2 := Lib.hid (K7p2.out.grown hg (fun e => Nat.lt_irrefl _ (HO7p2.out.lt _ e.symm).1)); have HO8p2 := Lib.hid (own_fix (n' := lm1 + 9 * (k2 + 1)) hown (vals_append _ _).symm (by have := HLM.out; omega) HFIN.out); have tp28 := K8p2.out.cell 8; simp only [List.getElem?_toArray, List.getElem?_cons_zero, List.getElem?_cons_succ] at tp28; have dtp20 := HC0.out _ HB8p2.out; have dtp21 := HC1.out _ HB8p2.out; clear hown hg))
                    obtain ⟨A8, c8, rfl⟩ := Lsa.own_form HO8p2.out
                    go_wp2
                    go_roundw
                    case rel => exact ⟨k2 + 1, _, by omega, by go_num, rfl, _, _, rfl, HO8p2.out, K8p2.out, HB8p2.out⟩
                    case measure => simp [intOf]; omega
                  · have htk : p.it.take k2 = p.it := List.take_of_length_le (by have := HL2.out; omega)
                    rewrite [htk] at HOW
                    clear htk
                    have HLM2 := Lib.hid hlm; clear hlm
                    obtain ⟨G2, hG⟩ : ∃ Y, Y = G1 ++ itBytes p.it := ⟨_, rfl⟩
                    rewrite [← hG] at HOW
                    have HG2 := Lib.hid hG; clear hG
                    have hlx2 : lm2 ≤ 675 := by have := HLM2.out; omega
                    go_wp2_with fail
                    go_loopw [3, 6] (fun z i wr => ∃ k3 lm3 : Nat, k3 ≤ n3 ∧ i = .int .i64 k3 ∧ lm3 = lm2 + (dbBytes (p.ls.take k3)).length ∧ PB w (pkC p (.slice A1 n1 z1) (.slice A2 n2 z2) (.slice A3 n3 z3)) lm3 (G2 ++ dbBytes (p.ls.take k3)) z wr) (fun _ i _ => n3 - (intOf i).toNat)
                    case atStart => exact ⟨0, _, Nat.zero_le _, rfl, rfl, _, _, rfl, by simpa [dbBytes] using HOW.out, HBK.out, HBW.out⟩
                    case round =>
                      clear HOW HBK HBW HLE5 hws
                      rename World => wr
                      obtain ⟨k3, lm3, hk3, rfl, hlm, hpb⟩ := hrel
                      obtain ⟨A5, c5, rfl, hown, hbk, hbw⟩ := hpb
                      have HOW := Lib.hid hown; clear hown
                      have HBK := Lib.hid hbk; clear hbk
                      have HBW := Lib.hid hbw; clear hbw
                      have hws := HBK.out.lt
                      have hle5 : ∀ q, (Value.slice A5 lm3 c5).ownBlock = some q → w.heap.size + 1 ≤ q := fun q hq => (HOW.out.lt q hq).1
                      have HLE5 := Lib.hid hle5; clear hle5
                      have q7 := HBK.out.cell 7; have q8 := HBK.out.cell 8; have q9 := HBK.out.cell 9; simp only [List.getElem?_toArray, List.getElem?_cons_zero, List.getElem?_cons_succ] at q7 q8 q9
                      have hlb3 : lm3 ≤ 1600 := by
                        have := dbBytes_take14 p.ls k3 LALL.out
                        omega
                      have hle6 : ∀ q, (Value.slice A5 lm3 c5).ownBlock = some q → w.heap.size + 1 ≤ q := fun q hq => (HOW.out.lt q hq).1
                      by_cases hlt : k3 < n3
                      · obtain ⟨b, off, rfl, hb, hc⟩ := las_at H3.out (by omega)
                        obtain ⟨u, hr, hlk⟩ := hc k3 hlt
                        have c0 := (HBW.out.cell (p := ⟨b, off + k3 * 3 + 0, none⟩) hb).trans (hr 0 _ rfl)
                        have c1_ := (HBW.out.cell (p := ⟨b, off + k3 * 3 + 1, none⟩) hb).trans (hr 1 _ rfl)
                        have c2_ := (HBW.out.cell (p := ⟨b, off + k3 * 3 + 2, none⟩) hb).trans (hr 2 _ rfl)
                        rewrite [Nat.add_zero] at c0
                        have hkl : k3 < p.ls.length := by rw [HL3.out]; exact hlt
                        have hma : may (p.ls.getD k3 zeroL).o (p.ls.getD k3 zeroL).s (p.ls.getD k3 zeroL).ls = true := LALL.out (p.ls.getD k3 zeroL) (by simp [List.getD, List.getElem?_eq_getElem hkl])
                        have hsu := dbBytes_succ p.ls k3 hkl
                        have hbl := laBytes_len14 (p.ls.getD k3 zeroL) hma
                        clear hc hr
                        generalize p.ls.getD k3 zeroL = x at *
                        obtain ⟨Au, nu, cu, rfl, _, hr_⟩ := id hlk
                        clear hr_
                        have rp := rput_any x.o x.s Au nu cu x.ls wr ((hlk.below HBW.out (Nat.le_refl _)).more HBW.out.size) hma
                        obtain ⟨bn, hbn⟩ : ∃ bn, bn = (laBytes x).length := ⟨_, rfl⟩
                        rewrite [← hbn] at hbl
                        have hln2 : lm3 + bn = lm2 + (dbBytes (p.ls.take (k3 + 1))).length := by rw [hsu, List.length_append]; omega
                        have hbb : bytesOf x.o x.s x.ls = laBytes x := rfl
                        rewrite [hbb] at rp
                        generalize laBytes x = bs at *
                        have HSU := Lib.hid hsu; clear hsu
                        have HLN2 := Lib.hid hln2; clear hln2 hlm
                        generalize dbBytes (p.ls.take k3) = ys at *
                        have RP := Lib.hid rp; clear rp
                        have HBN := Lib.hid hbn; clear hbn hbb hlk hma
                        have hk0 : (0 : Int) ≤ (k3 : Int) := by omega
                        have hk1 : (k3 : Int) < (n3 : Int) := by omega
                        go_wp2_with (first
                          | (go_at_call 38; refine (RP.out).mono ?_; rintro e w6 ⟨v6, rfl, hs6, hb6⟩; obtain ⟨A7, n7, c7, rfl, ht7, _⟩ := id hs6; have hn7 : n7 = bn := (by rw [← ht7.1, HBN.out]); subst hn7; have HR6 := Lib.hid ht7.reads; have HB6 := Lib.hid (Chg.low_low HBW.out hb6); have K6 := Lib.hid (HBK.out.below hb6 HBK.out.lt); have HO6 := Lib.hid (own_below HOW.out hb6); have hs6' := K6.out.lt; clear hs6 hb6 ht7)
                          | (at_builtin; (refine wpList_append_any _ rfl (.tmp 127) (.tmp 133) 29 rfl (w.heap.size + 1) 5 i0 (.int .u8 0) 1 1 Try.underlying29 HI.out HZ0.out HZ1.out HZ2.out rfl (by decide) (.slice A5 lm3 c5) lm3 (vals (G2 ++ ys)) rfl HO6.out w6.heap.size A7 n7 c7 (vals bs) rfl HR6.out (vals_one _) (by unfold maxLen; omega) (by omega) (by first | omega | (simp; omega)) ?_; intro v7 w7 hown hg _; have HB7 := Lib.hid (HB6.out.grown hg HB6.out.size (fun q hq => Nat.le_of_succ_le (hle6 q hq))); have K7 := Lib.hid (K6.out.grown hg (fun e => by have := hle6 _ e.symm; omega)); have HO7 := Lib.hid (own_fix (n' := lm3 + n7) (xs := G2 ++ dbBytes (p.ls.take (k3 + 1))) hown (vals_append _ _).symm rfl (by rw [HSU.out, List.append_assoc])); obtain ⟨A8, c8, rfl⟩ := Lsa.own_form HO7.out; clear hown hg)))
                        go_roundw
                        case rel => exact ⟨k3 + 1, _, by omega, by go_num, HLN2.out, _, _, rfl, HO7.out, K7.out, HB7.out⟩
                        case measure => simp [intOf]; omega
                      · rewrite [List.take_of_length_le (show p.ls.length ≤ k3 by have := HL3.out; omega)] at HOW
                        have hbd : G2 ++ dbBytes p.ls = bodyP p := by
                          rw [HG2.out, HG1.out, HG.out, bodyP]
                          simp only [List.append_assoc]
                          rfl
                        rewrite [hbd] at HOW
                        have hsl := sl_own HOW.out (bodyP_lt p) (by omega)
                        obtain ⟨A6, n6, c6, he, hbt, hnc6, hcm6, h06⟩ := hsl
                        injection he with he1 he2 he3
                        subst he1 he2 he3
                        have SE := Lib.hid (Crc.rseal_any A5 lm3 c5 (bodyP p) wr (by omega) h06 hbt)
                        clear hbd hlm hbt hnc6 hcm6 h06
                        go_wp2_with (go_at_call 39; refine (SE.out).mono ?_; rintro e w9 ⟨v9, rfl, ho9, hb9⟩; have HO9 := Lib.hid ho9; have HB9 := Lib.hid (Chg.low_low HBW.out hb9); clear ho9 hb9)
                        go_ret
                        exact ⟨_, rfl, sl_own HO9.out (putP_lt p) (by omega), HB9.out⟩
end Go.Proofs.Ytpolpppnajfhdaa.Pkt
/- PacketPuts: for every two packets the law returns true and its arguments read as before: which packets there may be, any one's bytes, that it is got, and which are alike. No condition. -/
namespace Go.Proofs.Ytpolpppnajfhdaa.packetPuts
open Go.RowKit Go.Proofs.Ytpolpppnajfhdaa.Mem Go.Proofs.Ytpolpppnajfhdaa.Lsa Go.Proofs.Ytpolpppnajfhdaa.Bas Go.Proofs.Ytpolpppnajfhdaa.Pkt
open Go.Proofs.Ytpolpppnajfhdaa.Chg (low1 low_low low2 blk_second LkR)
set_option linter.unusedVariables false
set_option linter.unusedSimpArgs false
theorem sl_bts14 {w : World} {B n c : Nat} {A : Option Addr} {xs : List Nat} (h : Sl w B (.slice A n c) xs) : Bts w B A n xs := by
  obtain ⟨A', n', c', e, hb, _⟩ := h
  injection e with e1 e2 e3
  subst e1 e2 e3
  exact hb
theorem sl_up14 {w w' : World} {v : Value} {xs : List Nat} (h : Sl w w.heap.size v xs) (hb : Below w.heap.size w w') : Sl w' w'.heap.size v xs := (h.below hb (Nat.le_refl _)).more hb.size
theorem body_small {p : Pk} (hm : mayP p = true) : (bodyP p).length ≤ 1996 := by
  obtain ⟨_, hh, hl, hi, _, hk⟩ := mayP_iff.1 hm
  have e1 := itOk_len (c := 0) (by omega) (by omega) hi
  have e2 := lsBytes_len p.ls (ls_all14 hl)
  have e3 : p.hd.length ≤ 16 ∧ p.ls.length ≤ 8 := by
    unfold Pkt.kindOk at hk
    by_cases a : p.k = 1
    · simp [a] at hk; rw [hk.2.2]; exact ⟨hk.1, by simp⟩
    by_cases b : p.k = 2
    · simp [b] at hk; rw [hk.1, hk.2]; simp
    by_cases c : p.k = 3
    · simp [c] at hk; rw [hk.1, hk.2.2]; simp
    by_cases d : p.k = 4
    · simp [d] at hk; rw [hk.1]; exact ⟨by simp, by omega⟩
    by_cases e : p.k = 5
    · simp [e] at hk; rw [hk.1, hk.2]; simp
    · simp [a, b, c, d, e] at hk
  have e4 := midP_length p
  have e5 : (midP p).length ≤ 8 := by rw [e4]; split <;> (try split) <;> omega
  have e6 := headP_length p
  simp only [bodyP, List.length_append, Oct.be_length, linkBytes_length, itBytes_length, e6]
  omega
set_option maxRecDepth 100000 in
set_option maxHeartbeats 8000000 in
theorem walk_dark (p q : Pk) (A1 A2 A3 D1 D2 D3 : Option Addr) (n1 z1 n2 z2 n3 z3 m1 y1 m2 y2 m3 y3 : Nat) (w : World) (h : PkM w w.heap.size (.slice A1 n1 z1) (.slice A2 n2 z2) (.slice A3 n3 z3) p) (h' : PkM w w.heap.size (.slice D1 m1 y1) (.slice D2 m2 y2) (.slice D3 m3 y3) q) (hd : lightP p = false) :
    Calls Try.prog 3 #[pkV p (.slice A1 n1 z1) (.slice A2 n2 z2) (.slice A3 n3 z3), pkV q (.slice D1 m1 y1) (.slice D2 m2 y2) (.slice D3 m3 y3)] w fun e w' => e = .returned (.bool true) ∧ Below w.heap.size w w' := by
  have HB := Lib.hid (low2 w (.cells (pkC p (.slice A1 n1 z1) (.slice A2 n2 z2) (.slice A3 n3 z3)) 26) (.cells (pkC q (.slice D1 m1 y1) (.slice D2 m2 y2) (.slice D3 m3 y3)) 26))
  have K0 := Lib.hid ((Blk.new w 26 (pkC p (.slice A1 n1 z1) (.slice A2 n2 z2) (.slice A3 n3 z3))).alloc (.cells (pkC q (.slice D1 m1 y1) (.slice D2 m2 y2) (.slice D3 m3 y3)) 26))
  have J0 := Lib.hid (blk_second w (.cells (pkC p (.slice A1 n1 z1) (.slice A2 n2 z2) (.slice A3 n3 z3)) 26) 26 (pkC q (.slice D1 m1 y1) (.slice D2 m2 y2) (.slice D3 m3 y3)))
  have HS := Lib.hid (fun (W : World) (hW : Below w.heap.size w W) => h.up hW)
  have HT := Lib.hid (fun (W : World) (hW : Below w.heap.size w W) => h'.up hW)
  clear h h'
  have lt := fun (W : World) (hW : Below w.heap.size w W) => light14_any p A1 A2 A3 n1 z1 n2 z2 n3 z3 W (HS.out W hW)
  have lt2 := fun (W : World) (hW : Below w.heap.size w W) => light14_any q D1 D2 D3 m1 y1 m2 y2 m3 y3 W (HT.out W hW)
  simp only [hd] at lt
  have LT := Lib.hid lt; clear lt lt2 hd
  go_enter Try.func3, Try.ntmps3
  go_wp2_with (first
    | (have HM1 := LT; go_at_call 6; refine (LT.out _ HB.out).mono ?_; rintro e w1 ⟨rfl, hb1⟩; have HB1 := Lib.hid (low_low HB.out hb1); have K1 := Lib.hid (K0.out.below hb1 K0.out.lt); have J1 := Lib.hid (J0.out.below hb1 J0.out.lt); obtain ⟨z_0, z_1, z_2, z_3, z_4, z_5, z_6, z_7, z_8, z_9, z_10⟩ := blk_cells10 K1.out; obtain ⟨u_0, u_1, u_2, u_3, u_4, u_5, u_6, u_7, u_8, u_9, u_10⟩ := blk_cells10 J1.out; clear hb1 HM1 LT)
    | (go_at_call 7; refine (awake14_any _).mono ?_; rintro e w9 ⟨rfl, hb9⟩; have HB9 := Lib.hid (low_low HB1.out hb9); clear hb9))
  go_ret
  exact ⟨rfl, HB9.out⟩
set_option maxRecDepth 100000 in
set_option maxHeartbeats 8000000 in
theorem walk_dark2 (p q : Pk) (A1 A2 A3 D1 D2 D3 : Option Addr) (n1 z1 n2 z2 n3 z3 m1 y1 m2 y2 m3 y3 : Nat) (w : World) (h : PkM w w.heap.size (.slice A1 n1 z1) (.slice A2 n2 z2) (.slice A3 n3 z3) p) (h' : PkM w w.heap.size (.slice D1 m1 y1) (.slice D2 m2 y2) (.slice D3 m3 y3) q) (hs : lightP p = true) (hd : lightP q = false) :
    Calls Try.prog 3 #[pkV p (.slice A1 n1 z1) (.slice A2 n2 z2) (.slice A3 n3 z3), pkV q (.slice D1 m1 y1) (.slice D2 m2 y2) (.slice D3 m3 y3)] w fun e w' => e = .returned (.bool true) ∧ Below w.heap.size w w' := by
  have HB := Lib.hid (low2 w (.cells (pkC p (.slice A1 n1 z1) (.slice A2 n2 z2) (.slice A3 n3 z3)) 26) (.cells (pkC q (.slice D1 m1 y1) (.slice D2 m2 y2) (.slice D3 m3 y3)) 26))
  have K0 := Lib.hid ((Blk.new w 26 (pkC p (.slice A1 n1 z1) (.slice A2 n2 z2) (.slice A3 n3 z3))).alloc (.cells (pkC q (.slice D1 m1 y1) (.slice D2 m2 y2) (.slice D3 m3 y3)) 26))
  have J0 := Lib.hid (blk_second w (.cells (pkC p (.slice A1 n1 z1) (.slice A2 n2 z2) (.slice A3 n3 z3)) 26) 26 (pkC q (.slice D1 m1 y1) (.slice D2 m2 y2) (.slice D3 m3 y3)))
  have HS := Lib.hid (fun (W : World) (hW : Below w.heap.size w W) => h.up hW)
  have HT := Lib.hid (fun (W : World) (hW : Below w.heap.size w W) => h'.up hW)
  clear h h'
  have lt := fun (W : World) (hW : Below w.heap.size w W) => light14_any p A1 A2 A3 n1 z1 n2 z2 n3 z3 W (HS.out W hW)
  have lt2 := fun (W : World) (hW : Below w.heap.size w W) => light14_any q D1 D2 D3 m1 y1 m2 y2 m3 y3 W (HT.out W hW)
  simp only [hs] at lt
  simp only [hd] at lt2
  have LT := Lib.hid lt; clear lt hd
  have LT2 := Lib.hid lt2; clear lt2
  go_enter Try.func3, Try.ntmps3
  go_wp2_with (first
    | (have HM1 := LT; go_at_call 6; refine (LT.out _ HB.out).mono ?_; rintro e w1 ⟨rfl, hb1⟩; have HB1 := Lib.hid (low_low HB.out hb1); have K1 := Lib.hid (K0.out.below hb1 K0.out.lt); have J1 := Lib.hid (J0.out.below hb1 J0.out.lt); obtain ⟨z_0, z_1, z_2, z_3, z_4, z_5, z_6, z_7, z_8, z_9, z_10⟩ := blk_cells10 K1.out; obtain ⟨u_0, u_1, u_2, u_3, u_4, u_5, u_6, u_7, u_8, u_9, u_10⟩ := blk_cells10 J1.out; clear hb1 HM1 LT)
    | (go_at_call 6; refine (LT2.out _ HB1.out).mono ?_; rintro e w2 ⟨rfl, hb2⟩; have HB2 := Lib.hid (low_low HB1.out hb2); have K2 := Lib.hid (K1.out.below hb2 K1.out.lt); have J2 := Lib.hid (J1.out.below hb2 J1.out.lt); obtain ⟨k_0, k_1, k_2, k_3, k_4, k_5, k_6, k_7, k_8, k_9, k_10⟩ := blk_cells10 K2.out; obtain ⟨j_0, j_1, j_2, j_3, j_4, j_5, j_6, j_7, j_8, j_9, j_10⟩ := blk_cells10 J2.out; clear hb2)
    | (go_at_call 7; refine (awake14_any _).mono ?_; rintro e w9 ⟨rfl, hb9⟩; have HB9 := Lib.hid (low_low HB2.out hb9); clear hb9))
  go_ret
  exact ⟨rfl, HB9.out⟩
set_option maxRecDepth 100000 in
set_option maxHeartbeats 16000000 in
theorem walk_no (p q : Pk) (A1 A2 A3 D1 D2 D3 : Option Addr) (n1 z1 n2 z2 n3 z3 m1 y1 m2 y2 m3 y3 : Nat) (w : World) (h : PkM w w.heap.size (.slice A1 n1 z1) (.slice A2 n2 z2) (.slice A3 n3 z3) p) (h' : PkM w w.heap.size (.slice D1 m1 y1) (.slice D2 m2 y2) (.slice D3 m3 y3) q) (hs : lightP p = true) (ht : lightP q = true) (hm : mayP p = false) :
    Calls Try.prog 3 #[pkV p (.slice A1 n1 z1) (.slice A2 n2 z2) (.slice A3 n3 z3), pkV q (.slice D1 m1 y1) (.slice D2 m2 y2) (.slice D3 m3 y3)] w fun e w' => e = .returned (.bool true) ∧ Below w.heap.size w w' := by
  have HB := Lib.hid (low2 w (.cells (pkC p (.slice A1 n1 z1) (.slice A2 n2 z2) (.slice A3 n3 z3)) 26) (.cells (pkC q (.slice D1 m1 y1) (.slice D2 m2 y2) (.slice D3 m3 y3)) 26))
  have K0 := Lib.hid ((Blk.new w 26 (pkC p (.slice A1 n1 z1) (.slice A2 n2 z2) (.slice A3 n3 z3))).alloc (.cells (pkC q (.slice D1 m1 y1) (.slice D2 m2 y2) (.slice D3 m3 y3)) 26))
  have J0 := Lib.hid (blk_second w (.cells (pkC p (.slice A1 n1 z1) (.slice A2 n2 z2) (.slice A3 n3 z3)) 26) 26 (pkC q (.slice D1 m1 y1) (.slice D2 m2 y2) (.slice D3 m3 y3)))
  have HS := Lib.hid (fun (W : World) (hW : Below w.heap.size w W) => h.up hW)
  have HT := Lib.hid (fun (W : World) (hW : Below w.heap.size w W) => h'.up hW)
  clear h h'
  have lt := fun (W : World) (hW : Below w.heap.size w W) => light14_any p A1 A2 A3 n1 z1 n2 z2 n3 z3 W (HS.out W hW)
  have lt2 := fun (W : World) (hW : Below w.heap.size w W) => light14_any q D1 D2 D3 m1 y1 m2 y2 m3 y3 W (HT.out W hW)
  simp only [hs] at lt
  simp only [ht] at lt2
  have pt := fun (W : World) (hW : Below w.heap.size w W) => pput_no p A1 A2 A3 n1 z1 n2 z2 n3 z3 W (HS.out W hW) hm
  have ck := fun (W : World) (hW : Below w.heap.size w W) => pcheck_any p A1 A2 A3 n1 z1 n2 z2 n3 z3 W (HS.out W hW)
  have my := fun (W : World) (hW : Below w.heap.size w W) => rmay_pk p A1 A2 A3 n1 z1 n2 z2 n3 z3 W (HS.out W hW)
  have sm := fun (W : World) (hW : Below w.heap.size w W) => psame_any p q A1 A2 A3 D1 D2 D3 n1 z1 n2 z2 n3 z3 m1 y1 m2 y2 m3 y3 W (HS.out W hW) (HT.out W hW)
  have rs := fun (W : World) (hW : Below w.heap.size w W) => rsame_pk p q A1 A2 A3 D1 D2 D3 n1 z1 n2 z2 n3 z3 m1 y1 m2 y2 m3 y3 W (HS.out W hW) (HT.out W hW)
  simp only [hm, errI_f, errI_t] at ck my
  generalize sameP p q = z at *
  have LT := Lib.hid lt; clear lt
  have LT2 := Lib.hid lt2; clear lt2
  have CK := Lib.hid ck; clear ck
  have MY := Lib.hid my; clear my
  clear hs ht
  have PT := Lib.hid pt; clear pt hm
  go_enter Try.func3, Try.ntmps3
  go_upto_region 4 with (first
    | (have HM1 := LT; go_at_call 6; refine (LT.out _ HB.out).mono ?_; rintro e w1 ⟨rfl, hb1⟩; have HB1 := Lib.hid (low_low HB.out hb1); have K1 := Lib.hid (K0.out.below hb1 K0.out.lt); have J1 := Lib.hid (J0.out.below hb1 J0.out.lt); obtain ⟨z_0, z_1, z_2, z_3, z_4, z_5, z_6, z_7, z_8, z_9, z_10⟩ := blk_cells10 K1.out; obtain ⟨u_0, u_1, u_2, u_3, u_4, u_5, u_6, u_7, u_8, u_9, u_10⟩ := blk_cells10 J1.out; clear hb1 HM1 LT)
    | (go_at_call 6; refine (LT2.out _ HB1.out).mono ?_; rintro e w2 ⟨rfl, hb2⟩; have HB2 := Lib.hid (low_low HB1.out hb2); have K2 := Lib.hid (K1.out.below hb2 K1.out.lt); have J2 := Lib.hid (J1.out.below hb2 J1.out.lt); obtain ⟨k_0, k_1, k_2, k_3, k_4, k_5, k_6, k_7, k_8, k_9, k_10⟩ := blk_cells10 K2.out; obtain ⟨j_0, j_1, j_2, j_3, j_4, j_5, j_6, j_7, j_8, j_9, j_10⟩ := blk_cells10 J2.out; clear hb2)
    | (go_at_call 8; refine (PT.out _ HB2.out).mono ?_; rintro e w3 ⟨rfl, hb3⟩; have HB3 := Lib.hid (low_low HB2.out hb3); have K3 := Lib.hid (K2.out.below hb3 K2.out.lt); have J3 := Lib.hid (J2.out.below hb3 J2.out.lt); clear hb3))
  have HE3 := Lib.hid (Below.refl w3.heap.size w3)
  obtain ⟨k_0, k_1, k_2, k_3, k_4, k_5, k_6, k_7, k_8, k_9, k_10⟩ := blk_cells10 K3.out
  obtain ⟨j_0, j_1, j_2, j_3, j_4, j_5, j_6, j_7, j_8, j_9, j_10⟩ := blk_cells10 J3.out
  have hzz : (z != z) = false := by simp
  have SM := Lib.hid sm; clear sm
  have RS := Lib.hid rs; clear rs
  go_region_held3 (fun W => W.cell? ⟨w.heap.size, 0, none⟩ = some (.int .i64 p.k) ∧ W.cell? ⟨w.heap.size, 1, none⟩ = some (.int .i64 p.f) ∧ W.cell? ⟨w.heap.size, 2, none⟩ = some (.int .i64 p.b) ∧ W.cell? ⟨w.heap.size, 3, none⟩ = some (.int .i64 p.t) ∧ W.cell? ⟨w.heap.size, 4, none⟩ = some (.int .i64 p.tb) ∧ W.cell? ⟨w.heap.size, 5, none⟩ = some (.int .i64 p.e) ∧ W.cell? ⟨w.heap.size, 6, none⟩ = some (.int .i64 p.te) ∧ W.cell? ⟨w.heap.size, 7, none⟩ = some (.slice A1 n1 z1) ∧ W.cell? ⟨w.heap.size, 8, none⟩ = some (.slice A2 n2 z2) ∧ W.cell? ⟨w.heap.size, 9, none⟩ = some (.slice A3 n3 z3) ∧ W.cell? ⟨w.heap.size + 1, 0, none⟩ = some (.int .i64 q.k) ∧ W.cell? ⟨w.heap.size + 1, 1, none⟩ = some (.int .i64 q.f) ∧ W.cell? ⟨w.heap.size + 1, 2, none⟩ = some (.int .i64 q.b) ∧ W.cell? ⟨w.heap.size + 1, 3, none⟩ = some (.int .i64 q.t) ∧ W.cell? ⟨w.heap.size + 1, 4, none⟩ = some (.int .i64 q.tb) ∧ W.cell? ⟨w.heap.size + 1, 5, none⟩ = some (.int .i64 q.e) ∧ W.cell? ⟨w.heap.size + 1, 6, none⟩ = some (.int .i64 q.te) ∧ W.cell? ⟨w.heap.size + 1, 7, none⟩ = some (.slice D1 m1 y1) ∧ W.cell? ⟨w.heap.size + 1, 8, none⟩ = some (.slice D2 m2 y2) ∧ W.cell? ⟨w.heap.size + 1, 9, none⟩ = some (.slice D3 m3 y3))
      (first
        | with_reducible exact ⟨k_0, k_1, k_2, k_3, k_4, k_5, k_6, k_7, k_8, k_9, j_0, j_1, j_2, j_3, j_4, j_5, j_6, j_7, j_8, j_9⟩
        | with_reducible exact ⟨ka0, ka1, ka2, ka3, ka4, ka5, ka6, ka7, ka8, ka9, ja0, ja1, ja2, ja3, ja4, ja5, ja6, ja7, ja8, ja9⟩
        | with_reducible exact ⟨kb0, kb1, kb2, kb3, kb4, kb5, kb6, kb7, kb8, kb9, jb0, jb1, jb2, jb3, jb4, jb5, jb6, jb7, jb8, jb9⟩
        | with_reducible exact ⟨kc0, kc1, kc2, kc3, kc4, kc5, kc6, kc7, kc8, kc9, jc0, jc1, jc2, jc3, jc4, jc5, jc6, jc7, jc8, jc9⟩
        | with_reducible exact ⟨kd0, kd1, kd2, kd3, kd4, kd5, kd6, kd7, kd8, kd9, jd0, jd1, jd2, jd3, jd4, jd5, jd6, jd7, jd8, jd9⟩
        | go_keep)
      (first
        | (go_at_call 9; refine (CK.out _ ?hw).mono ?_; (case hw => exact low_low HB3.out (by with_reducible repeat (first | exact HE3.out | exact HEa.out | exact HEb.out | exact HEc.out | exact HEd.out | refine below_drewN ?_ _ | refine Below.drew ?_))); rintro e wa ⟨rfl, hb⟩; have HEa := Lib.hid (low_low (wz := w3) (by with_reducible repeat (first | exact HE3.out | exact HEa.out | exact HEb.out | exact HEc.out | exact HEd.out | refine below_drewN ?_ _ | refine Below.drew ?_)) hb); clear hb; obtain ⟨ka0, ka1, ka2, ka3, ka4, ka5, ka6, ka7, ka8, ka9, ka10⟩ := blk_cells10 (K3.out.below HEa.out K3.out.lt); obtain ⟨ja0, ja1, ja2, ja3, ja4, ja5, ja6, ja7, ja8, ja9, ja10⟩ := blk_cells10 (J3.out.below HEa.out J3.out.lt))
        | (go_at_call 10; refine (MY.out _ ?hw).mono ?_; (case hw => exact low_low HB3.out (by with_reducible repeat (first | exact HE3.out | exact HEa.out | exact HEb.out | exact HEc.out | exact HEd.out | refine below_drewN ?_ _ | refine Below.drew ?_))); rintro e wb ⟨rfl, hb⟩; have HEb := Lib.hid (low_low (wz := w3) (by with_reducible repeat (first | exact HE3.out | exact HEa.out | exact HEb.out | exact HEc.out | exact HEd.out | refine below_drewN ?_ _ | refine Below.drew ?_)) hb); clear hb; obtain ⟨kb0, kb1, kb2, kb3, kb4, kb5, kb6, kb7, kb8, kb9, kb10⟩ := blk_cells10 (K3.out.below HEb.out K3.out.lt); obtain ⟨jb0, jb1, jb2, jb3, jb4, jb5, jb6, jb7, jb8, jb9, jb10⟩ := blk_cells10 (J3.out.below HEb.out J3.out.lt))
        | (go_at_call 11; refine (SM.out _ ?hw).mono ?_; (case hw => exact low_low HB3.out (by with_reducible repeat (first | exact HE3.out | exact HEa.out | exact HEb.out | exact HEc.out | exact HEd.out | refine below_drewN ?_ _ | refine Below.drew ?_))); rintro e wc ⟨rfl, hb⟩; have HEc := Lib.hid (low_low (wz := w3) (by with_reducible repeat (first | exact HE3.out | exact HEa.out | exact HEb.out | exact HEc.out | exact HEd.out | refine below_drewN ?_ _ | refine Below.drew ?_)) hb); clear hb; obtain ⟨kc0, kc1, kc2, kc3, kc4, kc5, kc6, kc7, kc8, kc9, kc10⟩ := blk_cells10 (K3.out.below HEc.out K3.out.lt); obtain ⟨jc0, jc1, jc2, jc3, jc4, jc5, jc6, jc7, jc8, jc9, jc10⟩ := blk_cells10 (J3.out.below HEc.out J3.out.lt))
        | (go_at_call 12; refine (RS.out _ ?hw).mono ?_; (case hw => exact low_low HB3.out (by with_reducible repeat (first | exact HE3.out | exact HEa.out | exact HEb.out | exact HEc.out | exact HEd.out | refine below_drewN ?_ _ | refine Below.drew ?_))); rintro e wd ⟨rfl, hb⟩; have HEd := Lib.hid (low_low (wz := w3) (by with_reducible repeat (first | exact HE3.out | exact HEa.out | exact HEb.out | exact HEc.out | exact HEd.out | refine below_drewN ?_ _ | refine Below.drew ?_)) hb); clear hb; obtain ⟨kd0, kd1, kd2, kd3, kd4, kd5, kd6, kd7, kd8, kd9, kd10⟩ := blk_cells10 (K3.out.below HEd.out K3.out.lt); obtain ⟨jd0, jd1, jd2, jd3, jd4, jd5, jd6, jd7, jd8, jd9, jd10⟩ := blk_cells10 (J3.out.below HEd.out J3.out.lt)))
  have HBd := Lib.hid (low_low HB3.out HEd.out)
  have Kd := Lib.hid (K3.out.below HEd.out K3.out.lt)
  have Jd := Lib.hid (J3.out.below HEd.out J3.out.lt)
  go_wp2_with (first
    | (go_at_call 10; refine (MY.out _ HBd.out).mono ?_; rintro e we ⟨rfl, hbe⟩; have HBe := Lib.hid (low_low HBd.out hbe); have Ke := Lib.hid (Kd.out.below hbe Kd.out.lt); obtain ⟨q0, q1, q2, q3, q4, q5, q6, q7, q8, q9, q10⟩ := blk_cells10 Ke.out; clear hbe)
    | (go_at_call 7; refine (awake14_any _).mono ?_; rintro e w9 ⟨rfl, hb9⟩; have HB9 := Lib.hid (low_low HBe.out hb9); clear hb9))
  go_ret
  exact ⟨rfl, HB9.out⟩
set_option maxRecDepth 100000 in
set_option maxHeartbeats 16000000 in
theorem walk_yes (p q : Pk) (A1 A2 A3 D1 D2 D3 : Option Addr) (n1 z1 n2 z2 n3 z3 m1 y1 m2 y2 m3 y3 : Nat) (w : World) (h : PkM w w.heap.size (.slice A1 n1 z1) (.slice A2 n2 z2) (.slice A3 n3 z3) p) (h' : PkM w w.heap.size (.slice D1 m1 y1) (.slice D2 m2 y2) (.slice D3 m3 y3) q) (hs : lightP p = true) (ht : lightP q = true) (hm : mayP p = true) :
    Calls Try.prog 3 #[pkV p (.slice A1 n1 z1) (.slice A2 n2 z2) (.slice A3 n3 z3), pkV q (.slice D1 m1 y1) (.slice D2 m2 y2) (.slice D3 m3 y3)] w fun e w' => e = .returned (.bool true) ∧ Below w.heap.size w w' := by
  have hlen : (putP p).length ≤ 2000 := by have := body_small hm; have := putP_length p; omega
  have hlt := putP_lt p
  have gt := fun (v : Value) (W : World) (hv : Sl W W.heap.size v (putP p)) => pget_any v _ W hv hlen
  unfold GetOutP at gt
  rw [getC_back hm] at gt
  simp only [Option.getD_some, errP] at gt
  have HB := Lib.hid (low2 w (.cells (pkC p (.slice A1 n1 z1) (.slice A2 n2 z2) (.slice A3 n3 z3)) 26) (.cells (pkC q (.slice D1 m1 y1) (.slice D2 m2 y2) (.slice D3 m3 y3)) 26))
  have K0 := Lib.hid ((Blk.new w 26 (pkC p (.slice A1 n1 z1) (.slice A2 n2 z2) (.slice A3 n3 z3))).alloc (.cells (pkC q (.slice D1 m1 y1) (.slice D2 m2 y2) (.slice D3 m3 y3)) 26))
  have J0 := Lib.hid (blk_second w (.cells (pkC p (.slice A1 n1 z1) (.slice A2 n2 z2) (.slice A3 n3 z3)) 26) 26 (pkC q (.slice D1 m1 y1) (.slice D2 m2 y2) (.slice D3 m3 y3)))
  have HS := Lib.hid (fun (W : World) (hW : Below w.heap.size w W) => h.up hW)
  have HT := Lib.hid (fun (W : World) (hW : Below w.heap.size w W) => h'.up hW)
  clear h h'
  have lt := fun (W : World) (hW : Below w.heap.size w W) => light14_any p A1 A2 A3 n1 z1 n2 z2 n3 z3 W (HS.out W hW)
  have lt2 := fun (W : World) (hW : Below w.heap.size w W) => light14_any q D1 D2 D3 m1 y1 m2 y2 m3 y3 W (HT.out W hW)
  simp only [hs] at lt
  simp only [ht] at lt2
  have pt := fun (W : World) (hW : Below w.heap.size w W) => pput_yes p A1 A2 A3 n1 z1 n2 z2 n3 z3 W (HS.out W hW) hm
  have ck := fun (W : World) (hW : Below w.heap.size w W) => pcheck_any p A1 A2 A3 n1 z1 n2 z2 n3 z3 W (HS.out W hW)
  have my := fun (W : World) (hW : Below w.heap.size w W) => rmay_pk p A1 A2 A3 n1 z1 n2 z2 n3 z3 W (HS.out W hW)
  have sm := fun (W : World) (hW : Below w.heap.size w W) => psame_any p q A1 A2 A3 D1 D2 D3 n1 z1 n2 z2 n3 z3 m1 y1 m2 y2 m3 y3 W (HS.out W hW) (HT.out W hW)
  have rs := fun (W : World) (hW : Below w.heap.size w W) => rsame_pk p q A1 A2 A3 D1 D2 D3 n1 z1 n2 z2 n3 z3 m1 y1 m2 y2 m3 y3 W (HS.out W hW) (HT.out W hW)
  simp only [hm, errI_f, errI_t] at ck my
  generalize sameP p q = z at *
  have LT := Lib.hid lt; clear lt
  have LT2 := Lib.hid lt2; clear lt2
  have CK := Lib.hid ck; clear ck
  have MY := Lib.hid my; clear my
  clear hs ht
  unfold PPutOut at pt
  have rc := fun (B1 B2 B3 : Option Addr) (b1 x1 b2 x2 b3 x3 : Nat) (W : World) (hC : PkM W W.heap.size (.slice B1 b1 x1) (.slice B2 b2 x2) (.slice B3 b3 x3) p) (hW : Below w.heap.size w W) => rsame_pk p p B1 B2 B3 A1 A2 A3 b1 x1 b2 x2 b3 x3 n1 z1 n2 z2 n3 z3 W hC (HS.out W hW)
  rw [sameP_iff.2 rfl] at rc
  have rb := fun (W : World) (hW : Below w.heap.size w W) => rput_pk p A1 A2 A3 n1 z1 n2 z2 n3 z3 W (HS.out W hW) hm
  have sq := fun (A A' : Option Addr) (n n' c c' : Nat) (W : World) (hA : Sl W W.heap.size (.slice A n c) (putP p)) (hB : Sl W W.heap.size (.slice A' n' c') (putP p)) => Mem.rsame_any A A' n n' c c' _ _ (putP p) (putP p) W (sl_bts14 hA) (sl_bts14 hB)
  simp only [decide_true] at sq
  generalize putP p = bs at *
  have PT := Lib.hid pt; clear pt
  have RC := Lib.hid rc; clear rc
  have GT := Lib.hid gt; clear gt
  have RB := Lib.hid rb; clear rb
  have SQ := Lib.hid sq; clear sq hm
  have HLT := Lib.hid hlt; clear hlt
  go_enter Try.func3, Try.ntmps3
  go_upto_region 4 with (first
    | (have HM1 := LT; go_at_call 6; refine (LT.out _ HB.out).mono ?_; rintro e w1 ⟨rfl, hb1⟩; have HB1 := Lib.hid (low_low HB.out hb1); have K1 := Lib.hid (K0.out.below hb1 K0.out.lt); have J1 := Lib.hid (J0.out.below hb1 J0.out.lt); obtain ⟨z_0, z_1, z_2, z_3, z_4, z_5, z_6, z_7, z_8, z_9, z_10⟩ := blk_cells10 K1.out; obtain ⟨u_0, u_1, u_2, u_3, u_4, u_5, u_6, u_7, u_8, u_9, u_10⟩ := blk_cells10 J1.out; clear hb1 HM1 LT)
    | (go_at_call 6; refine (LT2.out _ HB1.out).mono ?_; rintro e w2 ⟨rfl, hb2⟩; have HB2 := Lib.hid (low_low HB1.out hb2); have K2 := Lib.hid (K1.out.below hb2 K1.out.lt); have J2 := Lib.hid (J1.out.below hb2 J1.out.lt); obtain ⟨k_0, k_1, k_2, k_3, k_4, k_5, k_6, k_7, k_8, k_9, k_10⟩ := blk_cells10 K2.out; obtain ⟨j_0, j_1, j_2, j_3, j_4, j_5, j_6, j_7, j_8, j_9, j_10⟩ := blk_cells10 J2.out; clear hb2)
    | (go_at_call 8; refine (PT.out _ HB2.out).mono ?_; rintro e w3 ⟨A5, n5, c5, rfl, hn5, hs3, hb3⟩; have HS3 := Lib.hid (sl_own hs3 HLT.out (by omega)); have HB3 := Lib.hid (low_low HB2.out hb3); have K3 := Lib.hid (K2.out.below hb3 K2.out.lt); have J3 := Lib.hid (J2.out.below hb3 J2.out.lt); clear hb3 hs3 hn5))
  have HE3 := Lib.hid (Below.refl w3.heap.size w3)
  obtain ⟨k_0, k_1, k_2, k_3, k_4, k_5, k_6, k_7, k_8, k_9, k_10⟩ := blk_cells10 K3.out
  obtain ⟨j_0, j_1, j_2, j_3, j_4, j_5, j_6, j_7, j_8, j_9, j_10⟩ := blk_cells10 J3.out
  have hzz : (z != z) = false := by simp
  have SM := Lib.hid sm; clear sm
  have RS := Lib.hid rs; clear rs
  go_region_held3 (fun W => W.cell? ⟨w.heap.size, 0, none⟩ = some (.int .i64 p.k) ∧ W.cell? ⟨w.heap.size, 1, none⟩ = some (.int .i64 p.f) ∧ W.cell? ⟨w.heap.size, 2, none⟩ = some (.int .i64 p.b) ∧ W.cell? ⟨w.heap.size, 3, none⟩ = some (.int .i64 p.t) ∧ W.cell? ⟨w.heap.size, 4, none⟩ = some (.int .i64 p.tb) ∧ W.cell? ⟨w.heap.size, 5, none⟩ = some (.int .i64 p.e) ∧ W.cell? ⟨w.heap.size, 6, none⟩ = some (.int .i64 p.te) ∧ W.cell? ⟨w.heap.size, 7, none⟩ = some (.slice A1 n1 z1) ∧ W.cell? ⟨w.heap.size, 8, none⟩ = some (.slice A2 n2 z2) ∧ W.cell? ⟨w.heap.size, 9, none⟩ = some (.slice A3 n3 z3) ∧ W.cell? ⟨w.heap.size + 1, 0, none⟩ = some (.int .i64 q.k) ∧ W.cell? ⟨w.heap.size + 1, 1, none⟩ = some (.int .i64 q.f) ∧ W.cell? ⟨w.heap.size + 1, 2, none⟩ = some (.int .i64 q.b) ∧ W.cell? ⟨w.heap.size + 1, 3, none⟩ = some (.int .i64 q.t) ∧ W.cell? ⟨w.heap.size + 1, 4, none⟩ = some (.int .i64 q.tb) ∧ W.cell? ⟨w.heap.size + 1, 5, none⟩ = some (.int .i64 q.e) ∧ W.cell? ⟨w.heap.size + 1, 6, none⟩ = some (.int .i64 q.te) ∧ W.cell? ⟨w.heap.size + 1, 7, none⟩ = some (.slice D1 m1 y1) ∧ W.cell? ⟨w.heap.size + 1, 8, none⟩ = some (.slice D2 m2 y2) ∧ W.cell? ⟨w.heap.size + 1, 9, none⟩ = some (.slice D3 m3 y3))
      (first
        | with_reducible exact ⟨k_0, k_1, k_2, k_3, k_4, k_5, k_6, k_7, k_8, k_9, j_0, j_1, j_2, j_3, j_4, j_5, j_6, j_7, j_8, j_9⟩
        | with_reducible exact ⟨ka0, ka1, ka2, ka3, ka4, ka5, ka6, ka7, ka8, ka9, ja0, ja1, ja2, ja3, ja4, ja5, ja6, ja7, ja8, ja9⟩
        | with_reducible exact ⟨kb0, kb1, kb2, kb3, kb4, kb5, kb6, kb7, kb8, kb9, jb0, jb1, jb2, jb3, jb4, jb5, jb6, jb7, jb8, jb9⟩
        | with_reducible exact ⟨kc0, kc1, kc2, kc3, kc4, kc5, kc6, kc7, kc8, kc9, jc0, jc1, jc2, jc3, jc4, jc5, jc6, jc7, jc8, jc9⟩
        | with_reducible exact ⟨kd0, kd1, kd2, kd3, kd4, kd5, kd6, kd7, kd8, kd9, jd0, jd1, jd2, jd3, jd4, jd5, jd6, jd7, jd8, jd9⟩
        | go_keep)
      (first
        | (go_at_call 9; refine (CK.out _ ?hw).mono ?_; (case hw => exact low_low HB3.out (by with_reducible repeat (first | exact HE3.out | exact HEa.out | exact HEb.out | exact HEc.out | exact HEd.out | refine below_drewN ?_ _ | refine Below.drew ?_))); rintro e wa ⟨rfl, hb⟩; have HEa := Lib.hid (low_low (wz := w3) (by with_reducible repeat (first | exact HE3.out | exact HEa.out | exact HEb.out | exact HEc.out | exact HEd.out | refine below_drewN ?_ _ | refine Below.drew ?_)) hb); clear hb; obtain ⟨ka0, ka1, ka2, ka3, ka4, ka5, ka6, ka7, ka8, ka9, ka10⟩ := blk_cells10 (K3.out.below HEa.out K3.out.lt); obtain ⟨ja0, ja1, ja2, ja3, ja4, ja5, ja6, ja7, ja8, ja9, ja10⟩ := blk_cells10 (J3.out.below HEa.out J3.out.lt))
        | (go_at_call 10; refine (MY.out _ ?hw).mono ?_; (case hw => exact low_low HB3.out (by with_reducible repeat (first | exact HE3.out | exact HEa.out | exact HEb.out | exact HEc.out | exact HEd.out | refine below_drewN ?_ _ | refine Below.drew ?_))); rintro e wb ⟨rfl, hb⟩; have HEb := Lib.hid (low_low (wz := w3) (by with_reducible repeat (first | exact HE3.out | exact HEa.out | exact HEb.out | exact HEc.out | exact HEd.out | refine below_drewN ?_ _ | refine Below.drew ?_)) hb); clear hb; obtain ⟨kb0, kb1, kb2, kb3, kb4, kb5, kb6, kb7, kb8, kb9, kb10⟩ := blk_cells10 (K3.out.below HEb.out K3.out.lt); obtain ⟨jb0, jb1, jb2, jb3, jb4, jb5, jb6, jb7, jb8, jb9, jb10⟩ := blk_cells10 (J3.out.below HEb.out J3.out.lt))
        | (go_at_call 11; refine (SM.out _ ?hw).mono ?_; (case hw => exact low_low HB3.out (by with_reducible repeat (first | exact HE3.out | exact HEa.out | exact HEb.out | exact HEc.out | exact HEd.out | refine below_drewN ?_ _ | refine Below.drew ?_))); rintro e wc ⟨rfl, hb⟩; have HEc := Lib.hid (low_low (wz := w3) (by with_reducible repeat (first | exact HE3.out | exact HEa.out | exact HEb.out | exact HEc.out | exact HEd.out | refine below_drewN ?_ _ | refine Below.drew ?_)) hb); clear hb; obtain ⟨kc0, kc1, kc2, kc3, kc4, kc5, kc6, kc7, kc8, kc9, kc10⟩ := blk_cells10 (K3.out.below HEc.out K3.out.lt); obtain ⟨jc0, jc1, jc2, jc3, jc4, jc5, jc6, jc7, jc8, jc9, jc10⟩ := blk_cells10 (J3.out.below HEc.out J3.out.lt))
        | (go_at_call 12; refine (RS.out _ ?hw).mono ?_; (case hw => exact low_low HB3.out (by with_reducible repeat (first | exact HE3.out | exact HEa.out | exact HEb.out | exact HEc.out | exact HEd.out | refine below_drewN ?_ _ | refine Below.drew ?_))); rintro e wd ⟨rfl, hb⟩; have HEd := Lib.hid (low_low (wz := w3) (by with_reducible repeat (first | exact HE3.out | exact HEa.out | exact HEb.out | exact HEc.out | exact HEd.out | refine below_drewN ?_ _ | refine Below.drew ?_)) hb); clear hb; obtain ⟨kd0, kd1, kd2, kd3, kd4, kd5, kd6, kd7, kd8, kd9, kd10⟩ := blk_cells10 (K3.out.below HEd.out K3.out.lt); obtain ⟨jd0, jd1, jd2, jd3, jd4, jd5, jd6, jd7, jd8, jd9, jd10⟩ := blk_cells10 (J3.out.below HEd.out J3.out.lt)))
  have HBd := Lib.hid (low_low HB3.out HEd.out)
  have Kd := Lib.hid (K3.out.below HEd.out K3.out.lt)
  have Jd := Lib.hid (J3.out.below HEd.out J3.out.lt)
  go_upto_region 9 with (first
    | (go_at_call 10; refine (MY.out _ HBd.out).mono ?_; rintro e we ⟨rfl, hbe⟩; have HBe := Lib.hid (low_low HBd.out hbe); have Ke := Lib.hid (Kd.out.below hbe Kd.out.lt); obtain ⟨q0, q1, q2, q3, q4, q5, q6, q7, q8, q9, q10⟩ := blk_cells10 Ke.out; have HSe := Lib.hid (sl_up14 (sl_up14 HS3.out HEd.out) hbe); clear hbe)
    | (go_at_call 13; refine (GT.out _ _ HSe.out).mono ?_; rintro e wf ⟨h_, i_, l_, rfl, hpf, hbf⟩; obtain ⟨B1, b1, x1, rfl, hq_⟩ := id hpf.1; obtain ⟨B2, b2, x2, rfl, hr_⟩ := id hpf.2.1; obtain ⟨B3, b3, x3, rfl, hs_⟩ := id hpf.2.2; clear hq_ hr_ hs_; have HBf := Lib.hid (low1 (low_low HBe.out hbf) (.cells (pkC p (.slice B1 b1 x1) (.slice B2 b2 x2) (.slice B3 b3 x3)) 26)); have Kf := Lib.hid ((Ke.out.below hbf Ke.out.lt).alloc (.cells (pkC p (.slice B1 b1 x1) (.slice B2 b2 x2) (.slice B3 b3 x3)) 26)); have Xf := Lib.hid (Blk.new wf 26 (pkC p (.slice B1 b1 x1) (.slice B2 b2 x2) (.slice B3 b3 x3))); have HXf := Lib.hid (hpf.up (low1 (Below.refl _ _) (.cells (pkC p (.slice B1 b1 x1) (.slice B2 b2 x2) (.slice B3 b3 x3)) 26))); have HSf := Lib.hid (sl_up14 (sl_up14 HSe.out hbf) (low1 (Below.refl _ _) (.cells (pkC p (.slice B1 b1 x1) (.slice B2 b2 x2) (.slice B3 b3 x3)) 26))); clear hpf hbf))
  have HXg := HXf
  have HSg := HSf
  have HBg := HBf
  have Kg := Kf
  have Xg := Xf
  clear HXf HSf HBf Kf Xf
  generalize wf.alloc (.cells (pkC p (.slice B1 b1 x1) (.slice B2 b2 x2) (.slice B3 b3 x3)) 26) = wg at *
  obtain ⟨p0, p1, p2, p3, p4, p5, p6, p7, p8, p9, p10⟩ := blk_cells10 Kg.out
  obtain ⟨o0, o1, o2, o3, o4, o5, o6, o7, o8, o9, o10⟩ := blk_cells10 Xg.out
  go_wp2_with (first
    | (go_at_call 15; refine (RB.out _ HBg.out).mono ?_; rintro e wh ⟨vh, rfl, hsh, hbh⟩; obtain ⟨A10, n10, c10, rfl, _⟩ := id hsh; have HSh := Lib.hid (sl_up14 HSg.out hbh); have HSb := Lib.hid hsh; have HBh := Lib.hid (low_low HBg.out hbh); have Kh := Lib.hid (Kg.out.below hbh Kg.out.lt); have Xh := Lib.hid (Xg.out.below hbh Xg.out.lt); have HXh := Lib.hid (HXg.out.up hbh); obtain ⟨s0, s1, s2, s3, s4, s5, s6, s7, s8, s9, s10⟩ := blk_cells10 Kh.out; obtain ⟨v0, v1, v2, v3, v4, v5, v6, v7, v8, v9, v10⟩ := blk_cells10 Xh.out; clear hbh hsh)
    | (go_at_call 14; refine (SQ.out _ _ _ _ _ _ _ HSh.out HSb.out).mono ?_; rintro e wi ⟨rfl, mi, rfl⟩; have HBi := Lib.hid (below_drewN HBh.out mi); have HXi := Lib.hid (show PkM (wh.drewN mi) (wh.drewN mi).heap.size (.slice B1 b1 x1) (.slice B2 b2 x2) (.slice B3 b3 x3) p from HXh.out))
    | (go_at_call 12; refine (RC.out _ _ _ _ _ _ _ _ _ _ HXi.out HBi.out).mono ?_; rintro e wk ⟨rfl, hbk⟩; have HBk := Lib.hid (low_low HBi.out hbk); clear hbk)
    | (go_at_call 7; refine (awake14_any _).mono ?_; rintro e w9 ⟨rfl, hb9⟩; have HB9 := Lib.hid (low_low HBk.out hb9); clear hb9))
  go_ret
  exact ⟨rfl, HB9.out⟩
theorem walk (u0a u0b u0c u0d u0e u0f u0g u0h u0i u0j u1a u1b u1c u1d u1e u1f u1g u1h u1i u1j : Value) (w : World) (w0a : NumOf .i64 u0a) (w0b : NumOf .i64 u0b) (w0c : NumOf .i64 u0c) (w0d : NumOf .i64 u0d) (w0e : NumOf .i64 u0e) (w0f : NumOf .i64 u0f) (w0g : NumOf .i64 u0g) (w0h : LkR w u0h) (w0i : LkR w u0i) (w0j : LasR w u0j) (w1a : NumOf .i64 u1a) (w1b : NumOf .i64 u1b) (w1c : NumOf .i64 u1c) (w1d : NumOf .i64 u1d) (w1e : NumOf .i64 u1e) (w1f : NumOf .i64 u1f) (w1g : NumOf .i64 u1g) (w1h : LkR w u1h) (w1i : LkR w u1i) (w1j : LasR w u1j) :
    Calls Try.prog 3 #[.agg #[u0a, u0b, u0c, u0d, u0e, u0f, u0g, u0h, u0i, u0j], .agg #[u1a, u1b, u1c, u1d, u1e, u1f, u1g, u1h, u1i, u1j]] w fun e w' => e = .returned (.bool true) ∧ Below w.heap.size w w' := by
  obtain ⟨p, A1, A2, A3, n1, z1, n2, z2, n3, z3, e, h⟩ := pk_in w0a w0b w0c w0d w0e w0f w0g w0h w0i w0j
  obtain ⟨q, D1, D2, D3, m1, y1, m2, y2, m3, y3, e', h'⟩ := pk_in w1a w1b w1c w1d w1e w1f w1g w1h w1i w1j
  rw [e, e']
  cases hs : lightP p
  · exact walk_dark p q A1 A2 A3 D1 D2 D3 n1 z1 n2 z2 n3 z3 m1 y1 m2 y2 m3 y3 w h h' hs
  cases ht : lightP q
  · exact walk_dark2 p q A1 A2 A3 D1 D2 D3 n1 z1 n2 z2 n3 z3 m1 y1 m2 y2 m3 y3 w h h' hs ht
  cases hm : mayP p
  · exact walk_no p q A1 A2 A3 D1 D2 D3 n1 z1 n2 z2 n3 z3 m1 y1 m2 y2 m3 y3 w h h' hs ht hm
  · exact walk_yes p q A1 A2 A3 D1 D2 D3 n1 z1 n2 z2 n3 z3 m1 y1 m2 y2 m3 y3 w h h' hs ht hm
open Go.ChangeShapes Go.WideShapes Go.ChangeAt Go.RowKit
theorem own : ownKnob Try.prog.godebug = none := by kernel_rfl
theorem laidOut : laidOutB Try.prog = true := by kernel_rfl
/-! the step from the walk to the row -/
set_option maxRecDepth 100000 in
theorem lifted (os : Os) (started : os.Started) (H : Type) (enc : TypeId × Value → H) :
    ReturnsInHanded {} Try.checked os 3 .any (Rows.packetPutsSpec.pre6 enc Try.prog Try.f3 Rows.packetPutsRow.domain false) (Rows.packetPutsSpec.post enc Try.prog Try.f3 false true false false) := by
  refine returnsInHanded_of_change (C := Try.checked) own started (by kernel_rfl) Try.func3
    (ChangeSpec.witness6 (enc := enc) (C := Try.checked) false ⟨#[], #[.agg #[.int .i64 0, .int .i64 0, .int .i64 0, .int .i64 0, .int .i64 0, .int .i64 0, .int .i64 0, .slice none 0 0, .slice none 0 0, .slice none 0 0], .agg #[.int .i64 0, .int .i64 0, .int .i64 0, .int .i64 0, .int .i64 0, .int .i64 0, .int .i64 0, .slice none 0 0, .slice none 0 0, .slice none 0 0]], []⟩ 8 (by kernel_rfl) (by kernel_rfl) (by kernel_rfl) (by kernel_rfl)) ?_
  intro W base args ds gs before hval0 hW hcnd _
  have hval : ∀ (j : Nat) t v, Try.f3.params[j]? = some t → args[j]? = some v → Value.okWide Try.prog W .any base t v := hval0
  have hW' := hW
  obtain ⟨p, q, hA0, hV, rfl, hfz, hnd⟩ := hW
  have hA : DataW.TrodAll enc Try.prog W 0 (fun _ => true) true Try.f3.params.toList args.toList ds p := hA0
  rw [Try.params3] at hA hval
  obtain ⟨v0, vs0, d0, ds0, p0, q0, hargs, rfl, rfl, h0, r0⟩ := trodAll_cons hA
  obtain ⟨v1, vs1, d1, ds1, p1, q1, rfl, rfl, rfl, h1, r1⟩ := trodAll_cons r0
  obtain ⟨rfl, rfl, rfl⟩ := trodAll_nil r1
  obtain rfl : args = #[v0, v1] := by cases args; simp_all
  obtain ⟨rfl, rfl⟩ := trodVars_none hV
  have k0 := h0
  have lt0 : ∀ x ∈ p0, x.block < W.heap.size := by obtain ⟨m, hm⟩ := k0; exact DataW.trod_lt m _ _ _ hm
  obtain ⟨u0a, u0b, u0c, u0d, u0e, u0f, u0g, u0h, u0i, u0j, rfl, w0a, w0b, w0c, w0d, w0e, w0f, w0g, w0h, w0i, w0j⟩ := open_packet_at (hval 0 26 v0 rfl rfl) h0
  have k1 := h1
  have lt1 : ∀ x ∈ p1, x.block < W.heap.size := by obtain ⟨m, hm⟩ := k1; exact DataW.trod_lt m _ _ _ hm
  obtain ⟨u1a, u1b, u1c, u1d, u1e, u1f, u1g, u1h, u1i, u1j, rfl, w1a, w1b, w1c, w1d, w1e, w1f, w1g, w1h, w1i, w1j⟩ := open_packet_at (hval 1 26 v1 rfl rfl) h1
  clear hA0 hval0
  refine (walk u0a u0b u0c u0d u0e u0f u0g u0h u0i u0j u1a u1b u1c u1d u1e u1f u1g u1h u1i u1j W w0a w0b w0c w0d w0e w0f w0g w0h w0i w0j w1a w1b w1c w1d w1e w1f w1g w1h w1i w1j).mono fun e W' ⟨he, bel⟩ => ?_
  subst he
  exact ⟨_, rfl, _, _, _, [], _, [], hW', trodAll_mk1 (shut_bool Try.underlying4 _), (trodAll_cons_mk (Below.trod laidOut (by kernel_rfl) (of_decide_eq_true (by kernel_rfl)) k0 bel lt0) (trodAll_cons_mk (Below.trod laidOut (by kernel_rfl) (of_decide_eq_true (by kernel_rfl)) k1 bel lt1) trodAll_mk0)), rfl, bel.frame _, fun h => by cases h⟩

theorem over : Rows.packetPutsRow.holds Try.pinned (OpenSpec.ofChange Rows.packetPutsSpec) :=
  OpenClaim.holds_of_wide 3 Try.f3 rfl rfl rfl rfl rfl rfl rfl ⟨rfl, rfl, rfl, rfl, rfl⟩ rfl rfl rfl rfl rfl (by kernel_rfl) Try.func3 (by kernel_rfl)
    (of_decide_eq_true (by kernel_rfl)) (by unfold Func.isWrapper; first | (rw [if_pos (by decide +kernel)]; kernel_rfl) | (rw [if_neg (by decide +kernel)]; exact ⟨rfl, rfl⟩))
    (fun os started H enc _ => lifted os started H enc)

/-- the statement -/
theorem proved : Rows.PacketPutsSaid := over
end Go.Proofs.Ytpolpppnajfhdaa.packetPuts
