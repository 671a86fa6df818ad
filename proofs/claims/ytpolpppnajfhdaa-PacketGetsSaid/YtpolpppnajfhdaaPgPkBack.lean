/- Packets as values (layer 14): what is put is read. Pure. -/
import Derived.Test.YtpolpppnajfhdaaPgPkPure
namespace Go.Proofs.Ytpolpppnajfhdaa.Pkt
open Go.Proofs.Ytpolpppnajfhdaa.Oct Go.Proofs.Ytpolpppnajfhdaa.Lsa Go.Proofs.Ytpolpppnajfhdaa.Bas
set_option linter.unusedVariables false
set_option linter.unusedSimpArgs false
theorem getD_drop (xs : List Nat) (a : Nat) : (xs.drop a).getD 0 0 = xs.getD a 0 := by simp [List.getD]
theorem sgn_small {n : Nat} (h : n < 9223372036854775808) : sgn n = n := by unfold sgn; rw [if_pos h]
theorem its_back (more : List Nat) : ∀ (l acc : List Lk) (k a : Nat) (xs : List Nat) (c : Int), itOk c l = true → xs.drop a = itBytes l ++ more → k = l.length → its xs k a acc = acc ++ l
  | [], acc, k, a, xs, c, _, _, hk => by subst hk; simp [its]
  | x :: r, acc, k, a, xs, c, ho, hx, hk => by
    subst hk
    simp only [itOk, itOne, Lsa.win, Bool.and_eq_true, decide_eq_true_eq] at ho
    rw [itBytes_cons] at hx
    have hal : a < xs.length := by
      have := congrArg List.length hx
      simp only [List.length_drop, List.length_append, be_length] at this
      omega
    have h0 : xs.getD a 0 = x.1.toNat := by
      rw [← getD_drop, hx, List.append_assoc, List.append_assoc]
      exact be1_get _ _ (by omega)
    have h1 : xs.drop (a + 1) = be 8 x.2.toNat ++ (itBytes r ++ more) := by
      have : xs.drop (a + 1) = (xs.drop a).drop 1 := by rw [List.drop_drop]
      rw [this, hx, List.append_assoc, List.append_assoc]
      exact drop_app (by simp [be_length])
    have h9 : xs.drop (a + 9) = itBytes r ++ more := by
      have : xs.drop (a + 9) = (xs.drop (a + 1)).drop 8 := by rw [List.drop_drop]
      rw [this, h1]
      exact drop_app (by simp [be_length])
    have e : itAt xs a = x := by
      unfold itAt
      rw [h0, show ((8 : Int)) = ((8 : Nat) : Int) from rfl, num_at (k := 8) (n := x.2.toNat) h1 (by omega) (by omega) (by omega), sgn_small (by omega)]
      exact Prod.ext (by simp only; omega) (by simp only; omega)
    rw [List.length_cons, its, if_pos hal, e, its_back more r (acc ++ [x]) r.length (a + 9) xs _ ho.2 h9 rfl]
    simp
theorem lsa_back {a : La} (h : laOk a = true) (more : List Nat) : isAt (bytesOf a.o a.s a.ls ++ more) = true ∧ lsaAt (bytesOf a.o a.s a.ls ++ more) = (a.o, a.s, a.ls) ∧ many (bytesOf a.o a.s a.ls ++ more) = a.ls.length := by
  obtain ⟨r1, r2, r3⟩ := read_back a.o a.s a.ls more h
  rw [rOk_at] at r3
  refine ⟨r3, ?_⟩
  have hi := r3
  simp only [isAt, Bool.and_eq_true, decide_eq_true_eq] at hi
  obtain ⟨q1, q2⟩ := rAll_at hi.1 hi.2.1
  rw [q2] at r2
  refine ⟨r2, ?_⟩
  have := congrArg (fun x : Int × Int × List Lk => x.2.2.length) r2
  simp only [lsaAt, linksAt, List.length_map, List.length_range] at this
  exact this
theorem lss_back (more : List Nat) : ∀ (l acc : List La) (k a : Nat) (xs : List Nat) (c : Int), dbOk c l = true → xs.drop a = lsBytes l ++ more → k = l.length → lss xs k a acc = some (acc ++ l)
  | [], acc, k, a, xs, c, _, _, hk => by subst hk; simp [lss]
  | x :: r, acc, k, a, xs, c, ho, hx, hk => by
    subst hk
    simp only [dbOk, Bool.and_eq_true, decide_eq_true_eq] at ho
    rw [lsBytes_cons, List.append_assoc] at hx
    have hal : a < xs.length := by
      have := congrArg List.length hx
      simp only [List.length_drop, List.length_append, bytesOf_length] at this
      omega
    obtain ⟨i1, i2, i3⟩ := lsa_back ho.1 (lsBytes r ++ more)
    rw [← hx] at i1 i2 i3
    have h9 : xs.drop (a + (10 + 5 * x.ls.length)) = lsBytes r ++ more := by
      have : xs.drop (a + (10 + 5 * x.ls.length)) = (xs.drop a).drop (10 + 5 * x.ls.length) := by rw [List.drop_drop]
      rw [this, hx]
      exact drop_app (by rw [bytesOf_length])
    rw [List.length_cons, lss, if_pos hal, if_pos i1, i3, i2, lss_back more r (acc ++ [x]) r.length _ xs _ ho.2.2 h9 rfl]
    simp
theorem itOk_len : ∀ {l : List Lk} {c : Int}, 0 ≤ c → c ≤ 64 → itOk c l = true → (l.length : Int) + c ≤ 64
  | [], c, _, h, _ => by simpa using h
  | x :: r, c, h0, h, ho => by
    simp only [itOk, itOne, Lsa.win, Bool.and_eq_true, decide_eq_true_eq] at ho
    have := itOk_len (l := r) (c := x.1) (by omega) (by omega) ho.2
    simp only [List.length_cons]
    omega
/-- the beginning of a packet's bytes -/
theorem head_back {p : Pk} {xs R : List Nat} (h : ends p = true) (hk : 0 ≤ p.k ∧ p.k < 256) (hx : xs = headP p ++ R) :
    kOf xs = p.k.toNat ∧ ((xs.getD 1 0 : Nat) : Int) = p.f ∧ numAt xs 2 4 = p.b ∧ ((xs.getD 6 0 : Nat) : Int) = p.t ∧ numAt xs 7 4 = p.tb ∧ xs.drop 11 = R := by
  simp only [ends, Lsa.win, Bool.and_eq_true, decide_eq_true_eq] at h
  have e0 : xs = be 1 p.k.toNat ++ (be 1 p.f.toNat ++ (be 4 p.b.toNat ++ (be 1 p.t.toNat ++ (be 4 p.tb.toNat ++ R)))) := by rw [hx]; simp [headP]
  have d1 : xs.drop 1 = be 1 p.f.toNat ++ (be 4 p.b.toNat ++ (be 1 p.t.toNat ++ (be 4 p.tb.toNat ++ R))) := by rw [e0]; exact drop_app (by simp [be_length])
  have d2 : xs.drop 2 = be 4 p.b.toNat ++ (be 1 p.t.toNat ++ (be 4 p.tb.toNat ++ R)) := by
    have : xs.drop 2 = (xs.drop 1).drop 1 := by rw [List.drop_drop]
    rw [this, d1]; exact drop_app (by simp [be_length])
  have d6 : xs.drop 6 = be 1 p.t.toNat ++ (be 4 p.tb.toNat ++ R) := by
    have : xs.drop 6 = (xs.drop 2).drop 4 := by rw [List.drop_drop]
    rw [this, d2]; exact drop_app (by simp [be_length])
  have d7 : xs.drop 7 = be 4 p.tb.toNat ++ R := by
    have : xs.drop 7 = (xs.drop 6).drop 1 := by rw [List.drop_drop]
    rw [this, d6]; exact drop_app (by simp [be_length])
  have d11 : xs.drop 11 = R := by
    have : xs.drop 11 = (xs.drop 7).drop 4 := by rw [List.drop_drop]
    rw [this, d7]; exact drop_app (by simp [be_length])
  refine ⟨?_, ?_, ?_, ?_, ?_, d11⟩
  · unfold kOf; rw [e0]; exact be1_get _ _ (by omega)
  · rw [← getD_drop, d1, be1_get _ _ (by omega)]; omega
  · unfold numAt; rw [num_at (k := 4) (n := p.b.toNat) d2 (by omega) (by omega) (by omega)]; omega
  · rw [← getD_drop, d6, be1_get _ _ (by omega)]; omega
  · unfold numAt; rw [num_at (k := 4) (n := p.tb.toNat) d7 (by omega) (by omega) (by omega)]; omega
theorem putP_form (p : Pk) : ∃ T, T.length = 4 ∧ putP p = headP p ++ (midP p ++ (linkBytes p.hd ++ (itBytes p.it ++ (lsBytes p.ls ++ T)))) :=
  ⟨Crc.tail4 (Crc.crc (bodyP p)), by simp [Crc.tail4], by simp [putP, Crc.sealed, bodyP]⟩
theorem pk_ext {p q : Pk} (h0 : p.k = q.k) (h1 : p.f = q.f) (h2 : p.b = q.b) (h3 : p.t = q.t) (h4 : p.tb = q.tb) (h5 : p.e = q.e) (h6 : p.te = q.te) (h7 : p.hd = q.hd) (h8 : p.it = q.it) (h9 : p.ls = q.ls) : p = q := by
  cases p; cases q; simp_all
theorem many_11 {xs : List Nat} (h3 : kOf xs ≠ 3) (h2 : kOf xs ≠ 2) : manyOf xs = xs.getD 11 0 := by unfold manyOf; rw [if_neg h3, if_neg (fun h => h2 h.1)]
theorem many_15 {xs : List Nat} (h2 : kOf xs = 2) (hl : 15 < xs.length) : manyOf xs = xs.getD 15 0 := by unfold manyOf; rw [if_neg (by omega), if_pos ⟨h2, hl⟩]
theorem read_putP {p : Pk} (h : mayP p = true) : readP (putP p) = some p ∧ 15 ≤ (putP p).length := by
  obtain ⟨he, hh, hl, hi, hep, hk⟩ := mayP_iff.1 h
  obtain ⟨T, hT, hx⟩ := putP_form p
  have hlen := putP_length p
  have hmid := midP_length p
  have hbl : (bodyP p).length = 11 + (midP p).length + (linkBytes p.hd).length + (itBytes p.it).length + (lsBytes p.ls).length := by simp [bodyP, headP_length]; omega
  have hil := itOk_len (c := 0) (by omega) (by omega) hi
  have hkk : p.k = 1 ∨ p.k = 2 ∨ p.k = 3 ∨ p.k = 4 ∨ p.k = 5 := by
    unfold kindOk at hk
    by_cases a : p.k = 1
    · exact .inl a
    by_cases b : p.k = 2
    · exact .inr (.inl b)
    by_cases c : p.k = 3
    · exact .inr (.inr (.inl c))
    by_cases d : p.k = 4
    · exact .inr (.inr (.inr (.inl d)))
    by_cases e : p.k = 5
    · exact .inr (.inr (.inr (.inr e)))
    · simp [a, b, c, d, e] at hk
  obtain ⟨h1, h2, h3, h4, h5, h11⟩ := head_back he (by omega) hx
  generalize putP p = xs at *
  rcases hkk with e | e | e | e | e
  all_goals simp only [epochs, hasE, kindOk, Lsa.win, e] at hep hk
  all_goals simp at hep hk
  · have hm : midP p = be 1 (count p) := by simp [midP, hasE, e]
    have hc : count p = p.hd.length := by unfold count; rw [hk.2.1, hk.2.2]; rfl
    rw [hm] at h11 hmid
    have g11 : xs.getD 11 0 = p.hd.length := by rw [← getD_drop, h11, be1_get _ _ (by omega), hc]
    have d12 : xs.drop 12 = linkBytes p.hd ++ (itBytes p.it ++ (lsBytes p.ls ++ T)) := by
      have : xs.drop 12 = (xs.drop 11).drop 1 := by rw [List.drop_drop]
      rw [this, h11]; exact drop_app (by simp [be_length])
    have ek : kOf xs = 1 := by rw [h1, e]; rfl
    have ehd := hds_back [] (itBytes p.it ++ (lsBytes p.ls ++ T)) (by intro hh; have := congrArg List.length hh; simp [hT] at this) p.hd [] p.hd.length 12 xs (.inl hh) d12 rfl
    refine ⟨?_, by have := be_length 1 (count p); omega⟩
    unfold readP
    rw [if_pos ek]
    refine congrArg some (pk_ext ?_ h2 h3 h4 h5 ?_ ?_ ?_ ?_ ?_)
    · show ((kOf xs : Nat) : Int) = p.k; rw [ek, e]; rfl
    · simp [baseP, ek, hep.1]
    · simp [baseP, ek, hep.2]
    · show hds xs (manyOf xs) (atOf xs) [] = p.hd
      rw [show manyOf xs = p.hd.length from (many_11 (by omega) (by omega)).trans g11, show atOf xs = 12 by simp [atOf, ek], ehd, List.nil_append]
    · exact hk.2.1.symm
    · exact hk.2.2.symm
  · have hm : midP p = be 4 p.e.toNat ++ be 1 (count p) := by simp [midP, hasE, e]
    have hc : count p = p.it.length := by unfold count; rw [hk.1, hk.2]; simp
    rw [hm, List.append_assoc] at h11
    rw [hk.1, hk.2] at h11
    have n11 : numAt xs 11 4 = p.e := by unfold numAt; rw [num_at (k := 4) (n := p.e.toNat) h11 (by omega) (by omega) (by omega)]; omega
    have d15 : xs.drop 15 = be 1 (count p) ++ (itBytes p.it ++ T) := by
      have : xs.drop 15 = (xs.drop 11).drop 4 := by rw [List.drop_drop]
      rw [this, h11]; exact (drop_app (by simp [be_length])).trans (by simp [linkBytes, lsBytes])
    have g15 : xs.getD 15 0 = p.it.length := by rw [← getD_drop, d15, be1_get _ _ (by omega), hc]
    have d16 : xs.drop 16 = itBytes p.it ++ T := by
      have : xs.drop 16 = (xs.drop 15).drop 1 := by rw [List.drop_drop]
      rw [this, d15]; exact drop_app (by simp [be_length])
    have ek : kOf xs = 2 := by rw [h1, e]; rfl
    have l15 : 15 < xs.length := by have := congrArg List.length d15; simp [be_length, hT] at this; omega
    have eit := its_back T p.it [] p.it.length 16 xs 0 hi d16 rfl
    refine ⟨?_, by omega⟩
    unfold readP
    rw [if_neg (by rw [ek]; decide), if_neg (by rw [ek]; decide)]
    refine congrArg some (pk_ext ?_ h2 h3 h4 h5 ?_ ?_ ?_ ?_ ?_)
    · show ((kOf xs : Nat) : Int) = p.k; rw [ek, e]; rfl
    · simp [baseP, ek, n11]
    · simp [baseP, ek, hep.2]
    · exact hk.1.symm
    · show its xs (manyOf xs) (atOf xs) [] = p.it
      rw [show manyOf xs = p.it.length from (many_15 ek l15).trans g15, show atOf xs = 16 by simp [atOf, ek], eit, List.nil_append]
    · exact hk.2.symm
  · have hm : midP p = be 4 p.e.toNat ++ be 4 p.te.toNat := by simp [midP, hasE, e]
    rw [hm, List.append_assoc] at h11
    rw [hk.1, hk.2.1, hk.2.2] at h11
    have n11 : numAt xs 11 4 = p.e := by unfold numAt; rw [num_at (k := 4) (n := p.e.toNat) h11 (by omega) (by omega) (by omega)]; omega
    have d15 : xs.drop 15 = be 4 p.te.toNat ++ T := by
      have : xs.drop 15 = (xs.drop 11).drop 4 := by rw [List.drop_drop]
      rw [this, h11]; exact (drop_app (by simp [be_length])).trans (by simp [linkBytes, itBytes, lsBytes])
    have n15 : numAt xs 15 4 = p.te := by unfold numAt; rw [num_at (k := 4) (n := p.te.toNat) d15 (by omega) (by omega) (by omega)]; omega
    have ek : kOf xs = 3 := by rw [h1, e]; rfl
    refine ⟨?_, by have := congrArg List.length d15; simp [be_length, hT] at this; omega⟩
    unfold readP
    rw [if_neg (by rw [ek]; decide), if_neg (by rw [ek]; decide)]
    refine congrArg some (pk_ext ?_ h2 h3 h4 h5 ?_ ?_ ?_ ?_ ?_)
    · show ((kOf xs : Nat) : Int) = p.k; rw [ek, e]; rfl
    · simp [baseP, ek, n11]
    · simp [baseP, ek, n15]
    · exact hk.1.symm
    · show its xs (manyOf xs) (atOf xs) [] = p.it
      rw [show manyOf xs = 0 by simp [manyOf, ek], hk.2.1]; rfl
    · exact hk.2.2.symm
  · have hm : midP p = be 1 (count p) := by simp [midP, hasE, e]
    have hc : count p = p.ls.length := by unfold count; rw [hk.1, hk.2.1]; simp
    rw [hm] at h11
    rw [hk.1, hk.2.1] at h11
    have g11 : xs.getD 11 0 = p.ls.length := by rw [← getD_drop, h11, be1_get _ _ (by omega), hc]
    have d12 : xs.drop 12 = lsBytes p.ls ++ T := by
      have : xs.drop 12 = (xs.drop 11).drop 1 := by rw [List.drop_drop]
      rw [this, h11]; exact (drop_app (by simp [be_length])).trans (by simp [linkBytes, itBytes])
    have ek : kOf xs = 4 := by rw [h1, e]; rfl
    have els := lss_back T p.ls [] p.ls.length 12 xs 0 hl d12 rfl
    refine ⟨?_, by have := congrArg List.length d12; simp [hT] at this; omega⟩
    unfold readP
    rw [if_neg (by rw [ek]; decide), if_pos ek, show manyOf xs = p.ls.length from (many_11 (by omega) (by omega)).trans g11, show atOf xs = 12 by simp [atOf, ek], els]
    refine congrArg some (pk_ext ?_ h2 h3 h4 h5 ?_ ?_ ?_ ?_ ?_)
    · show ((kOf xs : Nat) : Int) = p.k; rw [ek, e]; rfl
    · simp [baseP, ek, hep.1]
    · simp [baseP, ek, hep.2]
    · exact hk.1.symm
    · exact hk.2.1.symm
    · simp
  · have hm : midP p = be 1 (count p) := by simp [midP, hasE, e]
    have hc : count p = p.it.length := by unfold count; rw [hk.1, hk.2]; simp
    rw [hm] at h11
    rw [hk.1, hk.2] at h11
    have g11 : xs.getD 11 0 = p.it.length := by rw [← getD_drop, h11, be1_get _ _ (by omega), hc]
    have d12 : xs.drop 12 = itBytes p.it ++ T := by
      have : xs.drop 12 = (xs.drop 11).drop 1 := by rw [List.drop_drop]
      rw [this, h11]; exact (drop_app (by simp [be_length])).trans (by simp [linkBytes, lsBytes])
    have ek : kOf xs = 5 := by rw [h1, e]; rfl
    have eit := its_back T p.it [] p.it.length 12 xs 0 hi d12 rfl
    refine ⟨?_, by have := congrArg List.length d12; simp [hT] at this; omega⟩
    unfold readP
    rw [if_neg (by rw [ek]; decide), if_neg (by rw [ek]; decide)]
    refine congrArg some (pk_ext ?_ h2 h3 h4 h5 ?_ ?_ ?_ ?_ ?_)
    · show ((kOf xs : Nat) : Int) = p.k; rw [ek, e]; rfl
    · simp [baseP, ek, hep.1]
    · simp [baseP, ek, hep.2]
    · exact hk.1.symm
    · show its xs (manyOf xs) (atOf xs) [] = p.it
      rw [show manyOf xs = p.it.length from (many_11 (by omega) (by omega)).trans g11, show atOf xs = 12 by simp [atOf, ek], eit, List.nil_append]
    · exact hk.2.symm
theorem getP_back {p : Pk} (h : mayP p = true) : getP (putP p) = some p := by
  obtain ⟨h1, h2⟩ := read_putP h
  unfold getP
  rw [if_neg (by omega), h1]
  simp [h]
theorem getP_iff {xs : List Nat} {p : Pk} : getP xs = some p ↔ mayP p = true ∧ putP p = xs :=
  ⟨getP_sound, fun ⟨h1, h2⟩ => by rw [← h2]; exact getP_back h1⟩
end Go.Proofs.Ytpolpppnajfhdaa.Pkt
