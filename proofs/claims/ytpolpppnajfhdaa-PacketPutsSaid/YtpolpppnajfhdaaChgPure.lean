/- Plain facts on changes (layer 10): which there may be, their bytes, how they are read, that what is put is read, and that no other bytes are. No program is named here. -/
import Derived.Test.YtpolpppnajfhdaaLsaPure
namespace Go.Proofs.Ytpolpppnajfhdaa.Chg
open Go.Proofs.Ytpolpppnajfhdaa.Oct Go.Proofs.Ytpolpppnajfhdaa.Lsa
structure Ch where
  k : Int
  o : Int
  s : Int
  ls : List Lk
  n : Int
  f : Int
def zeroC : Ch := ⟨0, 0, 0, [], 0, 0⟩
def smL (o s : Int) (ls : List Lk) (o' s' : Int) (ls' : List Lk) : Bool := (o == o') && ((s == s') && decide (ls = ls'))
def noL (o s : Int) (ls : List Lk) : Bool := smL o s ls 0 0 []
def same (c d : Ch) : Bool := (c.k == d.k) && ((c.n == d.n) && ((c.f == d.f) && smL c.o c.s c.ls d.o d.s d.ls))
theorem same_iff {c d : Ch} : same c d = true ↔ c = d := by
  obtain ⟨k, o, s, ls, n, f⟩ := c
  obtain ⟨k', o', s', ls', n', f'⟩ := d
  simp only [same, smL, Bool.and_eq_true, beq_iff_eq, decide_eq_true_eq, Ch.mk.injEq]
  constructor
  · rintro ⟨rfl, rfl, rfl, rfl, rfl, rfl⟩
    exact ⟨rfl, rfl, rfl, rfl, rfl, rfl⟩
  · rintro ⟨rfl, rfl, rfl, rfl, rfl, rfl⟩
    exact ⟨rfl, rfl, rfl, rfl, rfl, rfl⟩
theorem same_self (c : Ch) : same c c = true := same_iff.2 rfl
theorem noL_iff {o s : Int} {ls : List Lk} : noL o s ls = true ↔ o = 0 ∧ s = 0 ∧ ls = [] := by
  simp [noL, smL]
def mayC (c : Ch) : Bool :=
  if c.k = 1 then may c.o c.s c.ls && ((c.n == 0) && (c.f == 0))
  else if c.k = 2 then win c.n 4611686018427387904 && ((c.f == 0) && noL c.o c.s c.ls)
  else if c.k = 3 then win c.n 1073741824 && ((c.f == 0) && noL c.o c.s c.ls)
  else if c.k = 4 then win c.f 64 && (win c.n 1073741824 && noL c.o c.s c.ls)
  else false
theorem mayC_kind {c : Ch} (h : mayC c = true) : c.k = 1 ∨ c.k = 2 ∨ c.k = 3 ∨ c.k = 4 := by
  unfold mayC at h
  split at h
  · omega
  · split at h
    · omega
    · split at h
      · omega
      · split at h
        · omega
        · cases h
theorem mayC_1 {o s n f : Int} {ls : List Lk} : mayC ⟨1, o, s, ls, n, f⟩ = (may o s ls && ((n == 0) && (f == 0))) := by simp [mayC]
theorem mayC_2 {o s n f : Int} {ls : List Lk} : mayC ⟨2, o, s, ls, n, f⟩ = (win n 4611686018427387904 && ((f == 0) && noL o s ls)) := by simp [mayC]
theorem mayC_3 {o s n f : Int} {ls : List Lk} : mayC ⟨3, o, s, ls, n, f⟩ = (win n 1073741824 && ((f == 0) && noL o s ls)) := by simp [mayC]
theorem mayC_4 {o s n f : Int} {ls : List Lk} : mayC ⟨4, o, s, ls, n, f⟩ = (win f 64 && (win n 1073741824 && noL o s ls)) := by simp [mayC]
theorem mayC_no {k o s n f : Int} {ls : List Lk} (h1 : k ≠ 1) (h2 : k ≠ 2) (h3 : k ≠ 3) (h4 : k ≠ 4) : mayC ⟨k, o, s, ls, n, f⟩ = false := by simp [mayC, h1, h2, h3, h4]
/-! ### bytes -/
def bodyC (c : Ch) : List Nat :=
  if c.k = 1 then bytesOf c.o c.s c.ls else if c.k = 2 then be 8 c.n.toNat else if c.k = 4 then be 1 c.f.toNat ++ be 4 c.n.toNat else be 4 c.n.toNat
def bytesC (c : Ch) : List Nat := be 1 c.k.toNat ++ bodyC c
def cat (l : List Ch) : List Nat := l.flatMap bytesC
def putC (l : List Ch) : List Nat := be 1 l.length ++ cat l
def okAll (l : List Ch) : Bool := l.all mayC && (decide (1 ≤ l.length) && decide (l.length ≤ 40))
theorem bodyC_lt (c : Ch) : ∀ x ∈ bodyC c, x < 256 := by
  intro x hx
  unfold bodyC at hx
  split at hx
  · exact bytesOf_lt _ _ _ x hx
  · split at hx
    · exact be_lt _ _ x hx
    · split at hx
      · rcases List.mem_append.1 hx with h | h <;> exact be_lt _ _ x h
      · exact be_lt _ _ x hx
theorem bytesC_lt (c : Ch) : ∀ x ∈ bytesC c, x < 256 := by
  intro x hx
  rcases List.mem_append.1 hx with h | h
  · exact be_lt _ _ x h
  · exact bodyC_lt c x h
theorem cat_lt (l : List Ch) : ∀ x ∈ cat l, x < 256 := by
  intro x hx
  obtain ⟨c, _, hc⟩ := List.mem_flatMap.1 hx
  exact bytesC_lt c x hc
theorem putC_lt (l : List Ch) : ∀ x ∈ putC l, x < 256 := by
  intro x hx
  rcases List.mem_append.1 hx with h | h
  · exact be_lt _ _ x h
  · exact cat_lt l x h
theorem bytesC_len {c : Ch} (h : mayC c = true) : 1 ≤ (bytesC c).length ∧ (bytesC c).length ≤ 91 := by
  have hb : (bytesC c).length = 1 + (bodyC c).length := by rw [bytesC, List.length_append, be_length]
  obtain ⟨k, o, s, ls, n, f⟩ := c
  have h90 : (bodyC ⟨k, o, s, ls, n, f⟩).length ≤ 90 := by
    rcases mayC_kind h with h1 | h1 | h1 | h1 <;> simp only at h1 <;> subst h1
    · rw [mayC_1] at h
      simp only [Bool.and_eq_true] at h
      have := (may_iff.1 h.1).2.2.1
      have e : bodyC ⟨1, o, s, ls, n, f⟩ = bytesOf o s ls := by simp [bodyC]
      rw [e, bytesOf_length]
      omega
    · have e : bodyC ⟨2, o, s, ls, n, f⟩ = be 8 n.toNat := by simp [bodyC]
      rw [e, be_length]; omega
    · have e : bodyC ⟨3, o, s, ls, n, f⟩ = be 4 n.toNat := by simp [bodyC]
      rw [e, be_length]; omega
    · have e : bodyC ⟨4, o, s, ls, n, f⟩ = be 1 f.toNat ++ be 4 n.toNat := by simp [bodyC]
      rw [e, List.length_append, be_length, be_length]; omega
  omega
theorem cat_nil : cat [] = [] := rfl
theorem cat_cons (c : Ch) (l : List Ch) : cat (c :: l) = bytesC c ++ cat l := by simp [cat]
theorem cat_app (l : List Ch) (c : Ch) : cat (l ++ [c]) = cat l ++ bytesC c := by simp [cat]
theorem cat_len {l : List Ch} (h : l.all mayC = true) : (cat l).length ≤ 91 * l.length := by
  induction l with
  | nil => simp [cat]
  | cons c l ih =>
    simp only [List.all_cons, Bool.and_eq_true] at h
    have h1 := bytesC_len h.1
    have h2 := ih h.2
    rw [cat_cons, List.length_append, List.length_cons]
    omega
theorem cat_take (l : List Ch) (i : Nat) (h : i < l.length) : cat (l.take (i + 1)) = cat (l.take i) ++ bytesC (l.getD i zeroC) := by
  rw [List.take_succ_eq_append_getElem h, cat_app]
  simp [List.getD, List.getElem?_eq_getElem h]
theorem okAll_iff {l : List Ch} : okAll l = true ↔ l.all mayC = true ∧ 1 ≤ l.length ∧ l.length ≤ 40 := by simp [okAll]
theorem all_step (l : List Ch) (i : Nat) (h : i < l.length) : (l.drop i).all mayC = (mayC (l.getD i zeroC) && (l.drop (i + 1)).all mayC) := by
  rw [drop_at l zeroC i h, List.all_cons]
/-! ### reading -/
def lsaO (st : St) : Int × Int × List Lk := if rOk st = true then rLsa st else (0, 0, [])
def readBody (k : Int) (st : St) : St × Ch :=
  if k = 1 then ((rAll st).1, ⟨k, (lsaO st).1, (lsaO st).2.1, (lsaO st).2.2, 0, 0⟩)
  else if k = 2 then ((rnum st 8).1, ⟨k, 0, 0, [], sgn (rnum st 8).2, 0⟩)
  else if k = 3 then ((rnum st 4).1, ⟨k, 0, 0, [], ((rnum st 4).2 : Nat), 0⟩)
  else if k = 4 then ((rnum (rnum st 1).1 4).1, ⟨k, 0, 0, [], ((rnum (rnum st 1).1 4).2 : Nat), ((rnum st 1).2 : Nat)⟩)
  else (st, ⟨k, 0, 0, [], 0, 0⟩)
def readC (st : St) : St × Ch := readBody ((rnum st 1).2 : Nat) (rnum st 1).1
theorem num_inj : ∀ (xs ys : List Nat) (a b : Nat), xs.length = ys.length → (∀ x ∈ xs, x < 256) → (∀ x ∈ ys, x < 256) → xs.foldl (fun n b => n * 256 + b) a = ys.foldl (fun n b => n * 256 + b) b → a = b ∧ xs = ys
  | [], [], a, b, _, _, _, h => ⟨h, rfl⟩
  | [], y :: ys, _, _, hl, _, _, _ => by simp at hl
  | x :: xs, [], _, _, hl, _, _, _ => by simp at hl
  | x :: xs, y :: ys, a, b, hl, hx, hy, h => by
    have ih := num_inj xs ys (a * 256 + x) (b * 256 + y) (by simpa using hl) (fun z hz => hx z (List.mem_cons_of_mem _ hz)) (fun z hz => hy z (List.mem_cons_of_mem _ hz)) h
    have h1 := hx x List.mem_cons_self
    have h2 := hy y List.mem_cons_self
    refine ⟨by omega, ?_⟩
    rw [ih.2, show x = y by omega]
theorem be_num {xs : List Nat} (hx : ∀ x ∈ xs, x < 256) : be xs.length (num xs) = xs := by
  have h1 := num_be xs.length (num xs)
  rw [Nat.mod_eq_of_lt (num_lt xs hx)] at h1
  exact (num_inj _ _ 0 0 (be_length _ _) (be_lt _ _) hx h1).2
theorem rnum_bytes {st : St} {K : Int} (h : ∀ x ∈ st.1, x < 256) : ∀ x ∈ (rnum st K).1.1, x < 256 := by
  unfold rnum
  split
  · intro x hx
    exact h x (List.mem_of_mem_drop hx)
  · exact h
theorem rnum_sound {st : St} {K : Int} {k : Nat} (hK : K = (k : Int)) (h : ∀ x ∈ st.1, x < 256) (ht : (rnum st K).1.2 = true) : st.1 = be k (rnum st K).2 ++ (rnum st K).1.1 ∧ st.2 = true := by
  subst hK
  unfold rnum at ht ⊢
  split at ht
  · rename_i hc
    rw [if_pos hc]
    simp only [Bool.and_eq_true, decide_eq_true_eq, Int.toNat_natCast] at hc
    simp only [Int.toNat_natCast]
    have hl : (st.1.take k).length = k := by rw [List.length_take]; omega
    have hb := be_num (xs := st.1.take k) (fun x hx => h x (List.mem_of_mem_take hx))
    rw [hl] at hb
    exact ⟨by rw [hb, List.take_append_drop], hc.1.1⟩
  · cases ht
theorem rlks_sound (st : St) (h : ∀ x ∈ st.1, x < 256) : ∀ k, (rlks st k).1.2 = true → st.1 = linkBytes (rlks st k).2 ++ (rlks st k).1.1 ∧ st.2 = true ∧ ∀ x ∈ (rlks st k).1.1, x < 256
  | 0, ht => ⟨by simp [rlks, linkBytes], ht, h⟩
  | k + 1, ht => by
    rw [rlks] at ht ⊢
    generalize hq : rlks st k = q at *
    obtain ⟨t, l⟩ := q
    have ht1 : (rnum (rnum t 1).1 4).1.2 = true := ht
    have hs : t.2 = true := by
      cases h2 : t.2
      · obtain ⟨xs, b⟩ := t
        simp only at h2
        subst h2
        rw [rnum_spoilt, rnum_spoilt] at ht1
        cases ht1
      · rfl
    have ih := rlks_sound st h k (by rw [hq]; exact hs)
    rw [hq] at ih
    obtain ⟨h1, h2, h3⟩ := ih
    simp only at h1 h3
    have b1 := rnum_bytes (K := 1) h3
    have s2 := rnum_sound (K := 4) (k := 4) rfl b1 ht1
    have s1 := rnum_sound (K := 1) (k := 1) rfl h3 s2.2
    refine ⟨?_, h2, rnum_bytes b1⟩
    simp only [rlk]
    rw [h1, s1.1, s2.1]
    simp [linkBytes, lkBytes]
theorem lsa_sound {st : St} (h : ∀ x ∈ st.1, x < 256) (ht : rOk st = true) : st.1 = bytesOf (rLsa st).1 (rLsa st).2.1 (rLsa st).2.2 ++ (rAll st).1.1 ∧ st.2 = true ∧ ∀ x ∈ (rAll st).1.1, x < 256 := by
  unfold rOk at ht
  simp only [Bool.and_eq_true] at ht
  obtain ⟨ht, hm⟩ := ht
  obtain ⟨ho, hs, hn, hl⟩ := may_iff.1 hm
  have b1 : ∀ x ∈ (rOri st).1.1, x < 256 := rnum_bytes h
  have b2 : ∀ x ∈ (rSeq st).1.1, x < 256 := rnum_bytes b1
  have b3 : ∀ x ∈ (rMany st).1.1, x < 256 := rnum_bytes b2
  obtain ⟨q1, q2, q3⟩ := rlks_sound (rMany st).1 b3 (rMany st).2 ht
  have s3 := rnum_sound (st := (rSeq st).1) (K := 1) (k := 1) rfl b2 q2
  have s2 := rnum_sound (st := (rOri st).1) (K := 8) (k := 8) rfl b1 s3.2
  have s1 := rnum_sound (st := st) (K := 1) (k := 1) rfl h s2.2
  have hlen : (rLsa st).2.2.length = (rMany st).2 := rlks_len _ _
  have hsg : (rLsa st).2.1.toNat = (rSeq st).2 := by
    have e : (rLsa st).2.1 = sgn (rSeq st).2 := rfl
    rw [e] at hs ⊢
    unfold sgn at hs ⊢
    split at hs
    · rw [if_pos (by assumption), Int.toNat_natCast]
    · exfalso
      have hlt : (rSeq st).2 < 18446744073709551616 := by
        unfold rSeq rnum
        split
        · have h1 := num_lt ((rOri st).1.1.take (8 : Int).toNat) (fun x hx => b1 x (List.mem_of_mem_take hx))
          have h2 : ((rOri st).1.1.take (8 : Int).toNat).length ≤ 8 := by rw [List.length_take]; simp; omega
          exact Nat.lt_of_lt_of_le h1 (Nat.pow_le_pow_right (by decide) h2)
        · show (0 : Nat) < _
          decide
      omega
  have hor : (rLsa st).1.toNat = (rOri st).2 := by
    have e : (rLsa st).1 = ((rOri st).2 : Nat) := rfl
    rw [e, Int.toNat_natCast]
  refine ⟨?_, s1.2, q3⟩
  rw [bytesOf, headBytes, hlen, hsg, hor]
  have e1 : st.1 = be 1 (rOri st).2 ++ (rOri st).1.1 := s1.1
  have e2 : (rOri st).1.1 = be 8 (rSeq st).2 ++ (rSeq st).1.1 := s2.1
  have e3 : (rSeq st).1.1 = be 1 (rMany st).2 ++ (rMany st).1.1 := s3.1
  have e4 : (rMany st).1.1 = linkBytes (rLsa st).2.2 ++ (rAll st).1.1 := q1
  rw [e1, e2, e3, e4]
  simp
theorem body_sound (k : Int) (st : St) (h : ∀ x ∈ st.1, x < 256) (ht : (readBody k st).1.2 = true) (hm : mayC (readBody k st).2 = true) : st.1 = bodyC (readBody k st).2 ++ (readBody k st).1.1 ∧ st.2 = true ∧ (readBody k st).2.k = k ∧ ∀ x ∈ (readBody k st).1.1, x < 256 := by
  have hk : (readBody k st).2.k = k := by
    unfold readBody
    by_cases h1 : k = 1
    · rw [if_pos h1]
    · rw [if_neg h1]
      by_cases h2 : k = 2
      · rw [if_pos h2]
      · rw [if_neg h2]
        by_cases h3 : k = 3
        · rw [if_pos h3]
        · rw [if_neg h3]
          by_cases h4 : k = 4
          · rw [if_pos h4]
          · rw [if_neg h4]
  rcases mayC_kind hm with h1 | h1 | h1 | h1 <;> rw [hk] at h1 <;> subst h1
  · have e : readBody 1 st = ((rAll st).1, ⟨1, (lsaO st).1, (lsaO st).2.1, (lsaO st).2.2, 0, 0⟩) := by simp [readBody]
    rw [e] at hm ht ⊢
    rw [mayC_1] at hm
    simp only [Bool.and_eq_true] at hm
    have hok : rOk st = true := by
      cases hq : rOk st
      · exfalso
        have e0 : lsaO st = (0, 0, []) := by rw [lsaO, hq]; simp
        rw [e0] at hm
        have := (may_iff.1 hm.1).1
        omega
      · rfl
    have eo : lsaO st = rLsa st := by rw [lsaO, if_pos hok]
    obtain ⟨q1, q2, q3⟩ := lsa_sound h hok
    refine ⟨?_, q2, rfl, q3⟩
    have eb : bodyC ⟨1, (lsaO st).1, (lsaO st).2.1, (lsaO st).2.2, 0, 0⟩ = bytesOf (lsaO st).1 (lsaO st).2.1 (lsaO st).2.2 := by simp [bodyC]
    rw [eb, eo]
    exact q1
  · have e : readBody 2 st = ((rnum st 8).1, ⟨2, 0, 0, [], sgn (rnum st 8).2, 0⟩) := by simp [readBody]
    rw [e] at hm ht ⊢
    have q := rnum_sound (K := 8) (k := 8) rfl h ht
    refine ⟨?_, q.2, rfl, rnum_bytes h⟩
    have eb : bodyC ⟨2, 0, 0, [], sgn (rnum st 8).2, 0⟩ = be 8 (sgn (rnum st 8).2).toNat := by simp [bodyC]
    rw [eb]
    rw [mayC_2] at hm
    simp only [Bool.and_eq_true] at hm
    have hw := win_iff.1 hm.1
    have hsg : (sgn (rnum st 8).2).toNat = (rnum st 8).2 := by
      unfold sgn at hw ⊢
      split at hw
      · rw [if_pos (by assumption), Int.toNat_natCast]
      · exfalso
        have hlt : (rnum st 8).2 < 18446744073709551616 := by
          unfold rnum
          split
          · have h1 := num_lt (st.1.take (8 : Int).toNat) (fun x hx => h x (List.mem_of_mem_take hx))
            have h2 : (st.1.take (8 : Int).toNat).length ≤ 8 := by rw [List.length_take]; simp; omega
            exact Nat.lt_of_lt_of_le h1 (Nat.pow_le_pow_right (by decide) h2)
          · show (0 : Nat) < _
            decide
        omega
    rw [hsg]
    exact q.1
  · have e : readBody 3 st = ((rnum st 4).1, ⟨3, 0, 0, [], ((rnum st 4).2 : Nat), 0⟩) := by simp [readBody]
    rw [e] at hm ht ⊢
    have q := rnum_sound (K := 4) (k := 4) rfl h ht
    refine ⟨?_, q.2, rfl, rnum_bytes h⟩
    have eb : bodyC ⟨3, 0, 0, [], ((rnum st 4).2 : Nat), 0⟩ = be 4 (rnum st 4).2 := by simp [bodyC]
    rw [eb]
    exact q.1
  · have e : readBody 4 st = ((rnum (rnum st 1).1 4).1, ⟨4, 0, 0, [], ((rnum (rnum st 1).1 4).2 : Nat), ((rnum st 1).2 : Nat)⟩) := by simp [readBody]
    rw [e] at hm ht ⊢
    have q2 := rnum_sound (K := 4) (k := 4) rfl (rnum_bytes h) ht
    have q1 := rnum_sound (K := 1) (k := 1) rfl h q2.2
    refine ⟨?_, q1.2, rfl, rnum_bytes (rnum_bytes h)⟩
    have eb : bodyC ⟨4, 0, 0, [], ((rnum (rnum st 1).1 4).2 : Nat), ((rnum st 1).2 : Nat)⟩ = be 1 (rnum st 1).2 ++ be 4 (rnum (rnum st 1).1 4).2 := by simp [bodyC]
    rw [eb, List.append_assoc, ← q2.1]
    exact q1.1
theorem readC_sound (st : St) (h : ∀ x ∈ st.1, x < 256) (ht : (readC st).1.2 = true) (hm : mayC (readC st).2 = true) : st.1 = bytesC (readC st).2 ++ (readC st).1.1 ∧ st.2 = true ∧ ∀ x ∈ (readC st).1.1, x < 256 := by
  obtain ⟨q1, q2, q3, q4⟩ := body_sound _ _ (rnum_bytes (K := 1) h) ht hm
  have q := rnum_sound (K := 1) (k := 1) rfl h q2
  refine ⟨?_, q.2, q4⟩
  have hk : (readC st).2.k = ((rnum st 1).2 : Nat) := q3
  rw [bytesC, hk, Int.toNat_natCast, List.append_assoc]
  refine q.1.trans ?_
  congr 1
theorem readC_back (c : Ch) (more : List Nat) (h : mayC c = true) : readC (bytesC c ++ more, true) = ((more, true), c) := by
  obtain ⟨k, o, s, ls, n, f⟩ := c
  have hk := mayC_kind h
  simp only at hk
  have e1 : rnum (bytesC ⟨k, o, s, ls, n, f⟩ ++ more, true) 1 = ((bodyC ⟨k, o, s, ls, n, f⟩ ++ more, true), k.toNat) := by
    rw [bytesC, List.append_assoc]
    exact rnum_be (K := 1) (k := 1) (n := k.toNat) rfl _ (by omega) (by omega) (by omega)
  rw [readC, e1]
  simp only
  rw [Int.toNat_of_nonneg (by omega)]
  rcases hk with rfl | rfl | rfl | rfl
  · rw [mayC_1] at h
    simp only [Bool.and_eq_true, beq_iff_eq] at h
    obtain ⟨h1, rfl, rfl⟩ := h
    obtain ⟨r1, r2, r3⟩ := read_back o s ls more h1
    have eb : bodyC ⟨1, o, s, ls, 0, 0⟩ = bytesOf o s ls := by simp [bodyC]
    rw [eb]
    simp [readBody, lsaO, r1, r2, r3]
  · rw [mayC_2] at h
    simp only [Bool.and_eq_true, beq_iff_eq] at h
    obtain ⟨h1, rfl, h3⟩ := h
    obtain ⟨rfl, rfl, rfl⟩ := noL_iff.1 h3
    have hw := win_iff.1 h1
    have eb : bodyC ⟨2, 0, 0, [], n, 0⟩ = be 8 n.toNat := by simp [bodyC]
    have e2 := rnum_be (K := 8) (k := 8) (n := n.toNat) rfl more (by omega) (by omega) (by omega)
    rw [eb]
    have e3 : sgn n.toNat = n := by
      unfold sgn
      rw [if_pos (by omega), Int.toNat_of_nonneg (by omega)]
    simp [readBody, e2, e3]
  · rw [mayC_3] at h
    simp only [Bool.and_eq_true, beq_iff_eq] at h
    obtain ⟨h1, rfl, h3⟩ := h
    obtain ⟨rfl, rfl, rfl⟩ := noL_iff.1 h3
    have hw := win_iff.1 h1
    have eb : bodyC ⟨3, 0, 0, [], n, 0⟩ = be 4 n.toNat := by simp [bodyC]
    have e2 := rnum_be (K := 4) (k := 4) (n := n.toNat) rfl more (by omega) (by omega) (by omega)
    rw [eb]
    simp [readBody, e2]
    omega
  · rw [mayC_4] at h
    simp only [Bool.and_eq_true] at h
    obtain ⟨h1, h2, h3⟩ := h
    obtain ⟨rfl, rfl, rfl⟩ := noL_iff.1 h3
    have hw := win_iff.1 h1
    have hw2 := win_iff.1 h2
    have eb : bodyC ⟨4, 0, 0, [], n, f⟩ = be 1 f.toNat ++ be 4 n.toNat := by simp [bodyC]
    have e2 := rnum_be (K := 1) (k := 1) (n := f.toNat) rfl (be 4 n.toNat ++ more) (by omega) (by omega) (by omega)
    have e3 := rnum_be (K := 4) (k := 4) (n := n.toNat) rfl more (by omega) (by omega) (by omega)
    rw [eb, List.append_assoc]
    simp [readBody, e2, e3]
    omega
/-! ### all -/
def reads (st : St) : Nat → Option (St × List Ch)
  | 0 => some (st, [])
  | k + 1 => match reads st k with
    | none => none
    | some (t, l) => if mayC (readC t).2 = true then some ((readC t).1, l ++ [(readC t).2]) else none
def getC (xs : List Nat) : Option (List Ch) :=
  if 1 ≤ (rnum (xs, true) 1).2 ∧ (rnum (xs, true) 1).2 ≤ 40 then
    match reads (rnum (xs, true) 1).1 (rnum (xs, true) 1).2 with
    | none => none
    | some (t, l) => if (t.2 && decide (t.1.length = 0)) = true then some l else none
  else none
theorem reads_yes {st t : St} {l : List Ch} {k : Nat} (h : reads st k = some (t, l)) (hm : mayC (readC t).2 = true) : reads st (k + 1) = some ((readC t).1, l ++ [(readC t).2]) := by
  simp only [reads, h, hm, if_pos]
theorem reads_no {st t : St} {l : List Ch} {k : Nat} (h : reads st k = some (t, l)) (hm : mayC (readC t).2 = false) : reads st (k + 1) = none := by
  simp [reads, h, hm]
theorem reads_none {st : St} {k m : Nat} (h : reads st k = none) (hk : k ≤ m) : reads st m = none := by
  obtain ⟨d, rfl⟩ : ∃ d, m = k + d := ⟨m - k, by omega⟩
  clear hk
  induction d with
  | zero => exact h
  | succ d ih => rw [← Nat.add_assoc, reads, ih]
theorem reads_len {st : St} : ∀ {k : Nat} {t : St} {l : List Ch}, reads st k = some (t, l) → l.length = k
  | 0, t, l, h => by
    simp only [reads, Option.some.injEq, Prod.mk.injEq] at h
    rw [← h.2]; rfl
  | k + 1, t, l, h => by
    cases hq : reads st k with
    | none => simp [reads, hq] at h
    | some p =>
      obtain ⟨t', l'⟩ := p
      have ih := reads_len hq
      simp only [reads, hq] at h
      split at h
      · simp only [Option.some.injEq, Prod.mk.injEq] at h
        rw [← h.2]; simp [ih]
      · cases h
theorem readC_false (st : St) (h : st.2 = false) : (readC st).1.2 = false := by
  obtain ⟨xs, b⟩ := st
  simp only at h
  subst h
  rw [readC, rnum_spoilt]
  rfl
theorem reads_sound {st : St} (hx : ∀ x ∈ st.1, x < 256) : ∀ {k : Nat} {t : St} {l : List Ch}, reads st k = some (t, l) → t.2 = true → st.1 = cat l ++ t.1 ∧ st.2 = true ∧ l.all mayC = true ∧ ∀ x ∈ t.1, x < 256
  | 0, t, l, h, ht => by
    simp only [reads, Option.some.injEq, Prod.mk.injEq] at h
    obtain ⟨rfl, rfl⟩ := h
    exact ⟨rfl, ht, rfl, hx⟩
  | k + 1, t, l, h, ht => by
    cases hq : reads st k with
    | none => simp [reads, hq] at h
    | some p =>
      obtain ⟨t', l'⟩ := p
      simp only [reads, hq] at h
      split at h
      · rename_i hm
        simp only [Option.some.injEq, Prod.mk.injEq] at h
        obtain ⟨rfl, rfl⟩ := h
        have ht' : t'.2 = true := by
          cases h2 : t'.2
          · rw [readC_false t' h2] at ht; cases ht
          · rfl
        obtain ⟨i1, i2, i3, i4⟩ := reads_sound hx hq ht'
        obtain ⟨s1, s2, s3⟩ := readC_sound t' i4 ht hm
        refine ⟨?_, i2, by simp [i3, hm], s3⟩
        rw [i1, cat_app, List.append_assoc, ← s1]
      · cases h
theorem reads_back (l : List Ch) (more : List Nat) (h : l.all mayC = true) : ∀ k, k ≤ l.length → reads (cat l ++ more, true) k = some ((cat (l.drop k) ++ more, true), l.take k)
  | 0, _ => by simp [reads]
  | k + 1, hk => by
    have hm : mayC (l.getD k zeroC) = true := by
      rw [List.all_eq_true] at h
      refine h _ ?_
      simp only [List.getD, List.getElem?_eq_getElem (show k < l.length by omega), Option.getD_some]
      exact List.getElem_mem _
    have hr := readC_back (l.getD k zeroC) (cat (l.drop (k + 1)) ++ more) hm
    have hc : cat (l.drop k) ++ more = bytesC (l.getD k zeroC) ++ (cat (l.drop (k + 1)) ++ more) := by
      rw [drop_at l zeroC k (by omega), cat_cons, List.append_assoc]
    have := reads_yes (reads_back l more h k (by omega)) (by rw [hc, hr]; exact hm)
    rw [this, hc, hr, List.take_succ_eq_append_getElem (show k < l.length by omega)]
    simp [List.getD, List.getElem?_eq_getElem (show k < l.length by omega)]
theorem getC_sound {xs : List Nat} {l : List Ch} (hx : ∀ x ∈ xs, x < 256) (h : getC xs = some l) : okAll l = true ∧ putC l = xs := by
  unfold getC at h
  split at h
  · rename_i hm
    cases hq : reads (rnum (xs, true) 1).1 (rnum (xs, true) 1).2 with
    | none => simp [hq] at h
    | some p =>
      obtain ⟨t, l'⟩ := p
      simp only [hq] at h
      split at h
      · rename_i hd
        simp only [Option.some.injEq] at h
        subst h
        simp only [Bool.and_eq_true, decide_eq_true_eq] at hd
        obtain ⟨i1, i2, i3, i4⟩ := reads_sound (rnum_bytes (K := 1) (st := (xs, true)) hx) hq hd.1
        have hl := reads_len hq
        have s1 := rnum_sound (st := (xs, true)) (K := 1) (k := 1) rfl hx i2
        refine ⟨okAll_iff.2 ⟨i3, by omega, by omega⟩, ?_⟩
        have ht : t.1 = [] := List.eq_nil_of_length_eq_zero hd.2
        rw [ht, List.append_nil] at i1
        rw [putC, hl, ← i1]
        exact s1.1.symm
      · cases h
  · cases h
theorem getC_back {l : List Ch} (h : okAll l = true) : getC (putC l) = some l := by
  obtain ⟨h1, h2, h3⟩ := okAll_iff.1 h
  have e1 : rnum (putC l, true) 1 = ((cat l, true), l.length) := rnum_be (K := 1) (k := 1) (n := l.length) rfl _ (by omega) (by omega) (by omega)
  have e2 := reads_back l [] h1 l.length (Nat.le_refl _)
  rw [List.append_nil, List.drop_length, List.take_length] at e2
  unfold getC
  rw [e1]
  simp only [h2, h3, and_self, if_true, e2]
  simp [cat]
/-! ### the reference's way -/
def takes (r : List Nat) : Nat → Option (List Nat × List Ch)
  | 0 => some (r, [])
  | k + 1 => match takes r k with
    | none => none
    | some (q, l) => if mayC (readC (q, true)).2 = true ∧ (bytesC (readC (q, true)).2).length ≤ q.length then some (q.drop (bytesC (readC (q, true)).2).length, l ++ [(readC (q, true)).2]) else none
def getR (xs : List Nat) : Option (List Ch) :=
  if xs = [] then none else
    match takes (xs.drop 1) (min (xs.getD 0 0) 41) with
    | none => none
    | some (_, l) => if okAll l = true ∧ putC l = xs then some l else none
theorem takes_yes {r q : List Nat} {l : List Ch} {k : Nat} (h : takes r k = some (q, l)) (hm : mayC (readC (q, true)).2 = true) (hl : (bytesC (readC (q, true)).2).length ≤ q.length) : takes r (k + 1) = some (q.drop (bytesC (readC (q, true)).2).length, l ++ [(readC (q, true)).2]) := by
  simp only [takes, h, hm, hl, and_self, if_true]
theorem takes_no {r q : List Nat} {l : List Ch} {k : Nat} (h : takes r k = some (q, l)) (hm : ¬ (mayC (readC (q, true)).2 = true ∧ (bytesC (readC (q, true)).2).length ≤ q.length)) : takes r (k + 1) = none := by
  simp only [takes, h, hm, if_false]
theorem takes_none {r : List Nat} {k m : Nat} (h : takes r k = none) (hk : k ≤ m) : takes r m = none := by
  obtain ⟨d, rfl⟩ : ∃ d, m = k + d := ⟨m - k, by omega⟩
  clear hk
  induction d with
  | zero => exact h
  | succ d ih => rw [← Nat.add_assoc, takes, ih]
theorem takes_back (l : List Ch) (h : l.all mayC = true) : ∀ k, k ≤ l.length → takes (cat l) k = some (cat (l.drop k), l.take k)
  | 0, _ => by simp [takes]
  | k + 1, hk => by
    have hm : mayC (l.getD k zeroC) = true := by
      rw [List.all_eq_true] at h
      refine h _ ?_
      simp only [List.getD, List.getElem?_eq_getElem (show k < l.length by omega), Option.getD_some]
      exact List.getElem_mem _
    have hr := readC_back (l.getD k zeroC) (cat (l.drop (k + 1))) hm
    have hc : cat (l.drop k) = bytesC (l.getD k zeroC) ++ cat (l.drop (k + 1)) := by
      rw [drop_at l zeroC k (by omega), cat_cons]
    have := takes_yes (takes_back l h k (by omega)) (by rw [hc, hr]; exact hm) (by rw [hc, hr, List.length_append]; simp only; omega)
    rw [this, hc, hr, List.take_succ_eq_append_getElem (show k < l.length by omega), List.drop_left]
    simp [List.getD, List.getElem?_eq_getElem (show k < l.length by omega)]
theorem getR_back {l : List Ch} (h : okAll l = true) : getR (putC l) = some l := by
  obtain ⟨h1, h2, h3⟩ := okAll_iff.1 h
  have e0 : be 1 l.length = [l.length] := by simp [be]; omega
  have ep : putC l = l.length :: cat l := by rw [putC, e0]; rfl
  have e2 := takes_back l h1 l.length (Nat.le_refl _)
  rw [List.drop_length, List.take_length] at e2
  unfold getR
  rw [ep]
  have em : min l.length 41 = l.length := by omega
  simp [em, e2, h, ep]
theorem getR_sound {xs : List Nat} {l : List Ch} (h : getR xs = some l) : okAll l = true ∧ putC l = xs := by
  unfold getR at h
  split at h
  · cases h
  · split at h
    · cases h
    · split at h
      · rename_i hh
        simp only [Option.some.injEq] at h
        subst h
        exact hh
      · cases h
/-- the code and the reference get the same -/
theorem get_eq {xs : List Nat} (hx : ∀ x ∈ xs, x < 256) : getC xs = getR xs := by
  cases h : getC xs with
  | some l =>
    obtain ⟨h1, h2⟩ := getC_sound hx h
    rw [← h2, getR_back h1]
  | none =>
    cases h' : getR xs with
    | none => rfl
    | some l =>
      obtain ⟨h1, h2⟩ := getR_sound h'
      rw [← h2, getC_back h1] at h
      cases h
end Go.Proofs.Ytpolpppnajfhdaa.Chg
