/- Plain facts on states (layer 11): their bytes, and that no two states that may be have the same. No program is named here. -/
import Derived.Test.YtpolpppnajfhdaaBasePure
namespace Go.Proofs.Ytpolpppnajfhdaa.Bas
open Go.Proofs.Ytpolpppnajfhdaa.Oct Go.Proofs.Ytpolpppnajfhdaa.Lsa Go.Proofs.Ytpolpppnajfhdaa.Chg
def laBytes (a : La) : List Nat := bytesOf a.o a.s a.ls
def dbBytes (db : List La) : List Nat := db.flatMap laBytes
def headS (s : Sta) : List Nat := be 8 s.up.toNat ++ be 4 s.bo.toNat
def bytesS (s : Sta) : List Nat := headS s ++ (be 1 s.db.length ++ (dbBytes s.db ++ (be 1 s.ep.length ++ linkBytes s.ep)))
theorem be_inj {k n m : Nat} (h : be k n = be k m) (hn : n < 256 ^ k) (hm : m < 256 ^ k) : n = m := by
  have := congrArg num h
  rw [num_be, num_be, Nat.mod_eq_of_lt hn, Nat.mod_eq_of_lt hm] at this
  exact this
theorem nat_inj {a b : Int} (ha : 0 ≤ a) (hb : 0 ≤ b) (h : a.toNat = b.toNat) : a = b := by omega
theorem cut_eq {a b x y : List Nat} (h : a ++ x = b ++ y) (hl : a.length = b.length) : a = b ∧ x = y := List.append_inj h hl
theorem be_cut {k n m : Nat} {x y : List Nat} (h : be k n ++ x = be k m ++ y) (hn : n < 256 ^ k) (hm : m < 256 ^ k) : n = m ∧ x = y := by
  obtain ⟨h1, h2⟩ := cut_eq h (by rw [be_length, be_length])
  exact ⟨be_inj h1 hn hm, h2⟩
/-- a link, or an epoch, whose bytes are told apart -/
def Fits (k : Lk) : Prop := (0 ≤ k.1 ∧ k.1 < 256) ∧ 0 ≤ k.2 ∧ k.2 < 4294967296
theorem lk_cut {k l : Lk} {x y : List Nat} (h : lkBytes k ++ x = lkBytes l ++ y) (hk : Fits k) (hl : Fits l) : k = l ∧ x = y := by
  unfold lkBytes at h
  rw [List.append_assoc, List.append_assoc] at h
  obtain ⟨h1, h⟩ := be_cut h (by have := hk.1; omega) (by have := hl.1; omega)
  obtain ⟨h2, h⟩ := be_cut h (by have := hk.2; omega) (by have := hl.2; omega)
  exact ⟨Prod.ext (nat_inj hk.1.1 hl.1.1 h1) (nat_inj hk.2.1 hl.2.1 h2), h⟩
theorem links_cut : ∀ {ks ls : List Lk} {x y : List Nat}, linkBytes ks ++ x = linkBytes ls ++ y → ks.length = ls.length → (∀ k ∈ ks, Fits k) → (∀ k ∈ ls, Fits k) → ks = ls ∧ x = y
  | [], [], x, y, h, _, _, _ => ⟨rfl, h⟩
  | [], l :: r, _, _, _, hl, _, _ => by simp at hl
  | k :: r, [], _, _, _, hl, _, _ => by simp at hl
  | k :: r, l :: q, x, y, h, hl, h1, h2 => by
    unfold linkBytes at h
    rw [List.flatMap_cons, List.flatMap_cons, List.append_assoc, List.append_assoc] at h
    obtain ⟨e1, h⟩ := lk_cut h (h1 k (List.mem_cons_self ..)) (h2 l (List.mem_cons_self ..))
    obtain ⟨e2, h⟩ := links_cut (ks := r) (ls := q) h (by simpa using hl) (fun z hz => h1 z (List.mem_cons_of_mem _ hz)) (fun z hz => h2 z (List.mem_cons_of_mem _ hz))
    exact ⟨by rw [e1, e2], h⟩
theorem link_fits {o last : Int} {ls : List Lk} (h : linksOk o last ls = true) : ∀ k ∈ ls, Fits k := by
  intro k hk
  have := linksOk_all h k hk
  exact ⟨by omega, by omega⟩
theorem la_cut {a b : La} {x y : List Nat} (h : laBytes a ++ x = laBytes b ++ y) (ha : laOk a = true) (hb : laOk b = true) : a = b ∧ x = y := by
  obtain ⟨o, s, ls⟩ := a
  obtain ⟨o', s', ls'⟩ := b
  obtain ⟨a1, a2, a3, a4⟩ := laOk_iff.1 ha
  obtain ⟨b1, b2, b3, b4⟩ := laOk_iff.1 hb
  simp only at a1 a2 a3 a4 b1 b2 b3 b4
  unfold laBytes bytesOf headBytes at h
  simp only [List.append_assoc] at h
  obtain ⟨h1, h⟩ := be_cut h (by omega) (by omega)
  obtain ⟨h2, h⟩ := be_cut h (by omega) (by omega)
  obtain ⟨h3, h⟩ := be_cut h (by omega) (by omega)
  obtain ⟨h4, h⟩ := links_cut h h3 (link_fits a4) (link_fits b4)
  rw [nat_inj (by omega) (by omega) h1, nat_inj (by omega) (by omega) h2, h4]
  exact ⟨rfl, h⟩
theorem db_cut : ∀ {d e : List La} {x y : List Nat}, dbBytes d ++ x = dbBytes e ++ y → d.length = e.length → (∀ a ∈ d, laOk a = true) → (∀ a ∈ e, laOk a = true) → d = e ∧ x = y
  | [], [], x, y, h, _, _, _ => ⟨rfl, h⟩
  | [], l :: r, _, _, _, hl, _, _ => by simp at hl
  | k :: r, [], _, _, _, hl, _, _ => by simp at hl
  | k :: r, l :: q, x, y, h, hl, h1, h2 => by
    unfold dbBytes at h
    rw [List.flatMap_cons, List.flatMap_cons, List.append_assoc, List.append_assoc] at h
    obtain ⟨e1, h⟩ := la_cut h (h1 k (List.mem_cons_self ..)) (h2 l (List.mem_cons_self ..))
    obtain ⟨e2, h⟩ := db_cut (d := r) (e := q) h (by simpa using hl) (fun z hz => h1 z (List.mem_cons_of_mem _ hz)) (fun z hz => h2 z (List.mem_cons_of_mem _ hz))
    exact ⟨by rw [e1, e2], h⟩
theorem dbOk_all : ∀ {db : List La} {last : Int}, dbOk last db = true → ∀ a ∈ db, laOk a = true
  | [], _, _, a, ha => by cases ha
  | b :: r, last, h, a, ha => by
    simp only [dbOk, Bool.and_eq_true] at h
    rcases List.mem_cons.1 ha with rfl | ha
    · exact h.1
    · exact dbOk_all h.2.2 a ha
theorem dbOk_len : ∀ {db : List La} {last : Int}, dbOk last db = true → 0 ≤ last → last ≤ 64 → last + db.length ≤ 64
  | [], last, _, _, h => by simpa using h
  | b :: r, last, h, h0, _ => by
    simp only [dbOk, Bool.and_eq_true, decide_eq_true_eq] at h
    have hb := (laOk_iff.1 h.1).1
    have := dbOk_len h.2.2 (by omega) (by omega)
    simp only [List.length_cons]
    omega
theorem epOk_all : ∀ {l : List (Int × Int)} {last : Int}, epOk last l = true → ∀ a ∈ l, Fits a
  | [], _, _, a, ha => by cases ha
  | b :: r, last, h, a, ha => by
    simp only [epOk, epOne, Bool.and_eq_true, decide_eq_true_eq] at h
    rcases List.mem_cons.1 ha with rfl | ha
    · have h1 := win_iff.1 h.1.1
      have h2 := win_iff.1 h.1.2.1
      exact ⟨by omega, by omega⟩
    · exact epOk_all h.2 a ha
theorem epOk_len : ∀ {l : List (Int × Int)} {last : Int}, epOk last l = true → 0 ≤ last → last ≤ 64 → last + l.length ≤ 64
  | [], last, _, _, h => by simpa using h
  | b :: r, last, h, h0, _ => by
    simp only [epOk, epOne, Bool.and_eq_true, decide_eq_true_eq] at h
    have h1 := win_iff.1 h.1.1
    have := epOk_len h.2 (by omega) (by omega)
    simp only [List.length_cons]
    omega
/-- no two states that may be have the same bytes -/
theorem bytesS_inj {s t : Sta} (hs : mayS s = true) (ht : mayS t = true) (h : bytesS s = bytesS t) : s = t := by
  obtain ⟨d, u, b, e⟩ := s
  obtain ⟨d', u', b', e'⟩ := t
  obtain ⟨s1, s2, s3, s4⟩ := mayS_iff.1 hs
  obtain ⟨t1, t2, t3, t4⟩ := mayS_iff.1 ht
  simp only at s1 s2 s3 s4 t1 t2 t3 t4
  have l1 := dbOk_len s1 (by omega) (by omega)
  have l2 := dbOk_len t1 (by omega) (by omega)
  have l3 := epOk_len s2 (by omega) (by omega)
  have l4 := epOk_len t2 (by omega) (by omega)
  unfold bytesS headS at h
  simp only [List.append_assoc] at h
  obtain ⟨h1, h⟩ := be_cut h (by omega) (by omega)
  obtain ⟨h2, h⟩ := be_cut h (by omega) (by omega)
  obtain ⟨h3, h⟩ := be_cut h (by omega) (by omega)
  obtain ⟨h4, h⟩ := db_cut h h3 (dbOk_all s1) (dbOk_all t1)
  obtain ⟨h5, h⟩ := be_cut h (by omega) (by omega)
  obtain ⟨h6, _⟩ := links_cut (x := []) (y := []) (by rw [List.append_nil, List.append_nil]; exact h) h5 (epOk_all s2) (epOk_all t2)
  rw [nat_inj (by omega) (by omega) h1, nat_inj (by omega) (by omega) h2, h4, h6]
theorem dbBytes_lt (db : List La) : ∀ x ∈ dbBytes db, x < 256 := by
  intro x hx
  obtain ⟨a, _, ha⟩ := List.mem_flatMap.1 hx
  exact bytesOf_lt a.o a.s a.ls x ha
theorem bytesS_lt (s : Sta) : ∀ x ∈ bytesS s, x < 256 := by
  intro x hx
  unfold bytesS headS at hx
  simp only [List.mem_append] at hx
  rcases hx with (h | h) | h | h | h | h
  · exact be_lt _ _ x h
  · exact be_lt _ _ x h
  · exact be_lt _ _ x h
  · exact dbBytes_lt _ x h
  · exact be_lt _ _ x h
  · exact linkBytes_lt _ x h
theorem bytesS_zero : (bytesS zeroS).length = 14 := by
  unfold bytesS headS zeroS dbBytes linkBytes
  simp [be_length]
end Go.Proofs.Ytpolpppnajfhdaa.Bas
