/- RefNumH: the texts PkRefNum, PkRefGetH in one. (Printed by tools/mergeall.py.) -/
import Derived.Test.YtpolpppnajfhdaaPgGotAll
import Derived.Test.YtpolpppnajfhdaaPgLsaRead
import Derived.Test.YtpolpppnajfhdaaPgLsaRefPut
import Derived.Test.YtpolpppnajfhdaaPgLsaRefRead
import Derived.Test.YtpolpppnajfhdaaPgPkBack
import Derived.Test.YtpolpppnajfhdaaPgPkRefPut
import Derived.Test.YtpolpppnajfhdaaPgRefReads
import Derived.Test.YtpolpppnajfhdaaPgSame
import Derived.Deep.Cut
import Derived.Deep.CutRange
import Derived.Deep.RegionHeld3
import Derived.Deep.RegionLaw
import Derived.IntWalk
/- A number at a place (layer 14): the contract of the reference's num. -/
namespace Go.Proofs.Ytpolpppnajfhdaa.Pkt
open Go.RowKit Go.Proofs.Ytpolpppnajfhdaa.Mem Go.Proofs.Ytpolpppnajfhdaa.Lsa Go.Proofs.Ytpolpppnajfhdaa.Oct
set_option linter.unusedVariables false
set_option linter.unusedSimpArgs false
theorem rnum_big {xs : List Nat} (h : ∀ x ∈ xs, x < 256) (k : Nat) (hk : k ≤ 8) : (rnum (xs, true) (k : Int)).2 < 18446744073709551616 := by
  unfold rnum
  split
  · next hc =>
    simp only [Bool.and_eq_true, decide_eq_true_eq] at hc
    have h1 := num_lt (xs.take k) (fun x hx => h x (List.mem_of_mem_take hx))
    have h2 : (xs.take k).length ≤ 8 := by rw [List.length_take]; omega
    have h3 : 256 ^ (xs.take k).length ≤ 256 ^ 8 := Nat.pow_le_pow_right (by omega) h2
    have h4 : 256 ^ 8 = 18446744073709551616 := by decide
    simp only [Int.toNat_natCast]
    omega
  · exact (by decide : 0 < 18446744073709551616)
theorem rnum_pk (v : Value) (xs : List Nat) (at_ k : Nat) (w : World) (h : Sl w w.heap.size v xs) (hl : at_ ≤ xs.length) (hk : k ≤ 8) :
    Calls Try.prog 40 #[v, .int .i64 (at_ : Nat), .int .i64 (k : Nat)] w fun e w' => e = .returned (.int .i64 (sgn (rnum (xs.drop at_, true) (k : Int)).2)) ∧ Below w.heap.size w w' := by
  have hxl := h.lt
  obtain ⟨A, n, c, rfl, _⟩ := id h
  have hb := rnum_big (xs := xs.drop at_) (fun x hx => hxl x (List.mem_of_mem_drop hx)) k hk
  have RN := Lib.hid (refread_any (.slice A n c) xs at_ true (k : Int) w h hl)
  have e0 : (rval (.slice A n c) at_ true) = .agg #[.slice A n c, .int .i64 (at_ : Nat), .bool false] := rfl
  rewrite [e0] at RN
  have hsg := sgn_wrap hb
  obtain ⟨N, hN⟩ : ∃ N, N = (rnum (xs.drop at_, true) (k : Int)).2 := ⟨_, rfl⟩
  rewrite [← hN] at hsg hb ⊢
  have HN := Lib.hid hN; clear hN
  have HSG := hsg
  clear h hxl hl hsg e0
  go_enter Try.func40, Try.ntmps40
  go_wp2_with (go_at_call 62; refine (RN.out).mono ?_; rintro e w1 ⟨at', hat, hys, rfl, hbel⟩; unfold rval; rewrite [← HN.out]; have HB := Lib.hid hbel; clear hbel hat hys)
  go_ret
  refine ⟨by first | rfl | (rw [HSG]), ?_⟩
  first | exact HB.out | exact HB.out.alloc HB.out.size _
end Go.Proofs.Ytpolpppnajfhdaa.Pkt
/- What the reference reads of any bytes (layer 14): heads. Printed by tools/packet/get2.py. -/
namespace Go.Proofs.Ytpolpppnajfhdaa.Pkt
open Go.RowKit Go.Proofs.Ytpolpppnajfhdaa.Mem Go.Proofs.Ytpolpppnajfhdaa.Lsa Go.Proofs.Ytpolpppnajfhdaa.Bas Go.Proofs.Ytpolpppnajfhdaa.Oct
set_option linter.unusedVariables false
set_option linter.unusedSimpArgs false
theorem rnum_four {xs : List Nat} (h : ∀ x ∈ xs, x < 256) : (rnum (xs, true) 4).2 < 4294967296 := by
  unfold rnum
  split
  · next hc =>
    have h1 := num_lt (xs.take 4) (fun x hx => h x (List.mem_of_mem_take hx))
    have h2 : (xs.take 4).length ≤ 4 := by rw [List.length_take]; omega
    have h3 : 256 ^ (xs.take 4).length ≤ 256 ^ 4 := Nat.pow_le_pow_right (by omega) h2
    have h4 : 256 ^ 4 = 4294967296 := by decide
    show num (xs.take 4) < 4294967296
    omega
  · exact (by decide : 0 < 4294967296)
theorem numAt_lt {xs : List Nat} (h : ∀ x ∈ xs, x < 256) (a : Nat) : 0 ≤ numAt xs a 4 ∧ numAt xs a 4 < 4294967296 := by
  have := rnum_four (xs := xs.drop a) (fun x hx => h x (List.mem_of_mem_drop hx))
  show 0 ≤ (((rnum (xs.drop a, true) 4).2 : Nat) : Int) ∧ (((rnum (xs.drop a, true) 4).2 : Nat) : Int) < 4294967296
  omega
theorem rnum4 (v : Value) (xs : List Nat) (at_ : Nat) (a : Int) (ha : a = (at_ : Int)) (w : World) (h : Sl w w.heap.size v xs) (hl : at_ ≤ xs.length) :
    Calls Try.prog 40 #[v, .int .i64 a, .int .i64 4] w fun e w' => e = .returned (.int .i64 (numAt xs at_ 4)) ∧ Below w.heap.size w w' := by
  subst ha
  have hx := h.lt
  have h1 := rnum_pk v xs at_ 4 w h hl (by omega)
  have h2 := sgn_small (Nat.lt_trans (rnum_four (xs := xs.drop at_) (fun x hx' => hx x (List.mem_of_mem_drop hx'))) (by decide : 4294967296 < 9223372036854775808))
  have h3 : sgn (rnum (xs.drop at_, true) ((4 : Nat) : Int)).2 = numAt xs at_ 4 := h2
  rw [h3] at h1
  exact h1
abbrev zR14 : Array Value := #[.int .i64 0, .int .i64 0, .int .i64 0, .int .i64 0, .int .i64 0, .int .i64 0, .int .i64 0, .slice none 0 0, .slice none 0 0, .slice none 0 0]
/-- the packet so far in its box, the answer's box still empty -/
def RG0 (w wr : World) (gx : Nat) (q : Pk) : Prop := Blk wr gx 26 (pkC q (.slice none 0 0) (.slice none 0 0) (.slice none 0 0)) ∧ Blk wr w.heap.size 26 zR14 ∧ Below w.heap.size w wr ∧ w.heap.size < gx
theorem RG0.below {w wr w' : World} {gx : Nat} {q : Pk} (h : RG0 w wr gx q) (hb : Below wr.heap.size wr w') : RG0 w w' gx q :=
  ⟨h.1.below hb h.1.lt, h.2.1.below hb h.2.1.lt, Chg.low_low h.2.2.1 hb, h.2.2.2⟩
abbrev set10 (w : World) (g : Nat) (c0 c1 c2 c3 c4 c5 c6 c7 c8 c9 : Value) : World := (((((((((w.setCell ⟨g, 0, none⟩ c0).setCell ⟨g, 1, none⟩ c1).setCell ⟨g, 2, none⟩ c2).setCell ⟨g, 3, none⟩ c3).setCell ⟨g, 4, none⟩ c4).setCell ⟨g, 5, none⟩ c5).setCell ⟨g, 6, none⟩ c6).setCell ⟨g, 7, none⟩ c7).setCell ⟨g, 8, none⟩ c8).setCell ⟨g, 9, none⟩ c9
theorem set10_grown (w : World) (g : Nat) (c0 c1 c2 c3 c4 c5 c6 c7 c8 c9 : Value) : w.grownBy (set10 w g c0 c1 c2 c3 c4 c5 c6 c7 c8 c9) (some g) :=
  grown_trans (grown_trans (grown_trans (grown_trans (grown_trans (grown_trans (grown_trans (grown_trans (grown_trans (grown_set _ ⟨g, 0, none⟩ _) (grown_set _ ⟨g, 1, none⟩ _)) (grown_set _ ⟨g, 2, none⟩ _)) (grown_set _ ⟨g, 3, none⟩ _)) (grown_set _ ⟨g, 4, none⟩ _)) (grown_set _ ⟨g, 5, none⟩ _)) (grown_set _ ⟨g, 6, none⟩ _)) (grown_set _ ⟨g, 7, none⟩ _)) (grown_set _ ⟨g, 8, none⟩ _)) (grown_set _ ⟨g, 9, none⟩ _)
theorem rg_set {w W : World} {g : Nat} {k f b t tb : Int} (hk : Blk W g 26 zR14) (hr : Blk W w.heap.size 26 zR14) (hb : Below w.heap.size w W) (hg : w.heap.size < g) :
    RG0 w (set10 W g (.int .i64 k) (.int .i64 f) (.int .i64 b) (.int .i64 t) (.int .i64 tb) (.int .i64 0) (.int .i64 0) (.slice none 0 0) (.slice none 0 0) (.slice none 0 0)) g ⟨k, f, b, t, tb, 0, 0, [], [], []⟩ := by
  have hs := set10_grown W g (.int .i64 k) (.int .i64 f) (.int .i64 b) (.int .i64 t) (.int .i64 tb) (.int .i64 0) (.int .i64 0) (.slice none 0 0) (.slice none 0 0) (.slice none 0 0)
  have h := (((((((((hk.set_ 0 (.int .i64 k)).set_ 1 (.int .i64 f)).set_ 2 (.int .i64 b)).set_ 3 (.int .i64 t)).set_ 4 (.int .i64 tb)).set_ 5 (.int .i64 0)).set_ 6 (.int .i64 0)).set_ 7 (.slice none 0 0)).set_ 8 (.slice none 0 0)).set_ 9 (.slice none 0 0)
  exact ⟨by simpa using h, hr.grown hs (fun e => by injection e with e; omega), hb.grown hs hb.size (fun q hq => by cases hq; omega), hg⟩
theorem rg_new {w W : World} {k f b t tb : Int} (hr : Blk W w.heap.size 26 zR14) (hb : Below w.heap.size w W) :
    RG0 w (W.alloc (.cells #[.int .i64 k, .int .i64 f, .int .i64 b, .int .i64 t, .int .i64 tb, .int .i64 0, .int .i64 0, .slice none 0 0, .slice none 0 0, .slice none 0 0] 26)) W.heap.size ⟨k, f, b, t, tb, 0, 0, [], [], []⟩ :=
  ⟨Blk.new _ _ _, hr.alloc _, Chg.low1 hb _, hr.lt⟩
theorem s10_keep {W : World} {g b i : Nat} {c0 c1 c2 c3 c4 c5 c6 c7 c8 c9 : Value} (h : b ≠ g) : (set10 W g c0 c1 c2 c3 c4 c5 c6 c7 c8 c9).cell? ⟨b, i, none⟩ = W.cell? ⟨b, i, none⟩ := by
  have hne : ∀ j, (⟨b, i, none⟩ : Addr) ≠ ⟨g, j, none⟩ := fun j e => h (congrArg Addr.block e)
  unfold set10
  repeat rw [World.cell?_setCell_other _ _ _ _ (by first | exact hne _ | exact (hne _).symm)]
/-- what Get answers -/
def GetOut14 (w : World) (r : Option Pk) (e : Ending) (w' : World) : Prop :=
  ∃ (A1 A2 A3 : Option Addr) (n1 z1 n2 z2 n3 z3 : Nat), PkM w' w'.heap.size (.slice A1 n1 z1) (.slice A2 n2 z2) (.slice A3 n3 z3) (r.getD zeroP) ∧ e = .returned (.tuple #[pkV (r.getD zeroP) (.slice A1 n1 z1) (.slice A2 n2 z2) (.slice A3 n3 z3), .bool r.isSome]) ∧ Below w.heap.size w w'
/-! ### the document's reading, in steps -/
theorem its_on {xs : List Nat} {M k a : Nat} {l R : List Lk} (hk : k < M) (ha : a < xs.length) (h : R = its xs (M - k) a l) : R = its xs (M - (k + 1)) (a + 9) (l ++ [itAt xs a]) := by
  rw [h, show M - k = (M - (k + 1)) + 1 by omega, its, if_pos ha]
theorem its_off {xs : List Nat} {M k a : Nat} {l R : List Lk} (hk : k ≤ M) (ha : k = M ∨ xs.length ≤ a) (h : R = its xs (M - k) a l) : R = l := by
  rw [h]
  by_cases hkM : k = M
  · rw [hkM, Nat.sub_self]; rfl
  · rw [show M - k = (M - (k + 1)) + 1 by omega, its, if_neg (by omega)]
theorem hds_on {xs : List Nat} {M k a : Nat} {l R : List Lk} (hk : k < M) (ha : a < xs.length) (h : R = hds xs (M - k) a l) : R = hds xs (M - (k + 1)) (a + 5) (l ++ [hdAt xs a]) := by
  rw [h, show M - k = (M - (k + 1)) + 1 by omega, hds, if_pos ha]
theorem hds_off {xs : List Nat} {M k a : Nat} {l R : List Lk} (hk : k ≤ M) (ha : k = M ∨ xs.length ≤ a) (h : R = hds xs (M - k) a l) : R = l := by
  rw [h]
  by_cases hkM : k = M
  · rw [hkM, Nat.sub_self]; rfl
  · rw [show M - k = (M - (k + 1)) + 1 by omega, hds, if_neg (by omega)]
def laAt14 (ys : List Nat) : La := ⟨(lsaAt ys).1, (lsaAt ys).2.1, (lsaAt ys).2.2⟩
theorem lss_on {xs : List Nat} {M k a : Nat} {l : List La} {R : Option (List La)} (hk : k < M) (ha : a < xs.length) (hi : isAt (xs.drop a) = true) (h : R = lss xs (M - k) a l) : R = lss xs (M - (k + 1)) (a + (10 + 5 * many (xs.drop a))) (l ++ [laAt14 (xs.drop a)]) := by
  rw [h, show M - k = (M - (k + 1)) + 1 by omega, lss, if_pos ha, if_pos hi]
  rfl
theorem lss_no {xs : List Nat} {M k a : Nat} {l : List La} {R : Option (List La)} (hk : k < M) (ha : a < xs.length) (hi : isAt (xs.drop a) = false) (h : R = lss xs (M - k) a l) : R = none := by
  rw [h, show M - k = (M - (k + 1)) + 1 by omega, lss, if_pos ha, if_neg (by rw [hi]; simp)]
theorem lss_off {xs : List Nat} {M k a : Nat} {l : List La} {R : Option (List La)} (hk : k ≤ M) (ha : k = M ∨ xs.length ≤ a) (h : R = lss xs (M - k) a l) : R = some l := by
  rw [h]
  by_cases hkM : k = M
  · rw [hkM, Nat.sub_self]; rfl
  · rw [show M - k = (M - (k + 1)) + 1 by omega, lss, if_neg (by omega)]
theorem isAt_len14 {ys : List Nat} (h : isAt ys = true) : 10 + 5 * many ys ≤ ys.length := by
  unfold isAt at h
  simp only [Bool.and_eq_true, decide_eq_true_eq] at h
  exact h.2.1
/-- what Get answers of a packet that was read -/
def ifP (xs : List Nat) (q : Pk) : Option Pk := if mayP q = true ∧ putP q = xs then some q else none
theorem get_it {xs : List Nat} {X0 X1 X6 M AT : Nat} {N2 N7 E TE : Int} (h15 : 15 ≤ xs.length) (e0 : xs.getD 0 0 = X0) (e1 : xs.getD 1 0 = X1) (e6 : xs.getD 6 0 = X6) (f2 : numAt xs 2 4 = N2) (f7 : numAt xs 7 4 = N7)
    (hE : (if X0 = 2 ∨ X0 = 3 then numAt xs 11 4 else 0) = E) (hTE : (if X0 = 3 then numAt xs 15 4 else 0) = TE) (hM : manyOf xs = M) (hA : atOf xs = AT) (n1 : X0 ≠ 1) (n4 : X0 ≠ 4) (l : List Lk) (hl : its xs M AT [] = l) :
    getP xs = ifP xs ⟨(X0 : Nat), (X1 : Nat), N2, (X6 : Nat), N7, E, TE, [], l, []⟩ := by
  subst e0 e1 e6 f2 f7 hE hTE hM hA hl
  unfold getP readP
  rw [if_neg (by omega), if_neg (by exact n1), if_neg (by exact n4)]
  rfl
theorem get_hd {xs : List Nat} {X0 X1 X6 M AT : Nat} {N2 N7 : Int} (h15 : 15 ≤ xs.length) (e0 : xs.getD 0 0 = X0) (e1 : xs.getD 1 0 = X1) (e6 : xs.getD 6 0 = X6) (f2 : numAt xs 2 4 = N2) (f7 : numAt xs 7 4 = N7)
    (hM : manyOf xs = M) (hA : atOf xs = AT) (n1 : X0 = 1) (l : List Lk) (hl : hds xs M AT [] = l) :
    getP xs = ifP xs ⟨(X0 : Nat), (X1 : Nat), N2, (X6 : Nat), N7, 0, 0, l, [], []⟩ := by
  subst e0 e1 e6 f2 f7 hM hA hl
  have k1 : kOf xs = 1 := n1
  unfold getP readP
  rw [if_neg (by omega), if_pos k1]
  have hb : baseP xs = ⟨(xs.getD 0 0 : Nat), (xs.getD 1 0 : Nat), numAt xs 2 4, (xs.getD 6 0 : Nat), numAt xs 7 4, 0, 0, [], [], []⟩ := by
    unfold baseP
    rw [if_neg (by omega), if_neg (by omega)]
    rfl
  rw [hb]
  rfl
theorem get_ls {xs : List Nat} {X0 X1 X6 M AT : Nat} {N2 N7 : Int} (h15 : 15 ≤ xs.length) (e0 : xs.getD 0 0 = X0) (e1 : xs.getD 1 0 = X1) (e6 : xs.getD 6 0 = X6) (f2 : numAt xs 2 4 = N2) (f7 : numAt xs 7 4 = N7)
    (hM : manyOf xs = M) (hA : atOf xs = AT) (n4 : X0 = 4) :
    (∀ l, lss xs M AT [] = some l → getP xs = ifP xs ⟨(X0 : Nat), (X1 : Nat), N2, (X6 : Nat), N7, 0, 0, [], [], l⟩) ∧ (lss xs M AT [] = none → getP xs = none) := by
  subst e0 e1 e6 f2 f7 hM hA
  have k4 : kOf xs = 4 := n4
  have hb : baseP xs = ⟨(xs.getD 0 0 : Nat), (xs.getD 1 0 : Nat), numAt xs 2 4, (xs.getD 6 0 : Nat), numAt xs 7 4, 0, 0, [], [], []⟩ := by
    unfold baseP
    rw [if_neg (by omega), if_neg (by omega)]
    rfl
  constructor
  · intro l hl
    unfold getP readP
    rw [if_neg (by omega), if_neg (by omega), if_pos k4, hl, hb]
    rfl
  · intro hl
    unfold getP readP
    rw [if_neg (by omega), if_neg (by omega), if_pos k4, hl]
    rfl
theorem many11 {xs : List Nat} {X : Nat} (h : xs.getD 0 0 = X) (h2 : X ≠ 2) (h3 : X ≠ 3) : manyOf xs = xs.getD 11 0 ∧ atOf xs = 12 := by
  subst h
  unfold manyOf atOf kOf
  rw [if_neg h3, if_neg (by omega), if_neg (by omega)]
  exact ⟨rfl, rfl⟩
theorem many15 {xs : List Nat} {X : Nat} (h : xs.getD 0 0 = X) (h2 : X = 2) (hl : 15 < xs.length) : manyOf xs = xs.getD 15 0 ∧ atOf xs = 16 := by
  subst h
  unfold manyOf atOf kOf
  rw [if_neg (by omega), if_pos ⟨h2, hl⟩, if_pos (.inl h2)]
  exact ⟨rfl, rfl⟩
theorem many15no {xs : List Nat} {X : Nat} (h : xs.getD 0 0 = X) (h2 : X = 2) (hl : xs.length = 15) : manyOf xs = xs.getD 11 0 ∧ atOf xs = 16 := by
  subst h
  unfold manyOf atOf kOf
  rw [if_neg (by omega), if_neg (by omega), if_pos (.inl h2)]
  exact ⟨rfl, rfl⟩
theorem many3 {xs : List Nat} {X : Nat} (h : xs.getD 0 0 = X) (h3 : X = 3) : manyOf xs = 0 ∧ atOf xs = 16 := by
  subst h
  unfold manyOf atOf kOf
  rw [if_pos h3, if_pos (.inr h3)]
  exact ⟨rfl, rfl⟩
/-! ### in memory -/
/-- the box of the packet so far, and the answer's -/
structure RX (w wr : World) (gx : Nat) (cs : Array Value) : Prop where
  x : Blk wr gx 26 cs
  res : Blk wr w.heap.size 26 zR14
  low : Below w.heap.size w wr
  o1 : w.heap.size < gx
theorem RX.below {w wr w' : World} {gx : Nat} {cs : Array Value} (h : RX w wr gx cs) (hb : Below wr.heap.size wr w') : RX w w' gx cs :=
  ⟨h.x.below hb h.x.lt, h.res.below hb h.res.lt, Chg.low_low h.low hb, h.o1⟩
theorem rx_set {w wr : World} {gx j : Nat} {cs cs' : Array Value} {u : Value} (h : RX w wr gx cs) (e : cs.setIfInBounds j u = cs') : RX w (wr.setCell ⟨gx, j, none⟩ u) gx cs' := by
  have o1 := h.o1
  exact ⟨e ▸ h.x.set_ j u, h.res.far (p := ⟨gx, j, none⟩) (by show w.heap.size ≠ gx; omega) u, h.low.setCell (p := ⟨gx, j, none⟩) (by show w.heap.size ≤ gx; omega) u, o1⟩
theorem rx_grown {w W w2 : World} {gx : Nat} {cs : Array Value} {row : Option Nat} (h : RX w W gx cs) (hg : W.grownBy w2 row) (hr : ∀ q, row = some q → gx < q) : RX w w2 gx cs := by
  have o1 := h.o1
  have hs := h.x.lt
  exact ⟨h.x.grown hg (fun e => by have := hr _ e.symm; omega), h.res.grown hg (fun e => by have := hr _ e.symm; omega), h.low.grown hg h.low.size (fun q hq => by have := hr q hq; omega), o1⟩
/-- one more, behind the others -/
theorem rx_push {w W w2 : World} {gx j sz n : Nat} {cs cs' : Array Value} {v u : Value} {o : Obj} {T : TypeId} {ys : List Value} (h : RX w W gx cs) (how : W.ownsRow (gx + 1) T sz v n ys) (hg : (W.alloc o).grownBy w2 v.ownBlock) (e : cs.setIfInBounds j u = cs') : RX w (w2.setCell ⟨gx, j, none⟩ u) gx cs' :=
  rx_set (rx_grown h (grown_trans (World.grownBy_alloc W o _) hg) (fun q hq => (how.lt q hq).1)) e
theorem own_set14 {W : World} {gx j n sz : Nat} {T : TypeId} {v u : Value} {ys : List Value} (h : W.ownsRow (gx + 1) T sz v n ys) : (W.setCell ⟨gx, j, none⟩ u).ownsRow (gx + 1) T sz v n ys :=
  own_gr14 h (grown_set W ⟨gx, j, none⟩ u) (Nat.lt_succ_self _)
theorem pk_row {W : World} {base n : Nat} {T : TypeId} {v : Value} {l : List Lk} (h : W.ownsRow base T 2 v n (lkCells l)) : Lks W W.heap.size v l := lks_own_t h
theorem sl_btsG {w : World} {B n c : Nat} {A : Option Addr} {xs : List Nat} (h : Sl w B (.slice A n c) xs) : Bts w B A n xs := by
  obtain ⟨A', n', c', e, hb, _⟩ := h
  injection e with e1 e2 e3
  subst e1 e2 e3
  exact hb
theorem sl_from14 {w : World} {B n c : Nat} {A : Option Addr} {xs : List Nat} (h : Sl w B (.slice A n c) xs) (i : Nat) (hi : i ≤ n) :
    ∃ A', (∀ W, (Instr.slice 29 (.slice A n c) (some (.int .i64 i)) none none).run Try.prog W = .ok (.slice A' (n - i) (c - i)) W) ∧ Sl w B (.slice A' (n - i) (c - i)) (xs.drop i) := by
  obtain ⟨A0, n0, c0, e, hb, h1, h2, h3⟩ := h
  injection e with e1 e2 e3
  subst e1 e2 e3
  obtain ⟨A', e, hb'⟩ := bts_sliced hb i n hi (Nat.le_refl _) h1
  rw [List.take_of_length_le (by rw [List.length_drop, hb.1]; exact Nat.le_refl _)] at hb'
  refine ⟨A', fun W => ?_, A', n - i, c - i, rfl, hb', by omega, by omega, fun hA => ?_⟩
  · rw [run_slice_l W _ A n c under22 .i64 i (by omega) (by omega), size1]
    simp only [Result.andThen, Int.toNat_natCast, e]
  · unfold sliced at e
    injection e with e1 _ _
    rw [hA] at e1
    by_cases hci : c = i
    · omega
    · rw [if_neg hci] at e1
      rw [Option.map_eq_none_iff] at e1
      have := h3 e1
      omega
theorem own_len14 {W : World} {base n : Nat} {T : TypeId} {A : Option Addr} {m c : Nat} {l : List Lk} (h : W.ownsRow base T 2 (.slice A m c) n (lkCells l)) : l.length = m := by
  have hl : l.length = n := by have := h.1; rw [lkCells_length] at this; omega
  rcases h.2 with ⟨e, h0⟩ | ⟨g, cap, cur, e, _⟩
  · injection e with e1 e2 e3
    omega
  · injection e with e1 e2 e3
    omega
theorem step_calls14 {P : Program} {ops : Array Oper} {o : Oper} {a : Act} {w : World} {K : Act → World → Prop} {Q : Exit → Act → World → Prop} {E : Prop} (hgd : o.guard = none) (f : FuncId) (args : Array Operand) (tys : Array TypeId)
    (ho : o.op = .call { callee := .value (.func f), args := args, argTypes := tys }) (vs : Array Value) (hv : args.map a.eval = vs) (hen : ∀ (args : Array Value) (w : World), (callFunc f args).run P w = .ok (.enter f args) w)
    {R : Ending → World → Prop} (hc : Calls P f vs w R) (h : ∀ e w', R e w' → ∃ v, e = .returned v ∧ K (a.put o.dst v) w') : if Region.wanted o (yielded ops a.tmps) = true then Oper.wp P o a w K Q else E := by
  have hw : Region.wanted o (yielded ops a.tmps) = true := by simp [Region.wanted, hgd]
  rw [if_pos hw]
  have hrun : (execOp a.eval o).run P w = .ok (.enter f vs) w := by
    unfold execOp
    simp [ho, resolve, invoke, Act.eval, Deferred.ofValue, Result.andThen]
    have hv' : Array.map (fun x => a.eval x) args = vs := hv
    rw [hv']
    exact hen vs w
  unfold Oper.wp
  rw [hrun]
  show Calls P f vs w _
  refine hc.mono fun e w' hr => ?_
  obtain ⟨v, rfl, hk⟩ := h e w' hr
  exact hk
theorem own_lenL14 {W : World} {base n : Nat} {A : Option Addr} {m c : Nat} {xs : List Value} (h : W.ownsRow base 49 3 (.slice A m c) n xs) : n = m := by
  rcases h.2 with ⟨e, h0⟩ | ⟨g, cap, cur, e, _⟩
  · injection e with e1 e2 e3
    omega
  · injection e with e1 e2 e3
    exact e2.symm
set_option maxRecDepth 100000 in
set_option maxHeartbeats 16000000 in
theorem rget_short (v : Value) (xs : List Nat) (w : World) (h : Sl w w.heap.size v xs) (hlen : xs.length < 15) :
    Calls Try.prog 16 #[v] w (GetOut14 w (getP xs)) := by
  obtain ⟨A, n, c, rfl, _⟩ := id h
  have hx := h.lt
  obtain ⟨_, _, _, e_, hbt, hnc, hcm, hz⟩ := id h
  injection e_ with e1_ e2_ e3_
  subst e1_ e2_ e3_
  have hn : xs.length = n := hbt.1
  have hnb : n ≤ 1000000 := hbt.2.2.1
  have hb0 := Chg.low1 (Below.refl w.heap.size w) (.cells zR14 26)
  have k0 := Blk.new w 26 zR14
  obtain ⟨P1, hP1⟩ : ∃ P1, P1 = GetOut14 w (getP xs) := ⟨_, rfl⟩
  rw [← hP1]
  have hno : ∀ (W : World), getP xs = none → Below w.heap.size w W → P1 (.returned (.tuple #[pkV zeroP (.slice none 0 0) (.slice none 0 0) (.slice none 0 0), .bool false])) W := by
    intro W hc hW
    rw [hP1, hc]
    exact ⟨none, none, none, 0, 0, 0, 0, 0, 0, ⟨lks_nil _ _, lks_nil _ _, las_nil _ _⟩, rfl, hW⟩
  have NO := Lib.hid hno; clear hno
  have HP1 := Lib.hid hP1; clear hP1
  have HB0 := Lib.hid hb0; clear hb0
  have K0 := Lib.hid k0; clear k0
  have h15 : n < 15 := by omega
  have d0 : decide ((n : Int) < 15) = true := by simp; omega
  have hg : getP xs = none := by unfold getP; rw [if_pos (by omega)]
  have HF := Lib.hid (NO.out _ hg HB0.out)
  have z0 := K0.out.cell 0; have z1 := K0.out.cell 1; have z2 := K0.out.cell 2; have z3 := K0.out.cell 3; have z4 := K0.out.cell 4; have z5 := K0.out.cell 5; have z6 := K0.out.cell 6; have z7 := K0.out.cell 7; have z8 := K0.out.cell 8; have z9 := K0.out.cell 9; simp only [List.getElem?_toArray, List.getElem?_cons_zero, List.getElem?_cons_succ] at z0 z1 z2 z3 z4 z5 z6 z7 z8 z9
  clear h hn hbt
  go_enter Try.func16, Try.ntmps16
  go_wp2_with (fail)
  refine bodyPost_ret (v := .tuple #[pkV zeroP (.slice none 0 0) (.slice none 0 0) (.slice none 0 0), .bool false]) ?_ rfl HF.out
  simp [results, Try.results16, go_sem, z0, z1, z2, z3, z4, z5, z6, z7, z8, z9, zeroP]
end Go.Proofs.Ytpolpppnajfhdaa.Pkt
