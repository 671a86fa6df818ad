/- The document's way of putting an Lsa into a base, and an epoch (layer 11): waymarkref11.Put, epochs. -/
import Derived.Test.YtcojimbnenibnaaBasRef
import Derived.Test.YtcojimbnenibnaaBasDo
namespace Go.Proofs.Ytcojimbnenibnaa.Bas
open Go.RowKit Go.Proofs.Ytcojimbnenibnaa.Mem Go.Proofs.Ytcojimbnenibnaa.Oct Go.Proofs.Ytcojimbnenibnaa.Lsa Go.Proofs.Ytcojimbnenibnaa.Chg
set_option linter.unusedVariables false
set_option linter.unusedSimpArgs false
/-- a row of one's own, whose Lsas' links lie in elder blocks -/
def OwnR (w : World) (B0 base : Nat) (v : Value) (l : List La) : Prop :=
  ∃ us : List Value, us.length = l.length ∧ w.ownsRow base 50 3 v l.length (flatL l us) ∧ ∀ i, i < l.length → Lks w B0 (us.getD i undef) (l.getD i zeroL).ls
/-- a slice of Lsas in an elder block, or in a row of Lsas; their links in elder blocks -/
def SafeL (w : World) (B0 : Nat) (v : Value) (l : List La) : Prop :=
  ∃ (A : Option Addr) (n c : Nat), v = .slice A n c ∧ l.length = n ∧ n ≤ c ∧ c ≤ maxLen ∧ (A = none → c = 0) ∧
    (0 < n → ∃ b off, A = some ⟨b, off, none⟩ ∧ (b < B0 ∨ ∃ cs, Blk w b 50 cs) ∧ b < w.heap.size ∧ ∀ i, i < n → ∃ u, w.rangeAt b (off + i * 3) (rowL (l.getD i zeroL) u) ∧ Lks w B0 u (l.getD i zeroL).ls)
theorem safeL_at {w : World} {B0 n c : Nat} {A : Option Addr} {l : List La} (h : SafeL w B0 (.slice A n c) l) (h0 : 0 < n) : ∃ b off, A = some ⟨b, off, none⟩ ∧ b < w.heap.size ∧ ∀ i, i < n → ∃ u, w.rangeAt b (off + i * 3) (rowL (l.getD i zeroL) u) ∧ Lks w B0 u (l.getD i zeroL).ls := by
  obtain ⟨A', n', c', e, h1, h2, h3, h4, h5⟩ := h
  injection e with e1 e2 e3
  subst e1 e2 e3
  obtain ⟨b, off, e, _, hb, hc⟩ := h5 h0
  exact ⟨b, off, e, hb, hc⟩
theorem safeL_len {w : World} {B0 n c : Nat} {A : Option Addr} {l : List La} (h : SafeL w B0 (.slice A n c) l) : l.length = n ∧ n ≤ c ∧ c ≤ maxLen ∧ (A = none → c = 0) := by
  obtain ⟨A', n', c', e, h1, h2, h3, h4, h5⟩ := h
  injection e with e1 e2 e3
  subst e1 e2 e3
  exact ⟨h1, h2, h3, h4⟩
theorem SafeL.form {w : World} {B0 : Nat} {v : Value} {l : List La} (h : SafeL w B0 v l) : ∃ A n c, v = .slice A n c := by
  obtain ⟨A, n, c, e, _⟩ := h
  exact ⟨A, n, c, e⟩
theorem SafeL.las {w : World} {B0 : Nat} {v : Value} {l : List La} (h : SafeL w B0 v l) (hB : B0 ≤ w.heap.size) : Las w w.heap.size v l := by
  obtain ⟨A, n, c, e, h1, h2, h3, h4, h5⟩ := h
  refine ⟨A, n, c, e, h1, h2, h3, h4, fun h0 => ?_⟩
  obtain ⟨b, off, e, _, hb, hc⟩ := h5 h0
  refine ⟨b, off, e, hb, fun i hi => ?_⟩
  obtain ⟨u, hr, hk⟩ := hc i hi
  exact ⟨u, hr, hk.more hB⟩
theorem safeL_in {w : World} {B0 : Nat} {v : Value} {l : List La} (h : Las w B0 v l) (hB : B0 ≤ w.heap.size) : SafeL w B0 v l := by
  obtain ⟨A, n, c, e, h1, h2, h3, h4, h5⟩ := h
  refine ⟨A, n, c, e, h1, h2, h3, h4, fun h0 => ?_⟩
  obtain ⟨b, off, e, hb, hc⟩ := h5 h0
  exact ⟨b, off, e, .inl hb, by omega, hc⟩
theorem SafeL.up {w w' : World} {B0 : Nat} {v : Value} {l : List La} (h : SafeL w B0 v l) (hB : B0 ≤ w.heap.size) (hb : Below w.heap.size w w') : SafeL w' B0 v l := by
  obtain ⟨A, n, c, e, h1, h2, h3, h4, h5⟩ := h
  refine ⟨A, n, c, e, h1, h2, h3, h4, fun h0 => ?_⟩
  obtain ⟨b, off, e, hs, hbw, hc⟩ := h5 h0
  refine ⟨b, off, e, hs.elim .inl (fun ⟨cs, hk⟩ => .inr ⟨cs, hk.below hb hbw⟩), Nat.lt_of_lt_of_le hbw hb.size, fun i hi => ?_⟩
  obtain ⟨u, hr, hk⟩ := hc i hi
  exact ⟨u, rangeC_below hr hb hbw, hk.below hb hB⟩
/-- behind a change of a block that holds no Lsas -/
theorem SafeL.blk {w w' : World} {B0 g t : Nat} {v : Value} {cs : Array Value} {l : List La} (h : SafeL w B0 v l) (hB : B0 ≤ w.heap.size) (hv : Blk w g t cs) (hne : 50 ≠ t) (hg0 : B0 ≤ g) (hg : w.grownBy w' (some g)) : SafeL w' B0 v l := by
  obtain ⟨A, n, c, e, h1, h2, h3, h4, h5⟩ := h
  refine ⟨A, n, c, e, h1, h2, h3, h4, fun h0 => ?_⟩
  obtain ⟨b, off, e, hs, hbw, hc⟩ := h5 h0
  have hbg : b ≠ g := by
    rcases hs with h | ⟨cs', hk⟩
    · omega
    · exact Blk.ne_ hk hv hne
  refine ⟨b, off, e, hs.elim .inl (fun ⟨cs, hk⟩ => .inr ⟨cs, hk.grown hg (by simpa using hbg)⟩), Nat.lt_of_lt_of_le hbw hg.size, fun i hi => ?_⟩
  obtain ⟨u, hr, hk⟩ := hc i hi
  refine ⟨u, fun j x hx => ?_, hk.grown hg hB (fun q hq => by cases hq; exact hg0)⟩
  rw [← hr j x hx]
  exact World.cell?_of_block (hg.block b hbw (by simpa using hbg))
theorem safeL_own {w : World} {B0 base : Nat} {v : Value} {l : List La} (h : OwnR w B0 base v l) : SafeL w B0 v l := by
  obtain ⟨us, hl, hown, hs⟩ := h
  by_cases h0 : l.length = 0
  · have : l = [] := List.eq_nil_of_length_eq_zero h0
    subst this
    rcases hown.2 with ⟨rfl, _⟩ | ⟨g, cap, cur, rfl, _, _, h3, h4, _⟩
    · exact ⟨none, 0, 0, rfl, rfl, Nat.le_refl _, by unfold maxLen; omega, fun _ => rfl, fun h => absurd h (by omega)⟩
    · exact ⟨_, _, _, rfl, rfl, h3, h4, (fun e => by cases e), fun h => absurd h (by simp)⟩
  · rcases hown.2 with ⟨_, h⟩ | ⟨g, cap, cur, rfl, _, hg, h3, h4, h5, h6⟩
    · exact absurd h h0
    · refine ⟨_, _, _, rfl, rfl, h3, h4, (fun e => by cases e), fun _ => ⟨g, 0, rfl, .inr ⟨cur, hg⟩, (hown.lt g rfl).2, fun i hi => ⟨us.getD i undef, fun j u hu => ?_, hs i hi⟩⟩⟩
      have hj : j < 3 := (List.getElem?_eq_some_iff.1 hu).1
      rw [Nat.zero_add, hown.cellAt (i * 3 + j) (by have := Nat.mul_le_mul_right 3 (Nat.succ_le_of_lt hi); rw [Nat.succ_mul] at this; omega), flatL_get l us i j hl hi hj]
      exact hu
theorem reads_lsa (w : World) (a : La) (u : Value) (g : Nat) (hg : g = w.heap.size) : Reads (w.alloc (.cells #[.int .i64 a.o, .int .i64 a.s, u] 50)) (w.heap.size + 1) 3 (some ⟨g, 0, none⟩) 1 (rowL a u) := by
  subst hg
  refine ⟨rfl, fun _ => ⟨_, rfl, Nat.lt_succ_self _, fun j v hu => ?_⟩⟩
  have hk := Blk.new w 50 #[.int .i64 a.o, .int .i64 a.s, u]
  rw [add_plain, Nat.zero_add, hk.cell]
  simpa [rowL] using hu
theorem ownR_push {w w' : World} {B0 base : Nat} {v v' u : Value} {l : List La} {us : List Value} {a : La} (hl : us.length = l.length) (h : ∀ i, i < l.length → Lks w B0 (us.getD i undef) (l.getD i zeroL).ls) (hu : Lks w B0 u a.ls)
    (hown : w'.ownsRow base 50 3 v' (l.length + 1) (flatL l us ++ rowL a u)) (hg : w.grownBy w' v.ownBlock) (hrow : ∀ q, v.ownBlock = some q → B0 ≤ q) (hB : B0 ≤ w.heap.size) : OwnR w' B0 base v' (l ++ [a]) := by
  refine ⟨us ++ [u], by simp [hl], ?_, fun i hi => ?_⟩
  · rw [List.length_append, flatL_app l [a] us [u] hl, flatL_one]
    exact hown
  · by_cases hc : i < l.length
    · rw [getD_app_l _ _ _ _ hc, getD_app_l _ _ _ _ (by omega)]
      exact (h i hc).grown hg hB hrow
    · have hi' : i = l.length := by rw [List.length_append, List.length_singleton] at hi; omega
      subst hi'
      rw [getD_app_r _ _ _ _ (by omega), getD_app_r _ _ _ _ (by omega), hl, Nat.sub_self]
      exact hu.grown hg hB hrow
/-- what has been put so far, and the block of what is put -/
structure PutAt (w : World) (B0 : Nat) (wr : World) (l : La) (u v : Value) (acc : List La) : Prop where
  old : B0 ≤ w.heap.size
  row : OwnR wr B0 (w.heap.size + 1) v acc
  box : Blk wr w.heap.size 50 #[.int .i64 l.o, .int .i64 l.s, u]
  low : Below w.heap.size w wr
  size : w.heap.size + 1 ≤ wr.heap.size
theorem PutAt.form {w wr : World} {B0 : Nat} {l : La} {u v : Value} {acc : List La} (h : PutAt w B0 wr l u v acc) : ∃ A c, v = .slice A acc.length c := by
  obtain ⟨us, _, ho, _⟩ := h.row
  exact own_form ho
theorem PutAt.drewN {w wr : World} {B0 : Nat} {l : La} {u v : Value} {acc : List La} (h : PutAt w B0 wr l u v acc) (n : Nat) : PutAt w B0 (wr.drewN n) l u v acc := ⟨h.old, h.row, h.box, below_drewN h.low n, h.size⟩
/-- one more: a box of the element, then the append -/
theorem PutAt.push {w wr w2 : World} {B0 : Nat} {l a : La} {u v v2 ua : Value} {acc : List La} {us : List Value} (h : PutAt w B0 wr l u v acc) (hus : us.length = acc.length) (hlk : ∀ i, i < acc.length → Lks wr B0 (us.getD i undef) (acc.getD i zeroL).ls)
    (ho : wr.ownsRow (w.heap.size + 1) 50 3 v acc.length (flatL acc us)) (hu : Lks w B0 ua a.ls) {o : Obj}
    (hown : w2.ownsRow (w.heap.size + 1) 50 3 v2 (acc.length + 1) (flatL acc us ++ rowL a ua)) (hg : (wr.alloc o).grownBy w2 v.ownBlock) : PutAt w B0 w2 l u v2 (acc ++ [a]) := by
  have hold := h.old
  have hsz := h.size
  have hb1 : Below wr.heap.size wr (wr.alloc o) := low1 (Below.refl _ _) o
  have hg2 : wr.grownBy w2 v.ownBlock := grown_trans (World.grownBy_alloc wr o _) hg
  have hrow := fun q (hq : v.ownBlock = some q) => (ho.lt q hq).1
  refine ⟨h.old, ownR_push hus (fun i hi => (hlk i hi).below hb1 (by omega)) (hu.below (low_low h.low hb1) h.old) hown hg (fun q hq => by have := hrow q hq; omega) (by have := hb1.size; omega), h.box.grown hg2 (fun e => ?_), h.low.grown hg2 h.low.size (fun q hq => by have := hrow q hq; omega), Nat.le_trans h.size hg2.size⟩
  have := hrow _ e.symm
  omega
def PutOut (w : World) (B0 : Nat) (db : List La) (l : La) (e : Ending) (w' : World) : Prop := ∃ v, e = .returned v ∧ OwnR w' B0 (w.heap.size + 1) v (refPut l false db) ∧ Below w.heap.size w w'
set_option maxRecDepth 100000 in
set_option maxHeartbeats 8000000 in
theorem rput_db (A : Option Addr) (n c : Nat) (db : List La) (l : La) (u : Value) (w : World) (B0 : Nat) (hB0 : B0 ≤ w.heap.size) (h : SafeL w B0 (.slice A n c) db) (hn : n ≤ 1000) (hu : Lks w B0 u l.ls) :
    Calls Try.prog 59 #[.slice A n c, lsaV l.o l.s u] w (PutOut w B0 db l) := by
  obtain ⟨i0, hi, hz0, hz1, hz2⟩ := info_parts infoL
  obtain ⟨hl, hnc, hcm, _⟩ := safeL_len h
  unfold maxLen at hcm
  obtain ⟨lo, lsq, lls⟩ := l
  obtain ⟨Al, nl, cl, rfl, hq_⟩ := id hu
  clear hq_
  simp only at hu
  have HL := Lib.hid hl; clear hl
  have HS := Lib.hid h; clear h
  have HI := Lib.hid hi; clear hi
  have HZ0 := Lib.hid hz0; clear hz0
  have HZ1 := Lib.hid hz1; clear hz1
  have HZ2 := Lib.hid hz2; clear hz2
  have HU := Lib.hid hu; clear hu
  obtain ⟨P1, hP1⟩ : ∃ P1, P1 = PutOut w B0 db ⟨lo, lsq, lls⟩ := ⟨_, rfl⟩
  rw [← hP1]
  have HPP := Lib.hid hP1; clear hP1
  have hbx := low1 (Below.refl w.heap.size w) (.cells #[.int .i64 lo, .int .i64 lsq, .slice Al nl cl] 50)
  have hp0 : PutAt w B0 ((w.alloc (.cells #[.int .i64 lo, .int .i64 lsq, .slice Al nl cl] 50)).alloc (.cells #[] 50)) ⟨lo, lsq, lls⟩ (.slice Al nl cl) (.slice (some ⟨w.heap.size + 1, 0, none⟩) 0 0) [] := by
    refine ⟨hB0, ⟨[], rfl, ?_, fun i hi => absurd hi (by simp)⟩, (Blk.new w _ _).alloc _, low1 hbx _, by simp⟩
    have := World.ownsRow_lit (base := w.heap.size + 1) (e := 50) (size := 3) (w.alloc (.cells #[.int .i64 lo, .int .i64 lsq, .slice Al nl cl] 50)) #[] 0 (by simp) (by unfold maxLen; omega) rfl
    simpa [flatL] using this
  have HP0 := Lib.hid hp0; clear hp0 hbx
  go_enter Try.func59, Try.ntmps59
  go_wp2
  go_loopw [5, 6, 7] (fun v d i wr => ∃ (k : Nat) (b : Bool) (acc : List La), k ≤ n ∧ acc.length ≤ 2 * k ∧ i = .int .i64 k ∧ d = .bool b ∧ Hid (acc ++ refPut ⟨lo, lsq, lls⟩ b (db.drop k) = refPut ⟨lo, lsq, lls⟩ false db) ∧ Hid (PutAt w B0 wr ⟨lo, lsq, lls⟩ (.slice Al nl cl) v acc)) (fun _ _ i _ => n - (intOf i).toNat)
  case atStart => exact ⟨0, false, [], Nat.zero_le _, by simp, rfl, rfl, Lib.hid (by simp), HP0⟩
  case round =>
    clear HP0
    obtain ⟨k, b, acc, hk, hal, rfl, rfl, HA, HP1⟩ := hrel
    obtain ⟨W, hW⟩ : ∃ W : World, W = wr := ⟨_, rfl⟩
    rw [← hW] at HP1 ⊢
    clear hW
    obtain ⟨Av, cv, rfl⟩ := HP1.out.form
    obtain ⟨us, hus, ho, hlk⟩ := HP1.out.row
    obtain ⟨x0, x1, x2, x3⟩ := blk_cells3 HP1.out.box
    have hps := HP1.out.size
    have HO1 := Lib.hid ho; clear ho
    have HU1 := Lib.hid hus; clear hus
    have HK1 := Lib.hid hlk; clear hlk
    by_cases hlt : k < n
    · obtain ⟨bb, off, rfl, hb, hc⟩ := safeL_at HS.out (by omega)
      obtain ⟨u, hr, hk2⟩ := hc k hlt
      have hc0_ := hr 0 _ rfl
      have hc1_ := hr 1 _ rfl
      have hc2_ := hr 2 _ rfl
      rw [Nat.add_zero] at hc0_
      have c0 := (HP1.out.low.cell (p := ⟨bb, off + k * 3 + 0, none⟩) hb).trans (hr 0 _ rfl)
      have c1 := (HP1.out.low.cell (p := ⟨bb, off + k * 3 + 1, none⟩) hb).trans (hr 1 _ rfl)
      have c2_ := (HP1.out.low.cell (p := ⟨bb, off + k * 3 + 2, none⟩) hb).trans (hr 2 _ rfl)
      rw [Nat.add_zero] at c0
      have ha := HA.out
      rw [refPut_step _ b db k (by have := HL.out; omega)] at ha
      clear hc hr HA
      generalize db.getD k zeroL = y at *
      obtain ⟨yo, ys, yl⟩ := y
      obtain ⟨Au, nu, cu, rfl, hq_⟩ := id hk2
      clear hq_
      simp only at c0 c1 c2_ ha hk2 hc0_ hc1_ hc2_
      have HC0 := Lib.hid hc0_; clear hc0_
      have HC1 := Lib.hid hc1_; clear hc1_
      have HC2 := Lib.hid hc2_; clear hc2_
      have HK2_ := Lib.hid hk2; clear hk2
      have hbr : bb < w.heap.size := hb
      cases b
      · by_cases e1 : lo ≤ yo
        · obtain ⟨acc4, hac⟩ : ∃ a4, a4 = acc ++ [(⟨lo, lsq, lls⟩ : La)] := ⟨_, rfl⟩
          have hl4 : acc4.length ≤ 2 * k + 1 := by rw [hac]; simp; omega
          have HAC := Lib.hid hac; clear hac
          have hd1 : decide (lo ≤ yo) = true := by rw [decide_eq_true_iff]; exact e1
          rw [if_pos ⟨rfl, e1⟩, hd1, Bool.or_true] at ha
          by_cases e2 : yo = lo
          · rw [if_pos e2, List.nil_append] at ha
            have HA2 := Lib.hid (show acc4 ++ refPut ⟨lo, lsq, lls⟩ true (db.drop (k + 1)) = refPut ⟨lo, lsq, lls⟩ false db by rw [HAC.out, List.append_assoc]; exact ha); clear ha
            have hb2 : (yo != lo) = false := by simp [e2]
            go_wp2
            go_quiet (fail)
            have HP2 := Lib.hid (HP1.out.drewN nq)
            have HO2 := Lib.hid (own_drewN HO1.out nq)
            have HK2 : Hid (∀ i, i < acc.length → Lks (W.drewN nq) B0 (us.getD i undef) (acc.getD i zeroL).ls) := Lib.hid (fun i hi => (HK1.out i hi).drewN nq)
            clear HP1 HO1 HK1 x0 x1 x2 x3 c0 c1 c2_
            have c0 := (HP2.out.low.cell (p := ⟨bb, off + k * 3, none⟩) hbr).trans HC0.out
            have c1 := (HP2.out.low.cell (p := ⟨bb, off + k * 3 + 1, none⟩) hbr).trans HC1.out
            have c2_ := (HP2.out.low.cell (p := ⟨bb, off + k * 3 + 2, none⟩) hbr).trans HC2.out
            obtain ⟨x0, x1, x2, x3⟩ := blk_cells3 HP2.out.box
            have hps2 := HP2.out.size
            generalize W.drewN nq = W2 at *
            go_wp2_with (at_builtin; (refine wpList_append_any _ rfl (.tmp 27) (.tmp 29) 22 rfl (w.heap.size + 1) 50 i0 (.agg #[.int .i64 0, .int .i64 0, .slice none 0 0]) 3 40 Try.underlying22 HI.out HZ0.out HZ1.out HZ2.out rfl (by decide) (.slice Av acc.length cv) acc.length (flatL acc us) rfl (own_below HO2.out (low1 (Below.refl _ _) _)) _ (some ⟨_, 0, none⟩) 1 1 (rowL ⟨lo, lsq, lls⟩ (.slice Al nl cl)) rfl (reads_lsa _ ⟨lo, lsq, lls⟩ (.slice Al nl cl) _ rfl) (rowL_one _ _ rfl) (by unfold maxLen; omega) (by omega) (by have := HP2.out.size; simp; omega) ?_; intro v4 w4 hown4 hg4 _; have hp4 := HP2.out.push HU1.out HK2.out HO2.out HU.out hown4 hg4; rewrite [← HAC.out] at hp4; obtain ⟨A4, c4, rfl⟩ := hp4.form; obtain ⟨us4, hu4, ho4, hk4⟩ := hp4.row; have HP4 := Lib.hid hp4; have HO4 := Lib.hid ho4; have HU4 := Lib.hid hu4; have HK4 := Lib.hid hk4; clear hown4 hg4 hp4 ho4 hu4 hk4 c0 c1 c2_ x0 x1 x2 x3; obtain ⟨x0, x1, x2, x3⟩ := blk_cells3 HP4.out.box; have hps4 := HP4.out.size; have c0 := (HP4.out.low.cell (p := ⟨bb, off + k * 3, none⟩) hbr).trans HC0.out; have c1 := (HP4.out.low.cell (p := ⟨bb, off + k * 3 + 1, none⟩) hbr).trans HC1.out; have c2_ := (HP4.out.low.cell (p := ⟨bb, off + k * 3 + 2, none⟩) hbr).trans HC2.out))
            go_quiet (fail)
            have HP5 := Lib.hid (HP4.out.drewN nq)
            go_wp2
            go_roundw
            case rel => exact ⟨k + 1, true, acc4, by omega, by omega, by go_num, rfl, HA2, HP5⟩
            case measure => simp [intOf]; omega
          · rw [if_neg e2] at ha
            have HA2 := Lib.hid (show (acc4 ++ [(⟨yo, ys, yl⟩ : La)]) ++ refPut ⟨lo, lsq, lls⟩ true (db.drop (k + 1)) = refPut ⟨lo, lsq, lls⟩ false db by rw [HAC.out, List.append_assoc, List.append_assoc]; exact ha); clear ha
            have hb2 : (yo != lo) = true := by rw [bne_iff_ne]; exact e2
            go_wp2
            go_quiet (fail)
            have HP2 := Lib.hid (HP1.out.drewN nq)
            have HO2 := Lib.hid (own_drewN HO1.out nq)
            have HK2 : Hid (∀ i, i < acc.length → Lks (W.drewN nq) B0 (us.getD i undef) (acc.getD i zeroL).ls) := Lib.hid (fun i hi => (HK1.out i hi).drewN nq)
            clear HP1 HO1 HK1 x0 x1 x2 x3 c0 c1 c2_
            have c0 := (HP2.out.low.cell (p := ⟨bb, off + k * 3, none⟩) hbr).trans HC0.out
            have c1 := (HP2.out.low.cell (p := ⟨bb, off + k * 3 + 1, none⟩) hbr).trans HC1.out
            have c2_ := (HP2.out.low.cell (p := ⟨bb, off + k * 3 + 2, none⟩) hbr).trans HC2.out
            obtain ⟨x0, x1, x2, x3⟩ := blk_cells3 HP2.out.box
            have hps2 := HP2.out.size
            generalize W.drewN nq = W2 at *
            go_wp2_with (at_builtin; (refine wpList_append_any _ rfl (.tmp 27) (.tmp 29) 22 rfl (w.heap.size + 1) 50 i0 (.agg #[.int .i64 0, .int .i64 0, .slice none 0 0]) 3 40 Try.underlying22 HI.out HZ0.out HZ1.out HZ2.out rfl (by decide) (.slice Av acc.length cv) acc.length (flatL acc us) rfl (own_below HO2.out (low1 (Below.refl _ _) _)) _ (some ⟨_, 0, none⟩) 1 1 (rowL ⟨lo, lsq, lls⟩ (.slice Al nl cl)) rfl (reads_lsa _ ⟨lo, lsq, lls⟩ (.slice Al nl cl) _ rfl) (rowL_one _ _ rfl) (by unfold maxLen; omega) (by omega) (by have := HP2.out.size; simp; omega) ?_; intro v4 w4 hown4 hg4 _; have hp4 := HP2.out.push HU1.out HK2.out HO2.out HU.out hown4 hg4; rewrite [← HAC.out] at hp4; obtain ⟨A4, c4, rfl⟩ := hp4.form; obtain ⟨us4, hu4, ho4, hk4⟩ := hp4.row; have HP4 := Lib.hid hp4; have HO4 := Lib.hid ho4; have HU4 := Lib.hid hu4; have HK4 := Lib.hid hk4; clear hown4 hg4 hp4 ho4 hu4 hk4 c0 c1 c2_ x0 x1 x2 x3; obtain ⟨x0, x1, x2, x3⟩ := blk_cells3 HP4.out.box; have hps4 := HP4.out.size; have c0 := (HP4.out.low.cell (p := ⟨bb, off + k * 3, none⟩) hbr).trans HC0.out; have c1 := (HP4.out.low.cell (p := ⟨bb, off + k * 3 + 1, none⟩) hbr).trans HC1.out; have c2_ := (HP4.out.low.cell (p := ⟨bb, off + k * 3 + 2, none⟩) hbr).trans HC2.out))
            go_wp2
            go_quiet (fail)
            have HP5 := Lib.hid (HP4.out.drewN nq)
            have HO5 := Lib.hid (own_drewN HO4.out nq)
            have HK5 : Hid (∀ i, i < acc4.length → Lks (w4.drewN nq) B0 (us4.getD i undef) (acc4.getD i zeroL).ls) := Lib.hid (fun i hi => (HK4.out i hi).drewN nq)
            clear HP4 HO4 HK4 x0 x1 x2 x3 c0 c1 c2_
            have c0 := (HP5.out.low.cell (p := ⟨bb, off + k * 3, none⟩) hbr).trans HC0.out
            have c1 := (HP5.out.low.cell (p := ⟨bb, off + k * 3 + 1, none⟩) hbr).trans HC1.out
            have c2_ := (HP5.out.low.cell (p := ⟨bb, off + k * 3 + 2, none⟩) hbr).trans HC2.out
            obtain ⟨x0, x1, x2, x3⟩ := blk_cells3 HP5.out.box
            have hps5 := HP5.out.size
            generalize w4.drewN nq = W5 at *
            go_wp2_with (at_builtin; (refine wpList_append_any _ rfl (.tmp 39) (.tmp 44) 22 rfl (w.heap.size + 1) 50 i0 (.agg #[.int .i64 0, .int .i64 0, .slice none 0 0]) 3 40 Try.underlying22 HI.out HZ0.out HZ1.out HZ2.out rfl (by decide) (.slice A4 acc4.length c4) acc4.length (flatL acc4 us4) rfl (own_below HO5.out (low1 (Below.refl _ _) _)) _ (some ⟨_, 0, none⟩) 1 1 (rowL ⟨yo, ys, yl⟩ (.slice Au nu cu)) rfl (reads_lsa _ ⟨yo, ys, yl⟩ (.slice Au nu cu) _ rfl) (rowL_one _ _ rfl) (by unfold maxLen; omega) (by omega) (by have := HP5.out.size; simp; omega) ?_; intro v6 w6 hown6 hg6 _; have HP6 := Lib.hid (HP5.out.push HU4.out HK5.out HO5.out HK2_.out hown6 hg6); clear hown6 hg6))
            go_roundw
            case rel => exact ⟨k + 1, true, acc4 ++ [⟨yo, ys, yl⟩], by omega, by simp; omega, by go_num, rfl, HA2, HP6⟩
            case measure => simp [intOf]; omega
        · have e2 : ¬ yo = lo := by omega
          have hd1 : decide (lo ≤ yo) = false := by rw [decide_eq_false_iff_not]; exact e1
          rw [if_neg (by simp; omega), if_neg e2, List.nil_append, hd1, Bool.or_false] at ha
          have HA2 := Lib.hid (show (acc ++ [(⟨yo, ys, yl⟩ : La)]) ++ refPut ⟨lo, lsq, lls⟩ false (db.drop (k + 1)) = refPut ⟨lo, lsq, lls⟩ false db by rw [List.append_assoc]; exact ha); clear ha
          have hb2 : (yo != lo) = true := by rw [bne_iff_ne]; exact e2
          go_wp2
          go_quiet (fail)
          have HP2 := Lib.hid (HP1.out.drewN nq)
          have HO2 := Lib.hid (own_drewN HO1.out nq)
          have HK2 : Hid (∀ i, i < acc.length → Lks (W.drewN nq) B0 (us.getD i undef) (acc.getD i zeroL).ls) := Lib.hid (fun i hi => (HK1.out i hi).drewN nq)
          clear HP1 HO1 HK1 x0 x1 x2 x3 c0 c1 c2_
          have c0 := (HP2.out.low.cell (p := ⟨bb, off + k * 3, none⟩) hbr).trans HC0.out
          have c1 := (HP2.out.low.cell (p := ⟨bb, off + k * 3 + 1, none⟩) hbr).trans HC1.out
          have c2_ := (HP2.out.low.cell (p := ⟨bb, off + k * 3 + 2, none⟩) hbr).trans HC2.out
          obtain ⟨x0, x1, x2, x3⟩ := blk_cells3 HP2.out.box
          have hps2 := HP2.out.size
          generalize W.drewN nq = W2 at *
          go_wp2
          go_quiet (fail)
          have HP3 := Lib.hid (HP2.out.drewN nq)
          have HO3 := Lib.hid (own_drewN HO2.out nq)
          have HK3 : Hid (∀ i, i < acc.length → Lks (W2.drewN nq) B0 (us.getD i undef) (acc.getD i zeroL).ls) := Lib.hid (fun i hi => (HK2.out i hi).drewN nq)
          clear HP2 HO2 HK2 x0 x1 x2 x3 c0 c1 c2_
          have c0 := (HP3.out.low.cell (p := ⟨bb, off + k * 3, none⟩) hbr).trans HC0.out
          have c1 := (HP3.out.low.cell (p := ⟨bb, off + k * 3 + 1, none⟩) hbr).trans HC1.out
          have c2_ := (HP3.out.low.cell (p := ⟨bb, off + k * 3 + 2, none⟩) hbr).trans HC2.out
          obtain ⟨x0, x1, x2, x3⟩ := blk_cells3 HP3.out.box
          have hps3 := HP3.out.size
          generalize W2.drewN nq = W3 at *
          go_wp2_with (at_builtin; (refine wpList_append_any _ rfl (.tmp 39) (.tmp 44) 22 rfl (w.heap.size + 1) 50 i0 (.agg #[.int .i64 0, .int .i64 0, .slice none 0 0]) 3 40 Try.underlying22 HI.out HZ0.out HZ1.out HZ2.out rfl (by decide) (.slice Av acc.length cv) acc.length (flatL acc us) rfl (own_below HO3.out (low1 (Below.refl _ _) _)) _ (some ⟨_, 0, none⟩) 1 1 (rowL ⟨yo, ys, yl⟩ (.slice Au nu cu)) rfl (reads_lsa _ ⟨yo, ys, yl⟩ (.slice Au nu cu) _ rfl) (rowL_one _ _ rfl) (by unfold maxLen; omega) (by omega) (by have := HP3.out.size; simp; omega) ?_; intro v4 w4 hown4 hg4 _; have HP4 := Lib.hid (HP3.out.push HU1.out HK3.out HO3.out HK2_.out hown4 hg4); clear hown4 hg4))
          go_roundw
          case rel => exact ⟨k + 1, false, acc ++ [⟨yo, ys, yl⟩], by omega, by simp; omega, by go_num, rfl, HA2, HP4⟩
          case measure => simp [intOf]; omega
      · by_cases e2 : yo = lo
        · rw [if_neg (by simp), if_pos e2, List.nil_append, List.nil_append, Bool.true_or] at ha
          have HA2 := Lib.hid ha; clear ha
          have hb2 : (yo != lo) = false := by simp [e2]
          go_wp2
          go_quiet (fail)
          have HP2 := Lib.hid (HP1.out.drewN nq)
          have HO2 := Lib.hid (own_drewN HO1.out nq)
          have HK2 : Hid (∀ i, i < acc.length → Lks (W.drewN nq) B0 (us.getD i undef) (acc.getD i zeroL).ls) := Lib.hid (fun i hi => (HK1.out i hi).drewN nq)
          clear HP1 HO1 HK1 x0 x1 x2 x3 c0 c1 c2_
          have c0 := (HP2.out.low.cell (p := ⟨bb, off + k * 3, none⟩) hbr).trans HC0.out
          have c1 := (HP2.out.low.cell (p := ⟨bb, off + k * 3 + 1, none⟩) hbr).trans HC1.out
          have c2_ := (HP2.out.low.cell (p := ⟨bb, off + k * 3 + 2, none⟩) hbr).trans HC2.out
          obtain ⟨x0, x1, x2, x3⟩ := blk_cells3 HP2.out.box
          have hps2 := HP2.out.size
          generalize W.drewN nq = W2 at *
          go_wp2
          go_quiet (fail)
          have HP3 := Lib.hid (HP2.out.drewN nq)
          have HO3 := Lib.hid (own_drewN HO2.out nq)
          have HK3 : Hid (∀ i, i < acc.length → Lks (W2.drewN nq) B0 (us.getD i undef) (acc.getD i zeroL).ls) := Lib.hid (fun i hi => (HK2.out i hi).drewN nq)
          clear HP2 HO2 HK2 x0 x1 x2 x3 c0 c1 c2_
          have c0 := (HP3.out.low.cell (p := ⟨bb, off + k * 3, none⟩) hbr).trans HC0.out
          have c1 := (HP3.out.low.cell (p := ⟨bb, off + k * 3 + 1, none⟩) hbr).trans HC1.out
          have c2_ := (HP3.out.low.cell (p := ⟨bb, off + k * 3 + 2, none⟩) hbr).trans HC2.out
          obtain ⟨x0, x1, x2, x3⟩ := blk_cells3 HP3.out.box
          have hps3 := HP3.out.size
          generalize W2.drewN nq = W3 at *
          go_wp2
          go_roundw
          case rel => exact ⟨k + 1, true, acc, by omega, by omega, by go_num, rfl, HA2, HP3⟩
          case measure => simp [intOf]; omega
        · rw [if_neg (by simp), if_neg e2, List.nil_append, Bool.true_or] at ha
          have HA2 := Lib.hid (show (acc ++ [(⟨yo, ys, yl⟩ : La)]) ++ refPut ⟨lo, lsq, lls⟩ true (db.drop (k + 1)) = refPut ⟨lo, lsq, lls⟩ false db by rw [List.append_assoc]; exact ha); clear ha
          have hb2 : (yo != lo) = true := by rw [bne_iff_ne]; exact e2
          go_wp2
          go_quiet (fail)
          have HP2 := Lib.hid (HP1.out.drewN nq)
          have HO2 := Lib.hid (own_drewN HO1.out nq)
          have HK2 : Hid (∀ i, i < acc.length → Lks (W.drewN nq) B0 (us.getD i undef) (acc.getD i zeroL).ls) := Lib.hid (fun i hi => (HK1.out i hi).drewN nq)
          clear HP1 HO1 HK1 x0 x1 x2 x3 c0 c1 c2_
          have c0 := (HP2.out.low.cell (p := ⟨bb, off + k * 3, none⟩) hbr).trans HC0.out
          have c1 := (HP2.out.low.cell (p := ⟨bb, off + k * 3 + 1, none⟩) hbr).trans HC1.out
          have c2_ := (HP2.out.low.cell (p := ⟨bb, off + k * 3 + 2, none⟩) hbr).trans HC2.out
          obtain ⟨x0, x1, x2, x3⟩ := blk_cells3 HP2.out.box
          have hps2 := HP2.out.size
          generalize W.drewN nq = W2 at *
          go_wp2
          go_quiet (fail)
          have HP3 := Lib.hid (HP2.out.drewN nq)
          have HO3 := Lib.hid (own_drewN HO2.out nq)
          have HK3 : Hid (∀ i, i < acc.length → Lks (W2.drewN nq) B0 (us.getD i undef) (acc.getD i zeroL).ls) := Lib.hid (fun i hi => (HK2.out i hi).drewN nq)
          clear HP2 HO2 HK2 x0 x1 x2 x3 c0 c1 c2_
          have c0 := (HP3.out.low.cell (p := ⟨bb, off + k * 3, none⟩) hbr).trans HC0.out
          have c1 := (HP3.out.low.cell (p := ⟨bb, off + k * 3 + 1, none⟩) hbr).trans HC1.out
          have c2_ := (HP3.out.low.cell (p := ⟨bb, off + k * 3 + 2, none⟩) hbr).trans HC2.out
          obtain ⟨x0, x1, x2, x3⟩ := blk_cells3 HP3.out.box
          have hps3 := HP3.out.size
          generalize W2.drewN nq = W3 at *
          go_wp2_with (at_builtin; (refine wpList_append_any _ rfl (.tmp 39) (.tmp 44) 22 rfl (w.heap.size + 1) 50 i0 (.agg #[.int .i64 0, .int .i64 0, .slice none 0 0]) 3 40 Try.underlying22 HI.out HZ0.out HZ1.out HZ2.out rfl (by decide) (.slice Av acc.length cv) acc.length (flatL acc us) rfl (own_below HO3.out (low1 (Below.refl _ _) _)) _ (some ⟨_, 0, none⟩) 1 1 (rowL ⟨yo, ys, yl⟩ (.slice Au nu cu)) rfl (reads_lsa _ ⟨yo, ys, yl⟩ (.slice Au nu cu) _ rfl) (rowL_one _ _ rfl) (by unfold maxLen; omega) (by omega) (by have := HP3.out.size; simp; omega) ?_; intro v4 w4 hown4 hg4 _; have HP4 := Lib.hid (HP3.out.push HU1.out HK3.out HO3.out HK2_.out hown4 hg4); clear hown4 hg4))
          go_roundw
          case rel => exact ⟨k + 1, true, acc ++ [⟨yo, ys, yl⟩], by omega, by simp; omega, by go_num, rfl, HA2, HP4⟩
          case measure => simp [intOf]; omega
    · obtain rfl : n = k := by omega
      have ha := HA.out
      rw [List.drop_eq_nil_of_le (by have := HL.out; omega)] at ha
      cases b
      · have ha2 : acc ++ [(⟨lo, lsq, lls⟩ : La)] = refPut ⟨lo, lsq, lls⟩ false db := ha
        have HA2 := Lib.hid ha2; clear ha ha2 HA
        have hfin : ∀ (v4 : Value) (w4 : World), PutAt w B0 w4 ⟨lo, lsq, lls⟩ (.slice Al nl cl) v4 (acc ++ [(⟨lo, lsq, lls⟩ : La)]) → P1 (.returned v4) w4 := by
          intro v4 w4 hp
          rw [HPP.out]
          exact ⟨v4, rfl, by rw [← HA2.out]; exact hp.row, hp.low⟩
        have FIN := Lib.hid hfin; clear hfin
        go_wp2_with (at_builtin; (refine wpList_append_any _ rfl (.tmp 48) (.tmp 50) 22 rfl (w.heap.size + 1) 50 i0 (.agg #[.int .i64 0, .int .i64 0, .slice none 0 0]) 3 40 Try.underlying22 HI.out HZ0.out HZ1.out HZ2.out rfl (by decide) (.slice Av acc.length cv) acc.length (flatL acc us) rfl (own_below HO1.out (low1 (Below.refl _ _) _)) _ (some ⟨_, 0, none⟩) 1 1 (rowL ⟨lo, lsq, lls⟩ (.slice Al nl cl)) rfl (reads_lsa _ ⟨lo, lsq, lls⟩ (.slice Al nl cl) _ rfl) (rowL_one _ _ rfl) (by unfold maxLen; omega) (by omega) (by have := HP1.out.size; simp; omega) ?_; intro v4 w4 hown4 hg4 _; have HP4 := Lib.hid (HP1.out.push HU1.out HK1.out HO1.out HU.out hown4 hg4); have HF4 := Lib.hid (FIN.out v4 w4 HP4.out); clear hown4 hg4))
        exact HF4.out
      · have ha2 : acc ++ [] = refPut ⟨lo, lsq, lls⟩ false db := ha
        rw [List.append_nil] at ha2
        have hfin : P1 (.returned (.slice Av acc.length cv)) W := by
          rw [HPP.out]
          exact ⟨_, rfl, by rw [← ha2]; exact HP1.out.row, HP1.out.low⟩
        have FIN := Lib.hid hfin; clear hfin ha ha2 HA
        go_wp2
        exact FIN.out
end Go.Proofs.Ytcojimbnenibnaa.Bas
