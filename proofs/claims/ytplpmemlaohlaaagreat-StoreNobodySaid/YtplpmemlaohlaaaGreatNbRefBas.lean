/- RefBas: the texts BasRef, BasRefPut, BasRefEp, BasRefDo, BasRefMay, BasRefApply, BasRefSame in one. (Printed by tools/mergeall.py.) -/
import Derived.Test.YtplpmemlaohlaaaGreatNbBasApply
import Derived.Test.YtplpmemlaohlaaaGreatNbBasDo
import Derived.Test.YtplpmemlaohlaaaGreatNbBasMem
import Derived.Test.YtplpmemlaohlaaaGreatNbChgRefMay
import Derived.Test.YtplpmemlaohlaaaGreatNbLsaSame
import Derived.Deep.Cut
import Derived.Deep.RegionHeld3
import Derived.IntWalk
/- The document's own answers of layer 11, that look: waymarkref11.Seq, Get, Epoch; waymarkref09.All; waymarkref11.Same, May. -/
namespace Go.Proofs.YtplpmemlaohlaaaGreat.Bas
open Go.RowKit Go.Proofs.YtplpmemlaohlaaaGreat.Mem Go.Proofs.YtplpmemlaohlaaaGreat.Oct Go.Proofs.YtplpmemlaohlaaaGreat.Lsa Go.Proofs.YtplpmemlaohlaaaGreat.Chg
set_option linter.unusedVariables false
set_option linter.unusedSimpArgs false
theorem sameL_eq (a b : La) : sameL a b = sameB a.o a.s a.ls b.o b.s b.ls := rfl
set_option maxRecDepth 20000 in
set_option maxHeartbeats 8000000 in
theorem rall_db (A A' : Option Addr) (n n' c c' : Nat) (d e : List La) (w : World) (h : Las w w.heap.size (.slice A n c) d) (h' : Las w w.heap.size (.slice A' n' c') e) :
    Calls Tryz.prog 53 #[.slice A n c, .slice A' n' c'] w fun e_ w' => e_ = .returned (.bool (sameDb d e)) ∧ Below w.heap.size w w' := by
  obtain ⟨hl, hnc, hcm, _⟩ := las_len h
  obtain ⟨hl', hnc', hcm', _⟩ := las_len h'
  unfold maxLen at hcm hcm'
  by_cases hn : n = n'
  · subst hn
    have HL := Lib.hid hl; clear hl
    have HL' := Lib.hid hl'; clear hl'
    have HS := Lib.hid h; clear h
    have HS' := Lib.hid h'; clear h'
    obtain ⟨z, hz⟩ : ∃ z, z = sameDb d e := ⟨_, rfl⟩
    rw [← hz]
    have HZ := Lib.hid hz; clear hz
    have hbn : ((n : Int) != (n : Int)) = false := by simp
    go_enter Tryz.func53, Tryz.ntmps53
    go_wp2
    go_loopw [5] (fun i wr => ∃ k : Nat, k ≤ n ∧ i = .int .i64 k ∧ Hid (z = sameDb (d.drop k) (e.drop k)) ∧ Hid (Below w.heap.size w wr)) (fun i _ => n - (intOf i).toNat)
    case atStart => exact ⟨0, Nat.zero_le _, rfl, HZ, Lib.hid (Below.refl _ _)⟩
    case round =>
      obtain ⟨k, hk, rfl, HZ2, HBW⟩ := hrel
      by_cases hlt : k < n
      · obtain ⟨b, off, rfl, hb, hc⟩ := las_at HS.out (by omega)
        obtain ⟨b', off', rfl, hb', hc'⟩ := las_at HS'.out (by omega)
        obtain ⟨u, hr, hk2⟩ := hc k hlt
        obtain ⟨u', hr', hk2'⟩ := hc' k hlt
        have c0 := (HBW.out.cell (p := ⟨b, off + k * 3 + 0, none⟩) hb).trans (hr 0 _ rfl)
        have c1 := (HBW.out.cell (p := ⟨b, off + k * 3 + 1, none⟩) hb).trans (hr 1 _ rfl)
        have c2_ := (HBW.out.cell (p := ⟨b, off + k * 3 + 2, none⟩) hb).trans (hr 2 _ rfl)
        have d0 := (HBW.out.cell (p := ⟨b', off' + k * 3 + 0, none⟩) hb').trans (hr' 0 _ rfl)
        have d1 := (HBW.out.cell (p := ⟨b', off' + k * 3 + 1, none⟩) hb').trans (hr' 1 _ rfl)
        have d2 := (HBW.out.cell (p := ⟨b', off' + k * 3 + 2, none⟩) hb').trans (hr' 2 _ rfl)
        rw [Nat.add_zero] at c0 d0
        have hz := HZ2.out
        rw [sameDb_step d e k (by have := HL.out; omega) (by have := HL'.out; omega), sameL_eq] at hz
        clear hc hr hc' hr'
        generalize d.getD k zeroL = x at *
        generalize e.getD k zeroL = y at *
        obtain ⟨xo, xs, xl⟩ := x
        obtain ⟨yo, ys, yl⟩ := y
        simp only at c0 c1 c2_ d0 d1 d2 hz hk2 hk2'
        have hws := HBW.out.size
        have sm := rsame_lsa xo xs yo ys u u' xl yl wr.drew (hk2.below HBW.out (Nat.le_refl _) |>.more hws) (hk2'.below HBW.out (Nat.le_refl _) |>.more hws)
        have hbb : b < wr.heap.size := by omega
        have hbb' : b' < wr.heap.size := by omega
        clear hk2 hk2'
        cases hsb : sameB xo xs xl yo ys yl
        all_goals
          rw [hsb] at hz sm
          have SM := Lib.hid sm; clear sm
          have HZ3 := Lib.hid hz; clear hz
          go_wp2_with (fail)
          go_region_held3 (fun W => W.cell? ⟨b, off + k * 3, none⟩ = some (.int .i64 xo) ∧ W.cell? ⟨b, off + k * 3 + 1, none⟩ = some (.int .i64 xs) ∧ W.cell? ⟨b, off + k * 3 + 2, none⟩ = some u ∧ W.cell? ⟨b', off' + k * 3, none⟩ = some (.int .i64 yo) ∧ W.cell? ⟨b', off' + k * 3 + 1, none⟩ = some (.int .i64 ys) ∧ W.cell? ⟨b', off' + k * 3 + 2, none⟩ = some u')
            (first
              | with_reducible exact ⟨c0, c1, c2_, d0, d1, d2⟩
              | with_reducible exact ⟨e0, e1, e2, f0, f1, f2⟩
              | go_keep)
            (first | (go_at_call 64; refine (SM.out).mono ?_; rintro e w6 ⟨rfl, hb6⟩; have hb6 : Below wr.heap.size wr w6 := ⟨hb6.os, hb6.tape, hb6.output, hb6.size, hb6.block⟩; have e0 := (hb6.cell (p := ⟨b, off + k * 3, none⟩) hbb).trans c0; have e1 := (hb6.cell (p := ⟨b, off + k * 3 + 1, none⟩) hbb).trans c1; have e2 := (hb6.cell (p := ⟨b, off + k * 3 + 2, none⟩) hbb).trans c2_; have f0 := (hb6.cell (p := ⟨b', off' + k * 3, none⟩) hbb').trans d0; have f1 := (hb6.cell (p := ⟨b', off' + k * 3 + 1, none⟩) hbb').trans d1; have f2 := (hb6.cell (p := ⟨b', off' + k * 3 + 2, none⟩) hbb').trans d2; have HB6 := Lib.hid (low_low HBW.out hb6); clear hb6))
        · go_wp2
          go_ret
          exact ⟨ret_bool (by simp [HZ3.out]), HB6.out⟩
        · go_wp2
          go_roundw
          case rel => exact ⟨k + 1, by omega, by go_num, Lib.hid (by have := HZ3.out; rwa [Bool.true_and] at this), HB6⟩
          case measure => simp [intOf]; omega
      · obtain rfl : k = n := by omega
        have hz := HZ2.out
        rw [List.drop_eq_nil_of_le (by have := HL.out; omega), List.drop_eq_nil_of_le (by have := HL'.out; omega)] at hz
        have HZ3 := Lib.hid hz; clear hz
        go_wp2
        go_ret
        exact ⟨ret_bool (by simp [HZ3.out, sameDb]), HBW.out⟩
  · have hb : ((n : Int) != (n' : Int)) = true := by rw [bne_iff_ne]; omega
    have hd : sameDb d e = false := by
      rw [Bool.eq_false_iff]
      intro hh
      have := sameDb_iff.1 hh
      exact hn (by rw [← hl, ← hl', this])
    rw [hd]
    go_enter Tryz.func53, Tryz.ntmps53
    go_wp2
    go_ret
    exact ⟨rfl, Below.refl _ _⟩
end Go.Proofs.YtplpmemlaohlaaaGreat.Bas
/- The document's way of putting an Lsa into a base, and an epoch (layer 11): waymarkref11.Put, epochs. -/
namespace Go.Proofs.YtplpmemlaohlaaaGreat.Bas
open Go.RowKit Go.Proofs.YtplpmemlaohlaaaGreat.Mem Go.Proofs.YtplpmemlaohlaaaGreat.Oct Go.Proofs.YtplpmemlaohlaaaGreat.Lsa Go.Proofs.YtplpmemlaohlaaaGreat.Chg
set_option linter.unusedVariables false
set_option linter.unusedSimpArgs false
/-- links in an elder block, or in a row of links -/
def LkS (w : World) (B0 : Nat) (v : Value) (l : List Lk) : Prop :=
  ∃ (A : Option Addr) (n c : Nat), v = .slice A n c ∧ l.length = n ∧ n ≤ c ∧ c ≤ maxLen ∧ (A = none → c = 0) ∧
    (0 < n → ∃ b off, A = some ⟨b, off, none⟩ ∧ (b < B0 ∨ ∃ cs, Blk w b 195 cs) ∧ b < w.heap.size ∧ ∀ i, i < n → w.cell? ⟨b, off + i * 2, none⟩ = some (.int .i64 (l.getD i (0, 0)).1) ∧ w.cell? ⟨b, off + i * 2 + 1, none⟩ = some (.int .i64 (l.getD i (0, 0)).2))
section
variable {w w' : World} {B0 : Nat} {v : Value} {l : List Lk}
theorem LkS.more (h : LkS w B0 v l) (_ : B0 ≤ w.heap.size) : Lks w w.heap.size v l := by
  obtain ⟨A, n, c, e, h1, h2, h3, h4, h5⟩ := h
  refine ⟨A, n, c, e, h1, h2, h3, h4, fun h0 => ?_⟩
  obtain ⟨b, off, e, _, hb, hc⟩ := h5 h0
  exact ⟨b, off, e, hb, hc⟩
theorem LkS.below (h : LkS w B0 v l) (hb : Below w.heap.size w w') (_ : B0 ≤ w.heap.size) : LkS w' B0 v l := by
  obtain ⟨A, n, c, e, h1, h2, h3, h4, h5⟩ := h
  refine ⟨A, n, c, e, h1, h2, h3, h4, fun h0 => ?_⟩
  obtain ⟨b, off, e, hs, hbw, hc⟩ := h5 h0
  exact ⟨b, off, e, hs.elim .inl (fun ⟨cs, hk⟩ => .inr ⟨cs, hk.below hb hbw⟩), Nat.lt_of_lt_of_le hbw hb.size, fun i hi => ⟨(hb.cell (p := ⟨b, off + i * 2, none⟩) hbw).trans (hc i hi).1, (hb.cell (p := ⟨b, off + i * 2 + 1, none⟩) hbw).trans (hc i hi).2⟩⟩
theorem LkS.drewN (h : LkS w B0 v l) (n : Nat) : LkS (w.drewN n) B0 v l := h
/-- behind a change of one block that holds no links -/
theorem LkS.gr {q : Option Nat} (h : LkS w B0 v l) (hg : w.grownBy w' q) (hq : ∀ g, q = some g → B0 ≤ g ∧ ∀ cs, ¬ Blk w g 195 cs) : LkS w' B0 v l := by
  obtain ⟨A, n, c, e, h1, h2, h3, h4, h5⟩ := h
  refine ⟨A, n, c, e, h1, h2, h3, h4, fun h0 => ?_⟩
  obtain ⟨b, off, e, hs, hbw, hc⟩ := h5 h0
  have hbg : q ≠ some b := by
    intro hqb
    obtain ⟨a1, a2⟩ := hq b hqb
    rcases hs with h | ⟨cs', hk⟩
    · omega
    · exact a2 _ hk
  refine ⟨b, off, e, hs.elim .inl (fun ⟨cs, hk⟩ => .inr ⟨cs, hk.grown hg (fun e => hbg e.symm)⟩), Nat.lt_of_lt_of_le hbw hg.size, fun i hi => ⟨?_, ?_⟩⟩
  · rw [← (hc i hi).1]; exact World.cell?_of_block (hg.block b hbw (fun e => hbg e.symm))
  · rw [← (hc i hi).2]; exact World.cell?_of_block (hg.block b hbw (fun e => hbg e.symm))
theorem LkS.blk {g t : Nat} {cs : Array Value} (h : LkS w B0 v l) (hv : Blk w g t cs) (hne : 195 ≠ t) (hg0 : B0 ≤ g) (hg : w.grownBy w' (some g)) : LkS w' B0 v l :=
  h.gr hg (fun g' hg' => by cases hg'; exact ⟨hg0, fun cs' hk => Blk.ne_ hk hv hne rfl⟩)
theorem LkS.row {base n sz : Nat} {e : TypeId} {z : Value} {xs : List Value} (h : LkS w B0 v l) (hv : w.ownsRow base e sz z n xs) (hne : 195 ≠ e) (hg0 : ∀ q, z.ownBlock = some q → B0 ≤ q) (hg : w.grownBy w' z.ownBlock) : LkS w' B0 v l :=
  h.gr hg (fun g hq => ⟨hg0 g hq, fun cs hk => own_blk_ne hv hk (Ne.symm hne) hq⟩)
end
/-- a row of one's own, whose Lsas' links lie in elder blocks -/
def OwnR (w : World) (B0 base : Nat) (v : Value) (l : List La) : Prop :=
  ∃ us : List Value, us.length = l.length ∧ w.ownsRow base 80 3 v l.length (flatL l us) ∧ ∀ i, i < l.length → LkS w B0 (us.getD i undef) (l.getD i zeroL).ls
/-- a slice of Lsas in an elder block, or in a row of Lsas; their links in elder blocks -/
def SafeL (w : World) (B0 : Nat) (v : Value) (l : List La) : Prop :=
  ∃ (A : Option Addr) (n c : Nat), v = .slice A n c ∧ l.length = n ∧ n ≤ c ∧ c ≤ maxLen ∧ (A = none → c = 0) ∧
    (0 < n → ∃ b off, A = some ⟨b, off, none⟩ ∧ (b < B0 ∨ ∃ cs, Blk w b 80 cs) ∧ b < w.heap.size ∧ ∀ i, i < n → ∃ u, w.rangeAt b (off + i * 3) (rowL (l.getD i zeroL) u) ∧ LkS w B0 u (l.getD i zeroL).ls)
theorem SafeL.form {w : World} {B0 : Nat} {v : Value} {l : List La} (h : SafeL w B0 v l) : ∃ A n c, v = .slice A n c := by
  obtain ⟨A, n, c, e, _⟩ := h
  exact ⟨A, n, c, e⟩
theorem SafeL.las {w : World} {B0 : Nat} {v : Value} {l : List La} (h : SafeL w B0 v l) (hB : B0 ≤ w.heap.size) : Las w w.heap.size v l := by
  obtain ⟨A, n, c, e, h1, h2, h3, h4, h5⟩ := h
  refine ⟨A, n, c, e, h1, h2, h3, h4, fun h0 => ?_⟩
  obtain ⟨b, off, e, _, hb, hc⟩ := h5 h0
  refine ⟨b, off, e, hb, fun i hi => ?_⟩
  obtain ⟨u, hr, hk⟩ := hc i hi
  exact ⟨u, hr, hk.more hB⟩
theorem SafeL.up {w w' : World} {B0 : Nat} {v : Value} {l : List La} (h : SafeL w B0 v l) (hB : B0 ≤ w.heap.size) (hb : Below w.heap.size w w') : SafeL w' B0 v l := by
  obtain ⟨A, n, c, e, h1, h2, h3, h4, h5⟩ := h
  refine ⟨A, n, c, e, h1, h2, h3, h4, fun h0 => ?_⟩
  obtain ⟨b, off, e, hs, hbw, hc⟩ := h5 h0
  refine ⟨b, off, e, hs.elim .inl (fun ⟨cs, hk⟩ => .inr ⟨cs, hk.below hb hbw⟩), Nat.lt_of_lt_of_le hbw hb.size, fun i hi => ?_⟩
  obtain ⟨u, hr, hk⟩ := hc i hi
  exact ⟨u, rangeC_below hr hb hbw, hk.below hb hB⟩
/-- behind a change of a block that holds no Lsas -/
theorem SafeL.blk {w w' : World} {B0 g t : Nat} {v : Value} {cs : Array Value} {l : List La} (h : SafeL w B0 v l) (hB : B0 ≤ w.heap.size) (hv : Blk w g t cs) (hne : 80 ≠ t ∧ 195 ≠ t) (hg0 : B0 ≤ g) (hg : w.grownBy w' (some g)) : SafeL w' B0 v l := by
  obtain ⟨A, n, c, e, h1, h2, h3, h4, h5⟩ := h
  refine ⟨A, n, c, e, h1, h2, h3, h4, fun h0 => ?_⟩
  obtain ⟨b, off, e, hs, hbw, hc⟩ := h5 h0
  have hbg : b ≠ g := by
    rcases hs with h | ⟨cs', hk⟩
    · omega
    · exact Blk.ne_ hk hv hne.1
  refine ⟨b, off, e, hs.elim .inl (fun ⟨cs, hk⟩ => .inr ⟨cs, hk.grown hg (by simpa using hbg)⟩), Nat.lt_of_lt_of_le hbw hg.size, fun i hi => ?_⟩
  obtain ⟨u, hr, hk⟩ := hc i hi
  refine ⟨u, fun j x hx => ?_, hk.blk hv hne.2 hg0 hg⟩
  rw [← hr j x hx]
  exact World.cell?_of_block (hg.block b hbw (by simpa using hbg))
theorem reads_lsa (w : World) (a : La) (u : Value) (g : Nat) (hg : g = w.heap.size) : Reads (w.alloc (.cells #[.int .i64 a.o, .int .i64 a.s, u] 80)) (w.heap.size + 1) 3 (some ⟨g, 0, none⟩) 1 (rowL a u) := by
  subst hg
  refine ⟨rfl, fun _ => ⟨_, rfl, Nat.lt_succ_self _, fun j v hu => ?_⟩⟩
  have hk := Blk.new w 80 #[.int .i64 a.o, .int .i64 a.s, u]
  rw [add_plain, Nat.zero_add, hk.cell]
  simpa [rowL] using hu
/-- what has been put so far, and the block of what is put -/
structure PutAt (w : World) (B0 : Nat) (wr : World) (l : La) (u v : Value) (acc : List La) : Prop where
  old : B0 ≤ w.heap.size
  row : OwnR wr B0 (w.heap.size + 1) v acc
  box : Blk wr w.heap.size 80 #[.int .i64 l.o, .int .i64 l.s, u]
  low : Below w.heap.size w wr
  size : w.heap.size + 1 ≤ wr.heap.size
theorem PutAt.form {w wr : World} {B0 : Nat} {l : La} {u v : Value} {acc : List La} (h : PutAt w B0 wr l u v acc) : ∃ A c, v = .slice A acc.length c := by
  obtain ⟨us, _, ho, _⟩ := h.row
  exact own_form ho
theorem PutAt.drewN {w wr : World} {B0 : Nat} {l : La} {u v : Value} {acc : List La} (h : PutAt w B0 wr l u v acc) (n : Nat) : PutAt w B0 (wr.drewN n) l u v acc := ⟨h.old, h.row, h.box, below_drewN h.low n, h.size⟩
def PutOut (w : World) (B0 : Nat) (db : List La) (l : La) (e : Ending) (w' : World) : Prop := ∃ v, e = .returned v ∧ OwnR w' B0 (w.heap.size + 1) v (refPut l false db) ∧ Below w.heap.size w w'
end Go.Proofs.YtplpmemlaohlaaaGreat.Bas
/- The document's way of putting an epoch (layer 11): waymarkref11.epochs. -/
namespace Go.Proofs.YtplpmemlaohlaaaGreat.Bas
open Go.RowKit Go.Proofs.YtplpmemlaohlaaaGreat.Mem Go.Proofs.YtplpmemlaohlaaaGreat.Oct Go.Proofs.YtplpmemlaohlaaaGreat.Lsa Go.Proofs.YtplpmemlaohlaaaGreat.Chg
set_option linter.unusedVariables false
set_option linter.unusedSimpArgs false
theorem reads_ep (w : World) (a b : Int) (g : Nat) (hg : g = w.heap.size) : Reads (w.alloc (.cells #[.int .i64 a, .int .i64 b] 118)) (w.heap.size + 1) 2 (some ⟨g, 0, none⟩) 1 (lkCells [(a, b)]) := by
  subst hg
  refine ⟨rfl, fun _ => ⟨_, rfl, Nat.lt_succ_self _, fun j u hu => ?_⟩⟩
  have hk := Blk.new w 118 #[.int .i64 a, .int .i64 b]
  rw [add_plain, Nat.zero_add, hk.cell]
  simpa [lkCells] using hu
structure EpAt (w wr : World) (e : Int × Int) (v : Value) (acc : List (Int × Int)) : Prop where
  row : wr.ownsRow (w.heap.size + 1) 118 2 v acc.length (lkCells acc)
  box : Blk wr w.heap.size 118 #[.int .i64 e.1, .int .i64 e.2]
  low : Below w.heap.size w wr
  size : w.heap.size + 1 ≤ wr.heap.size
theorem EpAt.form {w wr : World} {e : Int × Int} {v : Value} {acc : List (Int × Int)} (h : EpAt w wr e v acc) : ∃ A c, v = .slice A acc.length c := own_form h.row
theorem EpAt.drewN {w wr : World} {e : Int × Int} {v : Value} {acc : List (Int × Int)} (h : EpAt w wr e v acc) (n : Nat) : EpAt w (wr.drewN n) e v acc := ⟨h.row, h.box, below_drewN h.low n, h.size⟩
/-- a slice of epochs in an elder block, or in a row of epochs -/
def SafeE (w : World) (B0 : Nat) (v : Value) (l : List (Int × Int)) : Prop :=
  ∃ (A : Option Addr) (n c : Nat), v = .slice A n c ∧ l.length = n ∧ n ≤ c ∧ c ≤ maxLen ∧ (A = none → c = 0) ∧
    (0 < n → ∃ b off, A = some ⟨b, off, none⟩ ∧ (b < B0 ∨ ∃ cs, Blk w b 118 cs) ∧ b < w.heap.size ∧ ∀ i, i < n → w.cell? ⟨b, off + i * 2, none⟩ = some (.int .i64 (l.getD i (0, 0)).1) ∧ w.cell? ⟨b, off + i * 2 + 1, none⟩ = some (.int .i64 (l.getD i (0, 0)).2))
theorem SafeE.form {w : World} {B0 : Nat} {v : Value} {l : List (Int × Int)} (h : SafeE w B0 v l) : ∃ A n c, v = .slice A n c := by
  obtain ⟨A, n, c, e, _⟩ := h
  exact ⟨A, n, c, e⟩
theorem SafeE.lks {w : World} {B0 : Nat} {v : Value} {l : List (Int × Int)} (h : SafeE w B0 v l) : Lks w w.heap.size v l := by
  obtain ⟨A, n, c, e, h1, h2, h3, h4, h5⟩ := h
  refine ⟨A, n, c, e, h1, h2, h3, h4, fun h0 => ?_⟩
  obtain ⟨b, off, e, _, hb, hc⟩ := h5 h0
  exact ⟨b, off, e, hb, hc⟩
theorem SafeE.up {w w' : World} {B0 : Nat} {v : Value} {l : List (Int × Int)} (h : SafeE w B0 v l) (hb : Below w.heap.size w w') : SafeE w' B0 v l := by
  obtain ⟨A, n, c, e, h1, h2, h3, h4, h5⟩ := h
  refine ⟨A, n, c, e, h1, h2, h3, h4, fun h0 => ?_⟩
  obtain ⟨b, off, e, hs, hbw, hc⟩ := h5 h0
  exact ⟨b, off, e, hs.elim .inl (fun ⟨cs, hk⟩ => .inr ⟨cs, hk.below hb hbw⟩), Nat.lt_of_lt_of_le hbw hb.size, fun i hi => ⟨(hb.cell (p := ⟨b, off + i * 2, none⟩) hbw).trans (hc i hi).1, (hb.cell (p := ⟨b, off + i * 2 + 1, none⟩) hbw).trans (hc i hi).2⟩⟩
theorem SafeE.blk {w w' : World} {B0 g t : Nat} {v : Value} {cs : Array Value} {l : List (Int × Int)} (h : SafeE w B0 v l) (hv : Blk w g t cs) (hne : 118 ≠ t) (hg0 : B0 ≤ g) (hg : w.grownBy w' (some g)) : SafeE w' B0 v l := by
  obtain ⟨A, n, c, e, h1, h2, h3, h4, h5⟩ := h
  refine ⟨A, n, c, e, h1, h2, h3, h4, fun h0 => ?_⟩
  obtain ⟨b, off, e, hs, hbw, hc⟩ := h5 h0
  have hbg : b ≠ g := by
    rcases hs with h | ⟨cs', hk⟩
    · omega
    · exact Blk.ne_ hk hv hne
  refine ⟨b, off, e, hs.elim .inl (fun ⟨cs, hk⟩ => .inr ⟨cs, hk.grown hg (by simpa using hbg)⟩), Nat.lt_of_lt_of_le hbw hg.size, fun i hi => ⟨?_, ?_⟩⟩
  · rw [← (hc i hi).1]; exact World.cell?_of_block (hg.block b hbw (by simpa using hbg))
  · rw [← (hc i hi).2]; exact World.cell?_of_block (hg.block b hbw (by simpa using hbg))
theorem pick_no {g : Int → Int} {o : Int} (h : ¬ 0 < g o) : pick g o = [] := if_neg h
end Go.Proofs.YtplpmemlaohlaaaGreat.Bas
/- A change done, by the document's own answer (layer 11): waymarkref11.Do. -/
namespace Go.Proofs.YtplpmemlaohlaaaGreat.Bas
open Go.RowKit Go.Proofs.YtplpmemlaohlaaaGreat.Mem Go.Proofs.YtplpmemlaohlaaaGreat.Oct Go.Proofs.YtplpmemlaohlaaaGreat.Lsa Go.Proofs.YtplpmemlaohlaaaGreat.Chg
set_option linter.unusedVariables false
set_option linter.unusedSimpArgs false
/-- the three boxes -/
theorem box3 (w : World) (a b c : Array Value) (t t' t'' : TypeId) : Blk (((w.alloc (.cells a t)).alloc (.cells b t')).alloc (.cells c t'')) w.heap.size t a ∧ Blk (((w.alloc (.cells a t)).alloc (.cells b t')).alloc (.cells c t'')) (w.heap.size + 1) t' b ∧ Blk (((w.alloc (.cells a t)).alloc (.cells b t')).alloc (.cells c t'')) (w.heap.size + 2) t'' c ∧ Below w.heap.size w (((w.alloc (.cells a t)).alloc (.cells b t')).alloc (.cells c t'')) ∧ w.heap.size + 2 < (((w.alloc (.cells a t)).alloc (.cells b t')).alloc (.cells c t'')).heap.size := by
  refine ⟨((Blk.new w t a).alloc _).alloc _, (blk_second w (.cells a t) t' b).alloc _, ?_, low1 (low2 w _ _) _, by simp⟩
  have := Blk.new ((w.alloc (.cells a t)).alloc (.cells b t')) t'' c
  simpa using this
end Go.Proofs.YtplpmemlaohlaaaGreat.Bas
/- Which states there may be, by the document's own answer (layer 11): waymarkref11.May. -/
namespace Go.Proofs.YtplpmemlaohlaaaGreat.Bas
open Go.RowKit Go.Shelf Go.Proofs.YtplpmemlaohlaaaGreat.Mem Go.Proofs.YtplpmemlaohlaaaGreat.Oct Go.Proofs.YtplpmemlaohlaaaGreat.Lsa Go.Proofs.YtplpmemlaohlaaaGreat.Chg
set_option linter.unusedVariables false
set_option linter.unusedSimpArgs false
end Go.Proofs.YtplpmemlaohlaaaGreat.Bas
/- Changes done, by the document's own answer (layer 11): waymarkref11.Apply. -/
namespace Go.Proofs.YtplpmemlaohlaaaGreat.Bas
open Go.RowKit Go.Shelf Go.Proofs.YtplpmemlaohlaaaGreat.Mem Go.Proofs.YtplpmemlaohlaaaGreat.Oct Go.Proofs.YtplpmemlaohlaaaGreat.Lsa Go.Proofs.YtplpmemlaohlaaaGreat.Chg
set_option linter.unusedVariables false
set_option linter.unusedSimpArgs false
/-- changes, their links in elder blocks, or in rows of links -/
def ChsS (w : World) (B B0 : Nat) (v : Value) (cs : List Ch) : Prop :=
  ∃ (A : Option Addr) (n c : Nat), v = .slice A n c ∧ cs.length = n ∧ n ≤ c ∧ c ≤ maxLen ∧
    (0 < n → ∃ b off, A = some ⟨b, off, none⟩ ∧ b < B ∧ ∀ i, i < n → ∃ u, w.rangeAt b (off + i * 6) (rowC (cs.getD i zeroC) u) ∧ LkS w B0 u (cs.getD i zeroC).ls)
theorem ChsS.keep {w w' : World} {B0 : Nat} {v : Value} {cs : List Ch} (h : ChsS w w.heap.size B0 v cs) (hb : Below w.heap.size w w') (hB : B0 ≤ w.heap.size) : ChsS w' w.heap.size B0 v cs := by
  obtain ⟨A, n, c, e, q1, q2, q3, q4⟩ := h
  refine ⟨A, n, c, e, q1, q2, q3, fun hn => ?_⟩
  obtain ⟨b, off, e1, hlt, h5⟩ := q4 hn
  refine ⟨b, off, e1, hlt, fun i hi => ?_⟩
  obtain ⟨u, h6, h7⟩ := h5 i hi
  exact ⟨u, rangeC_below h6 hb hlt, h7.below hb hB⟩
/-- what the walk holds: the state's box and its rows, the answer's box -/
structure RA (B0 : Nat) (w wr : World) (dv ev : Value) (s : Sta) : Prop where
  old : B0 ≤ w.heap.size
  box : Blk wr w.heap.size 43 #[dv, .int .i64 s.up, .int .i64 s.bo, ev]
  res : Blk wr (w.heap.size + 1) 43 #[.slice none 0 0, .int .i64 0, .int .i64 0, .slice none 0 0]
  db : SafeL wr B0 dv s.db
  ep : SafeE wr B0 ev s.ep
  low : Below w.heap.size w wr
  size : w.heap.size + 1 < wr.heap.size
theorem RA.below {B0 : Nat} {w wr w' : World} {dv ev : Value} {s : Sta} (h : RA B0 w wr dv ev s) (hb : Below wr.heap.size wr w') : RA B0 w w' dv ev s :=
  ⟨h.old, h.box.below hb h.box.lt, h.res.below hb h.res.lt, h.db.up (by have := h.size; have := h.old; omega) hb, h.ep.up hb, low_low h.low hb, Nat.lt_of_lt_of_le h.size hb.size⟩
theorem RA.far {B0 : Nat} {w wr w' : World} {dv ev : Value} {s : Sta} {g : Nat} {cs : Array Value} (h : RA B0 w wr dv ev s) (hk : Blk wr g 43 cs) (hgt : w.heap.size + 1 < g) (hg : wr.grownBy w' (some g)) : RA B0 w w' dv ev s :=
  ⟨h.old, h.box.grown hg (by simp; omega), h.res.grown hg (by simp; omega), h.db.blk (by have := h.size; have := h.old; omega) hk (by decide) (by have := h.old; omega) hg, h.ep.blk hk (by decide) (by have := h.old; omega) hg, h.low.grown hg h.low.size (fun q hq => by cases hq; omega), Nat.lt_of_lt_of_le h.size hg.size⟩
/-- the next state in the box -/
theorem RA.next {B0 : Nat} {w wr : World} {dv ev dv' ev' : Value} {s t : Sta} (h : RA B0 w wr dv ev s) (hd : SafeL wr B0 dv' t.db) (he : SafeE wr B0 ev' t.ep) : RA B0 w (upd4 wr w.heap.size dv' (.int .i64 t.up) (.int .i64 t.bo) ev') dv' ev' t :=
  ⟨h.old, upd4_blk h.box, h.res.grown (upd4_grown _ _ _ _ _ _) (by simp), hd.blk (by have := h.size; have := h.old; omega) h.box (by decide) h.old (upd4_grown _ _ _ _ _ _), he.blk h.box (by decide) h.old (upd4_grown _ _ _ _ _ _), h.low.grown (upd4_grown _ _ _ _ _ _) h.low.size (fun q hq => by cases hq; exact Nat.le_refl _), Nat.lt_of_lt_of_le h.size (upd4_grown wr w.heap.size _ _ _ _).size⟩
theorem RA.done {B0 : Nat} {w wr : World} {dv ev dv' ev' : Value} {s t : Sta} (h : RA B0 w wr dv ev s) (hd : SafeL wr B0 dv' t.db) (he : SafeE wr B0 ev' t.ep) : SafeL (upd4 wr (w.heap.size + 1) dv' (.int .i64 t.up) (.int .i64 t.bo) ev') B0 dv' t.db ∧ SafeE (upd4 wr (w.heap.size + 1) dv' (.int .i64 t.up) (.int .i64 t.bo) ev') B0 ev' t.ep ∧ Below w.heap.size w (upd4 wr (w.heap.size + 1) dv' (.int .i64 t.up) (.int .i64 t.bo) ev') := by
  have hg := upd4_grown wr (w.heap.size + 1) dv' (.int .i64 t.up) (.int .i64 t.bo) ev'
  have hs := h.size
  have ho := h.old
  exact ⟨hd.blk (by omega) h.res (by decide) (by omega) hg, he.blk h.res (by decide) (by omega) hg, h.low.grown hg h.low.size (fun q hq => by cases hq; omega)⟩
end Go.Proofs.YtplpmemlaohlaaaGreat.Bas
/- Which states are alike, by the document's own answer (layer 11): waymarkref11.Same. -/
namespace Go.Proofs.YtplpmemlaohlaaaGreat.Bas
open Go.RowKit Go.Proofs.YtplpmemlaohlaaaGreat.Mem Go.Proofs.YtplpmemlaohlaaaGreat.Oct Go.Proofs.YtplpmemlaohlaaaGreat.Lsa Go.Proofs.YtplpmemlaohlaaaGreat.Chg
set_option linter.unusedVariables false
set_option linter.unusedSimpArgs false
set_option maxRecDepth 20000 in
set_option maxHeartbeats 8000000 in
theorem rsame_st (s t : Sta) (dv ev dv' ev' : Value) (w : World) (h : StM w w.heap.size dv ev s) (h' : StM w w.heap.size dv' ev' t) :
    Calls Tryz.prog 21 #[stV s dv ev, stV t dv' ev'] w fun e w' => e = .returned (.bool (sameS s t)) ∧ Below w.heap.size w w' := by
  obtain ⟨db, up, bo, ep⟩ := s
  obtain ⟨db', up', bo', ep'⟩ := t
  obtain ⟨h1, h2⟩ := h
  obtain ⟨h1', h2'⟩ := h'
  obtain ⟨A1, n1, c1, rfl, hr_⟩ := id h1
  obtain ⟨A2, n2, c2, rfl, hs_⟩ := id h2
  obtain ⟨A3, n3, c3, rfl, ht_⟩ := id h1'
  obtain ⟨A4, n4, c4, rfl, hu_⟩ := id h2'
  clear hr_ hs_ ht_ hu_
  obtain ⟨hl, hnc, hcm, _⟩ := lks_len h2
  obtain ⟨hl', hnc', hcm', _⟩ := lks_len h2'
  unfold maxLen at hcm hcm'
  simp only [stV] at *
  have hb := low2 w (.cells #[.slice A1 n1 c1, .int .i64 up, .int .i64 bo, .slice A2 n2 c2] 43) (.cells #[.slice A3 n3 c3, .int .i64 up', .int .i64 bo', .slice A4 n4 c4] 43)
  have k0 := (Blk.new w 43 #[.slice A1 n1 c1, .int .i64 up, .int .i64 bo, .slice A2 n2 c2]).alloc (.cells #[.slice A3 n3 c3, .int .i64 up', .int .i64 bo', .slice A4 n4 c4] 43)
  have k1 := blk_second w (.cells #[.slice A1 n1 c1, .int .i64 up, .int .i64 bo, .slice A2 n2 c2] 43) 43 #[.slice A3 n3 c3, .int .i64 up', .int .i64 bo', .slice A4 n4 c4]
  have al := rall_db A1 A3 n1 n3 c1 c3 db db' _ (h1.up hb) (h1'.up hb)
  obtain ⟨x0, x1, x2, x3, x4⟩ := blk_cells4 k0
  obtain ⟨y0, y1, y2, y3, y4⟩ := blk_cells4 k1
  have K0 := Lib.hid k0; clear k0
  have K1 := Lib.hid k1; clear k1
  have HB := Lib.hid hb; clear hb
  unfold sameS
  simp only
  cases g1 : (up == up')
  · have b1 : (up != up') = true := by simp [bne, g1]
    clear al
    go_enter Tryz.func21, Tryz.ntmps21
    go_wp2
    go_ret
    exact ⟨rfl, HB.out⟩
  have b1 : (up != up') = false := by simp [bne, g1]
  cases g2 : (bo == bo')
  · have b2 : (bo != bo') = true := by simp [bne, g2]
    clear al
    go_enter Tryz.func21, Tryz.ntmps21
    go_wp2
    go_ret
    exact ⟨rfl, HB.out⟩
  have b2 : (bo != bo') = false := by simp [bne, g2]
  simp only [Bool.true_and]
  cases g3 : sameDb db db'
  · rw [g3] at al
    have AL := Lib.hid al; clear al
    go_enter Tryz.func21, Tryz.ntmps21
    go_wp2_with (go_at_call 53; refine (AL.out).mono ?_; rintro e w3 ⟨rfl, hb3⟩; have HB3 := Lib.hid (low_low HB.out hb3); obtain ⟨z0, z1, z2, z3, z4⟩ := blk_cells4 (K0.out.below hb3 K0.out.lt); obtain ⟨u0, u1, u2, u3, u4⟩ := blk_cells4 (K1.out.below hb3 K1.out.lt); clear hb3)
    go_ret
    exact ⟨rfl, HB3.out⟩
  rw [g3] at al
  have AL := Lib.hid al; clear al
  simp only [Bool.true_and]
  by_cases hn : n2 = n4
  · subst hn
    have hbn : ((n2 : Int) != (n2 : Int)) = false := by simp
    obtain ⟨z, hz⟩ : ∃ z, z = decide (ep = ep') := ⟨_, rfl⟩
    rw [← hz]
    have HZ := Lib.hid hz; clear hz
    have HL := Lib.hid hl; clear hl
    have HL' := Lib.hid hl'; clear hl'
    have HS := Lib.hid h2; clear h2
    have HS' := Lib.hid h2'; clear h2'
    clear h1 h1'
    go_enter Tryz.func21, Tryz.ntmps21
    go_wp2_with (go_at_call 53; refine (AL.out).mono ?_; rintro e w3 ⟨rfl, hb3⟩; have HB3 := Lib.hid (low_low HB.out hb3); have Q0 := Lib.hid (K0.out.below hb3 K0.out.lt); have Q1 := Lib.hid (K1.out.below hb3 K1.out.lt); obtain ⟨z0, z1, z2, z3, z4⟩ := blk_cells4 Q0.out; obtain ⟨u0, u1, u2, u3, u4⟩ := blk_cells4 Q1.out; clear hb3)
    go_loopw [5] (fun i wr => ∃ k : Nat, k ≤ n2 ∧ i = .int .i64 k ∧ Hid (z = decide (ep.drop k = ep'.drop k)) ∧ Hid (∃ m, wr = w3.drewN m)) (fun i _ => n2 - (intOf i).toNat)
    case atStart => exact ⟨0, Nat.zero_le _, rfl, HZ, Lib.hid ⟨0, rfl⟩⟩
    case round =>
      obtain ⟨k, hk, rfl, HZ2, HW⟩ := hrel
      obtain ⟨m, rfl⟩ := HW.out
      clear HW
      by_cases hlt : k < n2
      · obtain ⟨b, off, rfl, hb, hc⟩ := lks_at HS.out (by omega)
        obtain ⟨b', off', rfl, hb', hc'⟩ := lks_at HS'.out (by omega)
        obtain ⟨c0, c1⟩ := hc k hlt
        obtain ⟨d0, d1⟩ := hc' k hlt
        replace c0 := (HB3.out.cell (p := ⟨b, off + k * 2, none⟩) hb).trans c0
        replace c1 := (HB3.out.cell (p := ⟨b, off + k * 2 + 1, none⟩) hb).trans c1
        replace d0 := (HB3.out.cell (p := ⟨b', off' + k * 2, none⟩) hb').trans d0
        replace d1 := (HB3.out.cell (p := ⟨b', off' + k * 2 + 1, none⟩) hb').trans d1
        have hz := HZ2.out
        rw [drop_at ep (0, 0) k (by have := HL.out; omega), drop_at ep' (0, 0) k (by have := HL'.out; omega)] at hz
        clear hc hc'
        generalize ep.getD k (0, 0) = x at *
        generalize ep'.getD k (0, 0) = y at *
        obtain ⟨t, u⟩ := x
        obtain ⟨t', u'⟩ := y
        simp only at c0 c1 d0 d1
        by_cases e1 : t = t'
        · subst e1
          by_cases e2 : u = u'
          · subst e2
            rw [dec_cons] at hz
            have HZ3 := Lib.hid hz; clear hz
            go_wp2
            go_quiet (fail)
            go_wp2
            go_roundw
            case rel => exact ⟨k + 1, by omega, by go_num, HZ3, Lib.hid ⟨_, rfl⟩⟩
            case measure => simp [intOf]; omega
          · rw [dec_ne (fun e => e2 (by injection e))] at hz
            have HZ3 := Lib.hid hz; clear hz
            go_wp2
            go_quiet (fail)
            go_wp2
            go_ret
            exact ⟨ret_bool HZ3.out.symm, below_drewN (below_drewN HB3.out _) _⟩
        · rw [dec_ne (fun e => e1 (by injection e))] at hz
          have HZ3 := Lib.hid hz; clear hz
          go_wp2
          go_quiet (fail)
          go_wp2
          go_ret
          exact ⟨ret_bool HZ3.out.symm, below_drewN (below_drewN HB3.out _) _⟩
      · obtain rfl : k = n2 := by omega
        have hz := HZ2.out
        rw [List.drop_eq_nil_of_le (by have := HL.out; omega), List.drop_eq_nil_of_le (by have := HL'.out; omega)] at hz
        have HZ3 := Lib.hid hz; clear hz
        go_wp2
        go_ret
        exact ⟨ret_bool (by simp [HZ3.out]), below_drewN HB3.out _⟩
  · have hbn : ((n2 : Int) != (n4 : Int)) = true := by rw [bne_iff_ne]; omega
    have hd : decide (ep = ep') = false := decide_eq_false (fun e => hn (by rw [← hl, ← hl', e]))
    rw [hd]
    go_enter Tryz.func21, Tryz.ntmps21
    go_wp2_with (go_at_call 53; refine (AL.out).mono ?_; rintro e w3 ⟨rfl, hb3⟩; have HB3 := Lib.hid (low_low HB.out hb3); obtain ⟨z0, z1, z2, z3, z4⟩ := blk_cells4 (K0.out.below hb3 K0.out.lt); obtain ⟨u0, u1, u2, u3, u4⟩ := blk_cells4 (K1.out.below hb3 K1.out.lt); clear hb3)
    go_ret
    exact ⟨rfl, HB3.out⟩
end Go.Proofs.YtplpmemlaohlaaaGreat.Bas
