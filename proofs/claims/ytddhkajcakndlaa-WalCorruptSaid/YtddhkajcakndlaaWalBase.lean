/- The base that a disk has (layer 8): the contract of the wal's base. -/
import Derived.Test.YtddhkajcakndlaaWalPut
namespace Go.Proofs.Ytddhkajcakndlaa.Wl
open Go.RowKit Go.Proofs.Ytddhkajcakndlaa.Mem Go.Proofs.Ytddhkajcakndlaa.Pg Go.Proofs.Ytddhkajcakndlaa.Rcd Go.Proofs.Ytddhkajcakndlaa.Slt
open Go.Proofs.Ytddhkajcakndlaa.Dsk (KeptBut SMap DiskAt St ptr kept_of_below kept_of_grown kept_drew)
open Go.Proofs.Ytddhkajcakndlaa.Plt (sl plV sl_le sl_pos)
set_option linter.unusedVariables false
set_option linter.unusedSimpArgs false
theorem slots_0 (D : Nat → List Nat) (m : Nat) : ofS (fun j => D (slotAt m 0 + j)) m = slots D m 0 := rfl
theorem slots_1 (D : Nat → List Nat) (m : Nat) : ofS (fun j => D (slotAt m 1 + j)) m = slots D m 1 := rfl
/-- the base, if a slot is whole -/
def theBase (D : Nat → List Nat) (k : Nat) : Option Bs := better (slots D (sl k) 0) (slots D (sl k) 1)
def newD (D : Nat → List Nat) (k : Nat) : Bool := newTo D (slotAt (sl k) 1) (slotAt (sl k) 1 + sl k) k
def firstP (s : St) (k : Nat) (m : Int) : St × Int := writes s (slotAt (sl k) 1) (secL (bP 1 m) [])
/-- where the region's orders meet -/
def BM (w : World) (o : Option Bs) (s6 s7 : Value) (wx : World) : Prop := ∃ (y : Nat) (A : Option Addr) (n c : Nat), s6 = .pointer (some ⟨y, 0, none⟩) ∧ s7 = .bool o.isSome ∧ Blk wx y 52 #[.int .i64 (o.getD (0, [])).1, .slice A n c] ∧ Bts wx wx.heap.size A n (o.getD (0, [])).2 ∧
  Blk wx w.heap.size 52 #[.int .i64 0, .slice none 0 0] ∧ Below w.heap.size w wx ∧ w.heap.size < y
abbrev zB : Obj := .cells #[.int .i64 0, .slice none 0 0] 52
theorem bm_new {w w4 : World} {o : Option Bs} {A : Option Addr} {n c y : Nat} (hy : y = w4.heap.size) (hk : Blk w4 w.heap.size 52 #[.int .i64 0, .slice none 0 0]) (hb : Below w.heap.size w w4) (ht : Bts w4 w4.heap.size A n (o.getD (0, [])).2) (hlt : w.heap.size < w4.heap.size) :
    BM w o (.pointer (some ⟨y, 0, none⟩)) (.bool o.isSome) (w4.alloc (.cells #[.int .i64 (o.getD (0, [])).1, .slice A n c] 52)) := by
  subst hy
  exact ⟨_, A, n, c, rfl, rfl, Blk.new _ _ _, bts_up ht (palloc (Below.refl _ _) _), hk.alloc _, palloc hb _, hlt⟩
theorem bm_set {w w4 : World} {o : Option Bs} {A : Option Addr} {n c y : Nat} (hy : Blk w4 y 52 #[.int .i64 0, .slice none 0 0]) (hk : Blk w4 w.heap.size 52 #[.int .i64 0, .slice none 0 0]) (hb : Below w.heap.size w w4) (ht : Bts w4 w4.heap.size A n (o.getD (0, [])).2) (hlt : w.heap.size < y) :
    BM w o (.pointer (some ⟨y, 0, none⟩)) (.bool o.isSome) ((w4.setCell ⟨y, 0, none⟩ (.int .i64 (o.getD (0, [])).1)).setCell ⟨y, 1, none⟩ (.slice A n c)) := by
  have hg := set2_grown w4 y (.int .i64 (o.getD (0, [])).1) (.slice A n c)
  have h1 := (hy.set_ 0 (.int .i64 (o.getD (0, [])).1)).set_ 1 (.slice A n c)
  exact ⟨_, A, n, c, rfl, rfl, by simpa using h1, (bts_by ht hg (Nat.le_refl _) (noBy_blk2 hy)).more hg.size, hk.grown hg (by simp; omega), hb.grown hg hb.size (fun q hq => by cases hq; omega), hlt⟩
/-- what base tells -/
def BaseOut (w : World) (x g bs bw k : Nat) (s : St) (v : Wn) (e : Ending) (w' : World) : Prop :=
  (∃ (y : Bs) (A : Option Addr) (n c : Nat), theBase s.get k = some y ∧ e = .returned (.tuple #[.agg #[.int .i64 y.1, .slice A n c], .int .i64 0]) ∧ Bts w' w'.heap.size A n y.2 ∧ Below w.heap.size w w') ∨
  (theBase s.get k = none ∧ newD s.get k = false ∧ e = .returned (.tuple #[.agg #[.int .i64 0, .slice none 0 0], .int .i64 8]) ∧ Below w.heap.size w w') ∨
  (theBase s.get k = none ∧ newD s.get k = true ∧ e = .returned (.tuple #[.agg #[.int .i64 1, .slice none 0 0], .int .i64 (firstP s k v.mark).2]) ∧ WalAt w' x g k (v.brk (firstP s k v.mark).2) ∧ DiskAt w' g bs bw (firstP s k v.mark).1 ∧ KeptBut w w' [x, g, bs, bw])
theorem fits_ok {p : P} {b : List Nat} (hk : 1 ≤ p.kind ∧ p.kind ≤ 9) (hg : 0 ≤ p.gen ∧ p.gen ≤ 2147483648) (hm : 0 ≤ p.mark ∧ p.mark ≤ 2147483648) (hi : 0 ≤ p.index ∧ p.index ≤ 1000000) (hb : b.length ≤ 7808) : fits p b = true := by
  have h1 := parts_pos hb
  have h2 := parts_le b.length
  unfold fits
  rw [Bool.and_eq_true]
  refine ⟨by simpa using h1, List.all_eq_true.2 fun q hq => ?_⟩
  simp only [pages, List.mem_map, List.mem_range] at hq
  obtain ⟨i, hil, rfl⟩ := hq
  unfold P.may
  simp only [nth, Bool.and_eq_true]
  exact ⟨⟨⟨⟨⟨⟨win_of hk.1 hk.2, win_of hg.1 hg.2⟩, win_of hm.1 hm.2⟩, win_of (by omega) (by omega)⟩, win_of (by omega) (by omega)⟩, win_of (by omega) (by omega)⟩, decide_eq_true (by rw [List.length_take]; omega)⟩
theorem err_ok {g m : Int} {k : Nat} {b : List Nat} (hg : 0 ≤ g ∧ g ≤ 2147483648) (hm : 0 ≤ m ∧ m ≤ 2147483648) (hb : b.length ≤ 7808) (hk : parts b.length ≤ k) : errOf g m (k : Nat) b = 0 := by
  have h1 := parts_pos hb
  unfold errOf
  rw [if_neg (by omega), if_pos (fits_ok (by unfold bP; simp) hg hm (by unfold bP; simp) hb)]
theorem first_ok (m : Int) (h0 : 0 ≤ m) (h1 : m ≤ 2147483648) (k : Nat) (hk : 1 ≤ k) : errOf 1 m (k : Nat) [] = 0 :=
  err_ok (by omega) ⟨h0, h1⟩ (by simp) (by rw [show parts ([] : List Nat).length = 1 by decide]; exact hk)
theorem bl1 {w w1 : World} (h : Below w.heap.size w w1) : Below w.heap.size w w1.drew := h.drew
theorem bl2 {w w1 : World} (h : Below w.heap.size w w1) (o : Obj) : Below w.heap.size w (w1.alloc o).drew := (palloc h o).drew
theorem kept_above {w w1 w2 : World} {S : List Nat} {row : Option Nat} (h : KeptBut w w1 S) (hg : w1.grownBy w2 row) (hr : ∀ g, row = some g → w.heap.size ≤ g) : KeptBut w w2 S :=
  ⟨hg.os.trans h.os, hg.tape.trans h.tape, hg.output.trans h.output, Nat.le_trans h.size hg.size, fun g hg1 hn => (hg.block g (Nat.lt_of_lt_of_le hg1 h.size) (fun e => by have := hr g e.symm; omega)).trans (h.block g hg1 hn)⟩
theorem set2_keep {w : World} {y x i : Nat} {a b : Value} (h : x ≠ y) : ((w.setCell ⟨y, 0, none⟩ a).setCell ⟨y, 1, none⟩ b).cell? ⟨x, i, none⟩ = w.cell? ⟨x, i, none⟩ := by
  rw [World.cell?_setCell_other _ _ _ _ (fun e => h (by cases e; rfl)), World.cell?_setCell_other _ _ _ _ (fun e => h (by cases e; rfl))]
theorem undrew {B : Nat} {w w' : World} (h : Below B w.drew w') : Below B w w' := ⟨h.os, h.tape, h.output, h.size, h.block⟩
set_option maxRecDepth 20000 in
set_option maxHeartbeats 8000000 in
theorem base_any (x g bs bw k : Nat) (s : St) (v : Wn) (A : Option Addr) (c : Nat) (w : World) (hw : WalAt w x g k v) (hd : DiskAt w g bs bw s) (hk : s.n = k) (hk1 : 6 ≤ k) (hk2 : k ≤ 1000) (hm0 : 0 ≤ v.mark) (hm1 : v.mark ≤ 2147483648)
    (hA : A ≠ none) (h : Sls w w.heap.size (.slice A k c) (ofS s.get k)) (hlen : ∀ y ∈ ofS s.get k, y.length ≤ 600) :
    Calls Try.prog 21 #[ptr x, .slice A k c] w (BaseOut w x g bs bw k s v) := by
  have hb1 := palloc (Below.refl w.heap.size w) zB
  have kp := Blk.new w 52 #[.int .i64 0, .slice none 0 0]
  have hs16 := sl_le k
  have hs1 := sl_pos (k := k) (by omega)
  have so := fun (W : World) (gen : Int) (h0 : 0 ≤ gen) (h1 : gen ≤ 1) (hW : Below w.heap.size w W) => slotOf_any k gen A c s.get W hk1 hk2 h0 (by omega) (h.up hW)
  have so0 := fun (W : World) (hW : Below w.heap.size w W) => so W 0 (by omega) (by omega) hW
  have so1 := fun (W : World) (hW : Below w.heap.size w W) => so W 1 (by omega) (by omega) hW
  rw [slots_0] at so0
  rw [slots_1] at so1
  have hin : ∀ q y, y ∈ slots s.get (sl k) q → q ≤ 1 → y.length ≤ 600 := fun q y hy hq => by
    simp only [slots, List.mem_map, List.mem_range] at hy
    obtain ⟨j, hj, rfl⟩ := hy
    refine hlen _ ?_
    simp only [ofS, List.mem_map, List.mem_range]
    refine ⟨q * sl k + j, ?_, rfl⟩
    rcases (by omega : q = 0 ∨ q = 1) with rfl | rfl <;> omega
  have be := fun (A1 A2 : Option Addr) (c1 c2 : Nat) (W : World) (h1 : Sls W W.heap.size (.slice A1 (sl k) c1) (slots s.get (sl k) 0)) (h2 : Sls W W.heap.size (.slice A2 (sl k) c2) (slots s.get (sl k) 1)) (n1 : A1 ≠ none) (n2 : A2 ≠ none) =>
    better_any A1 A2 (sl k) (sl k) c1 c2 _ _ W h1 h2 (by omega) (by omega) (fun e => absurd e n1) (fun e => absurd e n2) (fun y hy => hin 0 y hy (by omega)) (fun y hy => hin 1 y hy (by omega))
  have nw := fun (W : World) (hW : Below w.heap.size w W) => isNew_any k A c s.get W hk1 hk2 (h.up hW)
  have ly := fun (W : World) (hW : Below w.heap.size w W) => lay_any x g bs bw k s v 1 none 0 0 [] W (hw.up hW) (hd.below hW) hk1 hk2 (by omega) (by omega) (sl_nil _ _) rfl (first_ok v.mark hm0 hm1 (sl k) hs1)
  have hbo : theBase s.get k = better (slots s.get (sl k) 0) (slots s.get (sl k) 1) := rfl
  have hnd : newD s.get k = newTo s.get (slotAt (sl k) 1) (slotAt (sl k) 1 + sl k) k := rfl
  have hfp : firstP s k v.mark = writes s (slotAt (sl k) 1) (secL (bP 1 v.mark) []) := rfl
  rw [← hnd] at nw
  rw [← hfp] at ly
  clear hnd hfp so
  generalize slots s.get (sl k) 0 = S0 at *
  generalize slots s.get (sl k) 1 = S1 at *
  rw [← hbo] at be
  obtain ⟨o, ho⟩ : ∃ o, o = theBase s.get k := ⟨_, rfl⟩
  rw [← ho] at be
  obtain ⟨nd, hnd⟩ : ∃ nd, nd = newD s.get k := ⟨_, rfl⟩
  rw [← hnd] at nw
  obtain ⟨R, hR⟩ : ∃ R, R = firstP s k v.mark := ⟨_, rfl⟩
  rw [← hR] at ly
  have HO := Lib.hid ho; clear ho
  have HND := Lib.hid hnd; clear hnd
  have HR := Lib.hid hR; clear hR
  have SO0 := Lib.hid so0; clear so0
  have SO1 := Lib.hid so1; clear so1
  have BE := Lib.hid be; clear be
  have NW := Lib.hid nw; clear nw
  have LY := Lib.hid ly; clear ly
  have c1 := (hw.up hb1).c1
  have c2 := (hw.up hb1).c2
  have c3 := (hw.up hb1).c3
  have hx := (hw.up hb1).lt
  have hkp := kp.lt
  have HW := Lib.hid hw; clear hw
  have HD := Lib.hid hd; clear hd
  have HA := Lib.hid hA; clear hA
  have HB1 := Lib.hid hb1; clear hb1
  have KP := Lib.hid kp; clear kp
  clear hbo hin hlen h hs16 hs1 hk
  go_enter Try.func21, Try.ntmps21
  go_wp2
  generalize hw1 : w.alloc zB = w1 at *
  have hg1 : w.heap.size < w1.heap.size := hkp
  clear hw1
  go_cut [6, 7] from 8 to 23 (fun s6 s7 wx => BM w o s6 s7 wx)
  case first =>
    go_region_held3 (fun W => W.cell? ⟨x, 1, none⟩ = some (.int .i64 (sl k : Nat)) ∧ W.cell? ⟨x, 2, none⟩ = some (.int .i64 (2 * (sl k : Nat))) ∧ W.cell? ⟨x, 3, none⟩ = some (.int .i64 (lg k : Nat)))
      (first
        | with_reducible exact ⟨c1, c2, c3⟩
        | with_reducible exact ⟨e1, e2, e3⟩
        | with_reducible exact ⟨f1, f2, f3⟩
        | with_reducible exact ⟨m1, m2, m3⟩
        | (with_reducible refine ⟨(set2_keep ?_).trans m1, (set2_keep ?_).trans m2, (set2_keep ?_).trans m3⟩ <;> omega)
        | go_keep)
      (first
        | (go_at_call 41; first
          | ((with_reducible refine (SO0.out _ (by with_reducible exact bl1 HB1.out)).mono ?_); rintro e w2 ⟨A2, c2', rfl, hs2, hn2, hb2⟩; have hb2 := undrew hb2; have KP2 := Lib.hid (KP.out.below hb2 hkp); have HB2 := Lib.hid (HB1.out.trans (hb2.mono HB1.out.size)); have hw2 := HW.out.up HB2.out; have e1 := hw2.c1; have e2 := hw2.c2; have e3 := hw2.c3; have hx2 := hw2.lt; have hg2 := Nat.lt_of_lt_of_le hg1 hb2.size; have HS2 := Lib.hid hs2; have HN2 := Lib.hid (fun e => HA.out (hn2 e)); clear hs2 hn2 hb2 hw2)
          | ((with_reducible refine (SO0.out _ (by with_reducible exact bl2 HB1.out zB)).mono ?_); rintro e w2 ⟨A2, c2', rfl, hs2, hn2, hb2⟩; have hb2 := undrew hb2; have K62 := Lib.hid ((Blk.new w1 52 #[.int .i64 0, .slice none 0 0]).below hb2 (by simp)); have KP2 := Lib.hid ((KP.out.alloc zB).below hb2 (by simp; omega)); have HB2 := Lib.hid ((palloc HB1.out zB).trans (hb2.mono (palloc HB1.out zB).size)); have hw2 := HW.out.up HB2.out; have e1 := hw2.c1; have e2 := hw2.c2; have e3 := hw2.c3; have hx2 := hw2.lt; have hg2 : w.heap.size < w2.heap.size := KP2.out.lt; have HS2 := Lib.hid hs2; have HN2 := Lib.hid (fun e => HA.out (hn2 e)); clear hs2 hn2 hb2 hw2))
        | (go_at_call 41; first
          | (have K62' := K62; (with_reducible refine (SO1.out _ (by with_reducible exact HB2.out)).mono ?_); rintro e w3 ⟨A3, c3', rfl, hs3, hn3, hb3⟩; have K63 := Lib.hid (K62.out.below hb3 K62.out.lt); have KP3 := Lib.hid (KP2.out.below hb3 KP2.out.lt); have HB3 := Lib.hid (HB2.out.trans (hb3.mono HB2.out.size)); have hw3 := HW.out.up HB3.out; have f1 := hw3.c1; have f2 := hw3.c2; have f3 := hw3.c3; have hx3 := hw3.lt; have hg3 := Nat.lt_of_lt_of_le hg2 hb3.size; have HS23 := Lib.hid (HS2.out.up hb3); have HS3 := Lib.hid hs3; have HN3 := Lib.hid (fun e => HA.out (hn3 e)); clear hs3 hn3 hb3 hw3)
          | ((with_reducible refine (SO1.out _ (by with_reducible exact palloc HB2.out zB)).mono ?_); rintro e w3 ⟨A3, c3', rfl, hs3, hn3, hb3⟩; have K63 := Lib.hid ((Blk.new w2 52 #[.int .i64 0, .slice none 0 0]).below hb3 (by simp)); have KP3 := Lib.hid ((KP2.out.alloc zB).below hb3 (by simp; omega)); have HB3 := Lib.hid ((palloc HB2.out zB).trans (hb3.mono (palloc HB2.out zB).size)); have hw3 := HW.out.up HB3.out; have f1 := hw3.c1; have f2 := hw3.c2; have f3 := hw3.c3; have hx3 := hw3.lt; have hg3 : w.heap.size < w3.heap.size := KP3.out.lt; have HS23 := Lib.hid ((HS2.out.up (palloc (Below.refl _ _) zB)).up hb3); have HS3 := Lib.hid hs3; have HN3 := Lib.hid (fun e => HA.out (hn3 e)); clear hs3 hn3 hb3 hw3)
          | ((with_reducible refine (SO1.out _ (by with_reducible exact HB2.out)).mono ?_); rintro e w3 ⟨A3, c3', rfl, hs3, hn3, hb3⟩; have KP3 := Lib.hid (KP2.out.below hb3 KP2.out.lt); have HB3 := Lib.hid (HB2.out.trans (hb3.mono HB2.out.size)); have hw3 := HW.out.up HB3.out; have f1 := hw3.c1; have f2 := hw3.c2; have f3 := hw3.c3; have hx3 := hw3.lt; have hg3 := Nat.lt_of_lt_of_le hg2 hb3.size; have HS23 := Lib.hid (HS2.out.up hb3); have HS3 := Lib.hid hs3; have HN3 := Lib.hid (fun e => HA.out (hn3 e)); clear hs3 hn3 hb3 hw3))
        | (go_at_call 40; first
          | (have K63' := K63; (with_reducible refine (BE.out A2 A3 c2' c3' _ (by with_reducible exact HS23.out) (by with_reducible exact HS3.out) HN2.out HN3.out).mono ?_); rintro e w4 ⟨v4, rfl, ⟨vb, rfl, A4, n4, c4, rfl, ht4⟩, hb4⟩; have K64 := Lib.hid (K63.out.below hb4 K63.out.lt); have KP4 := Lib.hid (KP3.out.below hb4 KP3.out.lt); have HB4 := Lib.hid (HB3.out.trans (hb4.mono HB3.out.size)); have HT4 := Lib.hid ht4; have z0 := K64.out.cell 0; have z1 := K64.out.cell 1; have z2 := K64.out.frozen 0; have z3 := K64.out.frozen 1; have z4 := K64.out.lt; simp at z0 z1; have hg4 := KP4.out.lt; have hw4 := HW.out.up HB4.out; have m1 := hw4.c1; have m2 := hw4.c2; have m3 := hw4.c3; clear ht4 hb4 hw4)
          | ((with_reducible refine (BE.out A2 A3 c2' c3' _ (by with_reducible exact (HS23.out.up (palloc (Below.refl _ _) zB))) (by with_reducible exact (HS3.out.up (palloc (Below.refl _ _) zB))) HN2.out HN3.out).mono ?_); rintro e w4 ⟨v4, rfl, ⟨vb, rfl, A4, n4, c4, rfl, ht4⟩, hb4⟩; have K64 := Lib.hid ((Blk.new w3 52 #[.int .i64 0, .slice none 0 0]).below hb4 (by simp)); have KP4 := Lib.hid ((KP3.out.alloc zB).below hb4 (by simp; omega)); have HB4 := Lib.hid ((palloc HB3.out zB).trans (hb4.mono (palloc HB3.out zB).size)); have HT4 := Lib.hid ht4; have z0 := K64.out.cell 0; have z1 := K64.out.cell 1; have z2 := K64.out.frozen 0; have z3 := K64.out.frozen 1; have z4 := K64.out.lt; simp at z0 z1; have hg4 := KP4.out.lt; have hw4 := HW.out.up HB4.out; have m1 := hw4.c1; have m2 := hw4.c2; have m3 := hw4.c3; clear ht4 hb4 hw4)
          | ((with_reducible refine (BE.out A2 A3 c2' c3' _ (by with_reducible exact HS23.out) (by with_reducible exact HS3.out) HN2.out HN3.out).mono ?_); rintro e w4 ⟨v4, rfl, ⟨vb, rfl, A4, n4, c4, rfl, ht4⟩, hb4⟩; have KP4 := Lib.hid (KP3.out.below hb4 KP3.out.lt); have HB4 := Lib.hid (HB3.out.trans (hb4.mono HB3.out.size)); have HT4 := Lib.hid ht4; have hg4 := KP4.out.lt; have hw4 := HW.out.up HB4.out; have m1 := hw4.c1; have m2 := hw4.c2; have m3 := hw4.c3; clear ht4 hb4 hw4)))
    all_goals
      go_wp2_with fail
      go_meet
      case rel =>
        first
          | (with_reducible exact bm_set K64.out KP4.out HB4.out HT4.out (by omega))
          | (with_reducible exact bm_new rfl KP4.out HB4.out HT4.out hg4)
  case rest =>
    obtain ⟨y, A4, n4, c4, rfl, rfl, hy, ht, hkw, hbw, hlt⟩ := hcut
    clear SO0 SO1 BE c1 c2 c3 hx KP HB1 hkp hg1
    have HY := Lib.hid hy; clear hy
    have HKW := Lib.hid hkw; clear hkw
    have HBW := Lib.hid hbw; clear hbw
    have HT := Lib.hid ht; clear ht
    have y0 := HY.out.cell 0
    have y1 := HY.out.cell 1
    have y2 := HY.out.lt
    have y3 := HY.out.frozen 0
    have y4 := HY.out.frozen 1
    have p0 := HKW.out.cell 0
    have p1 := HKW.out.cell 1
    have p2 := HKW.out.lt
    have p3 := HKW.out.frozen 0
    have p4 := HKW.out.frozen 1
    simp at y0 y1 p0 p1
    have hny : y ≠ w.heap.size := by omega
    have hwc := HW.out.up HBW.out
    have m1 := hwc.c1
    have m2 := hwc.c2
    have m3 := hwc.c3
    have m4 := hwc.lt
    clear hwc
    cases o with
    | some q =>
      go_wp2
      have hgr := set2_grown wc w.heap.size (.int .i64 q.1) (.slice A4 n4 c4)
      refine bodyPost_ret (v := .tuple #[.agg #[.int .i64 q.1, .slice A4 n4 c4], .int .i64 0]) ?_ rfl (.inl ⟨q, A4, n4, c4, HO.out.symm, rfl, (bts_by HT.out hgr (Nat.le_refl _) (noBy_blk2 HKW.out)).more hgr.size, HBW.out.grown hgr HBW.out.size (fun q hq => by cases hq; exact Nat.le_refl _)⟩)
      simp [results, Try.results21, go_sem, p0, p1, p2]
    | none =>
      cases nd with
      | false =>
        go_wp2_with (go_at_call 42; refine (NW.out _ HBW.out).mono ?_; rintro e w5 ⟨rfl, hb5⟩; have kw5 := HKW.out.below hb5 p2; have q0 := kw5.cell 0; have q1 := kw5.cell 1; have q2 := kw5.lt; have q3 := kw5.frozen 0; have q4 := kw5.frozen 1; simp at q0 q1; have HB5 := Lib.hid (HBW.out.trans (hb5.mono HBW.out.size)); clear hb5 kw5)
        have hgr := set2_grown w5 w.heap.size (.int .i64 0) (.slice none 0 0)
        refine bodyPost_ret (v := .tuple #[.agg #[.int .i64 0, .slice none 0 0], .int .i64 8]) ?_ rfl (.inr (.inl ⟨HO.out.symm, HND.out.symm, rfl, HB5.out.grown hgr HB5.out.size (fun q hq => by cases hq; exact Nat.le_refl _)⟩))
        simp [results, Try.results21, go_sem, q0, q1, q2]
      | true =>
        obtain ⟨s', e'⟩ := R
        simp only at LY
        go_wp2_with (go_at_call 42; refine (NW.out _ HBW.out).mono ?_; rintro e w5 ⟨rfl, hb5⟩; have kw5 := HKW.out.below hb5 p2; have ky5 := HY.out.below hb5 y2; have q0 := ky5.cell 0; have q1 := ky5.cell 1; have q2 := ky5.lt; have q3 := ky5.frozen 0; have q4 := ky5.frozen 1; simp at q0 q1; have HB5 := Lib.hid (HBW.out.trans (hb5.mono HBW.out.size)); have KW5 := Lib.hid kw5; have KY5 := Lib.hid ky5; clear hb5 kw5 ky5)
        have hgr := set2_grown w5 y (.int .i64 1) (.slice none 0 0)
        have ky6 := (KY5.out.set_ 0 (.int .i64 1)).set_ 1 (.slice none 0 0)
        simp only [Array.setIfInBounds] at ky6
        have kw6 := KW5.out.grown hgr (by simp; omega)
        have hb6 := HB5.out.grown hgr HB5.out.size (fun q hq => by cases hq; omega)
        have HB6 := Lib.hid hb6; clear hb6
        have KW6 := Lib.hid kw6; clear kw6
        have KY6 := Lib.hid ky6; clear ky6
        clear hgr q0 q1 q2 q3 q4
        generalize (w5.setCell ⟨y, 0, none⟩ (.int .i64 1)).setCell ⟨y, 1, none⟩ (.slice none 0 0) = w6 at *
        have q0 : w6.cell? ⟨y, 0, none⟩ = some (.int .i64 1) := by rw [KY6.out.cell]; rfl
        have q1 : w6.cell? ⟨y, 1, none⟩ = some (.slice none 0 0) := by rw [KY6.out.cell]; rfl
        have q2 := KY6.out.lt
        have q5 := KW6.out.lt
        obtain ⟨d1, d2, d3⟩ := HD.out.lt
        have d4 := HW.out.lt
        have hyS : y ∉ [x, g, bs, bw] := by simp; omega
        have hwS : w.heap.size ∉ [x, g, bs, bw] := by simp; omega
        have HYS := Lib.hid hyS; clear hyS
        have HWS := Lib.hid hwS; clear hwS
        go_region_held3 (fun W => W.cell? ⟨y, 0, none⟩ = some (.int .i64 1) ∧ W.cell? ⟨y, 1, none⟩ = some (.slice none 0 0))
          (first
            | with_reducible exact ⟨q0, q1⟩
            | with_reducible exact ⟨r0, r1⟩
            | (with_reducible refine ⟨(set2_keep ?_).trans r0, (set2_keep ?_).trans r1⟩ <;> omega)
            | (with_reducible refine ⟨(set2_keep ?_).trans q0, (set2_keep ?_).trans q1⟩ <;> omega)
            | go_keep)
          (first
            | (go_at_call 29; refine (LY.out _ (by exact HB6.out.drew)).mono ?_; rintro e w7 ⟨rfl, hw7, hd7, hk7⟩; have hk7 : KeptBut w6 w7 [x, g, bs, bw] := ⟨hk7.os, hk7.tape, hk7.output, hk7.size, hk7.block⟩; have ky7 := hk7.blk KY6.out HYS.out; have kw7 := hk7.blk KW6.out HWS.out; have r0 := ky7.cell 0; have r1 := ky7.cell 1; simp at r0 r1; have r2 := kw7.cell 0; have r3 := kw7.cell 1; have r4 := kw7.lt; have r5 := kw7.frozen 0; have r6 := kw7.frozen 1; simp at r2 r3; have HW7 := Lib.hid hw7; have HD7 := Lib.hid hd7; have HK7 := Lib.hid ((kept_of_below (S := [x, g, bs, bw]) HB6.out (Nat.le_refl _)).trans hk7); clear hw7 hd7 hk7 ky7 kw7))
        go_wp2
        have hgr := set2_grown w7 w.heap.size (.int .i64 1) (.slice none 0 0)
        have hk8 := kept_of_grown (S := [w.heap.size]) hgr (by simp)
        refine bodyPost_ret (v := .tuple #[.agg #[.int .i64 1, .slice none 0 0], .int .i64 e']) ?_ rfl (.inr (.inr ⟨HO.out.symm, HND.out.symm, by rw [← HR.out], by rw [← HR.out]; exact HW7.out.kept hk8 (by simp; omega), by rw [← HR.out]; exact HD7.out.kept hk8 (by simp; omega) (by simp; omega) (by simp; omega), kept_above HK7.out hgr (fun q hq => by cases hq; exact Nat.le_refl _)⟩))
        simp [results, Try.results21, go_sem, r2, r3, r4]
end Go.Proofs.Ytddhkajcakndlaa.Wl
