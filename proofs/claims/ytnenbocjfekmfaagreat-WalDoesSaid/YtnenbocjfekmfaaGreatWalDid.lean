/- WalDoes (layer 8): what each act leaves, at a head whose cells of the reference's log are letters: with a log, or with none. Printed by tools/wal/gendid.py. -/
import Derived.Test.YtnenbocjfekmfaaGreatWalPairs
namespace Go.Proofs.YtnenbocjfekmfaaGreat.Wl
open Go.RowKit Go.Proofs.YtnenbocjfekmfaaGreat.Mem Go.Proofs.YtnenbocjfekmfaaGreat.Pg Go.Proofs.YtnenbocjfekmfaaGreat.Rcd Go.Proofs.YtnenbocjfekmfaaGreat.Slt
open Go.Proofs.YtnenbocjfekmfaaGreat.Dsk (KeptBut SMap DiskAt St ptr kept_of_below kept_of_grown kept_drew TearsAt RefAt RowS SlS Good refV armedOf IsSec raise4 kept_set set4 set4_kept set4_below)
open Go.Proofs.YtnenbocjfekmfaaGreat.Plt (sl plV sl_le sl_pos)
set_option linter.unusedVariables false
set_option linter.unusedSimpArgs false
theorem one_in {lo hi a : Nat} (h1 : lo ≤ a) (h2 : a < hi) : ∀ t ∈ [a], lo ≤ t ∧ t < hi := by
  intro t ht
  rcases List.mem_cons.1 ht with rfl | ht
  · exact ⟨h1, h2⟩
  · cases ht
theorem none_in {lo hi : Nat} : ∀ t ∈ ([] : List Nat), lo ≤ t ∧ t < hi := fun t ht => by cases ht
def IsS (k : Nat) (ar : Int) (dd : Bool) (p0 p1 p2 ge ma nx : Int) (br is_ : Bool) (s : St) (v : Wn) : Prop := ar = armedOf s.left ∧ dd = s.dead ∧ p0 = (sl k : Nat) ∧ p1 = 2 * (sl k : Nat) ∧ p2 = (lg k : Nat) ∧ ge = v.gen ∧ ma = v.mark ∧ nx = (v.next : Nat) ∧ br = v.br ∧ is_ = true
def IsN (ar : Int) (dd : Bool) (p0 p1 p2 ge ma nx : Int) (br is_ : Bool) (s : St) : Prop := ar = armedOf s.left ∧ dd = s.dead ∧ p0 = 0 ∧ p1 = 0 ∧ p2 = 0 ∧ ge = 0 ∧ ma = 0 ∧ nx = 0 ∧ br = false ∧ is_ = false
/-- the loop's head, by letters -/
def DoesC (w wr : World) (g bs bw y k : Nat) (z : Value) (B1 B2 : Option Addr) (d1 d2 : Nat) (ar : Int) (dd : Bool) (p0 p1 p2 ge ma nx : Int) (br is_ : Bool) : Prop :=
  (∃ s v x, DoesSome w wr g bs bw y k z s v x B1 B2 d1 d2 ∧ IsS k ar dd p0 p1 p2 ge ma nx br is_ s v) ∨ ∃ s, DoesNone w wr g bs bw y k z s B1 B2 d1 d2 ∧ IsN ar dd p0 p1 p2 ge ma nx br is_ s
section
variable {w W W' : World} {g bs bw y k : Nat} {z : Value} {B1 B2 : Option Addr} {d1 d2 : Nat} {ar : Int} {dd : Bool} {p0 p1 p2 ge ma nx : Int} {br is_ : Bool}
inductive CLet (w W : World) (g bs bw y k : Nat) (z : Value) : Prop
  | mk (B1 B2 : Option Addr) (d1 d2 : Nat) (ar : Int) (dd : Bool) (p0 p1 p2 ge ma nx : Int) (br is_ : Bool) (h : DoesC w W g bs bw y k z B1 B2 d1 d2 ar dd p0 p1 p2 ge ma nx br is_) : CLet w W g bs bw y k z
theorem does_c (h : DoesAt w W g bs bw y k z) : CLet w W g bs bw y k z := by
  rcases h with ⟨s, v, x, B1, B2, d1, d2, h⟩ | ⟨s, B1, B2, d1, d2, h⟩
  · exact ⟨_, _, _, _, _, _, _, _, _, _, _, _, _, _, .inl ⟨s, v, x, h, rfl, rfl, rfl, rfl, rfl, rfl, rfl, rfl, rfl, rfl⟩⟩
  · exact ⟨_, _, _, _, _, _, _, _, _, _, _, _, _, _, .inr ⟨s, h, rfl, rfl, rfl, rfl, rfl, rfl, rfl, rfl, rfl, rfl⟩⟩
theorem DoesC.at_ (h : DoesC w W g bs bw y k z B1 B2 d1 d2 ar dd p0 p1 p2 ge ma nx br is_) : DoesAt w W g bs bw y k z := by
  rcases h with ⟨s, v, x, h, _⟩ | ⟨s, h, _⟩
  · exact .inl ⟨_, _, _, _, _, _, _, h⟩
  · exact .inr ⟨_, _, _, _, _, h⟩
theorem DoesC.blk (h : DoesC w W g bs bw y k z B1 B2 d1 d2 ar dd p0 p1 p2 ge ma nx br is_) : Blk W y 40 #[.slice B1 k d1, .slice B2 k d2, .int .i64 ar, .bool dd, .int .i64 p0, .int .i64 p1, .int .i64 p2, .int .i64 ge, .int .i64 ma, .int .i64 nx, .bool br, .bool is_] := by
  rcases h with ⟨s, v, x, h, rfl, rfl, rfl, rfl, rfl, rfl, rfl, rfl, rfl, rfl⟩ | ⟨s, h, rfl, rfl, rfl, rfl, rfl, rfl, rfl, rfl, rfl, rfl⟩
  · exact h.2.2.2.2.2.2.2
  · exact h.2.2.2.2
theorem DoesC.up (h : DoesC w W g bs bw y k z B1 B2 d1 d2 ar dd p0 p1 p2 ge ma nx br is_) (hb : Below W.heap.size W W') : DoesC w W' g bs bw y k z B1 B2 d1 d2 ar dd p0 p1 p2 ge ma nx br is_ := by
  rcases h with ⟨s, v, x, h, h'⟩ | ⟨s, h, h'⟩
  · exact .inl ⟨s, v, x, h.up hb, h'⟩
  · exact .inr ⟨s, h.up hb, h'⟩
/-- the reference has acted, the code not yet -/
def MidC (E : List Nat) (P : Nat → St → Wn → List Nat → St × Wn × Int) (w W : World) (g bs bw y k : Nat) (z : Value) (b : List Nat) (cs : Array Value) (er : Int) (B1 B2 : Option Addr) (d1 d2 : Nat) (ar : Int) (dd : Bool) (p0 p1 p2 ge ma nx : Int) (br is_ : Bool) : Prop :=
  Below w.heap.size w W ∧ Blk W y 40 cs ∧ ((∃ s v x, z = ptr x ∧ w.heap.size ≤ x ∧ DiskAt W g bs bw s ∧ WalAt W x g k v ∧ WnOk k v ∧ RD W (E ++ [y, x, g, bs, bw]) B1 B2 d1 d2 k (P k s v b).1 ∧ WnOk k (P k s v b).2.1 ∧ IsS k ar dd p0 p1 p2 ge ma nx br is_ (P k s v b).1 (P k s v b).2.1 ∧ er = (P k s v b).2.2) ∨
    ∃ s, z = .pointer none ∧ DiskAt W g bs bw s ∧ RD W (E ++ [y, g, bs, bw]) B1 B2 d1 d2 k s ∧ IsN ar dd p0 p1 p2 ge ma nx br is_ s ∧ er = 6)
theorem MidC.up {E : List Nat} {P : Nat → St → Wn → List Nat → St × Wn × Int} {b : List Nat} {cs : Array Value} {er : Int} (h : MidC E P w W g bs bw y k z b cs er B1 B2 d1 d2 ar dd p0 p1 p2 ge ma nx br is_) (hb : Below W.heap.size W W') : MidC E P w W' g bs bw y k z b cs er B1 B2 d1 d2 ar dd p0 p1 p2 ge ma nx br is_ := by
  obtain ⟨h1, h2, h3⟩ := h
  refine ⟨h1.trans (hb.mono h1.size), h2.below hb h2.lt, ?_⟩
  rcases h3 with ⟨s, v, x, a1, a2, a3, a4, a5, a6, a7⟩ | ⟨s, a1, a2, a3, a4⟩
  · exact .inl ⟨s, v, x, a1, a2, a3.below hb, a4.up hb, a5, a6.below hb, a7⟩
  · exact .inr ⟨s, a1, a2.below hb, a3.below hb, a4⟩
/-- both have acted, but what the reference left is not stored yet -/
def PostC (w W : World) (g bs bw y k : Nat) (z : Value) (cs : Array Value) (B1 B2 : Option Addr) (d1 d2 : Nat) (ar : Int) (dd : Bool) (p0 p1 p2 ge ma nx : Int) (br is_ : Bool) : Prop :=
  Below w.heap.size w W ∧ Blk W y 40 cs ∧ ∀ W', KeptBut W W' [y] → Below w.heap.size w W' → Blk W' y 40 #[.slice B1 k d1, .slice B2 k d2, .int .i64 ar, .bool dd, .int .i64 p0, .int .i64 p1, .int .i64 p2, .int .i64 ge, .int .i64 ma, .int .i64 nx, .bool br, .bool is_] → DoesAt w W' g bs bw y k z
theorem PostC.set {b0 b1 b2 b3 b4 b5 b6 b7 b8 b9 b10 b11 : Value} (hy0 : w.heap.size ≤ y) (h : PostC w W g bs bw y k z #[b0, b1, b2, b3, b4, b5, b6, b7, b8, b9, b10, b11] B1 B2 d1 d2 ar dd p0 p1 p2 ge ma nx br is_) : DoesAt w (set12 W y (.slice B1 k d1) (.slice B2 k d2) (.int .i64 ar) (.bool dd) (.int .i64 p0) (.int .i64 p1) (.int .i64 p2) (.int .i64 ge) (.int .i64 ma) (.int .i64 nx) (.bool br) (.bool is_)) g bs bw y k z :=
  h.2.2 _ (set12_kept (by simp)) (set12_below h.1 hy0) (set12_blk h.2.1)
theorem post_some {s : St} {v : Wn} {x : Nat} {cs : Array Value} (hb : Below w.heap.size w W) (hd : DiskAt W g bs bw s) (hr : RD W [y, x, g, bs, bw] B1 B2 d1 d2 k s) (hx : w.heap.size ≤ x) (hw : WalAt W x g k v) (hv : WnOk k v) (hy : Blk W y 40 cs) (hi : IsS k ar dd p0 p1 p2 ge ma nx br is_ s v) : PostC w W g bs bw y k (ptr x) cs B1 B2 d1 d2 ar dd p0 p1 p2 ge ma nx br is_ := by
  refine ⟨hb, hy, fun W' hk hlow hB => ?_⟩
  obtain ⟨rfl, rfl, rfl, rfl, rfl, rfl, rfl, rfl, rfl, rfl⟩ := hi
  obtain ⟨n1, n2, n3⟩ := ref_ne (x := 0) (k := 0) (v := v) hd hy
  have n4 : y ≠ x := Blk.ne_ hy hw (by decide)
  exact .inl ⟨s, v, x, B1, B2, d1, d2, hlow, hd.kept hk (by simpa using n1.symm) (by simpa using n2.symm) (by simpa using n3.symm), hr.kept (hk.more (by simp)), hx, rfl, hw.kept hk (by simpa using n4.symm), hv, hB⟩
theorem post_none {s : St} {cs : Array Value} (hb : Below w.heap.size w W) (hd : DiskAt W g bs bw s) (hr : RD W [y, g, bs, bw] B1 B2 d1 d2 k s) (hy : Blk W y 40 cs) (hi : IsN ar dd p0 p1 p2 ge ma nx br is_ s) : PostC w W g bs bw y k (.pointer none) cs B1 B2 d1 d2 ar dd p0 p1 p2 ge ma nx br is_ := by
  refine ⟨hb, hy, fun W' hk hlow hB => ?_⟩
  obtain ⟨rfl, rfl, rfl, rfl, rfl, rfl, rfl, rfl, rfl, rfl⟩ := hi
  obtain ⟨n1, n2, n3⟩ := ref_ne (x := 0) (k := 0) (v := ⟨0, 0, 0, false⟩) hd hy
  exact .inr ⟨s, B1, B2, d1, d2, hlow, hd.kept hk (by simpa using n1.symm) (by simpa using n2.symm) (by simpa using n3.symm), hr.kept (hk.more (by simp)), rfl, hB⟩
theorem rd_raise {S E : List Nat} {s : St} (h : RD W S B1 B2 d1 d2 k s) (hE : ∀ t ∈ E, W.heap.size ≤ t) : RD W (E ++ S) B1 B2 d1 d2 k s :=
  ⟨h.1.raise (by intro t ht; rcases List.mem_append.1 ht with ht | ht <;> first | exact .inr (hE t ht) | exact .inl ht), h.2⟩
/-- what the reference's act answers, and what holds behind it -/
inductive RAct (E : List Nat) (P : Nat → St → Wn → List Nat → St × Wn × Int) (w W : World) (g bs bw y k : Nat) (z : Value) (b : List Nat) (cs : Array Value) (e : Ending) (w' : World) : Prop
  | mk (C1 C2 : Option Addr) (e1 e2 : Nat) (ar' : Int) (dd' : Bool) (q0 q1 q2 ge' ma' nx' : Int) (br' is' : Bool) (er : Int) (he : e = .returned (.tuple #[.agg #[.slice C1 k e1, .slice C2 k e2, .int .i64 ar', .bool dd', .int .i64 q0, .int .i64 q1, .int .i64 q2, .int .i64 ge', .int .i64 ma', .int .i64 nx', .bool br', .bool is'], .int .i64 er])) (hm : MidC E P w w' g bs bw y k z b cs er C1 C2 e1 e2 ar' dd' q0 q1 q2 ge' ma' nx' br' is') (hb : Below W.heap.size W w') : RAct E P w W g bs bw y k z b cs e w'
/-- the box that holds what the reference's act leaves: made behind it, or before -/
inductive OBox (P : Nat → St → Wn → List Nat → St × Wn × Int) (w wa : World) (g bs bw y k : Nat) (z : Value) (b : List Nat) (cs : Array Value) (v18 v19 : Value) (wx : World) : Prop
  | mk (y18 : Nat) (er : Int) (B1 B2 : Option Addr) (d1 d2 : Nat) (ar : Int) (dd : Bool) (p0 p1 p2 ge ma nx : Int) (br is_ : Bool) (h18 : v18 = .pointer (some ⟨y18, 0, none⟩)) (h19 : v19 = .int .i64 er) (hk : Blk wx y18 40 #[.slice B1 k d1, .slice B2 k d2, .int .i64 ar, .bool dd, .int .i64 p0, .int .i64 p1, .int .i64 p2, .int .i64 ge, .int .i64 ma, .int .i64 nx, .bool br, .bool is_]) (hm : MidC [] P w wx g bs bw y k z b cs er B1 B2 d1 d2 ar dd p0 p1 p2 ge ma nx br is_) (hb : Below wa.heap.size wa wx) (hy : y < y18) : OBox P w wa g bs bw y k z b cs v18 v19 wx
section
variable {P : Nat → St → Wn → List Nat → St × Wn × Int} {b : List Nat} {cs : Array Value} {er : Int} {wa : World} {y18 : Nat}
theorem obox_new (hm : MidC [] P w W g bs bw y k z b cs er B1 B2 d1 d2 ar dd p0 p1 p2 ge ma nx br is_) (hb : Below wa.heap.size wa W) (hy : y18 = W.heap.size) : OBox P w wa g bs bw y k z b cs (.pointer (some ⟨y18, 0, none⟩)) (.int .i64 er) (W.alloc (.cells #[.slice B1 k d1, .slice B2 k d2, .int .i64 ar, .bool dd, .int .i64 p0, .int .i64 p1, .int .i64 p2, .int .i64 ge, .int .i64 ma, .int .i64 nx, .bool br, .bool is_] 40)) := by
  subst hy
  exact ⟨_, _, _, _, _, _, _, _, _, _, _, _, _, _, _, _, rfl, rfl, Blk.new _ _ _, hm.up (palloc (Below.refl _ _) _), palloc hb _, hm.2.1.lt⟩
theorem mid_set {b0 b1 b2 b3 b4 b5 b6 b7 b8 b9 b10 b11 : Value} (hm : MidC [y18] P w W g bs bw y k z b cs er B1 B2 d1 d2 ar dd p0 p1 p2 ge ma nx br is_) (hw : w.heap.size ≤ y18) (hy : y < y18) {cs' : Array Value} (hk : Blk W y18 40 cs') : MidC [] P w (set12 W y18 b0 b1 b2 b3 b4 b5 b6 b7 b8 b9 b10 b11) g bs bw y k z b cs er B1 B2 d1 d2 ar dd p0 p1 p2 ge ma nx br is_ := by
  have hs : KeptBut W (set12 W y18 b0 b1 b2 b3 b4 b5 b6 b7 b8 b9 b10 b11) [y18] := set12_kept (by simp)
  obtain ⟨h1, h2, h3⟩ := hm
  refine ⟨set12_below h1 hw, hs.blk h2 (by simp; omega), ?_⟩
  rcases h3 with ⟨s, v, x, a1, a2, a3, a4, a5, a6, a7⟩ | ⟨s, a1, a2, a3, a4⟩
  · obtain ⟨n1, n2, n3⟩ := ref_ne (x := 0) (k := 0) (v := v) a3 hk
    have n4 : y18 ≠ x := Blk.ne_ hk a4 (by decide)
    exact .inl ⟨s, v, x, a1, a2, a3.kept hs (by simpa using n1.symm) (by simpa using n2.symm) (by simpa using n3.symm), a4.kept hs (by simpa using n4.symm), a5, ⟨((a6.kept (hs.more (by simp))).1).more (by simp), a6.2⟩, a7⟩
  · obtain ⟨n1, n2, n3⟩ := ref_ne (x := 0) (k := 0) (v := ⟨0, 0, 0, false⟩) a2 hk
    exact .inr ⟨s, a1, a2.kept hs (by simpa using n1.symm) (by simpa using n2.symm) (by simpa using n3.symm), ⟨((a3.kept (hs.more (by simp))).1).more (by simp), a3.2⟩, a4⟩
theorem obox_set {b0 b1 b2 b3 b4 b5 b6 b7 b8 b9 b10 b11 : Value} (hm : MidC [y18] P w W g bs bw y k z b cs er B1 B2 d1 d2 ar dd p0 p1 p2 ge ma nx br is_) (hk : Blk W y18 40 #[b0, b1, b2, b3, b4, b5, b6, b7, b8, b9, b10, b11]) (hb : Below wa.heap.size wa W) (hw : w.heap.size ≤ wa.heap.size) (hy : y < wa.heap.size) (hy2 : wa.heap.size ≤ y18) :
    OBox P w wa g bs bw y k z b cs (.pointer (some ⟨y18, 0, none⟩)) (.int .i64 er) (set12 W y18 (.slice B1 k d1) (.slice B2 k d2) (.int .i64 ar) (.bool dd) (.int .i64 p0) (.int .i64 p1) (.int .i64 p2) (.int .i64 ge) (.int .i64 ma) (.int .i64 nx) (.bool br) (.bool is_)) :=
  ⟨_, _, _, _, _, _, _, _, _, _, _, _, _, _, _, _, rfl, rfl, set12_blk hk, mid_set hm (by omega) (by omega) hk, set12_below hb hy2, by omega⟩
end
theorem rcommit_c {A : Option Addr} {n c : Nat} {b : List Nat} {W0 : World} (E : List Nat) (hk1 : 6 ≤ k) (hk2 : k ≤ 1000) (h : DoesC w W0 g bs bw y k z B1 B2 d1 d2 ar dd p0 p1 p2 ge ma nx br is_) (hB : Below W0.heap.size W0 W) (hE : ∀ t ∈ E, W0.heap.size ≤ t ∧ t < W.heap.size) (hb : Sl W W.heap.size (.slice A n c) b) (hbn : b.length = n) (hn : n ≤ 7808) :
    Calls Tryz.prog 13 #[.agg #[.slice B1 k d1, .slice B2 k d2, .int .i64 ar, .bool dd, .int .i64 p0, .int .i64 p1, .int .i64 p2, .int .i64 ge, .int .i64 ma, .int .i64 nx, .bool br, .bool is_], .slice A n c] W (RAct E commitP w W g bs bw y k z b #[.slice B1 k d1, .slice B2 k d2, .int .i64 ar, .bool dd, .int .i64 p0, .int .i64 p1, .int .i64 p2, .int .i64 ge, .int .i64 ma, .int .i64 nx, .bool br, .bool is_]) := by
  have hy := h.blk
  rcases h with ⟨s, v, x, ⟨a1, a2, a3, a4, a5, a6, a7, a8⟩, rfl, rfl, rfl, rfl, rfl, rfl, rfl, rfl, rfl, rfl⟩ | ⟨s, ⟨a1, a2, a3, a4, a8⟩, rfl, rfl, rfl, rfl, rfl, rfl, rfl, rfl, rfl, rfl⟩
  · have a3 := (rd_raise a3 (fun t ht => (hE t ht).1)).below hB
    have a1 := a1.trans (hB.mono a1.size)
    have a2 := a2.below hB
    have a6 := a6.up hB
    have a8 := a8.below hB a8.lt
    have hy := hy.below hB hy.lt
    have hS : ∀ t ∈ E ++ [y, x, g, bs, bw], t < W.heap.size := by
      intro t ht
      rcases List.mem_append.1 ht with ht | ht
      · exact (hE t ht).2
      rcases List.mem_cons.1 ht with rfl | ht
      · exact a8.lt
      · exact in_all a2 a6 t ht
    refine (rcommit_o a2.fine a3 hS hk1 hk2 a7 hb hbn hn).mono ?_
    rintro e w' ⟨C1, C2, e1, e2, rfl, hr, hl⟩
    exact ⟨_, _, _, _, _, _, _, _, _, _, _, _, _, _, _, rfl, ⟨a1.trans (hl.mono a1.size), hy.below hl hy.lt, .inl ⟨s, v, x, a5, a4, a2.below hl, a6.up hl, a7, hr, pcommit_ok a7 b, ⟨rfl, rfl, rfl, rfl, rfl, rfl, rfl, rfl, rfl, rfl⟩, rfl⟩⟩, hl⟩
  · have a3 := (rd_raise a3 (fun t ht => (hE t ht).1)).below hB
    have a1 := a1.trans (hB.mono a1.size)
    have a2 := a2.below hB
    have hy := hy.below hB hy.lt
    refine (rcommit_n a3).mono ?_
    rintro e w' ⟨C1, C2, e1, e2, rfl, hr, hl⟩
    exact ⟨_, _, _, _, _, _, _, _, _, _, _, _, _, _, _, rfl, ⟨a1.trans (hl.mono a1.size), hy.below hl hy.lt, .inr ⟨s, a4, a2.below hl, hr, ⟨rfl, rfl, rfl, rfl, rfl, rfl, rfl, rfl, rfl, rfl⟩, rfl⟩⟩, hl⟩
theorem ccommit_c {A : Option Addr} {n c : Nat} {b : List Nat} {cs : Array Value} {er : Int} (hk1 : 6 ≤ k) (hk2 : k ≤ 1000) (hge : ∀ t ∈ [g, bs, bw], w.heap.size ≤ t) (h : MidC [] commitP w W g bs bw y k z b cs er B1 B2 d1 d2 ar dd p0 p1 p2 ge ma nx br is_) (hb : Sl W W.heap.size (.slice A n c) b) (hbn : b.length = n) (hn : n ≤ 7808) :
    Calls Tryz.prog 15 #[z, .slice A n c] W fun e w' => e = .returned (.int .i64 er) ∧ PostC w w' g bs bw y k z cs B1 B2 d1 d2 ar dd p0 p1 p2 ge ma nx br is_ ∧ ∀ q cs', Blk W q 40 cs' → Blk w' q 40 cs' := by
  obtain ⟨hl, hy, h⟩ := h
  rcases h with ⟨s, v, x, rfl, a2, a3, a4, a5, a6, a7, a8, rfl⟩ | ⟨s, rfl, a2, a3, a4, rfl⟩
  · refine (commit_any x g bs bw k s v A n c b W a4 a3 hk1 hk2 a5 hb hbn hn).mono ?_
    rintro e w' ⟨rfl, b1, b2, b3⟩
    have hbl : ∀ q cs', Blk W q 40 cs' → Blk w' q 40 cs' := by
      intro q cs' hq
      obtain ⟨n1, n2, n3⟩ := ref_ne (x := 0) (k := 0) (v := v) a3 hq
      have n4 : q ≠ x := Blk.ne_ hq a4 (by decide)
      exact b3.blk hq (by simp; exact ⟨n4, n1, n2, n3⟩)
    exact ⟨rfl, post_some (kept_low hl b3 (by intro t ht; rcases List.mem_cons.1 ht with rfl | ht <;> first | exact a2 | exact hge t ht)) b2 (a6.kept (b3.more (by intro t ht; exact List.mem_cons_of_mem _ ht))) a2 b1 a7 (hbl _ _ hy) a8, hbl⟩
  · refine (commit_none _ _ A n c (.inl rfl)).mono ?_
    rintro e w' ⟨rfl, rfl⟩
    exact ⟨rfl, post_none hl a2 a3 hy a4, fun _ _ h => h⟩
theorem rturn_c {A : Option Addr} {n c : Nat} {b : List Nat} {W0 : World} (E : List Nat) (hk1 : 6 ≤ k) (hk2 : k ≤ 1000) (h : DoesC w W0 g bs bw y k z B1 B2 d1 d2 ar dd p0 p1 p2 ge ma nx br is_) (hB : Below W0.heap.size W0 W) (hE : ∀ t ∈ E, W0.heap.size ≤ t ∧ t < W.heap.size) (hb : Sl W W.heap.size (.slice A n c) b) (hbn : b.length = n) (hn : n ≤ 7808) :
    Calls Tryz.prog 16 #[.agg #[.slice B1 k d1, .slice B2 k d2, .int .i64 ar, .bool dd, .int .i64 p0, .int .i64 p1, .int .i64 p2, .int .i64 ge, .int .i64 ma, .int .i64 nx, .bool br, .bool is_], .slice A n c] W (RAct E turnP w W g bs bw y k z b #[.slice B1 k d1, .slice B2 k d2, .int .i64 ar, .bool dd, .int .i64 p0, .int .i64 p1, .int .i64 p2, .int .i64 ge, .int .i64 ma, .int .i64 nx, .bool br, .bool is_]) := by
  have hy := h.blk
  rcases h with ⟨s, v, x, ⟨a1, a2, a3, a4, a5, a6, a7, a8⟩, rfl, rfl, rfl, rfl, rfl, rfl, rfl, rfl, rfl, rfl⟩ | ⟨s, ⟨a1, a2, a3, a4, a8⟩, rfl, rfl, rfl, rfl, rfl, rfl, rfl, rfl, rfl, rfl⟩
  · have a3 := (rd_raise a3 (fun t ht => (hE t ht).1)).below hB
    have a1 := a1.trans (hB.mono a1.size)
    have a2 := a2.below hB
    have a6 := a6.up hB
    have a8 := a8.below hB a8.lt
    have hy := hy.below hB hy.lt
    have hS : ∀ t ∈ E ++ [y, x, g, bs, bw], t < W.heap.size := by
      intro t ht
      rcases List.mem_append.1 ht with ht | ht
      · exact (hE t ht).2
      rcases List.mem_cons.1 ht with rfl | ht
      · exact a8.lt
      · exact in_all a2 a6 t ht
    refine (rturn_o a2.fine a3 hS hk1 hk2 a7 hb hbn hn).mono ?_
    rintro e w' ⟨C1, C2, e1, e2, rfl, hr, hl⟩
    exact ⟨_, _, _, _, _, _, _, _, _, _, _, _, _, _, _, rfl, ⟨a1.trans (hl.mono a1.size), hy.below hl hy.lt, .inl ⟨s, v, x, a5, a4, a2.below hl, a6.up hl, a7, hr, pturn_ok a7 b, ⟨rfl, rfl, rfl, rfl, rfl, rfl, rfl, rfl, rfl, rfl⟩, rfl⟩⟩, hl⟩
  · have a3 := (rd_raise a3 (fun t ht => (hE t ht).1)).below hB
    have a1 := a1.trans (hB.mono a1.size)
    have a2 := a2.below hB
    have hy := hy.below hB hy.lt
    refine (rturn_n a3).mono ?_
    rintro e w' ⟨C1, C2, e1, e2, rfl, hr, hl⟩
    exact ⟨_, _, _, _, _, _, _, _, _, _, _, _, _, _, _, rfl, ⟨a1.trans (hl.mono a1.size), hy.below hl hy.lt, .inr ⟨s, a4, a2.below hl, hr, ⟨rfl, rfl, rfl, rfl, rfl, rfl, rfl, rfl, rfl, rfl⟩, rfl⟩⟩, hl⟩
theorem cturn_c {A : Option Addr} {n c : Nat} {b : List Nat} {cs : Array Value} {er : Int} (hk1 : 6 ≤ k) (hk2 : k ≤ 1000) (hge : ∀ t ∈ [g, bs, bw], w.heap.size ≤ t) (h : MidC [] turnP w W g bs bw y k z b cs er B1 B2 d1 d2 ar dd p0 p1 p2 ge ma nx br is_) (hb : Sl W W.heap.size (.slice A n c) b) (hbn : b.length = n) (hn : n ≤ 7808) :
    Calls Tryz.prog 17 #[z, .slice A n c] W fun e w' => e = .returned (.int .i64 er) ∧ PostC w w' g bs bw y k z cs B1 B2 d1 d2 ar dd p0 p1 p2 ge ma nx br is_ ∧ ∀ q cs', Blk W q 40 cs' → Blk w' q 40 cs' := by
  obtain ⟨hl, hy, h⟩ := h
  rcases h with ⟨s, v, x, rfl, a2, a3, a4, a5, a6, a7, a8, rfl⟩ | ⟨s, rfl, a2, a3, a4, rfl⟩
  · refine (turn_any x g bs bw k s v A n c b W a4 a3 hk1 hk2 a5 hb hbn hn).mono ?_
    rintro e w' ⟨rfl, b1, b2, b3⟩
    have hbl : ∀ q cs', Blk W q 40 cs' → Blk w' q 40 cs' := by
      intro q cs' hq
      obtain ⟨n1, n2, n3⟩ := ref_ne (x := 0) (k := 0) (v := v) a3 hq
      have n4 : q ≠ x := Blk.ne_ hq a4 (by decide)
      exact b3.blk hq (by simp; exact ⟨n4, n1, n2, n3⟩)
    exact ⟨rfl, post_some (kept_low hl b3 (by intro t ht; rcases List.mem_cons.1 ht with rfl | ht <;> first | exact a2 | exact hge t ht)) b2 (a6.kept (b3.more (by intro t ht; exact List.mem_cons_of_mem _ ht))) a2 b1 a7 (hbl _ _ hy) a8, hbl⟩
  · refine (turn_none _ _ A n c (.inl rfl)).mono ?_
    rintro e w' ⟨rfl, rfl⟩
    exact ⟨rfl, post_none hl a2 a3 hy a4, fun _ _ h => h⟩
/-- another number of writes that are left -/
theorem ref_left {v1 v2 : Value} {S : List Nat} {s : St} (h : RefAt W S (refV v1 v2 s) s) (t : Int) : RefAt W S (refV v1 v2 { s with left := t }) { s with left := t } := by
  obtain ⟨u1, u2, us1, us2, he, h1, h2, h3, h4⟩ := h
  have e : u1 = v1 ∧ u2 = v2 := by
    unfold refV at he
    injection he with he
    injection he with he
    injection he with e1 he
    injection he with e2 he
    exact ⟨e1.symm, e2.symm⟩
  obtain ⟨rfl, rfl⟩ := e
  exact ⟨u1, u2, us1, us2, rfl, h1, h2, h3, h4⟩
theorem rd_left {S : List Nat} {s : St} (h : RD W S B1 B2 d1 d2 k s) (t : Int) : RD W S B1 B2 d1 d2 k { s with left := t } := ⟨ref_left h.1 t, h.2⟩
theorem set2_blk {a0 a1 a2 a3 a4 a5 a6 a7 a8 a9 a10 a11 b2 : Value} (h : Blk W y 40 #[a0, a1, a2, a3, a4, a5, a6, a7, a8, a9, a10, a11]) : Blk (W.setCell ⟨y, 2, none⟩ b2) y 40 #[a0, a1, b2, a3, a4, a5, a6, a7, a8, a9, a10, a11] := by
  have h := h.set_ 2 b2
  simpa using h
theorem carm_c {t : Int} (hge : ∀ t ∈ [g, bs, bw], w.heap.size ≤ t) (hy0 : w.heap.size ≤ y) (h : DoesC w W g bs bw y k z B1 B2 d1 d2 ar dd p0 p1 p2 ge ma nx br is_) (h1 : -9223372036854775808 ≤ t) (h2 : t ≤ 9223372036854775807) :
    Calls Tryz.prog 18 #[ptr g, .int .i64 t] W fun e w' => e = .returned (.tuple #[]) ∧ PostC w w' g bs bw y k z #[.slice B1 k d1, .slice B2 k d2, .int .i64 ar, .bool dd, .int .i64 p0, .int .i64 p1, .int .i64 p2, .int .i64 ge, .int .i64 ma, .int .i64 nx, .bool br, .bool is_] B1 B2 d1 d2 (armedOf t) dd p0 p1 p2 ge ma nx br is_ ∧ ∀ q cs', Blk W q 46 cs' → Blk w' q 46 cs' := by
  have hy := h.blk
  rcases h with ⟨s, v, x, ⟨a1, a2, a3, a4, a5, a6, a7, a8⟩, rfl, rfl, rfl, rfl, rfl, rfl, rfl, rfl, rfl, rfl⟩ | ⟨s, ⟨a1, a2, a3, a4, a8⟩, rfl, rfl, rfl, rfl, rfl, rfl, rfl, rfl, rfl, rfl⟩
  · refine (Dsk.arm_any g bs bw s t W a2 h1 h2).mono ?_
    rintro e w' ⟨rfl, b1, b2⟩
    have hk : KeptBut W w' [g] := kept_of_grown b2 (by simp)
    obtain ⟨n1, n2, n3⟩ := ref_ne (x := 0) (k := 0) (v := v) a2 hy
    have n4 := (wal_ne a6 a2).1
    subst a5
    exact ⟨rfl, post_some (kept_low a1 hk (by intro t ht; simp at ht hge; omega)) b1 (rd_left (a3.kept (hk.more (by simp))) t) a4 (a6.kept hk (by simpa using n4)) a7 (hk.blk hy (by simpa using n1)) ⟨rfl, rfl, rfl, rfl, rfl, rfl, rfl, rfl, rfl, rfl⟩, fun q cs' hq => hk.blk hq (by have := Blk.ne_ hq a2.1 (by decide); simpa using this)⟩
  · refine (Dsk.arm_any g bs bw s t W a2 h1 h2).mono ?_
    rintro e w' ⟨rfl, b1, b2⟩
    have hk : KeptBut W w' [g] := kept_of_grown b2 (by simp)
    obtain ⟨n1, n2, n3⟩ := ref_ne (x := 0) (k := 0) (v := ⟨0, 0, 0, false⟩) a2 hy
    subst a4
    exact ⟨rfl, post_none (kept_low a1 hk (by intro t ht; simp at ht hge; omega)) b1 (rd_left (a3.kept (hk.more (by simp))) t) (hk.blk hy (by simpa using n1)) ⟨rfl, rfl, rfl, rfl, rfl, rfl, rfl, rfl, rfl, rfl⟩, fun q cs' hq => hk.blk hq (by have := Blk.ne_ hq a2.1 (by decide); simpa using this)⟩
theorem PostC.set2 {ar0 t : Int} (hy0 : w.heap.size ≤ y) (h : PostC w W g bs bw y k z #[.slice B1 k d1, .slice B2 k d2, .int .i64 ar0, .bool dd, .int .i64 p0, .int .i64 p1, .int .i64 p2, .int .i64 ge, .int .i64 ma, .int .i64 nx, .bool br, .bool is_] B1 B2 d1 d2 t dd p0 p1 p2 ge ma nx br is_) : DoesAt w (W.setCell ⟨y, 2, none⟩ (.int .i64 t)) g bs bw y k z :=
  h.2.2 _ (kept_set _ _ (by simp)) (h.1.setCell hy0 _) (set2_blk h.2.1)
theorem PostC.set22 {ar0 t u : Int} (hy0 : w.heap.size ≤ y) (h : PostC w W g bs bw y k z #[.slice B1 k d1, .slice B2 k d2, .int .i64 ar0, .bool dd, .int .i64 p0, .int .i64 p1, .int .i64 p2, .int .i64 ge, .int .i64 ma, .int .i64 nx, .bool br, .bool is_] B1 B2 d1 d2 t dd p0 p1 p2 ge ma nx br is_) : DoesAt w ((W.setCell ⟨y, 2, none⟩ (.int .i64 u)).setCell ⟨y, 2, none⟩ (.int .i64 t)) g bs bw y k z :=
  h.2.2 _ ((kept_set _ _ (by simp)).trans (kept_set _ _ (by simp))) ((h.1.setCell hy0 _).setCell hy0 _) (set2_blk (set2_blk h.2.1))
theorem PostC.up {cs : Array Value} (h : PostC w W g bs bw y k z cs B1 B2 d1 d2 ar dd p0 p1 p2 ge ma nx br is_) (hb : Below W.heap.size W W') : PostC w W' g bs bw y k z cs B1 B2 d1 d2 ar dd p0 p1 p2 ge ma nx br is_ :=
  ⟨h.1.trans (hb.mono h.1.size), h.2.1.below hb h.2.1.lt, fun W2 hk hl hB => h.2.2 W2 ((kept_of_below hb (Nat.le_refl _)).trans hk) hl hB⟩
theorem set11_blk {a0 a1 a2 a3 a4 a5 a6 a7 a8 a9 a10 a11 b : Value} (h : Blk W y 40 #[a0, a1, a2, a3, a4, a5, a6, a7, a8, a9, a10, a11]) : Blk (W.setCell ⟨y, 11, none⟩ b) y 40 #[a0, a1, a2, a3, a4, a5, a6, a7, a8, a9, a10, b] := by
  have h := h.set_ 11 b
  simpa using h
/-- stored, and marked as none -/
theorem PostC.set13 {b0 b1 b2 b3 b4 b5 b6 b7 b8 b9 b10 b11 : Value} (hy0 : w.heap.size ≤ y) (h : PostC w W g bs bw y k z #[b0, b1, b2, b3, b4, b5, b6, b7, b8, b9, b10, b11] B1 B2 d1 d2 ar dd p0 p1 p2 ge ma nx br false) : DoesAt w ((set12 W y (.slice B1 k d1) (.slice B2 k d2) (.int .i64 ar) (.bool dd) (.int .i64 p0) (.int .i64 p1) (.int .i64 p2) (.int .i64 ge) (.int .i64 ma) (.int .i64 nx) (.bool br) (.bool false)).setCell ⟨y, 11, none⟩ (.bool false)) g bs bw y k z :=
  h.2.2 _ ((set12_kept (by simp)).trans (kept_set _ _ (by simp))) ((set12_below h.1 hy0).setCell hy0 _) (set11_blk (set12_blk h.2.1))
/-- two disks alone, each in a state, and the box's cells -/
def Half (w W : World) (g bs bw y k : Nat) (s1 s2 : St) (B1 B2 : Option Addr) (d1 d2 : Nat) (cs : Array Value) : Prop :=
  Below w.heap.size w W ∧ DiskAt W g bs bw s2 ∧ RD W [y, g, bs, bw] B1 B2 d1 d2 k s1 ∧ Blk W y 40 cs
theorem half_c (h : DoesC w W g bs bw y k z B1 B2 d1 d2 ar dd p0 p1 p2 ge ma nx br is_) : ∃ s, Half w W g bs bw y k s s B1 B2 d1 d2 #[.slice B1 k d1, .slice B2 k d2, .int .i64 ar, .bool dd, .int .i64 p0, .int .i64 p1, .int .i64 p2, .int .i64 ge, .int .i64 ma, .int .i64 nx, .bool br, .bool is_] ∧ armedOf s.left = ar ∧ s.dead = dd := by
  have hy := h.blk
  rcases h with ⟨s, v, x, ⟨a1, a2, a3, a4, a5, a6, a7, a8⟩, rfl, rfl, rfl, rfl, rfl, rfl, rfl, rfl, rfl, rfl⟩ | ⟨s, ⟨a1, a2, a3, a4, a8⟩, rfl, rfl, rfl, rfl, rfl, rfl, rfl, rfl, rfl, rfl⟩
  · exact ⟨s, ⟨a1, a2, ⟨a3.1.more (by simp), a3.2⟩, hy⟩, rfl, rfl⟩
  · exact ⟨s, ⟨a1, a2, a3, hy⟩, rfl, rfl⟩
section
variable {s1 s2 s3 : St} {cs : Array Value} {vt : Value} {l : List (Int × List Nat)}
theorem Half.up (h : Half w W g bs bw y k s1 s2 B1 B2 d1 d2 cs) (hb : Below W.heap.size W W') : Half w W' g bs bw y k s1 s2 B1 B2 d1 d2 cs :=
  ⟨h.1.trans (hb.mono h.1.size), h.2.1.below hb, h.2.2.1.below hb, h.2.2.2.below hb h.2.2.2.lt⟩
theorem half_lt (h : Half w W g bs bw y k s1 s2 B1 B2 d1 d2 cs) : ∀ t ∈ [y, g, bs, bw], t < W.heap.size := by
  have h1 := disk_lt h.2.1
  have h2 := h.2.2.2.lt
  intro t ht
  simp at ht
  omega
theorem half_keep (h : Half w W g bs bw y k s1 s2 B1 B2 d1 d2 cs) (hge : ∀ t ∈ [g, bs, bw], w.heap.size ≤ t) (hk : KeptBut W W' [g, bs, bw]) (hd : DiskAt W' g bs bw s3) : Half w W' g bs bw y k s1 s3 B1 B2 d1 d2 cs := by
  obtain ⟨a1, a2, a3, a4⟩ := h
  obtain ⟨n1, n2, n3⟩ := ref_ne (x := 0) (k := 0) (v := ⟨0, 0, 0, false⟩) a2 a4
  exact ⟨kept_low a1 hk hge, hd, a3.kept (hk.more (by intro t ht; exact List.mem_cons_of_mem _ ht)), hk.blk a4 (by simp; exact ⟨n1, n2, n3⟩)⟩
theorem ccrash_h (hge : ∀ t ∈ [g, bs, bw], w.heap.size ≤ t) (h : Half w W g bs bw y k s1 s2 B1 B2 d1 d2 cs) (ht : TearsAt W w.heap.size vt l) :
    Calls Tryz.prog 19 #[ptr g, vt] W fun e w' => e = .returned (.tuple #[]) ∧ Half w w' g bs bw y k s1 (s2.crash l) B1 B2 d1 d2 cs ∧ TearsAt w' w.heap.size vt l ∧ ∀ q cs', Blk W q 46 cs' → Blk w' q 46 cs' := by
  refine (Dsk.crash_any g bs bw w.heap.size s2 vt l W h.2.1 ht hge).mono ?_
  rintro e w' ⟨rfl, b1, b2⟩
  refine ⟨rfl, half_keep h hge b2 b1, ht.below (b2.below hge h.1.size) (Nat.le_refl _), fun q cs' hq => b2.blk hq ?_⟩
  have n1 := Blk.ne_ hq h.2.1.1 (by decide)
  have n2 := Dsk.smap_ne_blk h.2.1.2.1 hq
  have n3 := Dsk.smap_ne_blk h.2.1.2.2.1 hq
  simp
  exact ⟨n1, n2, n3⟩
theorem rcrash_h (hf : Dsk.Fine s1) (h : Half w W g bs bw y k s1 s2 B1 B2 d1 d2 cs) (ht : TearsAt W w.heap.size vt l) {ar : Int} {dd : Bool} (ha : armedOf s1.left = ar) (hd : s1.dead = dd) :
    Calls Tryz.prog 20 #[.agg #[.slice B1 k d1, .slice B2 k d2, .int .i64 ar, .bool dd], vt] W fun e w' => ∃ C1 C2 e1 e2, e = .returned (.agg #[.slice C1 k e1, .slice C2 k e2, .int .i64 (armedOf (s1.crash l).left), .bool (s1.crash l).dead]) ∧ Half w w' g bs bw y k (s1.crash l) s2 C1 C2 e1 e2 cs ∧ Below W.heap.size W w' := by
  subst ha hd
  refine (rcrash_o hf h.2.2.1 (half_lt h) ht h.1.size).mono ?_
  rintro e w' ⟨C1, C2, e1, e2, rfl, hr, hb⟩
  exact ⟨C1, C2, e1, e2, rfl, ⟨h.1.trans (hb.mono h.1.size), h.2.1.below hb, hr, h.2.2.2.below hb h.2.2.2.lt⟩, hb⟩
theorem set4_blk {a0 a1 a2 a3 a4 a5 a6 a7 a8 a9 a10 a11 b0 b1 b2 b3 : Value} (h : Blk W y 40 #[a0, a1, a2, a3, a4, a5, a6, a7, a8, a9, a10, a11]) : Blk (set4 W y b0 b1 b2 b3) y 40 #[b0, b1, b2, b3, a4, a5, a6, a7, a8, a9, a10, a11] := by
  have h := (((h.set_ 0 b0).set_ 1 b1).set_ 2 b2).set_ 3 b3
  simpa using h
theorem half_set {a0 a1 a2 a3 a4 a5 a6 a7 a8 a9 a10 a11 b0 b1 b2 b3 : Value} (hy0 : w.heap.size ≤ y) (h : Half w W g bs bw y k s1 s2 B1 B2 d1 d2 #[a0, a1, a2, a3, a4, a5, a6, a7, a8, a9, a10, a11]) : Half w (set4 W y b0 b1 b2 b3) g bs bw y k s1 s2 B1 B2 d1 d2 #[b0, b1, b2, b3, a4, a5, a6, a7, a8, a9, a10, a11] := by
  obtain ⟨a1, a2, a3, a4⟩ := h
  obtain ⟨n1, n2, n3⟩ := ref_ne (x := 0) (k := 0) (v := ⟨0, 0, 0, false⟩) a2 a4
  have hk : KeptBut W (set4 W y b0 b1 b2 b3) [y] := set4_kept (KeptBut.refl _ _) (by simp)
  exact ⟨set4_below a1 hy0, a2.kept hk (by simpa using n1.symm) (by simpa using n2.symm) (by simpa using n3.symm), a3.kept (hk.more (by simp)), set4_blk a4⟩
/-- all is to be opened again -/
inductive HalfJ (w W : World) (g bs bw y k : Nat) : Prop
  | mk (s : St) (B1 B2 : Option Addr) (d1 d2 : Nat) (ar : Int) (dd : Bool) (p0 p1 p2 ge ma nx : Int) (br is_ : Bool) (hh : Half w W g bs bw y k s s B1 B2 d1 d2 #[.slice B1 k d1, .slice B2 k d2, .int .i64 ar, .bool dd, .int .i64 p0, .int .i64 p1, .int .i64 p2, .int .i64 ge, .int .i64 ma, .int .i64 nx, .bool br, .bool is_]) (ha : armedOf s.left = ar) (hd : s.dead = dd) : HalfJ w W g bs bw y k
/-- the reference is opened, with a log -/
def MidY (w W : World) (g bs bw y k : Nat) (s s1 : St) (v : Wn) (cs : Array Value) (B1 B2 : Option Addr) (d1 d2 : Nat) (ar : Int) (dd : Bool) (p0 p1 p2 ge ma nx : Int) (br is_ : Bool) : Prop := Half w W g bs bw y k s1 s B1 B2 d1 d2 cs ∧ s.n = k ∧ IsS k ar dd p0 p1 p2 ge ma nx br is_ s1 v
def MidN (w W : World) (g bs bw y k : Nat) (s s1 : St) (cs : Array Value) (B1 B2 : Option Addr) (d1 d2 : Nat) (ar : Int) (dd : Bool) (p0 p1 p2 ge ma nx : Int) (br is_ : Bool) : Prop := Half w W g bs bw y k s1 s B1 B2 d1 d2 cs ∧ s.n = k ∧ IsN ar dd p0 p1 p2 ge ma nx br is_ s1
inductive ROpY (w W : World) (g bs bw y k : Nat) (s s1 : St) (v : Wn) (cs : Array Value) (b : List Nat) (recs : List (List Nat)) (nb nr : Nat) (e : Ending) (w' : World) : Prop
  | mk (C1 C2 : Option Addr) (e1 e2 : Nat) (ar' : Int) (dd' : Bool) (q0 q1 q2 ge' ma' nx' : Int) (br' is' : Bool) (A : Option Addr) (c : Nat) (A2 : Option Addr) (c2 : Nat) (he : e = .returned (.tuple #[.agg #[.slice C1 k e1, .slice C2 k e2, .int .i64 ar', .bool dd', .int .i64 q0, .int .i64 q1, .int .i64 q2, .int .i64 ge', .int .i64 ma', .int .i64 nx', .bool br', .bool is'], .slice A nb c, .slice A2 nr c2, .int .i64 0])) (hm : MidY w w' g bs bw y k s s1 v cs C1 C2 e1 e2 ar' dd' q0 q1 q2 ge' ma' nx' br' is') (hB : Bts w' w'.heap.size A nb b) (hS : Sls w' w'.heap.size (.slice A2 nr c2) recs) (hb : Below W.heap.size W w') : ROpY w W g bs bw y k s s1 v cs b recs nb nr e w'
inductive ROpN (w W : World) (g bs bw y k : Nat) (s s1 : St) (cs : Array Value) (er : Int) (e : Ending) (w' : World) : Prop
  | mk (C1 C2 : Option Addr) (e1 e2 : Nat) (ar' : Int) (dd' : Bool) (q0 q1 q2 ge' ma' nx' : Int) (br' is' : Bool) (A : Option Addr) (c : Nat) (A2 : Option Addr) (c2 : Nat) (he : e = .returned (.tuple #[.agg #[.slice C1 k e1, .slice C2 k e2, .int .i64 ar', .bool dd', .int .i64 q0, .int .i64 q1, .int .i64 q2, .int .i64 ge', .int .i64 ma', .int .i64 nx', .bool br', .bool is'], .slice A 0 c, .slice A2 0 c2, .int .i64 er])) (hm : MidN w w' g bs bw y k s s1 cs C1 C2 e1 e2 ar' dd' q0 q1 q2 ge' ma' nx' br' is' ∧ is' = false) (hB : Bts w' w'.heap.size A 0 []) (hS : Sls w' w'.heap.size (.slice A2 0 c2) []) (hb : Below W.heap.size W w') : ROpN w W g bs bw y k s s1 cs er e w'
inductive COpY (w W : World) (g bs bw y k : Nat) (cs : Array Value) (b : List Nat) (recs : List (List Nat)) (nb nr : Nat) (A5 A6 : Option Addr) (c6 : Nat) (B1 B2 : Option Addr) (d1 d2 : Nat) (ar : Int) (dd : Bool) (p0 p1 p2 ge ma nx : Int) (br is_ : Bool) (e : Ending) (w' : World) : Prop
  | mk (x : Nat) (A : Option Addr) (c : Nat) (A2 : Option Addr) (c2 : Nat) (he : e = .returned (.tuple #[ptr x, .slice A nb c, .slice A2 nr c2, .int .i64 0])) (hp : PostC w w' g bs bw y k (ptr x) cs B1 B2 d1 d2 ar dd p0 p1 p2 ge ma nx br is_) (hB : Bts w' w'.heap.size A5 nb b ∧ Bts w' w'.heap.size A nb b) (hS : Sls w' w'.heap.size (.slice A6 nr c6) recs ∧ Sls w' w'.heap.size (.slice A2 nr c2) recs) (hq : ∀ q cs', Blk W q 40 cs' → Blk w' q 40 cs') : COpY w W g bs bw y k cs b recs nb nr A5 A6 c6 B1 B2 d1 d2 ar dd p0 p1 p2 ge ma nx br is_ e w'
inductive COpN (w W : World) (g bs bw y k : Nat) (cs : Array Value) (er : Int) (A5 A6 : Option Addr) (c6 : Nat) (B1 B2 : Option Addr) (d1 d2 : Nat) (ar : Int) (dd : Bool) (p0 p1 p2 ge ma nx : Int) (br is_ : Bool) (e : Ending) (w' : World) : Prop
  | mk (A : Option Addr) (c : Nat) (A2 : Option Addr) (c2 : Nat) (he : e = .returned (.tuple #[.pointer none, .slice A 0 c, .slice A2 0 c2, .int .i64 er])) (hp : PostC w w' g bs bw y k (.pointer none) cs B1 B2 d1 d2 ar dd p0 p1 p2 ge ma nx br is_) (hB : Bts w' w'.heap.size A5 0 [] ∧ Bts w' w'.heap.size A 0 []) (hS : Sls w' w'.heap.size (.slice A6 0 c6) [] ∧ Sls w' w'.heap.size (.slice A2 0 c2) []) (hq : ∀ q cs', Blk W q 40 cs' → Blk w' q 40 cs') : COpN w W g bs bw y k cs er A5 A6 c6 B1 B2 d1 d2 ar dd p0 p1 p2 ge ma nx br is_ e w'
theorem MidY.up {s s1 : St} {v : Wn} (h : MidY w W g bs bw y k s s1 v cs B1 B2 d1 d2 ar dd p0 p1 p2 ge ma nx br is_) (hb : Below W.heap.size W W') : MidY w W' g bs bw y k s s1 v cs B1 B2 d1 d2 ar dd p0 p1 p2 ge ma nx br is_ := ⟨h.1.up hb, h.2⟩
theorem MidN.up {s s1 : St} (h : MidN w W g bs bw y k s s1 cs B1 B2 d1 d2 ar dd p0 p1 p2 ge ma nx br is_) (hb : Below W.heap.size W W') : MidN w W' g bs bw y k s s1 cs B1 B2 d1 d2 ar dd p0 p1 p2 ge ma nx br is_ := ⟨h.1.up hb, h.2⟩
section
variable {s : St} {v : Wn} {b : List Nat} {recs : List (List Nat)} {nb nr : Nat} {er : Int}
theorem ropen_y {ar : Int} {dd : Bool} (hk1 : 6 ≤ k) (hk2 : k ≤ 1000) (hnb : nb = b.length) (hnr : nr = recs.length) (ho : openP s = ⟨s1, some v, b, recs, 0⟩) (hn1 : s1.n = k) (h : Half w W g bs bw y k s s B1 B2 d1 d2 cs) (ha : armedOf s.left = ar) (hd : s.dead = dd) :
    Calls Tryz.prog 11 #[.agg #[.slice B1 k d1, .slice B2 k d2, .int .i64 ar, .bool dd]] W (ROpY w W g bs bw y k s s1 v cs b recs nb nr) := by
  subst ha hd hnb hnr
  refine (ropen_yes h.2.1.fine h.2.2.1 (half_lt h) hk1 hk2 ho hn1).mono ?_
  rintro e w' ⟨C1, C2, e1, e2, A, c, A2, c2, rfl, hr, hB, hS, hb⟩
  exact ⟨_, _, _, _, _, _, _, _, _, _, _, _, _, _, A, c, A2, c2, rfl, ⟨⟨h.1.trans (hb.mono h.1.size), h.2.1.below hb, hr, h.2.2.2.below hb h.2.2.2.lt⟩, h.2.2.1.2, rfl, rfl, rfl, rfl, rfl, rfl, rfl, rfl, rfl, rfl⟩, hB, hS, hb⟩
theorem ropen_n {ar : Int} {dd : Bool} (hk1 : 6 ≤ k) (hk2 : k ≤ 1000) (ho : openP s = ⟨s1, none, [], [], er⟩) (hn1 : s1.n = k) (h : Half w W g bs bw y k s s B1 B2 d1 d2 cs) (ha : armedOf s.left = ar) (hd : s.dead = dd) :
    Calls Tryz.prog 11 #[.agg #[.slice B1 k d1, .slice B2 k d2, .int .i64 ar, .bool dd]] W (ROpN w W g bs bw y k s s1 cs er) := by
  subst ha hd
  obtain ⟨a1, a2, a3, a4⟩ := h
  refine (ropen_any [y, g, bs, bw] _ s W a2.fine a3.1 (half_lt ⟨a1, a2, a3, a4⟩) (by rw [a3.2]; exact hk1) (by rw [a3.2]; exact hk2)).mono ?_
  rintro e w' ⟨val, A, n, c, vr, h1, h2, h3, h4, h5, h6⟩
  rw [ho] at h1 h2 h3 h4
  obtain ⟨u1, u2, rfl, hR⟩ := h4 rfl
  obtain ⟨A2, n2, c2, rfl, hl, _⟩ := id h3
  obtain ⟨C1, C2, e1, e2, rfl, rfl, hrd⟩ := rd_of hR hn1
  have e3 : n = 0 := h2.1.symm
  have e4 : n2 = 0 := hl.symm
  subst e3 e4
  exact ⟨_, _, _, _, _, _, _, _, _, _, _, _, _, _, A, c, A2, c2, h1, ⟨⟨⟨a1.trans (h6.mono a1.size), a2.below h6, hrd, a4.below h6 a4.lt⟩, a3.2, rfl, rfl, rfl, rfl, rfl, rfl, rfl, rfl, rfl, rfl⟩, rfl⟩, h2, h3, h6⟩
theorem ref_kept (h : Half w W g bs bw y k s1 s2 B1 B2 d1 d2 cs) (hk : KeptBut W W' [g, bs, bw]) : ∀ q cs', Blk W q 40 cs' → Blk W' q 40 cs' := by
  intro q cs' hq
  obtain ⟨n1, n2, n3⟩ := ref_ne (x := 0) (k := 0) (v := ⟨0, 0, 0, false⟩) h.2.1 hq
  exact hk.blk hq (by simp; exact ⟨n1, n2, n3⟩)
theorem copen_y {W0 : World} (hge : ∀ t ∈ [g, bs, bw], w.heap.size ≤ t) (hk2 : k ≤ 1000) (hnb : nb = b.length) (hnr : nr = recs.length) (hv : WnOk k v) (ho : openP s = ⟨s1, some v, b, recs, 0⟩) (h : MidY w W0 g bs bw y k s s1 v cs B1 B2 d1 d2 ar dd p0 p1 p2 ge ma nx br is_) {A5 A6 : Option Addr} {c6 : Nat} (hB : Bts W0 W0.heap.size A5 nb b) (hS : Sls W0 W0.heap.size (.slice A6 nr c6) recs) (hb : Below W0.heap.size W0 W) :
    Calls Tryz.prog 10 #[ptr g] W (COpY w W g bs bw y k cs b recs nb nr A5 A6 c6 B1 B2 d1 d2 ar dd p0 p1 p2 ge ma nx br is_) := by
  have hB := (hB.below hb (Nat.le_refl _)).more hb.size
  have hS := hS.up hb
  obtain ⟨h, hn, hi⟩ := h.up hb
  subst hnb hnr
  refine (open_yes h.2.1 (by omega) ho).mono ?_
  rintro e w' ⟨x, A, n, c, A2, n2, c2, rfl, b1, b2, b3, b4, b5, b6, b7, b8⟩
  subst b1 b2
  rw [hn] at b6
  have hk := ref_kept h b8
  have ho := odd_disk h.2.1
  have hr : RD w' [y, x, g, bs, bw] B1 B2 d1 d2 k s1 := RD.kept (S := [y, x, g, bs, bw]) ⟨h.2.2.1.1.raise (by intro t ht; simp at ht ⊢; omega), h.2.2.1.2⟩ (b8.more (by intro t ht; simp at ht ⊢; omega))
  exact ⟨x, A, c, A2, c2, rfl, post_some (kept_low h.1 b8 hge) b5 hr (Nat.le_trans h.1.size b7) b6 hv (hk _ _ h.2.2.2) hi, ⟨(bts_kept hB b8 ho (Nat.le_refl _)).more b8.size, b3⟩, ⟨(sls_kept hS b8 ho (Nat.le_refl _)).more b8.size, b4⟩, hk⟩
theorem copen_n {W0 : World} (hge : ∀ t ∈ [g, bs, bw], w.heap.size ≤ t) (hk2 : k ≤ 1000) (ho : openP s = ⟨s1, none, [], [], er⟩) (h : MidN w W0 g bs bw y k s s1 cs B1 B2 d1 d2 ar dd p0 p1 p2 ge ma nx br is_) {A5 A6 : Option Addr} {c6 : Nat} (hB : Bts W0 W0.heap.size A5 0 []) (hS : Sls W0 W0.heap.size (.slice A6 0 c6) []) (hb : Below W0.heap.size W0 W) :
    Calls Tryz.prog 10 #[ptr g] W (COpN w W g bs bw y k cs er A5 A6 c6 B1 B2 d1 d2 ar dd p0 p1 p2 ge ma nx br is_) := by
  have hB := (hB.below hb (Nat.le_refl _)).more hb.size
  have hS := hS.up hb
  obtain ⟨h, hn, hi⟩ := h.up hb
  refine (open_any g bs bw s W h.2.1 (by omega)).mono ?_
  rintro e w' ⟨vw, A, n, c, vr, h1, h2, h3, h4, h5, h6, h7⟩
  rw [ho] at h1 h2 h4 h5 h6
  have h8 := h6 rfl
  subst h8
  obtain ⟨A2, n2, c2, rfl, hl, _⟩ := id h5
  have e1 : n = 0 := h4.1.symm
  have e2 : n2 = 0 := hl.symm
  subst e1 e2
  have hk := ref_kept h h3
  have ho := odd_disk h.2.1
  exact ⟨A, c, A2, c2, h1, post_none (kept_low h.1 h3 hge) h2 (h.2.2.1.kept (h3.more (by intro t ht; exact List.mem_cons_of_mem _ ht))) (hk _ _ h.2.2.2) hi, ⟨(bts_kept hB h3 ho (Nat.le_refl _)).more h3.size, h4⟩, ⟨(sls_kept hS h3 ho (Nat.le_refl _)).more h3.size, h5⟩, hk⟩
end
end
end
end Go.Proofs.YtnenbocjfekmfaaGreat.Wl
