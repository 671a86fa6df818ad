/- WalDoes (layer 8): what the loop holds at its head, and how each act comes to it again. -/
import Derived.Test.YtnenbocjfekmfaaGreatWalPair
namespace Go.Proofs.YtnenbocjfekmfaaGreat.Wl
open Go.RowKit Go.Proofs.YtnenbocjfekmfaaGreat.Mem Go.Proofs.YtnenbocjfekmfaaGreat.Pg Go.Proofs.YtnenbocjfekmfaaGreat.Rcd Go.Proofs.YtnenbocjfekmfaaGreat.Slt
open Go.Proofs.YtnenbocjfekmfaaGreat.Dsk (KeptBut SMap DiskAt St ptr kept_of_below kept_of_grown kept_drew TearsAt RefAt RowS SlS Good refV armedOf IsSec raise4)
open Go.Proofs.YtnenbocjfekmfaaGreat.Plt (sl plV sl_le sl_pos)
set_option linter.unusedVariables false
set_option linter.unusedSimpArgs false
theorem base_may {D : Nat → List Nat} {k : Nat} {y : Bs} (h : theBase D k = some y) : 0 ≤ y.1 ∧ y.1 ≤ 2147483648 := by
  unfold theBase better at h
  rw [show loaded (slots D (sl k) 0) = _ from loaded_run D (0 * sl k) (sl k), show loaded (slots D (sl k) 1) = _ from loaded_run D (1 * sl k) (sl k)] at h
  cases h0 : loadR (run (slotF D (0 * sl k)) (sl k) 0) with
  | none =>
    rw [h0] at h
    exact loadR_may h
  | some a =>
    cases h1 : loadR (run (slotF D (1 * sl k)) (sl k) 0) with
    | none =>
      rw [h0, h1] at h
      cases h
      exact loadR_may h0
    | some b =>
      rw [h0, h1] at h
      simp only at h
      split at h
      · cases h
        exact loadR_may h1
      · cases h
        exact loadR_may h0
theorem openP_cases {s : St} {k : Nat} (hn : s.n = k) (hk : 6 ≤ k) (hk2 : k ≤ 1000) :
    (∃ s1 er, openP s = ⟨s1, none, [], [], er⟩ ∧ er ≠ 0 ∧ s1.n = k) ∨ (∃ s1 v b recs, openP s = ⟨s1, some v, b, recs, 0⟩ ∧ WnOk k v ∧ recs.length ≤ 1000 ∧ s1.n = k) := by
  have hmk : 0 ≤ openMark s := by have := (mark_bounds ((List.range s.n).map s.get)).1; unfold openMark; omega
  unfold openP
  rw [if_neg (by omega)]
  by_cases hd : s.dead = true
  · rw [if_pos hd]
    exact .inl ⟨s, 7, rfl, by decide, hn⟩
  · rw [if_neg hd]
    by_cases hm : 2147483648 < openMark s
    · rw [if_pos hm]
      exact .inl ⟨s, 4, rfl, by decide, hn⟩
    · rw [if_neg hm]
      cases hb : theBase s.get s.n with
      | some y =>
        have hy := base_may hb
        have ht := tail_le (f := logF s.get (2 * sl s.n) y.1) (log := lg s.n) (k := lg s.n) (i := 0) (Nat.zero_le _)
        have ht2 := tail_len (f := logF s.get (2 * sl s.n) y.1) (log := lg s.n) (k := lg s.n) (i := 0) (Nat.zero_le _)
        have hl : lg s.n ≤ 1000 := by unfold lg; omega
        refine .inr ⟨s, _, _, _, rfl, ⟨hy.1, hy.2, hmk, by simp only; omega, ?_⟩, ?_, hn⟩
        · have e := congrArg lg hn
          show (tail (logF s.get (2 * sl s.n) y.1) (lg s.n) (lg s.n) 0).2 ≤ lg k
          rw [← e]
          exact ht.2
        · show (tail (logF s.get (2 * sl s.n) y.1) (lg s.n) (lg s.n) 0).1.length ≤ 1000
          omega
      | none =>
        simp only
        by_cases hnd : newD s.get s.n = true
        · rw [if_pos hnd]
          have hfn : (firstP s s.n (openMark s)).1.n = k := by unfold firstP; rw [writes_n, hn]
          by_cases he : (firstP s s.n (openMark s)).2 = 0
          · rw [if_pos he]
            exact .inr ⟨_, _, _, _, rfl, ⟨by simp, by simp, hmk, by simp only; omega, Nat.zero_le _⟩, by simp, hfn⟩
          · rw [if_neg he]
            exact .inl ⟨_, _, rfl, he, hfn⟩
        · rw [if_neg hnd]
          exact .inl ⟨s, 8, rfl, by decide, hn⟩
section
variable {S : List Nat} {B1 B2 : Option Addr} {d1 d2 k : Nat} {s s1 : St} {v : Wn} {W : World} {b : List Nat} {recs : List (List Nat)}
theorem ropen_yes (hf : Dsk.Fine s) (hr : RD W S B1 B2 d1 d2 k s) (hS : ∀ x ∈ S, x < W.heap.size) (hk1 : 6 ≤ k) (hk2 : k ≤ 1000) (ho : openP s = ⟨s1, some v, b, recs, 0⟩) (hn1 : s1.n = k) :
    Calls Tryz.prog 11 #[refV (.slice B1 k d1) (.slice B2 k d2) s] W fun e w' => ∃ C1 C2 e1 e2 A c A2 c2, e = .returned (.tuple #[.agg (rvS C1 C2 e1 e2 k (armedOf s1.left) s1.dead v), .slice A b.length c, .slice A2 recs.length c2, .int .i64 0]) ∧ RD w' S C1 C2 e1 e2 k s1 ∧ Bts w' w'.heap.size A b.length b ∧ Sls w' w'.heap.size (.slice A2 recs.length c2) recs ∧ Below W.heap.size W w' := by
  refine (ropen_any S _ s W hf hr.1 hS (by rw [hr.2]; exact hk1) (by rw [hr.2]; exact hk2)).mono ?_
  rintro e w' ⟨val, A, n, c, vr, h1, h2, h3, h4, h5, h6⟩
  rw [ho] at h1 h2 h3 h5
  obtain ⟨u1, u2, rfl, hR⟩ := h5 v rfl
  obtain ⟨A2, n2, c2, rfl, hl, _⟩ := id h3
  obtain ⟨C1, C2, e1, e2, rfl, rfl, hrd⟩ := rd_of hR hn1
  rw [hr.2] at h1
  have e3 : b.length = n := h2.1
  subst e3
  subst hl
  exact ⟨C1, C2, e1, e2, A, c, A2, c2, h1, hrd, h2, h3, h6⟩
end
/-- at the loop's head: with a log, or with none -/
def DoesSome (w wr : World) (g bs bw y k : Nat) (z : Value) (s : St) (v : Wn) (x : Nat) (B1 B2 : Option Addr) (d1 d2 : Nat) : Prop :=
  Below w.heap.size w wr ∧ DiskAt wr g bs bw s ∧ RD wr [y, x, g, bs, bw] B1 B2 d1 d2 k s ∧ w.heap.size ≤ x ∧ z = ptr x ∧ WalAt wr x g k v ∧ WnOk k v ∧ Blk wr y 40 (rvS B1 B2 d1 d2 k (armedOf s.left) s.dead v)
def DoesNone (w wr : World) (g bs bw y k : Nat) (z : Value) (s : St) (B1 B2 : Option Addr) (d1 d2 : Nat) : Prop :=
  Below w.heap.size w wr ∧ DiskAt wr g bs bw s ∧ RD wr [y, g, bs, bw] B1 B2 d1 d2 k s ∧ z = .pointer none ∧ Blk wr y 40 (rvN B1 B2 d1 d2 k (armedOf s.left) s.dead)
def DoesAt (w wr : World) (g bs bw y k : Nat) (z : Value) : Prop := (∃ s v x B1 B2 d1 d2, DoesSome w wr g bs bw y k z s v x B1 B2 d1 d2) ∨ ∃ s B1 B2 d1 d2, DoesNone w wr g bs bw y k z s B1 B2 d1 d2
theorem DoesSome.up {w wr w' : World} {g bs bw y k x d1 d2 : Nat} {z : Value} {s : St} {v : Wn} {B1 B2 : Option Addr} (h : DoesSome w wr g bs bw y k z s v x B1 B2 d1 d2) (hb : Below wr.heap.size wr w') : DoesSome w w' g bs bw y k z s v x B1 B2 d1 d2 := by
  obtain ⟨a1, a2, a3, a4, a5, a6, a7, a8⟩ := h
  exact ⟨a1.trans (hb.mono a1.size), a2.below hb, a3.below hb, a4, a5, a6.up hb, a7, a8.below hb a8.lt⟩
theorem DoesNone.up {w wr w' : World} {g bs bw y k d1 d2 : Nat} {z : Value} {s : St} {B1 B2 : Option Addr} (h : DoesNone w wr g bs bw y k z s B1 B2 d1 d2) (hb : Below wr.heap.size wr w') : DoesNone w w' g bs bw y k z s B1 B2 d1 d2 := by
  obtain ⟨a1, a2, a3, a4, a8⟩ := h
  exact ⟨a1.trans (hb.mono a1.size), a2.below hb, a3.below hb, a4, a8.below hb a8.lt⟩
theorem DoesAt.up {w wr w' : World} {g bs bw y k : Nat} {z : Value} (h : DoesAt w wr g bs bw y k z) (hb : Below wr.heap.size wr w') : DoesAt w w' g bs bw y k z := by
  rcases h with ⟨s, v, x, B1, B2, d1, d2, h⟩ | ⟨s, B1, B2, d1, d2, h⟩
  · exact .inl ⟨s, v, x, B1, B2, d1, d2, h.up hb⟩
  · exact .inr ⟨s, B1, B2, d1, d2, h.up hb⟩
/-- the reference log's block lies apart -/
theorem ref_ne {w : World} {g bs bw y x k : Nat} {s : St} {v : Wn} {cs : Array Value} (hd : DiskAt w g bs bw s) (hy : Blk w y 40 cs) : y ≠ g ∧ y ≠ bs ∧ y ≠ bw :=
  ⟨Blk.ne_ hy hd.1 (by decide), Dsk.smap_ne_blk hd.2.1 hy, Dsk.smap_ne_blk hd.2.2.1 hy⟩
theorem set12_blk {w : World} {y : Nat} {a0 a1 a2 a3 a4 a5 a6 a7 a8 a9 a10 a11 b0 b1 b2 b3 b4 b5 b6 b7 b8 b9 b10 b11 : Value} (h : Blk w y 40 #[b0, b1, b2, b3, b4, b5, b6, b7, b8, b9, b10, b11]) : Blk (set12 w y a0 a1 a2 a3 a4 a5 a6 a7 a8 a9 a10 a11) y 40 #[a0, a1, a2, a3, a4, a5, a6, a7, a8, a9, a10, a11] := by
  have h := (((((((((((h.set_ 0 a0).set_ 1 a1).set_ 2 a2).set_ 3 a3).set_ 4 a4).set_ 5 a5).set_ 6 a6).set_ 7 a7).set_ 8 a8).set_ 9 a9).set_ 10 a10).set_ 11 a11
  simpa using h
theorem same_yes8 (A A' : Option Addr) (n c c' : Nat) (b : List Nat) (W : World) (hA : Bts W W.heap.size A n b) (hA' : Bts W W.heap.size A' n b) :
    Calls Tryz.prog 21 #[.slice A n c, .slice A' n c'] W fun e w' => e = .returned (.bool true) ∧ ∃ m, w' = W.drewN m := by
  have := rsame_any A A' n n c c' _ _ b b W hA hA'
  rw [decide_eq_true rfl] at this
  exact this
theorem texts_yes8 (A A' : Option Addr) (n c c' : Nat) (recs : List (List Nat)) (W : World) (hA : Sls W W.heap.size (.slice A n c) recs) (hA' : Sls W W.heap.size (.slice A' n c') recs) (hn : n ≤ 1000) :
    Calls Tryz.prog 22 #[.slice A n c, .slice A' n c'] W fun e w' => e = .returned (.bool true) ∧ ∃ m, w' = W.drewN m := by
  have := texts_any A A' n n c c' recs recs W hA hA' hn
  rw [decide_eq_true rfl] at this
  exact this
theorem low_drewN8 {w w' : World} {m : Nat} (h : w' = w.drewN m) : Below w.heap.size w w' := h ▸ below_drewN (Below.refl _ _) m
theorem tmod9_8 (n : Int) : -9 < Int.tmod n 9 ∧ Int.tmod n 9 < 9 := by
  rcases Int.le_total 0 n with h | h
  · rw [Int.tmod_eq_emod_of_nonneg h]; omega
  · have := Int.neg_tmod n 9
    have e := Int.tmod_eq_emod_of_nonneg (a := -n) (b := 9) (by omega)
    omega
theorem DoesAt.low {w wr : World} {g bs bw y k : Nat} {z : Value} (h : DoesAt w wr g bs bw y k z) : Below w.heap.size w wr := by
  rcases h with ⟨s, v, x, B1, B2, d1, d2, h⟩ | ⟨s, B1, B2, d1, d2, h⟩
  · exact h.1
  · exact h.1
theorem disk_lt {w : World} {g bs bw : Nat} {s : St} (h : DiskAt w g bs bw s) : g < w.heap.size ∧ bs < w.heap.size ∧ bw < w.heap.size := h.lt
theorem in_all {w : World} {g bs bw x k : Nat} {s : St} {v : Wn} (hd : DiskAt w g bs bw s) (hw : WalAt w x g k v) : ∀ t ∈ [x, g, bs, bw], t < w.heap.size := by
  have h1 := disk_lt hd
  have h2 : x < w.heap.size := Blk.lt hw
  intro t ht
  simp at ht
  omega
theorem does_first {w w5 : World} {g bs bw k x d1 d2 : Nat} {s : St} {B1 B2 : Option Addr} (hb : Below w.heap.size w w5) (hd : DiskAt w5 g bs bw s) (hr : RD w5 [x, g, bs, bw] B1 B2 d1 d2 k s) (hx : w.heap.size ≤ x) (hw : WalAt w5 x g k ⟨1, 1, 0, false⟩) :
    DoesSome w (w5.alloc (.cells (rwA (.slice B1 k d1) (.slice B2 k d2) (armedOf s.left) s.dead (sl k : Nat) (2 * (sl k : Nat)) (lg k : Nat) 1 1 0 false true) 40)) g bs bw w5.heap.size k (ptr x) s ⟨1, 1, 0, false⟩ x B1 B2 d1 d2 := by
  have h := palloc (Below.refl w5.heap.size w5) (.cells (rwA (.slice B1 k d1) (.slice B2 k d2) (armedOf s.left) s.dead (sl k : Nat) (2 * (sl k : Nat)) (lg k : Nat) 1 1 0 false true) 40)
  exact ⟨hb.trans (h.mono hb.size), hd.below h, RD.below ⟨raise4 hr.1 (Nat.le_refl _), hr.2⟩ h, hx, rfl, hw.up h, ⟨by simp, by simp, by simp, by simp, Nat.zero_le _⟩, Blk.new _ _ _⟩
end Go.Proofs.YtnenbocjfekmfaaGreat.Wl
