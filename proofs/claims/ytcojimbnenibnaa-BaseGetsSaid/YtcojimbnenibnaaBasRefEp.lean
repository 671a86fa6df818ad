/- The document's way of putting an epoch (layer 11): waymarkref11.epochs. -/
import Derived.Test.YtcojimbnenibnaaBasRef
import Derived.Test.YtcojimbnenibnaaBasDo
namespace Go.Proofs.Ytcojimbnenibnaa.Bas
open Go.RowKit Go.Proofs.Ytcojimbnenibnaa.Mem Go.Proofs.Ytcojimbnenibnaa.Oct Go.Proofs.Ytcojimbnenibnaa.Lsa Go.Proofs.Ytcojimbnenibnaa.Chg
set_option linter.unusedVariables false
set_option linter.unusedSimpArgs false
theorem reads_ep (w : World) (a b : Int) (g : Nat) (hg : g = w.heap.size) : Reads (w.alloc (.cells #[.int .i64 a, .int .i64 b] 60)) (w.heap.size + 1) 2 (some ⟨g, 0, none⟩) 1 (lkCells [(a, b)]) := by
  subst hg
  refine ⟨rfl, fun _ => ⟨_, rfl, Nat.lt_succ_self _, fun j u hu => ?_⟩⟩
  have hk := Blk.new w 60 #[.int .i64 a, .int .i64 b]
  rw [add_plain, Nat.zero_add, hk.cell]
  simpa [lkCells] using hu
structure EpAt (w wr : World) (e : Int × Int) (v : Value) (acc : List (Int × Int)) : Prop where
  row : wr.ownsRow (w.heap.size + 1) 60 2 v acc.length (lkCells acc)
  box : Blk wr w.heap.size 60 #[.int .i64 e.1, .int .i64 e.2]
  low : Below w.heap.size w wr
  size : w.heap.size + 1 ≤ wr.heap.size
theorem EpAt.form {w wr : World} {e : Int × Int} {v : Value} {acc : List (Int × Int)} (h : EpAt w wr e v acc) : ∃ A c, v = .slice A acc.length c := own_form h.row
theorem EpAt.drewN {w wr : World} {e : Int × Int} {v : Value} {acc : List (Int × Int)} (h : EpAt w wr e v acc) (n : Nat) : EpAt w (wr.drewN n) e v acc := ⟨h.row, h.box, below_drewN h.low n, h.size⟩
theorem epAt_push {w wr w2 : World} {e a : Int × Int} {v v2 : Value} {acc : List (Int × Int)} {o : Obj} (h : EpAt w wr e v acc) (hown : w2.ownsRow (w.heap.size + 1) 60 2 v2 (acc.length + 1) (lkCells (acc ++ [a]))) (hg : (wr.alloc o).grownBy w2 v.ownBlock) : EpAt w w2 e v2 (acc ++ [a]) := by
  have hg2 : wr.grownBy w2 v.ownBlock := grown_trans (World.grownBy_alloc wr o _) hg
  have hrow := fun q (hq : v.ownBlock = some q) => (h.row.lt q hq).1
  refine ⟨by rw [List.length_append]; exact hown, h.box.grown hg2 (fun e => ?_), h.low.grown hg2 h.low.size (fun q hq => by have := hrow q hq; omega), Nat.le_trans h.size hg2.size⟩
  have := hrow _ e.symm
  omega
/-- a slice of epochs in an elder block, or in a row of epochs -/
def SafeE (w : World) (B0 : Nat) (v : Value) (l : List (Int × Int)) : Prop :=
  ∃ (A : Option Addr) (n c : Nat), v = .slice A n c ∧ l.length = n ∧ n ≤ c ∧ c ≤ maxLen ∧ (A = none → c = 0) ∧
    (0 < n → ∃ b off, A = some ⟨b, off, none⟩ ∧ (b < B0 ∨ ∃ cs, Blk w b 60 cs) ∧ b < w.heap.size ∧ ∀ i, i < n → w.cell? ⟨b, off + i * 2, none⟩ = some (.int .i64 (l.getD i (0, 0)).1) ∧ w.cell? ⟨b, off + i * 2 + 1, none⟩ = some (.int .i64 (l.getD i (0, 0)).2))
theorem SafeE.form {w : World} {B0 : Nat} {v : Value} {l : List (Int × Int)} (h : SafeE w B0 v l) : ∃ A n c, v = .slice A n c := by
  obtain ⟨A, n, c, e, _⟩ := h
  exact ⟨A, n, c, e⟩
theorem SafeE.lks {w : World} {B0 : Nat} {v : Value} {l : List (Int × Int)} (h : SafeE w B0 v l) : Lks w w.heap.size v l := by
  obtain ⟨A, n, c, e, h1, h2, h3, h4, h5⟩ := h
  refine ⟨A, n, c, e, h1, h2, h3, h4, fun h0 => ?_⟩
  obtain ⟨b, off, e, _, hb, hc⟩ := h5 h0
  exact ⟨b, off, e, hb, hc⟩
theorem safeE_in {w : World} {B0 : Nat} {v : Value} {l : List (Int × Int)} (h : Lks w B0 v l) (hB : B0 ≤ w.heap.size) : SafeE w B0 v l := by
  obtain ⟨A, n, c, e, h1, h2, h3, h4, h5⟩ := h
  refine ⟨A, n, c, e, h1, h2, h3, h4, fun h0 => ?_⟩
  obtain ⟨b, off, e, hb, hc⟩ := h5 h0
  exact ⟨b, off, e, .inl hb, by omega, hc⟩
theorem SafeE.up {w w' : World} {B0 : Nat} {v : Value} {l : List (Int × Int)} (h : SafeE w B0 v l) (hb : Below w.heap.size w w') : SafeE w' B0 v l := by
  obtain ⟨A, n, c, e, h1, h2, h3, h4, h5⟩ := h
  refine ⟨A, n, c, e, h1, h2, h3, h4, fun h0 => ?_⟩
  obtain ⟨b, off, e, hs, hbw, hc⟩ := h5 h0
  exact ⟨b, off, e, hs.elim .inl (fun ⟨cs, hk⟩ => .inr ⟨cs, hk.below hb hbw⟩), Nat.lt_of_lt_of_le hbw hb.size, fun i hi => ⟨(hb.cell (p := ⟨b, off + i * 2, none⟩) hbw).trans (hc i hi).1, (hb.cell (p := ⟨b, off + i * 2 + 1, none⟩) hbw).trans (hc i hi).2⟩⟩
theorem SafeE.blk {w w' : World} {B0 g t : Nat} {v : Value} {cs : Array Value} {l : List (Int × Int)} (h : SafeE w B0 v l) (hv : Blk w g t cs) (hne : 60 ≠ t) (hg0 : B0 ≤ g) (hg : w.grownBy w' (some g)) : SafeE w' B0 v l := by
  obtain ⟨A, n, c, e, h1, h2, h3, h4, h5⟩ := h
  refine ⟨A, n, c, e, h1, h2, h3, h4, fun h0 => ?_⟩
  obtain ⟨b, off, e, hs, hbw, hc⟩ := h5 h0
  have hbg : b ≠ g := by
    rcases hs with h | ⟨cs', hk⟩
    · omega
    · exact Blk.ne_ hk hv hne
  refine ⟨b, off, e, hs.elim .inl (fun ⟨cs, hk⟩ => .inr ⟨cs, hk.grown hg (by simpa using hbg)⟩), Nat.lt_of_lt_of_le hbw hg.size, fun i hi => ⟨?_, ?_⟩⟩
  · rw [← (hc i hi).1]; exact World.cell?_of_block (hg.block b hbw (by simpa using hbg))
  · rw [← (hc i hi).2]; exact World.cell?_of_block (hg.block b hbw (by simpa using hbg))
theorem safeE_own {w : World} {B0 base : Nat} {v : Value} {l : List (Int × Int)} (h : OwnE w base v l) : SafeE w B0 v l := by
  have hk := ownE_lks h
  unfold OwnE at h
  rcases h.2 with ⟨rfl, h0⟩ | ⟨g, cap, cur, rfl, hg, hh, hnc, hm, hs, ht⟩
  · have : l = [] := List.eq_nil_of_length_eq_zero h0
    subst this
    exact ⟨none, 0, 0, rfl, rfl, Nat.le_refl _, by unfold maxLen; omega, fun _ => rfl, fun h => absurd h (by omega)⟩
  · refine ⟨_, _, _, rfl, rfl, hnc, hm, (fun e => by cases e), fun h0 => ⟨g, 0, rfl, .inr ⟨cur, hh⟩, (h.lt g rfl).2, fun i hi => ?_⟩⟩
    obtain ⟨b, off, e, _, hc⟩ := lks_at hk h0
    injection e with e
    injection e with e1 e2
    subst e1 e2
    exact hc i hi
def EpsOut (w : World) (l : List (Int × Int)) (e : Int × Int) (e_ : Ending) (w' : World) : Prop := ∃ v, e_ = .returned v ∧ OwnE w' (w.heap.size + 1) v (refEp l e) ∧ Below w.heap.size w w'
theorem lks_ep {w : World} {base n : Nat} {v : Value} {l : List (Int × Int)} (h : w.ownsRow base 60 2 v n (lkCells l)) : Lks w w.heap.size v l := by
  have hl : l.length = n := by have := h.1; rw [lkCells_length] at this; omega
  have : OwnE w base v l := by unfold OwnE; rw [hl]; exact h
  exact ownE_lks this
theorem pick_yes {g : Int → Int} {o : Int} (h : 0 < g o) : pick g o = [(o, g o)] := if_pos h
theorem pick_no {g : Int → Int} {o : Int} (h : ¬ 0 < g o) : pick g o = [] := if_neg h
set_option maxRecDepth 100000 in
set_option maxHeartbeats 8000000 in
theorem reps_any (A : Option Addr) (n c : Nat) (l : List (Int × Int)) (e1 e2 : Int) (w : World) (h : Lks w w.heap.size (.slice A n c) l) :
    Calls Try.prog 60 #[.slice A n c, .agg #[.int .i64 e1, .int .i64 e2]] w (EpsOut w l (e1, e2)) := by
  obtain ⟨i0, hi, hz0, hz1, hz2⟩ := info_parts infoE
  have HI := Lib.hid hi; clear hi
  have HZ0 := Lib.hid hz0; clear hz0
  have HZ1 := Lib.hid hz1; clear hz1
  have HZ2 := Lib.hid hz2; clear hz2
  have EP := Lib.hid (fun (o : Int) (W : World) (hW : Below w.heap.size w W) => repoch_any A n c _ l o W (h.below hW (Nat.le_refl _)))
  obtain ⟨P1, hP1⟩ : ∃ P1, P1 = EpsOut w l (e1, e2) := ⟨_, rfl⟩
  rw [← hP1]
  have HPP := Lib.hid hP1; clear hP1
  have hbx := low1 (Below.refl w.heap.size w) (.cells #[.int .i64 e1, .int .i64 e2] 60)
  have hp0 : EpAt w ((w.alloc (.cells #[.int .i64 e1, .int .i64 e2] 60)).alloc (.cells #[] 60)) (e1, e2) (.slice (some ⟨w.heap.size + 1, 0, none⟩) 0 0) [] := by
    refine ⟨?_, (Blk.new w _ _).alloc _, low1 hbx _, by simp⟩
    have := World.ownsRow_lit (base := w.heap.size + 1) (e := 60) (size := 2) (w.alloc (.cells #[.int .i64 e1, .int .i64 e2] 60)) #[] 0 (by simp) (by unfold maxLen; omega) rfl
    simpa [lkCells] using this
  obtain ⟨gf, hgf⟩ : ∃ gf : Int → Int, gf = fun o => if o = e1 then e2 else epoch l o := ⟨_, rfl⟩
  have hre : refEp l (e1, e2) = told gf 0 64 := by rw [hgf]; rfl
  have hgo : ∀ o, gf o = if o = e1 then e2 else epoch l o := fun o => by rw [hgf]
  have HGO := Lib.hid hgo; clear hgo hgf
  have HRE := Lib.hid hre; clear hre
  have HP0 := Lib.hid hp0; clear hp0 hbx h
  go_enter Try.func60, Try.ntmps60
  go_wp2
  go_loopw [5, 6] (fun v i wr => ∃ (k : Nat) (acc : List (Int × Int)), k ≤ 64 ∧ acc.length ≤ k ∧ i = .int .i64 ((k : Int) + 1) ∧ Hid (acc ++ told gf k (64 - k) = told gf 0 64) ∧ Hid (EpAt w wr (e1, e2) v acc)) (fun _ i _ => 65 - (intOf i).toNat)
  case atStart => exact ⟨0, [], Nat.zero_le _, by simp, rfl, Lib.hid rfl, HP0⟩
  case round =>
    clear HP0
    obtain ⟨k, acc, hk, hal, rfl, HA, HP1⟩ := hrel
    obtain ⟨W, hW⟩ : ∃ W : World, W = wr := ⟨_, rfl⟩
    rw [← hW] at HP1 ⊢
    clear hW
    obtain ⟨Av, cv, rfl⟩ := HP1.out.form
    by_cases hlt : k < 64
    · have hd0 : decide ((k : Int) + 1 ≤ 64) = true := by rw [decide_eq_true_iff]; omega
      have ha := HA.out
      rw [show 64 - k = (64 - (k + 1)) + 1 by omega, told_step] at ha
      have hgk := HGO.out ((k : Int) + 1)
      clear HA
      by_cases q1 : (k : Int) + 1 = e1
      · have hq : ((k : Int) + 1 == e1) = true := by simpa using q1
        rw [if_pos q1] at hgk
        by_cases q2 : 0 < e2
        · rw [pick_yes (by rw [hgk]; exact q2), hgk] at ha
          have hq2 : decide (0 < e2) = true := decide_eq_true q2
          have HA2 := Lib.hid (show (acc ++ [((k : Int) + 1, e2)]) ++ told gf ((k + 1 : Nat) : Int) (64 - (k + 1)) = told gf 0 64 by rw [List.append_assoc]; exact ha); clear ha hgk q1
          go_wp2_with (fail)
          refine (EP.out ((k : Int) + 1) W HP1.out.low).mono ?_
          rintro e w3 ⟨rfl, nq, rfl⟩
          have HP3 := Lib.hid (HP1.out.drewN nq)
          have HO3 := Lib.hid HP3.out.row
          have HS3 := Lib.hid HP3.out.size
          obtain ⟨x0, x1, x2⟩ := blk_cells2 HP3.out.box
          generalize W.drewN nq = W3 at *
          go_wp2_with (at_builtin; (refine wpList_append_any _ rfl (.tmp 24) (.tmp 28) 23 rfl (w.heap.size + 1) 60 i0 (.agg #[.int .i64 0, .int .i64 0]) 2 16 Try.underlying23 HI.out HZ0.out HZ1.out HZ2.out rfl (by decide) (.slice Av acc.length cv) acc.length (lkCells acc) rfl (own_below HO3.out (low1 (Below.refl _ _) _)) _ (some ⟨_, 0, none⟩) 1 1 (lkCells [((k : Int) + 1, e2)]) rfl (reads_ep _ _ _ _ rfl) (lkCells_one' _) (by unfold maxLen; omega) (by omega) (by have := HS3.out; simp; omega) ?_; intro v4 w4 hown4 hg4 _; rewrite [← lkCells_app] at hown4; have HP4 := Lib.hid (epAt_push HP3.out hown4 hg4); clear hown4 hg4))
          go_roundw
          case rel => exact ⟨k + 1, acc ++ [((k : Int) + 1, e2)], by omega, by simp; omega, by go_num, HA2, HP4⟩
          case measure => simp [intOf]; omega
        · rw [pick_no (by rw [hgk]; exact q2), List.nil_append] at ha
          have hq2 : decide (0 < e2) = false := decide_eq_false q2
          have HA2 := Lib.hid (show acc ++ told gf ((k + 1 : Nat) : Int) (64 - (k + 1)) = told gf 0 64 from ha); clear ha hgk q1
          go_wp2_with (fail)
          refine (EP.out ((k : Int) + 1) W HP1.out.low).mono ?_
          rintro e w3 ⟨rfl, nq, rfl⟩
          have HP3 := Lib.hid (HP1.out.drewN nq)
          have HO3 := Lib.hid HP3.out.row
          have HS3 := Lib.hid HP3.out.size
          obtain ⟨x0, x1, x2⟩ := blk_cells2 HP3.out.box
          generalize W.drewN nq = W3 at *
          go_wp2
          go_roundw
          case rel => exact ⟨k + 1, acc, by omega, by omega, by go_num, HA2, HP3⟩
          case measure => simp [intOf]; omega
      · have hq : ((k : Int) + 1 == e1) = false := beq_false_of_ne q1
        rw [if_neg q1] at hgk
        obtain ⟨en, hen⟩ : ∃ en, en = epoch l ((k : Int) + 1) := ⟨_, rfl⟩
        rw [← hen] at hgk
        have HEN := Lib.hid hen; clear hen
        by_cases q2 : 0 < en
        · rw [pick_yes (by rw [hgk]; exact q2), hgk] at ha
          have hq2 : decide (0 < en) = true := decide_eq_true q2
          have HA2 := Lib.hid (show (acc ++ [((k : Int) + 1, en)]) ++ told gf ((k + 1 : Nat) : Int) (64 - (k + 1)) = told gf 0 64 by rw [List.append_assoc]; exact ha); clear ha hgk q1
          go_wp2_with (fail)
          refine (EP.out ((k : Int) + 1) W HP1.out.low).mono ?_
          rintro e w3 ⟨rfl, nq, rfl⟩
          rewrite [← HEN.out]
          have HP3 := Lib.hid (HP1.out.drewN nq)
          have HO3 := Lib.hid HP3.out.row
          have HS3 := Lib.hid HP3.out.size
          obtain ⟨x0, x1, x2⟩ := blk_cells2 HP3.out.box
          generalize W.drewN nq = W3 at *
          go_wp2_with (at_builtin; (refine wpList_append_any _ rfl (.tmp 24) (.tmp 28) 23 rfl (w.heap.size + 1) 60 i0 (.agg #[.int .i64 0, .int .i64 0]) 2 16 Try.underlying23 HI.out HZ0.out HZ1.out HZ2.out rfl (by decide) (.slice Av acc.length cv) acc.length (lkCells acc) rfl (own_below HO3.out (low1 (Below.refl _ _) _)) _ (some ⟨_, 0, none⟩) 1 1 (lkCells [((k : Int) + 1, en)]) rfl (reads_ep _ _ _ _ rfl) (lkCells_one' _) (by unfold maxLen; omega) (by omega) (by have := HS3.out; simp; omega) ?_; intro v4 w4 hown4 hg4 _; rewrite [← lkCells_app] at hown4; have HP4 := Lib.hid (epAt_push HP3.out hown4 hg4); clear hown4 hg4))
          go_roundw
          case rel => exact ⟨k + 1, acc ++ [((k : Int) + 1, en)], by omega, by simp; omega, by go_num, HA2, HP4⟩
          case measure => simp [intOf]; omega
        · rw [pick_no (by rw [hgk]; exact q2), List.nil_append] at ha
          have hq2 : decide (0 < en) = false := decide_eq_false q2
          have HA2 := Lib.hid (show acc ++ told gf ((k + 1 : Nat) : Int) (64 - (k + 1)) = told gf 0 64 from ha); clear ha hgk q1
          go_wp2_with (fail)
          refine (EP.out ((k : Int) + 1) W HP1.out.low).mono ?_
          rintro e w3 ⟨rfl, nq, rfl⟩
          rewrite [← HEN.out]
          have HP3 := Lib.hid (HP1.out.drewN nq)
          have HO3 := Lib.hid HP3.out.row
          have HS3 := Lib.hid HP3.out.size
          obtain ⟨x0, x1, x2⟩ := blk_cells2 HP3.out.box
          generalize W.drewN nq = W3 at *
          go_wp2
          go_roundw
          case rel => exact ⟨k + 1, acc, by omega, by omega, by go_num, HA2, HP3⟩
          case measure => simp [intOf]; omega
    · obtain rfl : k = 64 := by omega
      have ha := HA.out
      have ha2 : acc ++ [] = told gf 0 64 := ha
      rw [List.append_nil] at ha2
      have hfin : P1 (.returned (.slice Av acc.length cv)) W := by
        rw [HPP.out]
        exact ⟨_, rfl, by rw [HRE.out, ← ha2]; exact HP1.out.row, HP1.out.low⟩
      have FIN := Lib.hid hfin; clear hfin ha ha2 HA
      go_wp2
      exact FIN.out
end Go.Proofs.Ytcojimbnenibnaa.Bas
