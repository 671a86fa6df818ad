/- A disk of which both slots are spoilt (layer 8): it opens as corrupt. Pure. -/
import Derived.Test.YtddhkajcakndlaaKept
import Derived.Test.YtddhkajcakndlaaWalReady
namespace Go.Proofs.Ytddhkajcakndlaa.Wl
open Go.RowKit Go.Proofs.Ytddhkajcakndlaa.Mem Go.Proofs.Ytddhkajcakndlaa.Pg Go.Proofs.Ytddhkajcakndlaa.Rcd Go.Proofs.Ytddhkajcakndlaa.Slt
open Go.Proofs.Ytddhkajcakndlaa.Dsk (St)
open Go.Proofs.Ytddhkajcakndlaa.Plt (sl sl_le sl_pos)
set_option linter.unusedVariables false
set_option linter.unusedSimpArgs false
theorem got_odd {s : List Nat} {x : Nat} (hs : s.head? = some x) (hx : x ≠ 87) : got s = none := by
  cases h : got s with
  | none => rfl
  | some p =>
    exfalso
    obtain ⟨h1, h2⟩ := got_may h
    obtain ⟨r, hr⟩ := sector_parts p
    rw [hr] at h2
    have e1 := congrArg (fun l : List Nat => l.head?) h2
    rw [← h2] at hs
    have e3 : some 87 = some x := by rw [← hs]; rfl
    injection e3 with e3
    exact hx e3.symm
theorem loaded_head {D : Nat → List Nat} {m q : Nat} (hm : 1 ≤ m) (h : got (D (q * m)) = none) : loaded (slots D m q) = none := by
  have h1 := loaded_run D (q * m) m
  have e : run (slotF D (q * m)) m 0 = [] := by
    obtain ⟨k, rfl⟩ : ∃ k, m = k + 1 := ⟨m - 1, by omega⟩
    exact run_none (by unfold slotF; rw [Nat.add_zero]; exact h)
  rw [e] at h1
  exact h1
theorem spoilt_pure (sp : List Nat) (hl : sp.length = 512) (hh : sp.head? = some 1) : ∃ (s1 s2 s3 : St) (v3 : Wn), openP (Dsk.St.new 20) = ⟨s1, some ⟨1, 1, 0, false⟩, [], [], 0⟩ ∧ s1.n = 20 ∧ commitP 20 s1 ⟨1, 1, 0, false⟩ [1] = (s2, ⟨1, 1, 1, false⟩, 0) ∧
    turnP 20 s2 ⟨1, 1, 1, false⟩ [2] = (s3, v3, 0) ∧ (s3.write 0 sp).2 = 0 ∧ ((s3.write 0 sp).1.write 5 sp).2 = 0 ∧ ((s3.write 0 sp).1.write 5 sp).1.flush.2 = 0 ∧ ((s3.write 0 sp).1.write 5 sp).1.flush.1.n = 20 ∧
    openP ((s3.write 0 sp).1.write 5 sp).1.flush.1 = ⟨((s3.write 0 sp).1.write 5 sp).1.flush.1, none, [], [], 8⟩ := by
  obtain ⟨s1, h1, h2, h3, h4⟩ := open_fresh 20 (by omega)
  have hp1 : parts ([1] : List Nat).length = 1 := by decide
  have hp2 : parts ([2] : List Nat).length = 1 := by decide
  have e5 : sl 20 = 5 := rfl
  have e10 : lg 20 = 10 := rfl
  rcases commit_ready (k := 20) (b := [1]) h4 (by decide) (by omega) (by omega) (by decide) with ⟨c1, _⟩ | ⟨s2, c1, c2, c3, c4⟩ | ⟨s2, c1, c2, c3, c4, _⟩
  · rw [hp1, e10] at c1
    omega
  · rw [hp1] at c1 c2
    have l2 : s2.left = -1 := by rw [c4 (by omega), h3]
    rcases turn_ready (k := 20) (b := [2]) c2 (by decide) (by omega) (by omega) with ⟨er, he, t1⟩ | ⟨s3, t1, t2, t3, t4⟩ | ⟨s3, t1, t2, t3, t4, _⟩
    · exfalso
      unfold turnP at t1
      simp only [Bool.false_eq_true, if_false] at t1
      rw [hp2, e5, if_neg (by omega), if_neg (by omega)] at t1
      have r := congrArg (fun p : St × Wn × Int => p.2.2) t1
      simp only at r
      have hfit : fits (bP (1 + 1) 1) [2] = true := by decide
      have hsz := c2.size
      have hsa : slotAt 5 (1 + 1) = 0 := by decide
      have := (writes_calm (l := secL (bP (1 + 1) 1) [2]) (s := s2) (i := slotAt 5 (1 + 1)) c2.live (by omega) (by rw [secL_len, hp2, hsa, c3, h2]; omega) (secL_512 hfit)).1
      omega
    · refine ⟨s1, s2, s3, _, h1, h2, c1, t1, ?_⟩
      have l3 : s3.left = -1 := by rw [t4 (by omega), l2]
      have n3 : s3.n = 20 := by rw [t3, c3, h2]
      obtain ⟨w1, w2, w3, w4⟩ := write_calm (s := s3) (i := 0) (x := sp) t2.live (by omega) (by omega) hl
      have wt := write_two (s := s3) (i := 0) (x := sp) t2.live (by omega) hl
      have ez : ((0 : Nat) : Int) = 0 := rfl
      have e5' : ((5 : Nat) : Int) = 5 := rfl
      rw [ez] at w1 w2 w3 w4 wt
      obtain ⟨a1, a2, a3, a4, a5⟩ : (s3.write 0 sp).2 = 0 ∧ (s3.write 0 sp).1.dead = false ∧ (s3.write 0 sp).1.n = s3.n ∧ (s3.write 0 sp).1.fs = s3.fs ∧ (s3.write 0 sp).1.fw = Dsk.upd1 s3.fw 0 sp := by
        rcases wt with h | ⟨h, _⟩
        · exact h
        · omega
      generalize (s3.write 0 sp).1 = s4 at *
      obtain ⟨x1, x2, x3, x4⟩ := write_calm (s := s4) (i := 5) (x := sp) w2 (by omega) (by omega) hl
      have xt := write_two (s := s4) (i := 5) (x := sp) w2 (by omega) hl
      rw [e5'] at x1 x2 x3 x4 xt
      obtain ⟨b1, b2, b3, b4, b5⟩ : (s4.write 5 sp).2 = 0 ∧ (s4.write 5 sp).1.dead = false ∧ (s4.write 5 sp).1.n = s4.n ∧ (s4.write 5 sp).1.fs = s4.fs ∧ (s4.write 5 sp).1.fw = Dsk.upd1 s4.fw 5 sp := by
        rcases xt with h | ⟨h, _⟩
        · exact h
        · omega
      generalize (s4.write 5 sp).1 = s5 at *
      have hfl := writes_calm (l := []) (s := s5) (i := 0) x2 (by omega) (by simp) (by simp)
      rw [writes_nil] at hfl
      obtain ⟨f1, f2, f3, f4, f5⟩ : s5.flush.2 = 0 ∧ s5.flush.1.dead = false ∧ s5.flush.1.n = s5.n ∧ (∀ i, s5.flush.1.fs i = (s5.fw i).or (s5.fs i)) ∧ ∀ i, s5.flush.1.fw i = none := by
        rcases flush_two x2 with h | ⟨h, _⟩
        · exact h
        · have := hfl.1
          omega
      have hget : ∀ i, s5.flush.1.get i = if i = 5 then sp else if i = 0 then sp else s3.get i := fun i => by
        rw [get_safe f5, f4, b5, b4, a5, a4]
        unfold Dsk.upd1
        by_cases i5 : i = 5
        · rw [if_pos i5, if_pos i5]; rfl
        · rw [if_neg i5, if_neg i5]
          by_cases i0 : i = 0
          · rw [if_pos i0, if_pos i0]; rfl
          · rw [if_neg i0, if_neg i0]
            rfl
      generalize s5.flush.1 = s6 at *
      have n6 : s6.n = 20 := by omega
      have gsp := got_odd hh (by omega)
      refine ⟨w1, b1, f1, n6, ?_⟩
      have hom : openMark s6 ≤ 1 + 1 := openMark_le (by omega) fun i x hx => by
        rw [hget] at hx
        by_cases i5 : i = 5
        · rw [if_pos i5, gsp] at hx; cases hx
        · rw [if_neg i5] at hx
          by_cases i0 : i = 0
          · rw [if_pos i0, gsp] at hx; cases hx
          · rw [if_neg i0] at hx
            exact t2.mks i x hx
      have hb : theBase s6.get s6.n = none := by
        unfold theBase better
        rw [n6, e5, loaded_head (by omega) (by rw [hget]; exact gsp), loaded_head (by omega) (by rw [hget]; exact gsp)]
      have hnd : newD s6.get s6.n = false := by
        cases e : newD s6.get s6.n with
        | false => rfl
        | true =>
          exfalso
          unfold newD newTo at e
          rw [List.all_eq_true] at e
          have h0 := e 0 (by rw [List.mem_range]; omega)
          rw [n6, e5] at h0
          have e1 : slotAt 5 1 = 5 := by decide
          rw [e1, decide_eq_false (by omega : ¬ 5 ≤ 0), Bool.false_and, Bool.false_or, decide_eq_true_eq, hget, if_neg (by omega), if_pos rfl] at h0
          rw [h0] at hh
          unfold Pg.noughts at hh
          rw [List.head?_replicate, if_neg (by omega)] at hh
          injection hh with hh
          omega
      unfold openP
      rw [if_neg (by omega), if_neg (by rw [f2]; simp), if_neg (by omega), hb]
      simp only
      rw [if_neg (by rw [hnd]; simp)]
    · omega
  · omega
end Go.Proofs.Ytddhkajcakndlaa.Wl
