/- Whether a plot is one that a disk has (layer 6): the contract of the reference's May; the law's awake. -/
import Derived.Test.YthidcgjbefpeoaaPlotAt
import Derived.Deep.RegionHeld3
namespace Go.Proofs.Ythidcgjbefpeoaa.Plt
open Go.RowKit Go.Proofs.Ythidcgjbefpeoaa.Mem
set_option linter.unusedVariables false
set_option linter.unusedSimpArgs false
theorem keep3 {w1 w2 : World} {g : Nat} {a b c : Value} {B : Nat} (h : w1.cell? ⟨g, 0, none⟩ = some a ∧ w1.cell? ⟨g, 1, none⟩ = some b ∧ w1.cell? ⟨g, 2, none⟩ = some c) (hb : Below B w1 w2) (hg : g < B) :
    w2.cell? ⟨g, 0, none⟩ = some a ∧ w2.cell? ⟨g, 1, none⟩ = some b ∧ w2.cell? ⟨g, 2, none⟩ = some c :=
  ⟨(hb.cell hg).trans h.1, (hb.cell hg).trans h.2.1, (hb.cell hg).trans h.2.2⟩
set_option maxHeartbeats 1000000 in
theorem rmay_yes (K : Nat) (w : World) (hK : 6 ≤ K) (hK2 : K ≤ 1024) (s f l : Int) (e1 : s = (sl K : Nat)) (e2 : f = 2 * (sl K : Nat)) (e3 : l = (K : Int) - 2 * (sl K : Nat)) :
    Calls Try.prog 9 #[plV s f l] w fun e w' => e = .returned (.bool true) ∧ Below w.heap.size w w' := by
  have mk := fun (k : Nat) (h1 : 6 ≤ k) (h2 : k ≤ 1024) (W : World) => rmake_yes k W h1 h2
  have MK := Lib.hid mk; clear mk
  have hE : f + l = K := by omega
  have H1 := Lib.hid e1; clear e1
  have H2 := Lib.hid e2; clear e2
  have H3 := Lib.hid e3; clear e3
  have HE := Lib.hid hE; clear hE
  go_enter Try.func9, Try.ntmps9
  go_wp2
  go_loopw [3] (fun i wr => (∃ k : Nat, 6 ≤ k ∧ k ≤ K ∧ i = .int .i64 k) ∧ (wr.cell? ⟨w.heap.size, 0, none⟩ = some (.int .i64 s) ∧ wr.cell? ⟨w.heap.size, 1, none⟩ = some (.int .i64 f) ∧ wr.cell? ⟨w.heap.size, 2, none⟩ = some (.int .i64 l)) ∧ w.heap.size < wr.heap.size ∧ Below w.heap.size w wr) (fun i _ => 1025 - (intOf i).toNat)
  case atStart => exact ⟨⟨6, Nat.le_refl _, hK, rfl⟩, by simp, by simp, (Below.refl _ _).alloc (Nat.le_refl _) _⟩
  case round =>
    obtain ⟨⟨k, hk6, hkK, rfl⟩, hg, hz, hB⟩ := hrel
    have hk2 : k ≤ 1024 := by omega
    have HG := Lib.hid hg
    obtain ⟨g0, g1, g2⟩ := hg
    have HB := Lib.hid hB; clear hB
    obtain ⟨x, y, z, hx, hy, hz', mk⟩ : ∃ x y z : Int, x = (sl k : Nat) ∧ y = 2 * (sl k : Nat) ∧ z = (k : Int) - 2 * (sl k : Nat) ∧ ∀ W, Calls Try.prog 6 #[.int .i64 k] W fun e w' => e = .returned (plV x y z) ∧ Below W.heap.size W w' := ⟨_, _, _, rfl, rfl, rfl, fun W => MK.out k hk6 hk2 W⟩
    have HX := Lib.hid hx; clear hx
    have HY := Lib.hid hy; clear hy
    have HZ := Lib.hid hz'; clear hz'
    have MK1 := Lib.hid mk; clear mk
    have hcs : ¬ x = s ∨ s = x ∧ ¬ y = f ∨ s = x ∧ f = y ∧ ¬ z = l ∨ s = x ∧ f = y ∧ l = z := by omega
    rcases hcs with hn | ⟨rfl, hn⟩ | ⟨rfl, rfl, hn⟩ | ⟨rfl, rfl, rfl⟩
    iterate 3
      · have hlt : k < K := by
          have a1 := H1.out; have a2 := H2.out; have a3 := H3.out; have b1 := HX.out; have b2 := HY.out; have b3 := HZ.out
          rcases Nat.lt_or_ge k K with h | h
          · exact h
          · obtain rfl : k = K := by omega
            omega
        go_wp2
        go_region_held3 (fun W => W.cell? ⟨w.heap.size, 0, none⟩ = some (.int .i64 s) ∧ W.cell? ⟨w.heap.size, 1, none⟩ = some (.int .i64 f) ∧ W.cell? ⟨w.heap.size, 2, none⟩ = some (.int .i64 l))
          (first | with_reducible exact ⟨g0, g1, g2⟩ | with_reducible exact ⟨f0, f1, f2⟩ | go_keep)
          (first | (go_at_call 6; refine (MK1.out _).mono ?_; rintro e w1 ⟨rfl, hb⟩; have hb : Below wr.heap.size wr w1 := ⟨hb.os, hb.tape, hb.output, hb.size, hb.block⟩; have hf := keep3 HG.out hb hz; have HF := Lib.hid hf; obtain ⟨f0, f1, f2⟩ := hf; have hz1 := hb.size; have HB1 := Lib.hid (HB.out.trans (hb.mono (Nat.le_of_lt hz))); clear hb))
        go_wp2
        go_roundw
        case rel => exact ⟨⟨k + 1, by omega, by omega, by go_num⟩, HF.out, by omega, HB1.out⟩
        case measure => simp [intOf]; omega
    · skip
      go_wp2
      go_region_held3 (fun W => W.cell? ⟨w.heap.size, 0, none⟩ = some (.int .i64 s) ∧ W.cell? ⟨w.heap.size, 1, none⟩ = some (.int .i64 f) ∧ W.cell? ⟨w.heap.size, 2, none⟩ = some (.int .i64 l))
        (first | with_reducible exact ⟨g0, g1, g2⟩ | with_reducible exact ⟨f0, f1, f2⟩ | go_keep)
        (first | (go_at_call 6; refine (MK1.out _).mono ?_; rintro e w1 ⟨rfl, hb⟩; have hb : Below wr.heap.size wr w1 := ⟨hb.os, hb.tape, hb.output, hb.size, hb.block⟩; have hf := keep3 HG.out hb hz; have HF := Lib.hid hf; obtain ⟨f0, f1, f2⟩ := hf; have hz1 := hb.size; have HB1 := Lib.hid (HB.out.trans (hb.mono (Nat.le_of_lt hz))); clear hb))
      go_wp2
      go_ret
      exact ⟨rfl, HB1.out⟩
set_option maxHeartbeats 1000000 in
theorem rmay_no (w : World) (s f l : Int) (hno : may s f l = false) :
    Calls Try.prog 9 #[plV s f l] w fun e w' => e = .returned (.bool false) ∧ Below w.heap.size w w' := by
  have mk := fun (k : Nat) (h1 : 6 ≤ k) (h2 : k ≤ 1024) (W : World) => rmake_yes k W h1 h2
  have MK := Lib.hid mk; clear mk
  have HN := Lib.hid hno; clear hno
  go_enter Try.func9, Try.ntmps9
  go_wp2
  go_loopw [3] (fun i wr => (∃ k : Nat, 6 ≤ k ∧ k ≤ 1025 ∧ i = .int .i64 k) ∧ (wr.cell? ⟨w.heap.size, 0, none⟩ = some (.int .i64 s) ∧ wr.cell? ⟨w.heap.size, 1, none⟩ = some (.int .i64 f) ∧ wr.cell? ⟨w.heap.size, 2, none⟩ = some (.int .i64 l)) ∧ w.heap.size < wr.heap.size ∧ Below w.heap.size w wr) (fun i _ => 1026 - (intOf i).toNat)
  case atStart => exact ⟨⟨6, Nat.le_refl _, by omega, rfl⟩, by simp, by simp, (Below.refl _ _).alloc (Nat.le_refl _) _⟩
  case round =>
    obtain ⟨⟨k, hk6, hkK, rfl⟩, hg, hz, hB⟩ := hrel
    by_cases hk2 : k ≤ 1024
    · have HG := Lib.hid hg
      obtain ⟨g0, g1, g2⟩ := hg
      have HB := Lib.hid hB; clear hB
      obtain ⟨x, y, z, hx, hy, hz', mk⟩ : ∃ x y z : Int, x = (sl k : Nat) ∧ y = 2 * (sl k : Nat) ∧ z = (k : Int) - 2 * (sl k : Nat) ∧ ∀ W, Calls Try.prog 6 #[.int .i64 k] W fun e w' => e = .returned (plV x y z) ∧ Below W.heap.size W w' := ⟨_, _, _, rfl, rfl, rfl, fun W => MK.out k hk6 hk2 W⟩
      have HX := Lib.hid hx; clear hx
      have HY := Lib.hid hy; clear hy
      have HZ := Lib.hid hz'; clear hz'
      have MK1 := Lib.hid mk; clear mk
      have hcs : ¬ x = s ∨ s = x ∧ ¬ y = f ∨ s = x ∧ f = y ∧ ¬ z = l ∨ s = x ∧ f = y ∧ l = z := by omega
      rcases hcs with hn | ⟨rfl, hn⟩ | ⟨rfl, rfl, hn⟩ | ⟨rfl, rfl, rfl⟩
      iterate 3
        · skip
          go_wp2
          go_region_held3 (fun W => W.cell? ⟨w.heap.size, 0, none⟩ = some (.int .i64 s) ∧ W.cell? ⟨w.heap.size, 1, none⟩ = some (.int .i64 f) ∧ W.cell? ⟨w.heap.size, 2, none⟩ = some (.int .i64 l))
            (first | with_reducible exact ⟨g0, g1, g2⟩ | with_reducible exact ⟨f0, f1, f2⟩ | go_keep)
            (first | (go_at_call 6; refine (MK1.out _).mono ?_; rintro e w1 ⟨rfl, hb⟩; have hb : Below wr.heap.size wr w1 := ⟨hb.os, hb.tape, hb.output, hb.size, hb.block⟩; have hf := keep3 HG.out hb hz; have HF := Lib.hid hf; obtain ⟨f0, f1, f2⟩ := hf; have hz1 := hb.size; have HB1 := Lib.hid (HB.out.trans (hb.mono (Nat.le_of_lt hz))); clear hb))
          go_wp2
          go_roundw
          case rel => exact ⟨⟨k + 1, by omega, by omega, by go_num⟩, HF.out, by omega, HB1.out⟩
          case measure => simp [intOf]; omega
      · have a1 := HX.out; have a2 := HY.out; have a3 := HZ.out
        exact (may_no HN.out k hk6 hk2 ⟨by omega, by omega, by omega⟩).elim
    · have hd : decide ((k : Int) ≤ 1024) = false := by simp; omega
      go_wp2
      go_ret
      exact ⟨rfl, hB⟩
/-- whether a plot is one that a disk has -/
theorem rmay_any (s f l : Int) (w : World) :
    Calls Try.prog 9 #[plV s f l] w fun e w' => e = .returned (.bool (may s f l)) ∧ Below w.heap.size w w' := by
  cases h : may s f l
  · exact rmay_no w s f l h
  · obtain ⟨k, h1, h2, h3, h4, h5⟩ := may_yes h
    exact rmay_yes k w h1 h2 s f l h3 h4 h5
set_option maxHeartbeats 1000000 in
theorem awake6_any (w : World) : Calls Try.prog 10 #[] w fun e w' => e = .returned (.bool true) ∧ Below w.heap.size w w' := by
  have mk := fun (W : World) => make_yes 20 W (by omega) (by omega)
  have at_ := fun (W : World) => at_any 5 10 10 3 W
  have e1 : (sl 20 : Nat) = 5 := rfl
  have e2 : atI 5 10 10 3 = 13 := rfl
  rw [e2] at at_
  rw [e1] at mk
  have MK := Lib.hid mk; clear mk
  have AT := Lib.hid at_; clear at_
  clear e1 e2
  go_enter Try.func10, Try.ntmps10
  go_wp2_with (first
    | (go_at_call 5; refine (MK.out _).mono ?_; rintro e w1 ⟨rfl, hb⟩; have HB1 := Lib.hid hb; clear hb)
    | (go_at_call 8; refine (AT.out _).mono ?_; rintro e w2 ⟨rfl, hb⟩; have HB2 := Lib.hid hb; clear hb))
  go_ret
  exact ⟨rfl, (HB1.out.alloc HB1.out.size _).trans (HB2.out.mono (Nat.le_trans HB1.out.size (by simp)))⟩
end Go.Proofs.Ythidcgjbefpeoaa.Plt
