/- The law's awake (layer 15). -/
import Derived.Test.YtoglongkhpbomaaQuRef
namespace Go.Proofs.Ytoglongkhpbomaa.Que
open Go.RowKit Go.Proofs.Ytoglongkhpbomaa.Mem
set_option linter.unusedVariables false
set_option linter.unusedSimpArgs false
theorem sl_lit7 (w : World) (g : Nat) (hg : g = w.heap.size) : Sl (w.alloc (.cells #[.int .u8 7] 5)) (w.alloc (.cells #[.int .u8 7] 5)).heap.size (.slice (some ⟨g, 0, none⟩) 1 1) [7] := by
  subst hg
  refine ⟨_, 1, 1, rfl, ⟨rfl, by simp, by omega, fun _ => ⟨w.heap.size, 0, rfl, by simp, fun i hi => ?_⟩⟩, Nat.le_refl _, by unfold maxLen; omega, fun h => by cases h⟩
  obtain rfl : i = 0 := by omega
  exact (Blk.new w 5 #[.int .u8 7]).cell 0
theorem qout_low {w w' : World} {base g : Nat} {v : Value} {ts ts' : List (List Nat)} (h : QAt w base g v ts) (o : QOut w base g v w' ts') (hb : base ≤ w.heap.size) : ∃ v', QAt w' base g v' ts' ∧ Below base w w' ∧ base ≤ w'.heap.size := by
  obtain ⟨v', h1, h2, _⟩ := o
  exact ⟨v', h1, h2.low (Below.refl _ _) hb h.low h.from_, Nat.le_trans hb h2.size⟩
set_option maxRecDepth 20000 in
set_option maxHeartbeats 4000000 in
theorem awake15_any (w : World) : Calls Try.prog 5 #[] w fun e w' => e = .returned (.bool true) ∧ Below w.heap.size w w' := by
  obtain ⟨base, hbase⟩ : ∃ b, b = w.heap.size := ⟨_, rfl⟩
  have N := Lib.hid (new_any base w (by omega))
  have P := Lib.hid (fun (W : World) (g : Nat) (v : Value) (A : Option Addr) (h : QAt W base g v []) (hs : Sl W W.heap.size (.slice A 1 1) [7]) (hb : base ≤ W.heap.size) => put_any base g v (.slice A 1 1) [] [7] W h hs (by decide) (by decide) hb)
  have G := Lib.hid (fun (W : World) (g : Nat) (v : Value) (h : QAt W base g v [[7]]) (hb : base ≤ W.heap.size) => again_any base g v [[7]] 0 W h (by simp) (by decide) hb)
  have T := Lib.hid (fun (W : World) (g : Nat) (v : Value) (h : QAt W base g v [[7], [7]]) => take_any base g v [[7], [7]] 1 W h (by decide))
  have L := Lib.hid (fun (W : World) (g : Nat) (v : Value) (h : QAt W base g v [[7]]) => all_any base g v [[7]] W h (by simp) (by decide))
  have HBA := Lib.hid hbase; clear hbase
  go_enter Try.func5, Try.ntmps5
  go_wp2_with (first
    | (go_at_call 6; refine (N.out).mono ?_; rintro e w1 ⟨rfl, h1, hb1⟩; have HB1 := Lib.hid hb1; have HQ1 := Lib.hid (h1.below ((Below.refl _ _).alloc (Nat.le_refl _) (.cells #[.int .u8 7] 5))); clear h1 hb1)
    | (go_at_call 7; refine (P.out _ _ _ _ HQ1.out (by exact sl_lit7 w1 _ rfl) (by have := HB1.out.size; have := HBA.out; simp; omega)).mono ?_; rintro e w2 ⟨rfl, ho⟩; obtain ⟨v2, h2, hb2, hs2⟩ := qout_low HQ1.out ho (by have := HB1.out.size; have := HBA.out; simp; omega); have HB2 := Lib.hid hb2; have HQ2 := Lib.hid h2; have HS2 := Lib.hid hs2; clear ho h2 hb2 hs2)
    | (go_at_call 12; refine (G.out _ _ _ HQ2.out HS2.out).mono ?_; rintro e w3 ⟨rfl, ho⟩; obtain ⟨v3, h3, hb3, hs3⟩ := qout_low HQ2.out ho HS2.out; have HB3 := Lib.hid hb3; have HQ3 := Lib.hid h3; have HS3 := Lib.hid hs3; clear ho h3 hb3 hs3)
    | (go_at_call 9; refine (T.out _ _ _ HQ3.out).mono ?_; rintro e w4 ⟨A4, n4, c4, rfl, hs4, ho⟩; obtain ⟨v4, h4, hb4, hz4⟩ := qout_low HQ3.out ho HS3.out; have HB4 := Lib.hid hb4; have HQ4 := Lib.hid h4; obtain rfl : 1 = n4 := (by obtain ⟨_, _, _, e, hb, _⟩ := hs4; cases e; exact hb.1); clear ho h4 hb4 hs4)
    | (go_at_call 16; refine (L.out _ _ _ HQ4.out).mono ?_; rintro e w5 ⟨A5, c5, rfl, _, hb5⟩; have HB5 := Lib.hid hb5; clear hb5))
  go_ret
  have e := HBA.out
  have b5 := HB5.out.mono (show base ≤ _ from Nat.le_trans HS3.out HB4.out.size)
  have b1 := (HB1.out.alloc HB1.out.size (.cells #[.int .u8 7] 5)).mono (show base ≤ _ by omega)
  have b := (((b1.trans HB2.out).trans HB3.out).trans HB4.out).trans b5
  rw [e] at b
  exact ⟨rfl, b⟩
end Go.Proofs.Ytoglongkhpbomaa.Que
