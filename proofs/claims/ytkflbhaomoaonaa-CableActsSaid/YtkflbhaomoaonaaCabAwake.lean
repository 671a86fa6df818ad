/- The law's awake (layer 16). -/
import Derived.Test.YtkflbhaomoaonaaCabDo
namespace Go.Proofs.Ytkflbhaomoaonaa.Cab
open Go.RowKit Go.Proofs.Ytkflbhaomoaonaa.Mem Go.Proofs.Ytkflbhaomoaonaa.Que
set_option linter.unusedVariables false
set_option linter.unusedSimpArgs false
theorem cout_low {w w' : World} {base x g1 g2 : Nat} {v1 v2 : Value} {c c' : Cb} (h : CAt w base x g1 g2 v1 v2 c) (o : COut w base x g1 g2 v1 v2 w' c') (hb : base ≤ w.heap.size) : ∃ v1' v2', CAt w' base x g1 g2 v1' v2' c' ∧ Below base w w' ∧ base ≤ w'.heap.size := by
  obtain ⟨v1', v2', h1, h2, _⟩ := o
  exact ⟨v1', v2', h1, h2.low (Below.refl _ _) hb (fun q e => (h.from_ q e).1), Nat.le_trans hb h2.size⟩
abbrev c0 : Cb := ⟨2, 5, false, 1, 1, [], []⟩
abbrev c1 : Cb := ⟨2, 5, true, 3, 4, [], []⟩
abbrev c2 : Cb := ⟨2, 5, true, 3, 4, [], [[7]]⟩
theorem sl_new7 {w : World} (g : Nat) (hg : g = w.heap.size) : Sl (w.alloc (.cells #[.int .u8 7] 5)) (w.alloc (.cells #[.int .u8 7] 5)).heap.size (.slice (some ⟨g, 0, none⟩) 1 1) [7] := sl_lit7 w g hg
set_option maxRecDepth 20000 in
set_option maxHeartbeats 4000000 in
theorem awake16_any (w : World) : Calls Try.prog 5 #[] w fun e w' => e = .returned (.bool true) ∧ Below w.heap.size w w' := by
  obtain ⟨base, hbase⟩ : ∃ b, b = w.heap.size := ⟨_, rfl⟩
  have N := new_yes 2 5 w rfl
  rw [← hbase] at N
  have N := Lib.hid N
  have hbs : base ≤ w.heap.size := by omega
  have P := fun (W : World) (x g1 g2 : Nat) (v1 v2 : Value) (A : Option Addr) (h : CAt W base x g1 g2 v1 v2 c0) (hs : Sl W W.heap.size (.slice A 1 1) [7]) (hb : base ≤ W.heap.size) => send_any (xs := [7]) 2 h hs (by decide) (by decide) (by decide) hb
  have S := fun (W : World) (x g1 g2 : Nat) (v1 v2 : Value) (h : CAt W base x g1 g2 v1 v2 c0) (hb : base ≤ W.heap.size) => set_any true 3 4 h hb
  have R := fun (W : World) (x g1 g2 : Nat) (v1 v2 : Value) (A : Option Addr) (h : CAt W base x g1 g2 v1 v2 c1) (hs : Sl W W.heap.size (.slice A 1 1) [7]) (hb : base ≤ W.heap.size) => send_any (xs := [7]) 2 h hs (by decide) (by decide) (by decide) hb
  rw [show sendTo c0 2 [7] = (c0, 3) from rfl] at P
  rw [show setP c0 true 3 4 = (c1, 0) from rfl] at S
  rw [show sendTo c1 2 [7] = (c2, 0) from rfl] at R
  have T := fun (W : World) (x g1 g2 : Nat) (v1 v2 : Value) (h : CAt W base x g1 g2 v1 v2 c2) => to_any 5 h
  have K := fun (W : World) (x g1 g2 : Nat) (v1 v2 : Value) (h : CAt W base x g1 g2 v1 v2 c2) => cost_any 5 h
  simp only [show ∀ g1 g2, toP c2 g1 g2 5 = ptr g2 from fun _ _ => rfl] at T
  simp only [show costP c2 5 = 4 from rfl] at K
  have L := Lib.hid (fun (W : World) (g : Nat) (v : Value) (h : QAt W base g v [[7]]) => all_any base g v [[7]] W h (by simp) (by decide))
  have P := Lib.hid P
  have S := Lib.hid S
  have R := Lib.hid R
  have T := Lib.hid T
  have K := Lib.hid K
  have HBS := Lib.hid hbs; clear hbs
  have HBA := Lib.hid hbase; clear hbase
  have hx : (1 : Nat) = 1 := rfl
  have HX := Lib.hid hx; clear hx
  go_enter Try.func5, Try.ntmps5
  go_wp2_with (first
    | (go_at_call 6; refine (N.out).mono ?_; rintro e w1 ⟨x, g1, g2, v1, v2, rfl, h1, hb1⟩; have HB1 := Lib.hid hb1; have HQ1 := Lib.hid (h1.below ((Below.refl _ _).alloc (Nat.le_refl _) (.cells #[.int .u8 7] 5))); have HS1 := Lib.hid (Nat.le_trans HBS.out hb1.size); clear h1 hb1)
    | (have HY := HX; go_at_call 9; refine (P.out _ _ _ _ _ _ _ HQ1.out (by exact sl_new7 _ rfl) (by have := HS1.out; simp; omega)).mono ?_; rintro e w2 ⟨rfl, ho⟩; obtain ⟨a1, a2, h2, hb2, hs2⟩ := cout_low HQ1.out ho (by have := HS1.out; simp; omega); have HB2 := Lib.hid hb2; have HQ2 := Lib.hid h2; have HS2 := Lib.hid hs2; clear ho h2 hb2 hs2 HX HY)
    | (go_at_call 11; refine (S.out _ _ _ _ _ _ HQ2.out HS2.out).mono ?_; rintro e w3 ⟨rfl, ho⟩; obtain ⟨b1, b2, h3, hb3, hs3⟩ := cout_low HQ2.out ho HS2.out; have HB3 := Lib.hid hb3; have HQ3 := Lib.hid (h3.below ((Below.refl _ _).alloc (Nat.le_refl _) (.cells #[.int .u8 7] 5))); have HS3 := Lib.hid hs3; clear ho h3 hb3 hs3)
    | (go_at_call 9; refine (R.out _ _ _ _ _ _ _ HQ3.out (by exact sl_new7 _ rfl) (by have := HS3.out; simp; omega)).mono ?_; rintro e w4 ⟨rfl, ho⟩; obtain ⟨d1, d2, h4, hb4, hs4⟩ := cout_low HQ3.out ho (by have := HS3.out; simp; omega); have HB4 := Lib.hid hb4; have HQ4 := Lib.hid h4; have HS4 := Lib.hid hs4; clear ho h4 hb4 hs4)
    | (go_at_call 12; refine (T.out _ _ _ _ _ _ HQ4.out).mono ?_; rintro e w' ⟨rfl, rfl⟩)
    | (go_at_call 21; refine (L.out _ _ _ HQ4.out.qb).mono ?_; rintro e w5 ⟨A5, k5, rfl, _, hb5⟩; have HQ5 := Lib.hid (HQ4.out.below hb5); have HB5 := Lib.hid hb5; clear hb5)
    | (go_at_call 18; refine (K.out _ _ _ _ _ _ HQ5.out).mono ?_; rintro e w' ⟨rfl, rfl⟩))
  go_ret
  have e := HBA.out
  have b5 := HB5.out.mono HS4.out
  have b1 := HB1.out.alloc HS1.out (.cells #[.int .u8 7] 5)
  have b3 := HB3.out.alloc HS3.out (.cells #[.int .u8 7] 5)
  have b := (((b1.trans HB2.out).trans b3).trans HB4.out).trans b5
  rw [e] at b
  exact ⟨rfl, b⟩
end Go.Proofs.Ytkflbhaomoaonaa.Cab
