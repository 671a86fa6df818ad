/- The laws' own little example of layer 9: it is awake; and how many links an Lsa has. -/
import Derived.Test.YtkchocafnidfiaaLsaPut
namespace Go.Proofs.Ytkchocafnidfiaa.Lsa
open Go.RowKit Go.Proofs.Ytkchocafnidfiaa.Mem Go.Proofs.Ytkchocafnidfiaa.Oct
set_option linter.unusedVariables false
set_option linter.unusedSimpArgs false
set_option maxRecDepth 20000 in
set_option maxHeartbeats 4000000 in
theorem awake_any (w : World) : Calls Try.prog 20 #[] w fun e w' => e = .returned (.bool true) ∧ Below w.heap.size w w' := by
  have hm : may 3 7 [] = true := by decide
  obtain ⟨e1, e2, e3⟩ := read_back 3 7 [] [] hm
  have hlb := bytesOf_length 3 7 []
  have pt := fun (W : World) => lput_yes 3 7 (.slice none 0 0) [] none 0 0 [] W (sl_nil _ _) (by simp) (lks_nil _ _) hm
  simp only [List.nil_append, List.append_nil, List.length_nil] at pt e1 e2 e3 hlb
  generalize bytesOf 3 7 [] = bs at *
  have rd := fun (v : Value) (W : World) (hv : Sl W W.heap.size v bs) => read_any v bs W hv (by omega)
  have lr := fun (g : Nat) (W : World) (hR : Rdr W g (bs, true)) => lread_any g (bs, true) W hR
  have el : lsaOf (bs, true) = (3, 7, []) := by rw [lsaOf, if_pos e3, e2]
  rw [e3, el] at lr
  have PT := Lib.hid pt; clear pt
  have RD := Lib.hid rd; clear rd
  have LR := Lib.hid lr; clear lr
  have HLB := Lib.hid hlb; clear hlb e1 e2 e3 el hm
  go_enter Try.func20, Try.ntmps20
  go_wp2_with (first
    | (go_at_call 22; refine (PT.out _).mono ?_; rintro e w1 ⟨v1, rfl, hs1, hb1⟩; obtain ⟨A1, n1, c1, rfl, ht1, _⟩ := id hs1; have hn1 : n1 = 10 := (by rw [← ht1.1, HLB.out]); subst hn1; have HS1 := Lib.hid hs1; have HB1 := Lib.hid hb1; clear hs1 hb1 ht1)
    | (go_at_call 26; refine (RD.out _ _ HS1.out).mono ?_; rintro e w2 ⟨g, rfl, hg, hr2, hb2⟩; have HR2 := Lib.hid hr2; have HB2 := Lib.hid (HB1.out.trans (hb2.mono HB1.out.size)); have hgw := Nat.le_trans HB1.out.size hg; clear hr2 hb2 hg)
    | (go_at_call 27; refine (LR.out _ _ HR2.out).mono ?_; rintro e w3 ⟨v3, rfl, hl3, hr3, hg3⟩; obtain ⟨A3, n3, c3, rfl, _⟩ := id hl3; have HB3 := Lib.hid (HB2.out.grown hg3 HB2.out.size (fun q hq => by cases hq; exact hgw)); clear hl3 hr3 hg3))
  go_ret
  exact ⟨rfl, HB3.out.alloc HB3.out.size _⟩
theorem light_any (o s : Int) (A : Option Addr) (n c : Nat) (w : World) (t : Bool) (h : decide ((n : Int) ≤ 40) = t) :
    Calls Try.prog 19 #[lsaV o s (.slice A n c)] w fun e w' => e = .returned (.bool t) ∧ Below w.heap.size w w' := by
  subst h
  go_enter Try.func19, Try.ntmps19
  go_wp2
  go_ret
  exact ⟨rfl, up1 (Below.refl _ _) _⟩
end Go.Proofs.Ytkchocafnidfiaa.Lsa
