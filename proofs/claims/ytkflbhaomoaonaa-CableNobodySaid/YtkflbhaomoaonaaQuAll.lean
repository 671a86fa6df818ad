/- A queue's All (layer 15); and the reference: With, Without, Same of texts. -/
import Derived.Test.YtkflbhaomoaonaaQuNew
import Derived.Deep.RegionHeld3
namespace Go.Proofs.Ytkflbhaomoaonaa.Que
open Go.RowKit Go.Proofs.Ytkflbhaomoaonaa.Mem
set_option linter.unusedVariables false
set_option linter.unusedSimpArgs false
theorem take_next {ts : List (List Nat)} {k : Nat} (h : k < ts.length) : ts.take (k + 1) = ts.take k ++ [ts.getD k []] := by
  rw [List.take_add_one, List.getElem?_eq_getElem h]
  simp [List.getD, List.getElem?_eq_getElem h]
set_option maxRecDepth 20000 in
set_option maxHeartbeats 4000000 in
theorem all_any (base g : Nat) (v : Value) (ts : List (List Nat)) (w : World) (h : QAt w base g v ts) (hx : ∀ t ∈ ts, t.length ≤ 200000) (hl : ts.length ≤ 32) :
    Calls Try.prog 21 #[ptr g] w fun e w' => ∃ A c, e = .returned (.slice A ts.length c) ∧ Sls w' w'.heap.size (.slice A ts.length c) ts ∧ Below w.heap.size w w' := by
  have C := Lib.hid (isNone_no base g v ts w h)
  obtain ⟨c0, c1, f1, hlt⟩ := h.cells
  obtain ⟨A, n, c, rfl, hn, h1, h2⟩ := slRow_form2 h.row
  have hn32 : n ≤ 32 := by omega
  obtain ⟨w1, hmk, hr1, hb1⟩ := made_row w n (by omega)
  have HQ1 := Lib.hid (h.below hb1)
  have HQ0 := Lib.hid h
  obtain ⟨x0, x1, _, xlt⟩ := HQ1.out.cells
  have HM := Lib.hid hmk
  have HN := Lib.hid hn
  have HR1 := Lib.hid hr1
  have HB1 := Lib.hid hb1
  have HX := Lib.hid hx
  rw [hn]
  clear h hx hl hn hr1 hb1
  go_enter Try.func21, Try.ntmps21
  go_wp2_with (first
    | (go_at_call 29; refine (C.out).mono ?_; rintro e w' ⟨rfl, rfl⟩))
  clear hmk
  go_loopw [3, 19] (fun l i wr => ∃ k : Nat, k ≤ n ∧ i = .int .i64 k ∧ SlRow wr w.heap.size l (ts.take k) ∧ Below w.heap.size w wr ) (fun _ i _ => n - (intOf i).toNat)
  case atStart => exact ⟨0, Nat.zero_le _, rfl, by simpa using HR1.out, HB1.out⟩
  case round =>
    obtain ⟨k, hk, rfl, hr, hb⟩ := hrel
    have HR := Lib.hid hr; clear hr
    have HB := Lib.hid hb; clear hb
    have HQ := Lib.hid (HQ0.out.below HB.out)
    by_cases hlt2 : k < n
    · obtain ⟨b, off, hA, hbl, hcs⟩ := sls_at (slRow_sls HQ.out.row) (by omega)
      obtain ⟨u, hu, hs⟩ := hcs k hlt2
      subst hA
      clear hcs
      have CL := Lib.hid (clone_any u _ wr hs (HX.out _ (getD_mem_sl (by rw [HN.out]; exact hlt2))))
      obtain ⟨Au, nu, cu, rfl, _⟩ := id hs
      clear hs
      obtain ⟨A5, n5, c5, rfl, hn5, _⟩ := slRow_form2 HR.out
      have hlen : (ts.take k).length + [ts.getD k []].length ≤ 3000 := by rw [List.length_take]; simp; omega
      have HLN := Lib.hid hlen; clear hlen
      go_wp2_with (first
        | (go_at_call 32; refine (CL.out).mono ?_; rintro e w2 ⟨u2, rfl, hs2, hb2⟩; obtain ⟨A2, n2, c2, rfl, _⟩ := id hs2; have HS2 := Lib.hid hs2; have HB2 := Lib.hid hb2; clear hs2 hb2)
        | (at_builtin; (refine wpList_row rfl (.tmp 23) (.tmp 26) rfl w.heap.size (.slice A5 n5 c5) (ts.take k) rfl (by exact (HR.out.below HB2.out).below ((Below.refl _ _).alloc (Nat.le_refl _) _)) _ 1 1 [ts.getD k []] rfl (by exact sls_boxed _ rfl HS2.out) HLN.out (by have := HB2.out.size; have := HB.out.size; simp; omega) ?_; intro v3 w3 hr3 hg3 ho3)))
      have HR3 := Lib.hid hr3; clear hr3
      have hlow : Below w.heap.size w w3 := ((HB.out.trans (HB2.out.mono HB.out.size)).alloc (Nat.le_trans HB.out.size HB2.out.size) (.cells #[.slice A2 n2 c2] 33)).grown hg3 (by have := HB2.out.size; have := HB.out.size; simp; omega) (fun q hq => (slRow_lt HR.out q hq).1)
      go_roundw
      case rel => exact ⟨k + 1, by omega, by go_num, by rw [take_next (by rw [HN.out]; exact hlt2)]; exact HR3.out, hlow⟩
      case measure => simp [intOf]; omega
    · obtain rfl : k = n := by omega
      go_wp2
      go_ret
      have hr := HR.out
      rw [List.take_of_length_le (by rw [HN.out]; exact Nat.le_refl _)] at hr
      obtain ⟨A5, c5, rfl, _⟩ := slRow_form hr
      rw [← HN.out]
      exact ⟨_, _, rfl, slRow_sls hr, HB.out⟩
/- the reference's With -/
set_option maxRecDepth 20000 in
set_option maxHeartbeats 4000000 in
theorem with_any (lv u : Value) (ls : List (List Nat)) (xs : List Nat) (w : World) (h : Sls w w.heap.size lv ls) (hs : Sl w w.heap.size u xs) (hl : ls.length ≤ 1000) :
    Calls Try.prog 24 #[lv, u] w fun e w' => ∃ v', e = .returned v' ∧ SlRow w' w.heap.size v' (ls ++ [xs]) ∧ Below w.heap.size w w' := by
  obtain ⟨A, c, rfl⟩ := sls_form h
  obtain ⟨Au, nu, cu, rfl, _⟩ := id hs
  have HL := Lib.hid hl
  have HS := Lib.hid h
  have HU := Lib.hid hs
  clear h hs hl
  have B1 := Lib.hid ((Below.refl w.heap.size w).alloc (Nat.le_refl _) (.cells #[] 33))
  have R1 := Lib.hid (slRow_lit w w.heap.size w.heap.size rfl (Nat.le_refl _))
  go_enter Try.func24, Try.ntmps24
  go_wp2_with (first
    | (at_builtin; (refine wpList_row rfl (.tmp 5) (.tmp 6) rfl w.heap.size (.slice (some ⟨w.heap.size, 0, none⟩) 0 0) [] rfl (by exact R1.out) A ls.length c ls rfl (by exact (HS.out.keep B1.out).more B1.out.size) (by have := HL.out; simp; omega) (by exact B1.out.size) ?_; intro v2 w2 hr2 hg2 ho2; have hb2 : Below w.heap.size w w2 := B1.out.grown hg2 B1.out.size (fun q hq => (slRow_lt R1.out q hq).1); have HB2 := Lib.hid hb2; have HR2 := Lib.hid hr2; obtain ⟨A2, n2, c2, rfl, _⟩ := slRow_form2 hr2; clear hr2 hg2 ho2 hb2))
    | (at_builtin; (refine wpList_row rfl (.tmp 7) (.tmp 9) rfl w.heap.size (.slice A2 n2 c2) ([] ++ ls) rfl (by exact HR2.out.below ((Below.refl _ _).alloc (Nat.le_refl _) _)) _ 1 1 [xs] rfl (by exact sls_boxed _ rfl ((HU.out.below HB2.out (Nat.le_refl _)).more HB2.out.size)) (by have := HL.out; simp; omega) (by have := HB2.out.size; simp; omega) ?_; intro v3 w3 hr3 hg3 ho3)))
  go_ret
  exact ⟨_, rfl, hr3, (HB2.out.alloc HB2.out.size _).grown hg3 (by have := HB2.out.size; simp; omega) (fun q hq => (slRow_lt HR2.out q hq).1)⟩
end Go.Proofs.Ytkflbhaomoaonaa.Que
