/- The law's own awake (layer 7). -/
import Derived.Test.YtkidjlmjjfgknaaSlotRSecs
import Derived.Test.YtkidjlmjjfgknaaSlotSame
import Derived.Test.YtkidjlmjjfgknaaSlotBetter
namespace Go.Proofs.Ytkidjlmjjfgknaa.Slt
open Go.RowKit Go.Proofs.Ytkidjlmjjfgknaa.Mem Go.Proofs.Ytkidjlmjjfgknaa.Oct Go.Proofs.Ytkidjlmjjfgknaa.Pg Go.Proofs.Ytkidjlmjjfgknaa.Rcd
set_option linter.unusedVariables false
set_option linter.unusedSimpArgs false
theorem sectorsOf_600 {g m : Int} {b : List Nat} (h : fits (bP g m) b = true) : ∀ s ∈ sectorsOf g m b, s.length ≤ 600 := by
  intro s hs
  unfold sectorsOf at hs
  obtain ⟨p, hp, rfl⟩ := List.mem_map.1 hs
  simp only [fits, Bool.and_eq_true] at h
  have h1 := (may_iff p).1 (List.all_eq_true.1 h.2 p hp)
  rw [sector_length h1.l]
  omega
theorem sls_some {w : World} {B n c : Nat} {A : Option Addr} {ss : List (List Nat)} (h : Sls w B (.slice A n c) ss) (hn : 0 < n) : A = none → c = 0 := by
  obtain ⟨b, off, rfl, _⟩ := sls_at h hn
  exact fun h => by cases h
theorem lit7 (W : World) : Sl (W.alloc (.cells #[.int .u8 7] 5)) (W.alloc (.cells #[.int .u8 7] 5)).heap.size (.slice (some ⟨W.heap.size, 0, none⟩) 1 1) [7] :=
  sl_own (World.ownsRow_lit W #[.int .u8 7] 1 (Nat.le_refl _) (by unfold maxLen; omega) rfl : (W.alloc (.cells #[.int .u8 7] 5)).ownsRow W.heap.size 5 1 (.slice (some ⟨W.heap.size, 0, none⟩) 1 1) 1 (vals [7])) (by simp) (by omega)
set_option maxRecDepth 20000 in
set_option maxHeartbeats 4000000 in
theorem awake7_any (w : World) : Calls Try.prog 7 #[] w fun e w' => e = .returned (.bool true) ∧ Below w.heap.size w w' := by
  have hb0 := palloc (Below.refl w.heap.size w) (Obj.cells #[.int .u8 7] 5)
  have se := sectors_any 3 2 4 (some ⟨w.heap.size, 0, none⟩) 1 1 [7] _ (lit7 w) rfl
  have e1 : errOf 3 2 4 [7] = 0 := by decide
  have e2 : secs 3 2 4 [7] = sectorsOf 3 2 [7] := by unfold secs; rw [if_pos e1]
  rw [e1, e2] at se
  have hl6 := sectorsOf_600 fits7
  have hl1 : (sectorsOf 3 2 [7]).length = 1 := rfl
  have hld := loaded7
  have hmk := mark7
  obtain ⟨ss, hss⟩ : ∃ ss, ss = sectorsOf 3 2 [7] := ⟨_, rfl⟩
  rw [← hss] at se hl6 hl1 hld hmk
  clear hss e1 e2
  have ld := fun (A : Option Addr) (c : Nat) (W : World) (h : Sls W W.heap.size (.slice A 1 c) ss) => load_at A 1 c ss W W (Below.refl _ _) h (by omega) (sls_some h (by omega)) hl6
  have hlb : theB ss = (3, [7]) := by unfold theB; rw [hld]; rfl
  rw [hld, hlb] at ld
  have mk := fun (A : Option Addr) (c : Nat) (W : World) (h : Sls W W.heap.size (.slice A 1 c) ss) => mark_any A 1 c ss W h (by omega) hl6
  rw [hmk] at mk
  have SE := Lib.hid se; clear se
  have LD := Lib.hid ld; clear ld
  have MK := Lib.hid mk; clear mk
  have HL1 := Lib.hid hl1; clear hl1
  have HB0 := Lib.hid hb0; clear hb0
  clear hl6 hld hmk hlb
  go_enter Try.func7, Try.ntmps7
  go_wp2_with (first
    | (go_at_call 15; refine (SE.out).mono ?_; rintro e w1 ⟨v1, rfl, hs1, hb⟩; have hn1 : ∃ A1 c1, v1 = .slice A1 1 c1 := (by obtain ⟨A1, c1, e⟩ := sls_form hs1; exact ⟨A1, c1, by rw [e, HL1.out]⟩); obtain ⟨A1, c1, rfl⟩ := hn1; have HS1 := Lib.hid hs1; have HB1 := Lib.hid (HB0.out.trans (hb.mono HB0.out.size)); clear hs1 hb)
    | (go_at_call 8; refine (LD.out A1 c1 _ HS1.out).mono ?_; rintro e w2 ⟨A2, n2, c2, rfl, hbt, hb⟩; have hn2 : n2 = 1 := hbt.1.symm; subst hn2; have hbu := palloc hb (Obj.cells #[.int .i64 3, .slice A2 1 c2] 27); have HS2 := Lib.hid (HS1.out.up hbu); have HB2 := Lib.hid (HB1.out.trans (hbu.mono HB1.out.size)); clear hbt hb hbu)
    | (go_at_call 13; refine (MK.out A1 c1 _ HS2.out).mono ?_; rintro e w3 ⟨rfl, hb⟩; have HB3 := Lib.hid (HB2.out.trans (hb.mono HB2.out.size)); clear hb))
  go_ret
  exact ⟨rfl, HB3.out⟩
end Go.Proofs.Ytkidjlmjjfgknaa.Slt
