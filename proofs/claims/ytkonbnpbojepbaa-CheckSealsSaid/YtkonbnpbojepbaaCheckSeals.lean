/- CheckSeals: for every two slices of bytes the law returns true and its arguments read as before: check.Seal and check.Open answer as the document does, and what was sealed is opened. No condition. -/
import Derived.Test.YtkonbnpbojepbaaOpen
import Derived.Deep.RegionWith
import Derived.WalkKit
import Derived.ProofKit
import Derived.OpenShut
import Derived.ShutString
import Derived.ChangeOld
import Derived.Below
namespace Go.Proofs.Ytkonbnpbojepbaa.checkSeals
open Go.Proofs.Ytkonbnpbojepbaa.Crc
open Go.ChangeShapes Go.WideShapes Go.ChangeAt Go.RowKit
open Go.ChangeMaps (open_string shut_string)
set_option linter.unusedVariables false

theorem own : ownKnob Try.prog.godebug = none := by kernel_rfl
theorem laidOut : laidOutB Try.prog = true := by kernel_rfl


theorem ok_sealed (xs : List Nat) : okOf (sealed xs) = true := by
  unfold okOf
  rw [sealed_length, show xs.length + 4 - 4 = xs.length by omega, sealed_take rfl]
  exact decide_eq_true ⟨by omega, rfl⟩
theorem out_sealed (xs : List Nat) : outOf (sealed xs) = xs := by
  unfold outOf
  rw [if_pos (ok_sealed xs), sealed_length, show xs.length + 4 - 4 = xs.length by omega, sealed_take rfl]
theorem same_true (A A' : Option Addr) (n n' c c' B B' : Nat) (xs : List Nat) (w : World) (h : Bts w B A n xs) (h' : Bts w B' A' n' xs) :
    Calls Try.prog 13 #[.slice A n c, .slice A' n' c'] w fun e w' => e = .returned (.bool true) ∧ ∃ m, w' = w.drewN m := by
  have := rsame_any A A' n n' c c' B B' xs xs w h h'
  rwa [decide_eq_true rfl] at this
set_option maxHeartbeats 400000 in
theorem walk_long (a0 : Option Addr) (n0 c0 : Nat) (a1 : Option Addr) (n1 c1 : Nat) (w : World) (h : 1500 < n0 ∨ 1500 < n1) :
    Calls Try.prog 6 #[.slice a0 n0 c0, .slice a1 n1 c1] w fun e w' => e = .returned (.bool true) ∧ Below w.heap.size w w' := by
  by_cases h0 : 1500 < n0
  · have hd : decide ((1500 : Int) < n0) = true := by simp; omega
    go_enter Try.func6, Try.ntmps6
    go_wp2_with (go_at_call 7; refine (awake_any _).mono ?_; rintro e w' ⟨rfl, hb⟩)
    go_ret
    exact ⟨rfl, hb⟩
  · have h1 : 1500 < n1 := by omega
    have hd : decide ((1500 : Int) < n0) = false := by simp; omega
    have hd1 : decide ((1500 : Int) < n1) = true := by simp; omega
    go_enter Try.func6, Try.ntmps6
    go_wp2_with (go_at_call 7; refine (awake_any _).mono ?_; rintro e w' ⟨rfl, hb⟩)
    go_ret
    exact ⟨rfl, hb⟩
set_option maxHeartbeats 400000 in
theorem walk_short (a0 : Option Addr) (n0 c0 : Nat) (a1 : Option Addr) (n1 c1 : Nat) (xs ys : List Nat) (w : World) (h0 : n0 ≤ 1500) (h1 : n1 ≤ 1500)
    (k0 : n0 ≤ c0) (k1 : n1 ≤ c1) (q0 : c0 ≤ maxLen) (q1 : c1 ≤ maxLen) (hA : a0 = none → c0 = 0) (b0 : Bts w w.heap.size a0 n0 xs) (b1 : Bts w w.heap.size a1 n1 ys) :
    Calls Try.prog 6 #[.slice a0 n0 c0, .slice a1 n1 c1] w fun e w' => e = .returned (.bool true) ∧ Below w.heap.size w w' := by
  have hd : decide ((1500 : Int) < n0) = false := by simp; omega
  have hd1 : decide ((1500 : Int) < n1) = false := by simp; omega
  obtain ⟨o, ho⟩ : ∃ o, o = okOf ys := ⟨_, rfl⟩
  have t1 := seal_bts a0 n0 c0 xs w (by omega) hA b0
  have t2 := fun (S : Option Addr) (cs : Nat) (W : World) (hb : Bts W W.heap.size S (n0 + 4) (sealed xs)) (hc : n0 + 4 ≤ cs ∧ cs ≤ maxLen) => open_any S (n0 + 4) cs (sealed xs) W (by omega) hc.1 hc.2 hb
  rw [ok_sealed, out_sealed] at t2
  have t3 := fun (W : World) (hW : Below w.heap.size w W) => open_any a1 n1 c1 ys W (by omega) k1 q1 ((b1.below hW (Nat.le_refl _)).more hW.size)
  have t4 := fun (W : World) (hW : Below w.heap.size w W) => ropen_any a1 n1 c1 ys W (by omega) k1 q1 ((b1.below hW (Nat.le_refl _)).more hW.size)
  have t5 := fun (W : World) (hW : Below w.heap.size w W) => rseal_bts a0 n0 c0 xs W (by omega) hA ((b0.below hW (Nat.le_refl _)).more hW.size)
  have t8 := fun (W : World) (hW : Below w.heap.size w W) => (b0.below hW (Nat.le_refl _))
  rw [← ho] at t3 t4
  have T1 := Lib.hid t1; clear t1
  have T2 := Lib.hid t2; clear t2
  have T3 := Lib.hid t3; clear t3
  have T4 := Lib.hid t4; clear t4
  have T5 := Lib.hid t5; clear t5
  have T8 := Lib.hid t8; clear t8
  clear ho b0 b1 hA q0 q1 k0 k1 h0 h1
  go_enter Try.func6, Try.ntmps6
  go_wp2_with (first
    | (go_at_call 10; refine (T1.out).mono ?_; rintro e w1 ⟨S, cs, rfl, bS, hcs, hms, l1⟩; have BS := Lib.hid bS; clear bS; have HK := Lib.hid (And.intro hcs hms); clear hcs hms; have L1 := Lib.hid l1; clear l1)
    | (go_at_call_of 11 S; refine (T2.out S cs w1 BS.out HK.out).mono ?_; rintro e w2 ⟨X, kx, cx, rfl, bX, l2⟩; have BX := Lib.hid bX; clear bX; have L2 := Lib.hid l2; clear l2; have M2 := Lib.hid (L1.out.trans (L2.out.mono L1.out.size)))
    | (go_at_call 11; refine (T3.out w2 M2.out).mono ?_; rintro e w3 ⟨Y, ky, cy, rfl, bY, l3⟩; have BY := Lib.hid bY; clear bY; have L3 := Lib.hid l3; clear l3; have M3 := Lib.hid (M2.out.trans (L3.out.mono M2.out.size)))
    | (go_at_call 12; refine (T4.out w3 M3.out).mono ?_; rintro e w4 ⟨Z, kz, cz, rfl, bZ, l4⟩; have BZ := Lib.hid bZ; clear bZ; have L4 := Lib.hid l4; clear l4; have M4 := Lib.hid (M3.out.trans (L4.out.mono M3.out.size)))
    | (go_at_call 14; refine (T5.out w4 M4.out).mono ?_; rintro e w5 ⟨R, cr, rfl, bR, hcr, hmr, l5⟩; have BR := Lib.hid bR; clear bR hcr hmr; have L5 := Lib.hid l5; clear l5; have M5 := Lib.hid (M4.out.trans (L5.out.mono M4.out.size)))
    | (go_at_call_of 13 R; refine (same_true S R _ _ cs cr _ _ (sealed xs) w5 ((((BS.out.below L2.out (Nat.le_refl _)).below L3.out L2.out.size).below L4.out (Nat.le_trans L2.out.size L3.out.size)).below L5.out (Nat.le_trans L2.out.size (Nat.le_trans L3.out.size L4.out.size))) BR.out).mono ?_; rintro e w6 ⟨rfl, m6, rfl⟩)
    | (go_at_call_of 13 X; refine (same_true X a0 kx n0 cx c0 w2.heap.size w.heap.size xs (w5.drewN m6) (((BX.out.below L3.out (Nat.le_refl _)).below L4.out L3.out.size).below (below_drewN L5.out m6) (Nat.le_trans L3.out.size L4.out.size)) (T8.out _ (below_drewN M5.out m6))).mono ?_; rintro e w7 ⟨rfl, m7, rfl⟩)
    | (go_at_call_of 13 Z; refine (same_true Y Z ky kz cy cz w3.heap.size w4.heap.size (outOf ys) _ ((BY.out.below L4.out (Nat.le_refl _)).below (below_drewN L5.out (m6 + m7)) L4.out.size) (BZ.out.below (below_drewN L5.out (m6 + m7)) (Nat.le_refl _))).mono ?_; rintro e w8 ⟨rfl, m8, rfl⟩)
    | (go_at_call 7; refine (awake_any _).mono ?_; rintro e w9 ⟨rfl, l9⟩))
  go_ret
  exact ⟨rfl, (below_drewN M5.out _).trans (l9.mono M5.out.size)⟩
theorem row_none {k : IntKind} {w : World} {a : Option Addr} {len cap : Nat} {zs : List Int} (h : IsRow k w a len cap zs) : a = none → cap = 0 := by
  intro e
  rcases h with ⟨_, _, h, _⟩ | ⟨x, h, _⟩
  · exact h
  · rw [h] at e; cases e
theorem walk (a0 : Option Addr) (len0 cap0 : Nat) (z0 : List Int) (a1 : Option Addr) (len1 cap1 : Nat) (z1 : List Int) (w : World) (w0 : IsRow .u8 w a0 len0 cap0 z0) (w1 : IsRow .u8 w a1 len1 cap1 z1) :
    Calls Try.prog 6 #[.slice a0 len0 cap0, .slice a1 len1 cap1] w fun e w' => e = .returned (.bool true) ∧ Below w.heap.size w w' := by
  by_cases h : 1500 < len0 ∨ 1500 < len1
  · exact walk_long a0 len0 cap0 a1 len1 cap1 w h
  · obtain ⟨xs, b0, k0, q0⟩ := bts_of_row w0 (by omega)
    obtain ⟨ys, b1, k1, q1⟩ := bts_of_row w1 (by omega)
    exact walk_short a0 len0 cap0 a1 len1 cap1 xs ys w (by omega) (by omega) k0 k1 q0 q1 (row_none w0) b0 b1

/-! the step from the walk to the row -/
set_option maxRecDepth 100000 in
theorem lifted (os : Os) (started : os.Started) (H : Type) (enc : TypeId × Value → H) :
    ReturnsInHanded {} Try.checked os 6 .any (Rows.checkSealsSpec.pre6 enc Try.prog Try.f6 Rows.checkSealsRow.domain false) (Rows.checkSealsSpec.post enc Try.prog Try.f6 false true false false) := by
  refine returnsInHanded_of_change (C := Try.checked) own started (by kernel_rfl) Try.func6
    (ChangeSpec.witness6 (enc := enc) (C := Try.checked) false ⟨#[], #[.slice none 0 0, .slice none 0 0], []⟩ 8 (by kernel_rfl) (by kernel_rfl) (by kernel_rfl) (by kernel_rfl)) ?_
  intro W base args ds gs before hval0 hW hcnd _
  have hval : ∀ (j : Nat) t v, Try.f6.params[j]? = some t → args[j]? = some v → Value.okWide Try.prog W .any base t v := hval0
  have hW' := hW
  obtain ⟨p, q, hA0, hV, rfl, hfz, hnd⟩ := hW
  have hA : DataW.TrodAll enc Try.prog W 0 (fun _ => true) true Try.f6.params.toList args.toList ds p := hA0
  rw [Try.params6] at hA hval
  obtain ⟨v0, vs0, d0, ds0, p0, q0, hargs, rfl, rfl, h0, r0⟩ := trodAll_cons hA
  obtain ⟨v1, vs1, d1, ds1, p1, q1, rfl, rfl, rfl, h1, r1⟩ := trodAll_cons r0
  obtain ⟨rfl, rfl, rfl⟩ := trodAll_nil r1
  obtain rfl : args = #[v0, v1] := by cases args; simp_all
  obtain ⟨rfl, rfl⟩ := trodVars_none hV
  obtain ⟨a0, len0, cap0, rfl⟩ := okWide_slice Try.underlying22 (hval 0 22 v0 rfl rfl)
  have k0 := h0
  have lt0 : ∀ x ∈ p0, x.block < W.heap.size := by obtain ⟨m, hm⟩ := k0; exact DataW.trod_lt m _ _ _ hm
  obtain ⟨z0, w0⟩ : ∃ zs, IsRow .u8 W a0 len0 cap0 zs := by
    obtain ⟨fuel, hf⟩ := h0
    rcases open_ints Try.underlying22 Try.underlying5 (by kernel_rfl) hf with ⟨hcs, _⟩ | ⟨x, l, c, zs, hcs, _, hl, hm, hz, _, hcell, hwz⟩
    · simp [Value.cells] at hcs
      obtain ⟨rfl, rfl, rfl⟩ := hcs
      exact ⟨[], .inl ⟨rfl, rfl, rfl, rfl⟩⟩
    · simp [Value.cells] at hcs
      obtain ⟨rfl, rfl, rfl⟩ := hcs
      exact ⟨zs, .inr ⟨_, rfl, hl, hm, by simpa using hz, hcell, hwz⟩⟩
  obtain ⟨a1, len1, cap1, rfl⟩ := okWide_slice Try.underlying22 (hval 1 22 v1 rfl rfl)
  have k1 := h1
  have lt1 : ∀ x ∈ p1, x.block < W.heap.size := by obtain ⟨m, hm⟩ := k1; exact DataW.trod_lt m _ _ _ hm
  obtain ⟨z1, w1⟩ : ∃ zs, IsRow .u8 W a1 len1 cap1 zs := by
    obtain ⟨fuel, hf⟩ := h1
    rcases open_ints Try.underlying22 Try.underlying5 (by kernel_rfl) hf with ⟨hcs, _⟩ | ⟨x, l, c, zs, hcs, _, hl, hm, hz, _, hcell, hwz⟩
    · simp [Value.cells] at hcs
      obtain ⟨rfl, rfl, rfl⟩ := hcs
      exact ⟨[], .inl ⟨rfl, rfl, rfl, rfl⟩⟩
    · simp [Value.cells] at hcs
      obtain ⟨rfl, rfl, rfl⟩ := hcs
      exact ⟨zs, .inr ⟨_, rfl, hl, hm, by simpa using hz, hcell, hwz⟩⟩
  clear hA0 hval0
  refine (walk a0 len0 cap0 z0 a1 len1 cap1 z1 W w0 w1).mono fun e W' ⟨he, bel⟩ => ?_
  subst he
  exact ⟨_, rfl, _, _, _, [], _, [], hW', trodAll_mk1 (shut_bool Try.underlying4 _), (trodAll_cons_mk (Below.trod laidOut (by kernel_rfl) (of_decide_eq_true (by kernel_rfl)) k0 bel lt0) (trodAll_cons_mk (Below.trod laidOut (by kernel_rfl) (of_decide_eq_true (by kernel_rfl)) k1 bel lt1) trodAll_mk0)), rfl, bel.frame _, fun h => by cases h⟩

theorem over : Rows.checkSealsRow.holds Try.pinned (OpenSpec.ofChange Rows.checkSealsSpec) :=
  OpenClaim.holds_of_wide 6 Try.f6 rfl rfl rfl rfl rfl rfl rfl ⟨rfl, rfl, rfl, rfl, rfl⟩ rfl rfl rfl rfl rfl (by kernel_rfl) Try.func6 (by kernel_rfl)
    (of_decide_eq_true (by kernel_rfl)) (by unfold Func.isWrapper; first | (rw [if_pos (by decide +kernel)]; kernel_rfl) | (rw [if_neg (by decide +kernel)]; exact ⟨rfl, rfl⟩))
    (fun os started H enc _ => lifted os started H enc)

/-- the statement -/
theorem proved : Rows.CheckSealsSaid := over
end Go.Proofs.Ytkonbnpbojepbaa.checkSeals
