/- LsaReads: for every bytes the law returns true and its argument reads as before: which Lsa they begin with, if one, is as the document says. No condition. -/
import Derived.Test.YtkchocafnidfiaaLsaAwake
import Derived.Test.YtkchocafnidfiaaLsaRefRead
import Derived.Test.YtkchocafnidfiaaReaderEnd
import Derived.IntWalk
import Derived.WalkKit
import Derived.ProofKit
import Derived.OpenShut
import Derived.ShutString
import Derived.ChangeOld
import Derived.Below
namespace Go.Proofs.Ytkchocafnidfiaa.lsaReads
open Go.RowKit Go.Proofs.Ytkchocafnidfiaa.Mem Go.Proofs.Ytkchocafnidfiaa.Oct Go.Proofs.Ytkchocafnidfiaa.Lsa
set_option linter.unusedVariables false
set_option linter.unusedSimpArgs false
theorem step_low {wz w w' : World} (h : Below wz.heap.size wz w) (k : Below w.heap.size w w') : Below wz.heap.size wz w' := h.trans (k.mono h.size)
set_option maxHeartbeats 2000000 in
theorem walk_long (a0 : Option Addr) (n0 c0 : Nat) (w : World) (h : 500 < n0) :
    Calls Try.prog 5 #[.slice a0 n0 c0] w fun e w' => e = .returned (.bool true) ∧ Below w.heap.size w w' := by
  have hd : decide ((500 : Int) < n0) = true := by simp; omega
  go_enter Try.func5, Try.ntmps5
  go_wp2_with (go_at_call 20; refine (awake_any _).mono ?_; rintro e w5 ⟨rfl, hb⟩; have HB5 := Lib.hid hb; clear hb)
  go_ret
  exact ⟨rfl, HB5.out⟩
theorem read_eq (xs : List Nat) : lsaOf (xs, true) = (if isAt xs = true then lsaAt xs else (0, 0, [])) := by
  unfold lsaOf
  rw [rOk_at]
  by_cases h : isAt xs = true
  · rw [if_pos h, if_pos h]
    simp only [isAt, Bool.and_eq_true, decide_eq_true_eq] at h
    exact (rAll_at h.1 h.2.1).2
  · rw [if_neg h, if_neg h]
theorem left_eq {xs : List Nat} (h : isAt xs = true) : ((rAll (xs, true)).1.1.length : Int) = (xs.length : Int) - ((10 + 5 * many xs : Nat) : Int) := by
  simp only [isAt, Bool.and_eq_true, decide_eq_true_eq] at h
  rw [(rAll_at h.1 h.2.1).1, List.length_drop]
  have := h.2.1
  omega
set_option maxRecDepth 20000 in
set_option maxHeartbeats 8000000 in
theorem walk_short (a0 : Option Addr) (n0 c0 : Nat) (xs : List Nat) (w : World) (h0 : n0 ≤ 500) (hb : Sl w w.heap.size (.slice a0 n0 c0) xs) (hl : xs.length = n0) :
    Calls Try.prog 5 #[.slice a0 n0 c0] w fun e w' => e = .returned (.bool true) ∧ Below w.heap.size w w' := by
  have hd : decide ((500 : Int) < n0) = false := by simp; omega
  have rd := read_any (.slice a0 n0 c0) xs w hb (by omega)
  have lr := fun (g : Nat) (W : World) (hR : Rdr W g (xs, true)) => lread_any g (xs, true) W hR
  have rr := fun (W : World) (hW : Below w.heap.size w W) => rread_any a0 n0 c0 xs W (sl_up hb hW)
  have hleft := left_eq (xs := xs)
  have hmany : isAt xs = true → 10 + 5 * many xs ≤ n0 := fun h => by
    simp only [isAt, Bool.and_eq_true, decide_eq_true_eq] at h
    omega
  have lf := fun (g : Nat) (st : St) (W : World) (hR : Rdr W g st) => left_any g st W hR
  rw [rOk_at, read_eq] at lr
  rw [hl] at hleft
  generalize rAll (xs, true) = st4 at *
  obtain ⟨⟨zs, s4⟩, _⟩ := st4
  simp only at lr hleft
  obtain ⟨L0, hL0⟩ : ∃ L0 : Int × Int × List Lk, L0 = (if isAt xs = true then lsaAt xs else (0, 0, [])) := ⟨_, rfl⟩
  rw [← hL0] at lr rr
  clear hL0
  obtain ⟨o, s, ls⟩ := L0
  have rs := fun (v v' : Value) (W : World) (hv : Lks W W.heap.size v ls) (hv' : Lks W W.heap.size v' ls) => rsame_lsa o s o s v v' ls ls W hv hv'
  rw [sameB_self] at rs
  generalize many xs = m at *
  have RD := Lib.hid rd; clear rd
  have RS := Lib.hid rs; clear rs
  have LF := Lib.hid lf; clear lf hb hl
  cases q : isAt xs
  all_goals
    rw [q] at lr rr hleft hmany
  · have LR := Lib.hid lr; clear lr
    rw [if_neg (by simp)] at rr
    have RR := Lib.hid rr; clear rr
    go_enter Try.func5, Try.ntmps5
    go_wp2_with (first
      | (go_at_call 26; refine (RD.out).mono ?_; rintro e w2 ⟨g, rfl, hg, hr2, hb2⟩; have HR2 := Lib.hid hr2; have HB2 := Lib.hid hb2; clear hr2 hb2)
      | (go_at_call 27; refine (LR.out _ _ HR2.out).mono ?_; rintro e w3 ⟨v3, rfl, hl3, hr3, hg3⟩; obtain ⟨A3, n3, c3, rfl, _⟩ := id hl3; have HL3 := Lib.hid (hl3 : Lks w3 w3.heap.size (.slice A3 n3 c3) ls); have HR3 := Lib.hid hr3; have HB3 := Lib.hid (HB2.out.grown hg3 HB2.out.size (fun q hq => by cases hq; exact hg)); have hgl := hr3.size; have K3 := Lib.hid (Blk.new w3 47 #[.int .i64 o, .int .i64 s, .slice A3 n3 c3]); clear hl3 hr3 hg3)
      | (go_at_call 30; refine (RR.out _ (up1 HB3.out _)).mono ?_; rintro e w4 ⟨v4, rfl, hl4, hb4⟩; obtain ⟨A4, n4, c4, rfl, _⟩ := id hl4; have HL4 := Lib.hid (hl4 : Lks w4 w4.heap.size (.slice A4 n4 c4) ls); have HL34 := Lib.hid ((HL3.out.up ((Below.refl w3.heap.size w3).alloc (Nat.le_refl _) (.cells #[.int .i64 o, .int .i64 s, .slice A3 n3 c3] 47))).up hb4); have HB4 := Lib.hid (step_low (up1 HB3.out _) hb4); have HR4 := Lib.hid ((HR3.out.alloc _).below hb4 (by simp; omega)); have k4 := K3.out.below hb4 K3.out.lt; obtain ⟨x0, x1, x2, x3⟩ := blk_cells3 k4; have K4 := Lib.hid k4; clear hl4 hb4 k4)
      | (go_at_call 28; refine (RS.out _ _ _ (HL34.out.up ((Below.refl w4.heap.size w4).alloc (Nat.le_refl _) (.cells #[.int .i64 o, .int .i64 s, .slice A4 n4 c4] 47))) (HL4.out.up ((Below.refl w4.heap.size w4).alloc (Nat.le_refl _) (.cells #[.int .i64 o, .int .i64 s, .slice A4 n4 c4] 47)))).mono ?_; rintro e w5 ⟨rfl, hb5⟩; have HB5 := Lib.hid (step_low (up1 HB4.out _) hb5); have HR5 := Lib.hid ((HR4.out.alloc _).below hb5 (by have := HR4.out.size; simp; omega)); clear hb5)
      | (go_at_call 20; refine (awake_any _).mono ?_; rintro e w6 ⟨rfl, hb⟩; have HB6 := Lib.hid (step_low HB5.out hb); clear hb))
    go_ret
    exact ⟨rfl, HB6.out⟩
  · have LR := Lib.hid lr; clear lr
    rw [if_pos rfl] at rr
    have RR := Lib.hid rr; clear rr
    replace hleft := hleft rfl
    replace hmany := hmany rfl
    have lft := fun (g : Nat) (W : World) (hR : Rdr W g (zs, s4)) => LF.out g (zs, s4) W hR
    simp only at lft
    rw [hleft] at lft
    obtain ⟨N, hN⟩ : ∃ N, N = 10 + 5 * m := ⟨_, rfl⟩
    rw [← hN] at RR lft hmany
    have hpos : decide ((0 : Int) < (N : Int)) = true := by simp; omega
    have hposn : 0 < N := by omega
    have hposd : decide (0 < N) = true := by simp; omega
    have hposi : (0 : Int) < (N : Int) := by omega
    have HN := Lib.hid hN; clear hN hleft
    have hse : ((n0 : Int) - (N : Int) == (n0 : Int) - (N : Int)) = true := by simp
    have LFT := Lib.hid lft; clear lft
    go_enter Try.func5, Try.ntmps5
    go_wp2_with (first
      | (go_at_call 26; refine (RD.out).mono ?_; rintro e w2 ⟨g, rfl, hg, hr2, hb2⟩; have HR2 := Lib.hid hr2; have HB2 := Lib.hid hb2; clear hr2 hb2)
      | (go_at_call 27; refine (LR.out _ _ HR2.out).mono ?_; rintro e w3 ⟨v3, rfl, hl3, hr3, hg3⟩; obtain ⟨A3, n3, c3, rfl, _⟩ := id hl3; have HL3 := Lib.hid (hl3 : Lks w3 w3.heap.size (.slice A3 n3 c3) ls); have HR3 := Lib.hid hr3; have HB3 := Lib.hid (HB2.out.grown hg3 HB2.out.size (fun q hq => by cases hq; exact hg)); have hgl := hr3.size; have K3 := Lib.hid (Blk.new w3 47 #[.int .i64 o, .int .i64 s, .slice A3 n3 c3]); clear hl3 hr3 hg3)
      | (go_at_call 30; refine (RR.out _ (up1 HB3.out _)).mono ?_; rintro e w4 ⟨v4, rfl, hl4, hb4⟩; obtain ⟨A4, n4, c4, rfl, _⟩ := id hl4; have HL4 := Lib.hid (hl4 : Lks w4 w4.heap.size (.slice A4 n4 c4) ls); have HL34 := Lib.hid ((HL3.out.up ((Below.refl w3.heap.size w3).alloc (Nat.le_refl _) (.cells #[.int .i64 o, .int .i64 s, .slice A3 n3 c3] 47))).up hb4); have HB4 := Lib.hid (step_low (up1 HB3.out _) hb4); have HR4 := Lib.hid ((HR3.out.alloc _).below hb4 (by simp; omega)); have k4 := K3.out.below hb4 K3.out.lt; obtain ⟨x0, x1, x2, x3⟩ := blk_cells3 k4; have K4 := Lib.hid k4; clear hl4 hb4 k4)
      | (go_at_call 28; refine (RS.out _ _ _ (HL34.out.up ((Below.refl w4.heap.size w4).alloc (Nat.le_refl _) (.cells #[.int .i64 o, .int .i64 s, .slice A4 n4 c4] 47))) (HL4.out.up ((Below.refl w4.heap.size w4).alloc (Nat.le_refl _) (.cells #[.int .i64 o, .int .i64 s, .slice A4 n4 c4] 47)))).mono ?_; rintro e w5 ⟨rfl, hb5⟩; have HB5 := Lib.hid (step_low (up1 HB4.out _) hb5); have HR5 := Lib.hid ((HR4.out.alloc _).below hb5 (by have := HR4.out.size; simp; omega)); clear hb5)
      | (go_at_call 29; refine (LFT.out _ _ HR5.out).mono ?_; rintro e w' ⟨rfl, rfl⟩)
      | (go_at_call 20; refine (awake_any _).mono ?_; rintro e w6 ⟨rfl, hb⟩; have HB6 := Lib.hid (step_low HB5.out hb); clear hb))
    go_ret
    exact ⟨rfl, HB6.out⟩
theorem walk (a0 : Option Addr) (len0 cap0 : Nat) (z0 : List Int) (w : World) (w0 : IsRow .u8 w a0 len0 cap0 z0) :
    Calls Try.prog 5 #[.slice a0 len0 cap0] w fun e w' => e = .returned (.bool true) ∧ Below w.heap.size w w' := by
  by_cases h : 500 < len0
  · exact walk_long a0 len0 cap0 w h
  · obtain ⟨xs, hx, hl⟩ := sl_of_row w0 (by omega)
    exact walk_short a0 len0 cap0 xs w (by omega) hx hl
open Go.ChangeShapes Go.WideShapes Go.ChangeAt Go.RowKit
theorem own : ownKnob Try.prog.godebug = none := by kernel_rfl
theorem laidOut : laidOutB Try.prog = true := by kernel_rfl
/-! the step from the walk to the row -/
set_option maxRecDepth 100000 in
theorem lifted (os : Os) (started : os.Started) (H : Type) (enc : TypeId × Value → H) :
    ReturnsInHanded {} Try.checked os 5 .any (Rows.lsaReadsSpec.pre6 enc Try.prog Try.f5 Rows.lsaReadsRow.domain false) (Rows.lsaReadsSpec.post enc Try.prog Try.f5 false true false false) := by
  refine returnsInHanded_of_change (C := Try.checked) own started (by kernel_rfl) Try.func5
    (ChangeSpec.witness6 (enc := enc) (C := Try.checked) false ⟨#[], #[.slice none 0 0], []⟩ 8 (by kernel_rfl) (by kernel_rfl) (by kernel_rfl) (by kernel_rfl)) ?_
  intro W base args ds gs before hval0 hW hcnd _
  have hval : ∀ (j : Nat) t v, Try.f5.params[j]? = some t → args[j]? = some v → Value.okWide Try.prog W .any base t v := hval0
  have hW' := hW
  obtain ⟨p, q, hA0, hV, rfl, hfz, hnd⟩ := hW
  have hA : DataW.TrodAll enc Try.prog W 0 (fun _ => true) true Try.f5.params.toList args.toList ds p := hA0
  rw [Try.params5] at hA hval
  obtain ⟨v0, vs0, d0, ds0, p0, q0, hargs, rfl, rfl, h0, r0⟩ := trodAll_cons hA
  obtain ⟨rfl, rfl, rfl⟩ := trodAll_nil r0
  obtain rfl : args = #[v0] := by cases args; simp_all
  obtain ⟨rfl, rfl⟩ := trodVars_none hV
  obtain ⟨a0, len0, cap0, rfl⟩ := okWide_slice Try.underlying22 (hval 0 22 v0 rfl rfl)
  have k0 := h0
  have lt0 : ∀ x ∈ p0, x.block < W.heap.size := by obtain ⟨m, hm⟩ := k0; exact DataW.trod_lt m _ _ _ hm
  obtain ⟨z0, w0⟩ : ∃ zs, IsRow .u8 W a0 len0 cap0 zs := by
    obtain ⟨fuel, hf⟩ := h0
    rcases open_ints Try.underlying22 Try.underlying5 (by kernel_rfl) hf with ⟨hcs, _⟩ | ⟨x, l, c, zs, hcs, _, hl, hm, hz, _, hcell, hwz⟩
    · simp [Value.cells] at hcs
      obtain ⟨rfl, rfl, rfl⟩ := hcs
      exact ⟨[], .inl ⟨rfl, rfl, rfl, rfl⟩⟩
    · simp [Value.cells] at hcs
      obtain ⟨rfl, rfl, rfl⟩ := hcs
      exact ⟨zs, .inr ⟨_, rfl, hl, hm, by simpa using hz, hcell, hwz⟩⟩
  clear hA0 hval0
  refine (walk a0 len0 cap0 z0 W w0).mono fun e W' ⟨he, bel⟩ => ?_
  subst he
  exact ⟨_, rfl, _, _, _, [], _, [], hW', trodAll_mk1 (shut_bool Try.underlying4 _), (trodAll_cons_mk (Below.trod laidOut (by kernel_rfl) (of_decide_eq_true (by kernel_rfl)) k0 bel lt0) trodAll_mk0), rfl, bel.frame _, fun h => by cases h⟩

theorem over : Rows.lsaReadsRow.holds Try.pinned (OpenSpec.ofChange Rows.lsaReadsSpec) :=
  OpenClaim.holds_of_wide 5 Try.f5 rfl rfl rfl rfl rfl rfl rfl ⟨rfl, rfl, rfl, rfl, rfl⟩ rfl rfl rfl rfl rfl (by kernel_rfl) Try.func5 (by kernel_rfl)
    (of_decide_eq_true (by kernel_rfl)) (by unfold Func.isWrapper; first | (rw [if_pos (by decide +kernel)]; kernel_rfl) | (rw [if_neg (by decide +kernel)]; exact ⟨rfl, rfl⟩))
    (fun os started H enc _ => lifted os started H enc)

/-- the statement -/
theorem proved : Rows.LsaReadsSaid := over
end Go.Proofs.Ytkchocafnidfiaa.lsaReads
