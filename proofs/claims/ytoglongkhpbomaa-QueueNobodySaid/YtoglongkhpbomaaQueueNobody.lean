/- QueueNobody: for every bytes and every number the law returns true and its arguments read as before: no queue has nothing, and one that is full stays so. No condition. -/
import Derived.Test.YtoglongkhpbomaaQuAwake
import Derived.IntWalk
import Derived.WalkKit
import Derived.ProofKit
import Derived.OpenShut
import Derived.ShutString
import Derived.ChangeOld
import Derived.Below
namespace Go.Proofs.Ytoglongkhpbomaa.queueNobody
open Go.RowKit Go.Proofs.Ytoglongkhpbomaa.Mem Go.Proofs.Ytoglongkhpbomaa.Que
set_option linter.unusedVariables false
set_option linter.unusedSimpArgs false
set_option maxHeartbeats 2000000 in
theorem walk_long (a0 : Option Addr) (n0 c0 : Nat) (x : Int) (w : World) (h : 200 < n0) :
    Calls Try.prog 4 #[.slice a0 n0 c0, .int .u8 x] w fun e w' => e = .returned (.bool true) ∧ Below w.heap.size w w' := by
  have hd : decide ((200 : Int) < n0) = true := by simp; omega
  go_enter Try.func4, Try.ntmps4
  go_wp2_with (go_at_call 5; refine (awake15_any _).mono ?_; rintro e w5 ⟨rfl, hb⟩; have HB5 := Lib.hid hb; clear hb)
  go_ret
  exact ⟨rfl, HB5.out⟩
theorem putE_lt {ts : List (List Nat)} (h : ts.length < 32) : putE ts = 0 := if_pos h
theorem putE_full {ts : List (List Nat)} (h : ts.length = 32) : putE ts = 4 := if_neg (by omega)
set_option maxRecDepth 20000 in
set_option maxHeartbeats 8000000 in
theorem walk_short (a0 : Option Addr) (n0 c0 : Nat) (xs : List Nat) (x : Int) (w : World) (h0 : n0 ≤ 200) (hb : Sl w w.heap.size (.slice a0 n0 c0) xs) (hl : xs.length = n0) (hx : 0 ≤ x) (hx2 : x ≤ 255) :
    Calls Try.prog 4 #[.slice a0 n0 c0, .int .u8 x] w fun e w' => e = .returned (.bool true) ∧ Below w.heap.size w w' := by
  have hd : decide ((200 : Int) < n0) = false := by simp; omega
  have HN := Lib.hid (new_any w.heap.size w (Nat.le_refl _))
  have HP := Lib.hid (fun (W : World) (g k : Nat) (v : Value) (h : QAt W w.heap.size g v (List.replicate k xs)) (hk : k < 32) (hw : Below w.heap.size w W) => (show Calls Try.prog 7 #[ptr g, .slice a0 n0 c0] W fun e w' => e = .returned (.int .i64 0) ∧ QOut W w.heap.size g v w' (List.replicate (k + 1) xs) by
    have := put_any w.heap.size g v _ _ xs W h ((hb.below hw (Nat.le_refl _)).more hw.size) (by omega) (by simp; omega) hw.size
    rw [putE_lt (by simpa using hk), show putQ (List.replicate k xs) xs = List.replicate (k + 1) xs by unfold putQ; rw [if_pos (by simpa using hk), List.replicate_succ']] at this
    exact this))
  have HF := Lib.hid (fun (W : World) (g : Nat) (v : Value) (h : QAt W w.heap.size g v (List.replicate 32 xs)) (hw : Below w.heap.size w W) => (show Calls Try.prog 7 #[ptr g, .slice a0 n0 c0] W fun e w' => e = .returned (.int .i64 4) ∧ QOut W w.heap.size g v w' (List.replicate 32 xs) by
    have := put_any w.heap.size g v _ _ xs W h ((hb.below hw (Nat.le_refl _)).more hw.size) (by omega) (by simp) hw.size
    rw [putE_full (by simp), show putQ (List.replicate 32 xs) xs = List.replicate 32 xs by unfold putQ; rw [if_neg (by simp)]] at this
    exact this))
  have HG := Lib.hid (fun (W : World) (g : Nat) (v : Value) (h : QAt W w.heap.size g v (List.replicate 32 xs)) (hw : w.heap.size ≤ W.heap.size) => (show Calls Try.prog 12 #[ptr g, .int .i64 0] W fun e w' => e = .returned (.int .i64 4) ∧ QOut W w.heap.size g v w' (List.replicate 32 xs) by
    have := again_any w.heap.size g v _ 0 W h (fun t ht => by rw [List.eq_of_mem_replicate ht]; omega) (by simp) hw
    have ht : there 0 (List.replicate 32 xs) = true := there_iff.2 ⟨0, rfl, by simp⟩
    rw [if_pos ht, if_pos ht, putE_full (by simp), show ∀ y, putQ (List.replicate 32 xs) y = List.replicate 32 xs by intro y; unfold putQ; rw [if_neg (by simp)]] at this
    exact this))
  have HA := Lib.hid (fun (W : World) (g : Nat) (v : Value) (h : QAt W w.heap.size g v (List.replicate 32 xs)) => (show Calls Try.prog 16 #[ptr g] W fun e w' => ∃ A c, e = .returned (.slice A 32 c) ∧ Below W.heap.size W w' by
    refine (all_any w.heap.size g v _ W h (fun t ht => by rw [List.eq_of_mem_replicate ht]; omega) (by simp)).mono ?_
    rintro e w' ⟨A, c, rfl, _, hb⟩
    exact ⟨A, c, by simp, hb⟩))
  obtain ⟨r, hr, hr5⟩ : ∃ r : Nat, x.tmod 5 = (r : Int) ∧ r < 5 := ⟨(x.tmod 5).toNat, by have := Int.tmod_nonneg 5 hx; omega, by have := Int.tmod_lt_of_pos x (by decide : (0:Int) < 5); omega⟩
  clear hb hl
  go_enter Try.func4, Try.ntmps4
  go_wp2_with (first
    | (go_at_call 6; refine (HN.out).mono ?_; rintro e w1 ⟨rfl, h1, hb1⟩; have HQ1 := Lib.hid h1; have HB1 := Lib.hid hb1; clear h1 hb1))
  go_loopw [6] (fun i wr => ∃ k : Nat, k ≤ 32 ∧ i = .int .i64 k ∧ ∃ v, QAt wr w.heap.size w.heap.size v (List.replicate k xs) ∧ Below w.heap.size w wr) (fun i _ => 32 - (intOf i).toNat)
  case atStart => exact ⟨0, by omega, rfl, _, HQ1.out, HB1.out⟩
  case round =>
    obtain ⟨k, hk, rfl, v, hq, hb⟩ := hrel
    have HQ := Lib.hid hq; clear hq
    have HB := Lib.hid hb; clear hb
    by_cases hlt : k < 32
    · go_wp2_with (go_at_call 7; refine (HP.out _ _ _ _ HQ.out hlt HB.out).mono ?_; rintro e w2 ⟨rfl, ho⟩; have HO := Lib.hid ho; clear ho)
      go_roundw
      case rel =>
        obtain ⟨v2, h2, hb2, _⟩ := qout_low HQ.out HO.out HB.out.size
        exact ⟨k + 1, by omega, by go_num, v2, h2, HB.out.trans hb2⟩
      case measure => simp [intOf]; omega
    · have e32 : (k : Int) = 32 := by omega
      rw [e32]
      clear e32
      obtain rfl : k = 32 := by omega
      go_wp2_with (fail)
      go_loopw [7] (fun i wx => ∃ k : Nat, k ≤ r ∧ i = .int .i64 k ∧ ∃ v, QAt wx w.heap.size w.heap.size v (List.replicate 32 xs) ∧ Below w.heap.size w wx) (fun i _ => r - (intOf i).toNat)
      case atStart => exact ⟨0, by omega, rfl, v, HQ.out, HB.out⟩
      case round =>
        obtain ⟨j, hj, rfl, v1, hq, hb⟩ := hrel
        have HQ1 := Lib.hid hq; clear hq
        have HB1 := Lib.hid hb; clear hb
        clear HQ HB
        by_cases hlt2 : j < r
        · go_wp2_with (first
            | (go_at_call 7; refine (HF.out _ _ _ HQ1.out HB1.out).mono ?_; rintro e w2 ⟨rfl, ho⟩; obtain ⟨v2, h2, hb2, _⟩ := qout_low HQ1.out ho HB1.out.size; have HQ2 := Lib.hid h2; have HB2 := Lib.hid (HB1.out.trans hb2); clear ho h2 hb2)
            | (go_at_call 12; refine (HG.out _ _ _ HQ2.out HB2.out.size).mono ?_; rintro e w3 ⟨rfl, ho⟩; obtain ⟨v3, h3, hb3, _⟩ := qout_low HQ2.out ho HB2.out.size; have HQ3 := Lib.hid h3; have HB3 := Lib.hid (HB2.out.trans hb3); clear ho h3 hb3))
          go_roundw
          case rel => exact ⟨j + 1, by omega, by go_num, v3, HQ3.out, HB3.out⟩
          case measure => simp [intOf]; omega
        · obtain rfl : j = r := by omega
          go_wp2_with (first
            | (go_at_call 14; refine (clear_nil _).mono ?_; rintro e w2 ⟨rfl, rfl⟩)
            | (go_at_call 9; refine (take_nil 0 _).mono ?_; rintro e w2 ⟨rfl, rfl⟩)
            | (have HX := HB2; go_at_call 16; refine (all_nil _).mono ?_; rintro e w3 ⟨rfl, rfl⟩; clear HX)
            | (go_at_call 16; refine (HA.out _ _ _ HQ1.out).mono ?_; rintro e w2 ⟨A2, c2, rfl, hb2⟩; have HB2 := Lib.hid (HB1.out.trans (hb2.mono HB1.out.size)); clear hb2 HQ1)
            | (go_at_call 7; refine (put_nil _ _).mono ?_; rintro e w3 ⟨rfl, rfl⟩)
            | (go_at_call 12; refine (again_nil 0 _).mono ?_; rintro e w3 ⟨rfl, rfl⟩)
            | (go_at_call 13; refine (drop_nil 0 _).mono ?_; rintro e w3 ⟨rfl, rfl⟩)
            | (go_at_call 5; refine (awake15_any _).mono ?_; rintro e w5 ⟨rfl, hb⟩; have HB5 := Lib.hid hb; clear hb))
          go_ret
          exact ⟨rfl, HB2.out.trans (HB5.out.mono HB2.out.size)⟩
theorem walk (a0 : Option Addr) (n0 c0 : Nat) (z0 : List Int) (x : Int) (w : World) (w0 : IsRow .u8 w a0 n0 c0 z0) (w1 : (Lit.int .u8 x).wf = true) :
    Calls Try.prog 4 #[.slice a0 n0 c0, .int .u8 x] w fun e w' => e = .returned (.bool true) ∧ Below w.heap.size w w' := by
  by_cases h : n0 ≤ 200
  · obtain ⟨xs, hs, hl⟩ := sl_of_row w0 (by omega)
    have hwf : 0 ≤ x ∧ x ≤ 255 := by simpa [Lit.wf, IntKind.min, IntKind.max, IntKind.signed, go_sem] using w1
    exact walk_short a0 n0 c0 xs x w h hs hl hwf.1 hwf.2
  · exact walk_long a0 n0 c0 x w (by omega)
open Go.ChangeShapes Go.WideShapes Go.ChangeAt Go.RowKit
theorem own : ownKnob Try.prog.godebug = none := by kernel_rfl
theorem laidOut : laidOutB Try.prog = true := by kernel_rfl
/-! the step from the walk to the row -/
set_option maxRecDepth 100000 in
theorem lifted (os : Os) (started : os.Started) (H : Type) (enc : TypeId × Value → H) :
    ReturnsInHanded {} Try.checked os 4 .any (Rows.queueNobodySpec.pre6 enc Try.prog Try.f4 Rows.queueNobodyRow.domain false) (Rows.queueNobodySpec.post enc Try.prog Try.f4 false true false false) := by
  refine returnsInHanded_of_change (C := Try.checked) own started (by kernel_rfl) Try.func4
    (ChangeSpec.witness6 (enc := enc) (C := Try.checked) false ⟨#[], #[.slice none 0 0, .int .u8 0], []⟩ 8 (by kernel_rfl) (by kernel_rfl) (by kernel_rfl) (by kernel_rfl)) ?_
  intro W base args ds gs before hval0 hW hcnd _
  have hval : ∀ (j : Nat) t v, Try.f4.params[j]? = some t → args[j]? = some v → Value.okWide Try.prog W .any base t v := hval0
  have hW' := hW
  obtain ⟨p, q, hA0, hV, rfl, hfz, hnd⟩ := hW
  have hA : DataW.TrodAll enc Try.prog W 0 (fun _ => true) true Try.f4.params.toList args.toList ds p := hA0
  rw [Try.params4] at hA hval
  obtain ⟨v0, vs0, d0, ds0, p0, q0, hargs, rfl, rfl, h0, r0⟩ := trodAll_cons hA
  obtain ⟨v1, vs1, d1, ds1, p1, q1, rfl, rfl, rfl, h1, r1⟩ := trodAll_cons r0
  obtain ⟨rfl, rfl, rfl⟩ := trodAll_nil r1
  obtain rfl : args = #[v0, v1] := by cases args; simp_all
  obtain ⟨rfl, rfl⟩ := trodVars_none hV
  obtain ⟨a0, len0, cap0, rfl⟩ := okWide_slice Try.underlying27 (hval 0 27 v0 rfl rfl)
  have k0 := h0
  have lt0 : ∀ x ∈ p0, x.block < W.heap.size := by obtain ⟨m, hm⟩ := k0; exact DataW.trod_lt m _ _ _ hm
  obtain ⟨z0, w0⟩ : ∃ zs, IsRow .u8 W a0 len0 cap0 zs := by
    obtain ⟨fuel, hf⟩ := h0
    rcases open_ints Try.underlying27 Try.underlying5 (by kernel_rfl) hf with ⟨hcs, _⟩ | ⟨x, l, c, zs, hcs, _, hl, hm, hz, _, hcell, hwz⟩
    · simp [Value.cells] at hcs
      obtain ⟨rfl, rfl, rfl⟩ := hcs
      exact ⟨[], .inl ⟨rfl, rfl, rfl, rfl⟩⟩
    · simp [Value.cells] at hcs
      obtain ⟨rfl, rfl, rfl⟩ := hcs
      exact ⟨zs, .inr ⟨_, rfl, hl, hm, by simpa using hz, hcell, hwz⟩⟩
  obtain ⟨a1, rfl, rfl, rfl, w1⟩ := open_int Try.underlying5 (hval 1 5 v1 rfl rfl) h1
  clear hA0 hval0
  refine (walk a0 len0 cap0 z0 a1 W w0 w1).mono fun e W' ⟨he, bel⟩ => ?_
  subst he
  exact ⟨_, rfl, _, _, _, [], _, [], hW', trodAll_mk1 (shut_bool Try.underlying4 _), (trodAll_cons_mk (Below.trod laidOut (by kernel_rfl) (of_decide_eq_true (by kernel_rfl)) k0 bel lt0) (trodAll_cons_mk (shut_int Try.underlying5 w1) trodAll_mk0)), rfl, bel.frame _, fun h => by cases h⟩

theorem over : Rows.queueNobodyRow.holds Try.pinned (OpenSpec.ofChange Rows.queueNobodySpec) :=
  OpenClaim.holds_of_wide 4 Try.f4 rfl rfl rfl rfl rfl rfl rfl ⟨rfl, rfl, rfl, rfl, rfl⟩ rfl rfl rfl rfl rfl (by kernel_rfl) Try.func4 (by kernel_rfl)
    (of_decide_eq_true (by kernel_rfl)) (by unfold Func.isWrapper; first | (rw [if_pos (by decide +kernel)]; kernel_rfl) | (rw [if_neg (by decide +kernel)]; exact ⟨rfl, rfl⟩))
    (fun os started H enc _ => lifted os started H enc)

/-- the statement -/
theorem proved : Rows.QueueNobodySaid := over
end Go.Proofs.Ytoglongkhpbomaa.queueNobody
