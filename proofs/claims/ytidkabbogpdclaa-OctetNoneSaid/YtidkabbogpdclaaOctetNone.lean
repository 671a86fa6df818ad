/- OctetNone: for every bytes and every number the law returns true and its arguments read as before: a text that is too long is not put, and no reader reads nothing. No condition. -/
import Derived.Test.YtidkabbogpdclaaAwake
import Derived.WalkKit
import Derived.ProofKit
import Derived.OpenShut
import Derived.ShutString
import Derived.ChangeOld
import Derived.Below
namespace Go.Proofs.Ytidkabbogpdclaa.octetNone
open Go.Proofs.Ytidkabbogpdclaa.Mem Go.Proofs.Ytidkabbogpdclaa.Oct
open Go.ChangeShapes Go.WideShapes Go.ChangeAt Go.RowKit
open Go.ChangeMaps (open_string shut_string)
set_option linter.unusedVariables false

theorem own : ownKnob Try.prog.godebug = none := by kernel_rfl
theorem laidOut : laidOutB Try.prog = true := by kernel_rfl
theorem made_vals (N : Nat) : (madeCells (Value.int .u8 0).cells (N * 1)).toList = vals (List.replicate N 0) := by
  have h : ∀ n, (madeCells (Value.int .u8 0).cells n).toList = vals (List.replicate n 0) := by
    intro n
    simp only [madeCells, vals, Value.cells, Array.toList_map, Array.toList_range, List.map_replicate]
    apply List.ext_getElem
    · simp
    · intro i h1 h2
      simp [Nat.mod_one]
  rw [Nat.mul_one]
  exact h N
theorem made_sl {w : World} {base N : Nat} {v : Value} (h : w.ownsRow base 5 1 v N (madeCells (Value.int .u8 0).cells (N * 1)).toList) (hN : N ≤ 1000000) : Sl w w.heap.size v (List.replicate N 0) := by
  rw [made_vals] at h
  exact sl_own h (by intro x hx; rw [List.eq_of_mem_replicate hx]; omega) hN
theorem text_long (v tv : Value) (xs : List Nat) (N : Nat) (w : World) (h : Sl w w.heap.size v xs) (ht : Sl w w.heap.size tv (List.replicate N 0)) (hl : xs.length ≤ 100000) (h1 : 65536 ≤ N) (h2 : N ≤ 100000) :
    Calls Try.prog 19 #[v, tv] w fun e w' => ∃ v', e = .returned (.tuple #[v', .bool false]) ∧ Sl w' w'.heap.size v' xs ∧ Below w.heap.size w w' := by
  refine (put_text v tv xs _ w h ht hl (by rw [List.length_replicate]; exact h2)).mono ?_
  rintro e w' ⟨v', rfl, hs, hb⟩
  rw [show putText xs (List.replicate N 0) = xs by unfold putText; rw [if_neg (by rw [List.length_replicate]; omega)]] at hs
  exact ⟨v', by rw [decide_eq_false (by rw [List.length_replicate]; omega)], hs, hb⟩
theorem text_full (tv : Value) (N : Nat) (hN : N = 65535) (w : World) (ht : Sl w w.heap.size tv (List.replicate N 0)) :
    Calls Try.prog 19 #[.slice none 0 0, tv] w fun e w' => ∃ A c, e = .returned (.tuple #[.slice A 65537 c, .bool true]) ∧ Below w.heap.size w w' := by
  refine (put_text _ tv [] _ w (sl_nil _ _) ht (by simp) (by rw [List.length_replicate]; omega)).mono ?_
  rintro e w' ⟨v', rfl, hs, hb⟩
  obtain ⟨A, c, hv, _⟩ := hs.len
  have hl : (putText [] (List.replicate N 0)).length = 65537 := by
    unfold putText
    rw [if_pos (by rw [List.length_replicate]; omega)]
    simp only [List.length_append, be_length, List.length_nil, List.length_replicate]
    omega
  rw [hl] at hv
  subst hv
  exact ⟨A, c, by rw [decide_eq_true (by rw [List.length_replicate]; omega)], hb⟩
set_option maxHeartbeats 400000 in
theorem walk_long (a0 : Option Addr) (n0 c0 : Nat) (x : Value) (w : World) (h : 500 < n0) :
    Calls Try.prog 6 #[.slice a0 n0 c0, x] w fun e w' => e = .returned (.bool true) ∧ Below w.heap.size w w' := by
  have hd : decide ((500 : Int) < n0) = true := by simp; omega
  go_enter Try.func6, Try.ntmps6
  go_wp2_with (go_at_call 8; refine (awake_any _).mono ?_; rintro e w' ⟨rfl, hb⟩)
  go_ret
  exact ⟨rfl, hb⟩
theorem same_true (v v' : Value) (A A' : Option Addr) (n n' c c' : Nat) (B B' : Nat) (xs : List Nat) (w : World) (h : Sl w B v xs) (h' : Sl w B' v' xs) :
    Calls Try.prog 11 #[v, v'] w fun e w' => e = .returned (.bool true) ∧ ∃ m, w' = w.drewN m := by
  obtain ⟨A, n, c, rfl, hb, _⟩ := h
  obtain ⟨A', n', c', rfl, hb', _⟩ := h'
  have := rsame_any A A' n n' c c' B B' xs xs w hb hb'
  rwa [decide_eq_true rfl] at this
set_option maxHeartbeats 1000000 in
theorem walk_short (a0 : Option Addr) (n0 c0 : Nat) (xs : List Nat) (m : Nat) (w : World) (h0 : n0 ≤ 500) (hm : m < 256) (b0 : Sl w w.heap.size (.slice a0 n0 c0) xs) :
    Calls Try.prog 6 #[.slice a0 n0 c0, .int .u8 (m : Nat)] w fun e w' => e = .returned (.bool true) ∧ Below w.heap.size w w' := by
  have hd : decide ((500 : Int) < n0) = false := by simp; omega
  have hx : xs.length = n0 := by
    obtain ⟨A, n, c, e, hb, _⟩ := b0
    injection e with _ e _
    rw [e]; exact hb.1
  obtain ⟨i0, hi, hz0, hz1, hz2⟩ := info_parts Try.info5
  have t1 := fun (tv : Value) (W : World) (hW : Below w.heap.size w W) (ht : Sl W W.heap.size tv (List.replicate (65536 + m) 0)) => text_long (.slice a0 n0 c0) tv xs (65536 + m) W ((b0.below hW (Nat.le_refl _)).more hW.size) ht (by omega) (by omega) (by omega)
  obtain ⟨N, hN⟩ : ∃ N, N = 65535 := ⟨_, rfl⟩
  have t2 := fun (tv : Value) (W : World) (ht : Sl W W.heap.size tv (List.replicate N 0)) => text_full tv N hN W ht
  have t3 := fun (v : Value) (B : Nat) (W : World) (hW : Below w.heap.size w W) (hv : Sl W B v xs) => same_true v (.slice a0 n0 c0) none none 0 0 0 0 B w.heap.size xs W hv (b0.below hW (Nat.le_refl _))
  have T1 := Lib.hid t1; clear t1
  have T2 := Lib.hid t2; clear t2
  have T3 := Lib.hid t3; clear t3
  have HN := Lib.hid hN; clear hN
  have HI := Lib.hid hi; clear hi
  have HZ0 := Lib.hid hz0; clear hz0
  have HZ1 := Lib.hid hz1; clear hz1
  have HZ2 := Lib.hid hz2; clear hz2
  clear b0
  go_enter Try.func6, Try.ntmps6
  go_wp2_with (first
    | (at_make; refine wpList_make_full _ rfl (.tmp 18) _ 22 rfl w.heap.size 5 i0 (.int .u8 0) 1 Try.underlying22 HI.out HZ0.out HZ1.out _ _ _ _ (65536 + m) rfl rfl (by omega) (by omega) (by rw [HZ2.out]; omega) (by unfold maxLen; omega) (Nat.le_refl _) ?_; intro w1 hown1 hg1; have hb1 : Below w.heap.size w w1 := ((Below.refl _ _).grown hg1 (Nat.le_refl _) (by simp)); have HS1 := Lib.hid (made_sl hown1 (by omega)); clear hown1 hg1; have HB1 := Lib.hid hb1; clear hb1)
    | (go_at_call_of 19 a0; refine (T1.out _ w1 HB1.out HS1.out).mono ?_; rintro e w2 ⟨x, rfl, hs2, hb2⟩; have HS2 := Lib.hid hs2; clear hs2; have HB2 := Lib.hid (HB1.out.trans (hb2.mono HB1.out.size)); clear hb2)
    | (at_make; refine wpList_make_full _ rfl _ _ 22 rfl w2.heap.size 5 i0 (.int .u8 0) 1 Try.underlying22 HI.out HZ0.out HZ1.out _ _ _ _ N rfl rfl (by rw [HN.out]; rfl) (by rw [HN.out]; rfl) (by rw [HZ2.out, HN.out]; omega) (by rw [HN.out]; unfold maxLen; omega) (Nat.le_refl _) ?_; intro w3 hown3 hg3; have hb3 : Below w2.heap.size w2 w3 := ((Below.refl _ _).grown hg3 (Nat.le_refl _) (by simp)); have HS3 := Lib.hid (made_sl hown3 (by rw [HN.out]; omega)); clear hown3 hg3; have HB3 := Lib.hid (HB2.out.trans (hb3.mono HB2.out.size)); have HS2' := Lib.hid (HS2.out.below hb3 (Nat.le_refl _)); have hz3 := hb3.size; clear hb3)
    | (go_at_call 19; refine (T2.out _ w3 HS3.out).mono ?_; rintro e w4 ⟨Y, cy, rfl, hb4⟩; have HB4 := Lib.hid (HB3.out.trans (hb4.mono HB3.out.size)); have HS4 := Lib.hid (HS2'.out.below hb4 hz3); clear hb4)
    | (go_at_call 11; refine (T3.out _ _ w4 HB4.out HS4.out).mono ?_; rintro e w5 ⟨rfl, m5, rfl⟩)
    | (go_at_call 14; refine (num_none 1 _).mono ?_; rintro e w6 ⟨rfl, rfl⟩)
    | (go_at_call 12; refine (text_none _).mono ?_; rintro e w6 ⟨rfl, rfl⟩)
    | (go_at_call 15; refine (left_none _).mono ?_; rintro e w6 ⟨rfl, rfl⟩)
    | (go_at_call 16; refine (wrong_none _).mono ?_; rintro e w6 ⟨rfl, rfl⟩)
    | (go_at_call 17; refine (done_none _).mono ?_; rintro e w6 ⟨rfl, rfl⟩)
    | (go_at_call 8; refine (awake_any _).mono ?_; rintro e w7 ⟨rfl, hb7⟩))
  go_ret
  have hb5 := below_drewN HB4.out m5
  exact ⟨rfl, hb5.trans (hb7.mono hb5.size)⟩
theorem walk (a0 : Option Addr) (len0 cap0 : Nat) (z0 : List Int) (a1 : Int) (w : World) (w0 : IsRow .u8 w a0 len0 cap0 z0) (w1 : (Lit.int .u8 a1).wf = true) :
    Calls Try.prog 6 #[.slice a0 len0 cap0, .int .u8 a1] w fun e w' => e = .returned (.bool true) ∧ Below w.heap.size w w' := by
  by_cases h : 500 < len0
  · exact walk_long a0 len0 cap0 _ w h
  · obtain ⟨xs, hs, hl⟩ := sl_of_row w0 (by omega)
    have hr := Go.bounds_u8 w1
    obtain ⟨m, rfl⟩ : ∃ m : Nat, a1 = m := ⟨a1.toNat, by omega⟩
    exact walk_short a0 len0 cap0 xs m w (by omega) (by omega) hs
/-! the step from the walk to the row -/
set_option maxRecDepth 100000 in
theorem lifted (os : Os) (started : os.Started) (H : Type) (enc : TypeId × Value → H) :
    ReturnsInHanded {} Try.checked os 6 .any (Rows.octetNoneSpec.pre6 enc Try.prog Try.f6 Rows.octetNoneRow.domain false) (Rows.octetNoneSpec.post enc Try.prog Try.f6 false true false false) := by
  refine returnsInHanded_of_change (C := Try.checked) own started (by kernel_rfl) Try.func6
    (ChangeSpec.witness6 (enc := enc) (C := Try.checked) false ⟨#[], #[.slice none 0 0, .int .u8 0], []⟩ 8 (by kernel_rfl) (by kernel_rfl) (by kernel_rfl) (by kernel_rfl)) ?_
  intro W base args ds gs before hval0 hW hcnd _
  have hval : ∀ (j : Nat) t v, Try.f6.params[j]? = some t → args[j]? = some v → Value.okWide Try.prog W .any base t v := hval0
  have hW' := hW
  obtain ⟨p, q, hA0, hV, rfl, hfz, hnd⟩ := hW
  have hA : DataW.TrodAll enc Try.prog W 0 (fun _ => true) true Try.f6.params.toList args.toList ds p := hA0
  rw [Try.params6] at hA hval
  obtain ⟨v0, vs0, d0, ds0, p0, q0, hargs, rfl, rfl, h0, r0⟩ := trodAll_cons hA
  obtain ⟨v1, vs1, d1, ds1, p1, q1, rfl, rfl, rfl, h1, r1⟩ := trodAll_cons r0
  obtain ⟨rfl, rfl, rfl⟩ := trodAll_nil r1
  obtain rfl : args = #[v0, v1] := by cases args; simp_all
  obtain ⟨rfl, rfl⟩ := trodVars_none hV
  obtain ⟨a0, len0, cap0, rfl⟩ := okWide_slice Try.underlying22 (hval 0 22 v0 rfl rfl)
  have k0 := h0
  have lt0 : ∀ x ∈ p0, x.block < W.heap.size := by obtain ⟨m, hm⟩ := k0; exact DataW.trod_lt m _ _ _ hm
  obtain ⟨z0, w0⟩ : ∃ zs, IsRow .u8 W a0 len0 cap0 zs := by
    obtain ⟨fuel, hf⟩ := h0
    rcases open_ints Try.underlying22 Try.underlying5 (by kernel_rfl) hf with ⟨hcs, _⟩ | ⟨x, l, c, zs, hcs, _, hl, hm, hz, _, hcell, hwz⟩
    · simp [Value.cells] at hcs
      obtain ⟨rfl, rfl, rfl⟩ := hcs
      exact ⟨[], .inl ⟨rfl, rfl, rfl, rfl⟩⟩
    · simp [Value.cells] at hcs
      obtain ⟨rfl, rfl, rfl⟩ := hcs
      exact ⟨zs, .inr ⟨_, rfl, hl, hm, by simpa using hz, hcell, hwz⟩⟩
  obtain ⟨a1, rfl, rfl, rfl, w1⟩ := open_int Try.underlying5 (hval 1 5 v1 rfl rfl) h1
  clear hA0 hval0
  refine (walk a0 len0 cap0 z0 a1 W w0 w1).mono fun e W' ⟨he, bel⟩ => ?_
  subst he
  exact ⟨_, rfl, _, _, _, [], _, [], hW', trodAll_mk1 (shut_bool Try.underlying4 _), (trodAll_cons_mk (Below.trod laidOut (by kernel_rfl) (of_decide_eq_true (by kernel_rfl)) k0 bel lt0) (trodAll_cons_mk (shut_int Try.underlying5 w1) trodAll_mk0)), rfl, bel.frame _, fun h => by cases h⟩

theorem over : Rows.octetNoneRow.holds Try.pinned (OpenSpec.ofChange Rows.octetNoneSpec) :=
  OpenClaim.holds_of_wide 6 Try.f6 rfl rfl rfl rfl rfl rfl rfl ⟨rfl, rfl, rfl, rfl, rfl⟩ rfl rfl rfl rfl rfl (by kernel_rfl) Try.func6 (by kernel_rfl)
    (of_decide_eq_true (by kernel_rfl)) (by unfold Func.isWrapper; first | (rw [if_pos (by decide +kernel)]; kernel_rfl) | (rw [if_neg (by decide +kernel)]; exact ⟨rfl, rfl⟩))
    (fun os started H enc _ => lifted os started H enc)

/-- the statement -/
theorem proved : Rows.OctetNoneSaid := over
end Go.Proofs.Ytidkabbogpdclaa.octetNone
