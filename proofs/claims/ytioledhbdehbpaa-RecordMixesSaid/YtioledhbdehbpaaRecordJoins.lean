/- RecordJoins (layer 5): which record any pages begin with. -/
import Derived.Test.YtioledhbdehbpaaRefJoin
import Derived.Test.YtioledhbdehbpaaLightPg
import Derived.Test.YtioledhbdehbpaaRawake
import Derived.IntWalk
import Derived.WalkKit
import Derived.ProofKit
import Derived.OpenShut
import Derived.ShutString
import Derived.ChangeOld
import Derived.Below
namespace Go.Proofs.Ytioledhbdehbpaa.recordJoins
open Go.RowKit Go.Proofs.Ytioledhbdehbpaa.Mem Go.Proofs.Ytioledhbdehbpaa.Oct Go.Proofs.Ytioledhbdehbpaa.Pg Go.Proofs.Ytioledhbdehbpaa.Rcd
set_option linter.unusedVariables false
set_option linter.unusedSimpArgs false
theorem jb_pos {ps : List P} {b : List Nat} {n : Nat} (h : joined ps = some (b, n)) : 1 ≤ n := by
  cases ht : told ps with
  | nil => rw [joined_nil ht] at h; cases h
  | cons q r =>
    rw [joined_of ht] at h
    split at h
    · injection h with h
      injection h with _ h2
      rw [← h2]
      simp
    · cases h
set_option maxRecDepth 20000 in
set_option maxHeartbeats 2000000 in
theorem joins_true (A : Option Addr) (n c : Nat) (w : World) (h : IsRecs w A n c 7 (PgR w)) :
    Calls Try.prog 7 #[.slice A n c] w fun e w' => e = .returned (.bool true) ∧ Below w.heap.size w w' := by
  have li := light_any A n c w h
  have HR := Lib.hid h; clear h
  have LI := Lib.hid li; clear li
  go_enter Try.func7, Try.ntmps7
  go_wp2_with fail
  refine (LI.out).mono ?_
  rintro e w1 ⟨ok, rfl, hok, m, rfl⟩
  have HB := Lib.hid (below_drewN (Below.refl w.heap.size w) m)
  cases ok
  · go_wp2_with (go_at_call 20; refine (awake5_any _).mono ?_; rintro e w2 ⟨rfl, hb2⟩; have HB2 := Lib.hid (below_up (w := w) hb2 HB.out); clear hb2)
    go_ret
    exact ⟨rfl, HB2.out⟩
  · obtain ⟨hn, hs⟩ := hok rfl
    obtain ⟨ps, hpg, hlen, hin⟩ := pgs_in HR.out hs
    have jn := fun (W : World) (hW : Below w.heap.size w W) => join_any A n c ps W ((hpg.below hW (Nat.le_refl _)).more hW.size) (by omega) hlen hin
    have rj := fun (W : World) (hW : Below w.heap.size w W) => rjoin_any A n c ps W ((hpg.below hW (Nat.le_refl _)).more hW.size) (by omega) hlen
    obtain ⟨k, hk⟩ : ∃ k, k = (jb ps).2 := ⟨_, rfl⟩
    obtain ⟨xs, hx⟩ : ∃ xs, xs = (jb ps).1 := ⟨_, rfl⟩
    obtain ⟨b, hb⟩ : ∃ b, b = (joined ps).isSome := ⟨_, rfl⟩
    have hkb : decide (0 < k) = b := by
      cases hj : joined ps with
      | none => rw [hb, hk, jb_none hj, hj]; rfl
      | some x =>
        obtain ⟨y, m⟩ := x
        have := jb_pos hj
        rw [hb, hk, jb_some hj, hj]
        simp only [Option.isSome_some, decide_eq_true_eq]
        omega
    have hkb2 : decide ((0 : Int) < (k : Int)) = b := by rw [← hkb]; simp
    rw [← hk, ← hx, ← hb] at jn
    rw [← hk, ← hx] at rj
    have JN := Lib.hid jn; clear jn
    have RJ := Lib.hid rj; clear rj
    clear hk hx hb hok hs hpg hlen hin
    go_wp2_with (first
      | (go_at_call 26; refine (JN.out _ ?hb).mono ?_; (case hb => with_reducible repeat (first | exact HB.out | refine below_drewN ?_ _ | refine pdrew ?_)); rintro e w2 ⟨v2, rfl, hs2, hb2⟩; have HB2 := Lib.hid (below_up (w := w) hb2 HB.out); obtain ⟨A2, n2, c2, rfl, hbt2, _⟩ := hs2; have HS2 := Lib.hid hbt2; clear hb2 hbt2)
      | (go_at_call 28; refine (RJ.out _ HB2.out).mono ?_; rintro e w3 ⟨v3, rfl, hs3, hb3⟩; have HB3 := Lib.hid (below_up (w := w) hb3 HB2.out); have HS2' := Lib.hid (HS2.out.below hb3 (Nat.le_refl _)); obtain ⟨A3, n3, c3, rfl, hbt3, _⟩ := hs3; have HS3 := Lib.hid hbt3; clear hb3 hbt3)
      | (go_at_call 15; refine (rsame_any A2 A3 n2 n3 c2 c3 _ _ xs xs _ HS2'.out HS3.out).mono ?_; rintro e w4 ⟨rfl, m4, rfl⟩; rw [decide_eq_true rfl])
      | (go_at_call 20; refine (awake5_any _).mono ?_; rintro e w5 ⟨rfl, hb5⟩; have HB5 := Lib.hid (below_up (w := w) hb5 (by with_reducible repeat (first | exact HB3.out | refine below_drewN ?_ _ | refine pdrew ?_))); clear hb5))
    go_ret
    exact ⟨rfl, HB5.out⟩
open Go.ChangeShapes Go.WideShapes Go.ChangeAt Go.RowKit
set_option linter.unusedVariables false
theorem own : ownKnob Try.prog.godebug = none := by kernel_rfl
theorem laidOut : laidOutB Try.prog = true := by kernel_rfl
theorem walk (a0 : Option Addr) (len0 cap0 : Nat) (w : World) (w0 : IsRecs w a0 len0 cap0 7 (PgR w)) :
    Calls Try.prog 7 #[.slice a0 len0 cap0] w fun e w' => e = .returned (.bool true) ∧ Below w.heap.size w w' := joins_true a0 len0 cap0 w w0
/-! the step from the walk to the row -/
set_option maxRecDepth 100000 in
theorem lifted (os : Os) (started : os.Started) (H : Type) (enc : TypeId × Value → H) :
    ReturnsInHanded {} Try.checked os 7 .any (Rows.recordJoinsSpec.pre6 enc Try.prog Try.f7 Rows.recordJoinsRow.domain false) (Rows.recordJoinsSpec.post enc Try.prog Try.f7 false true false false) := by
  refine returnsInHanded_of_change (C := Try.checked) own started (by kernel_rfl) Try.func7
    (ChangeSpec.witness6 (enc := enc) (C := Try.checked) false ⟨#[], #[.slice none 0 0], []⟩ 8 (by kernel_rfl) (by kernel_rfl) (by kernel_rfl) (by kernel_rfl)) ?_
  intro W base args ds gs before hval0 hW hcnd _
  have hval : ∀ (j : Nat) t v, Try.f7.params[j]? = some t → args[j]? = some v → Value.okWide Try.prog W .any base t v := hval0
  have hW' := hW
  obtain ⟨p, q, hA0, hV, rfl, hfz, hnd⟩ := hW
  have hA : DataW.TrodAll enc Try.prog W 0 (fun _ => true) true Try.f7.params.toList args.toList ds p := hA0
  rw [Try.params7] at hA hval
  obtain ⟨v0, vs0, d0, ds0, p0, q0, hargs, rfl, rfl, h0, r0⟩ := trodAll_cons hA
  obtain ⟨rfl, rfl, rfl⟩ := trodAll_nil r0
  obtain rfl : args = #[v0] := by cases args; simp_all
  obtain ⟨rfl, rfl⟩ := trodVars_none hV
  obtain ⟨a0, len0, cap0, rfl⟩ := okWide_slice Try.underlying42 (hval 0 42 v0 rfl rfl)
  have k0 := h0
  have lt0 : ∀ x ∈ p0, x.block < W.heap.size := by obtain ⟨m, hm⟩ := k0; exact DataW.trod_lt m _ _ _ hm
  have w0 : IsRecs W a0 len0 cap0 7 (PgR W) := by
    obtain ⟨fuel, hf⟩ := h0
    rcases open_slice_fields Try.underlying42 Try.underlying24 (by kernel_rfl) (by kernel_rfl) hf with ⟨hcs, _⟩ | ⟨x, l, c, m, D, Pl, hcs, _, hl, hm, hmm, _, hh⟩
    · simp [Value.cells] at hcs
      obtain ⟨rfl, rfl, rfl⟩ := hcs
      exact .inl ⟨rfl, rfl, rfl⟩
    · simp [Value.cells] at hcs
      obtain ⟨rfl, rfl, rfl⟩ := hcs
      refine .inr ⟨_, rfl, hl, hm, fun i hi j hj => ?_⟩
      obtain ⟨ys, n, _, _, _, hg⟩ := hh i (by rw [hmm, if_pos rfl]; exact hi)
      match j, hj with
      | 0, _ =>
        obtain ⟨v, y, hc, _, ht⟩ := hg 0 _ rfl
        exact ⟨v, hc, open_num_at Try.underlying3 ht⟩
      | 1, _ =>
        obtain ⟨v, y, hc, _, ht⟩ := hg 1 _ rfl
        exact ⟨v, hc, open_num_at Try.underlying3 ht⟩
      | 2, _ =>
        obtain ⟨v, y, hc, _, ht⟩ := hg 2 _ rfl
        exact ⟨v, hc, open_num_at Try.underlying3 ht⟩
      | 3, _ =>
        obtain ⟨v, y, hc, _, ht⟩ := hg 3 _ rfl
        exact ⟨v, hc, open_num_at Try.underlying3 ht⟩
      | 4, _ =>
        obtain ⟨v, y, hc, _, ht⟩ := hg 4 _ rfl
        exact ⟨v, hc, open_num_at Try.underlying3 ht⟩
      | 5, _ =>
        obtain ⟨v, y, hc, _, ht⟩ := hg 5 _ rfl
        exact ⟨v, hc, open_num_at Try.underlying3 ht⟩
      | 6, _ =>
        obtain ⟨v, y, hc, _, ht⟩ := hg 6 _ rfl
        exact ⟨v, hc, open_row_at Try.underlying22 Try.underlying5 (by kernel_rfl) ht⟩
  clear hA0 hval0
  refine (walk a0 len0 cap0 W w0).mono fun e W' ⟨he, bel⟩ => ?_
  subst he
  exact ⟨_, rfl, _, _, _, [], _, [], hW', trodAll_mk1 (shut_bool Try.underlying4 _), (trodAll_cons_mk (Below.trod laidOut (by kernel_rfl) (of_decide_eq_true (by kernel_rfl)) k0 bel lt0) trodAll_mk0), rfl, bel.frame _, fun h => by cases h⟩

theorem over : Rows.recordJoinsRow.holds Try.pinned (OpenSpec.ofChange Rows.recordJoinsSpec) :=
  OpenClaim.holds_of_wide 7 Try.f7 rfl rfl rfl rfl rfl rfl rfl ⟨rfl, rfl, rfl, rfl, rfl⟩ rfl rfl rfl rfl rfl (by kernel_rfl) Try.func7 (by kernel_rfl)
    (of_decide_eq_true (by kernel_rfl)) (by unfold Func.isWrapper; first | (rw [if_pos (by decide +kernel)]; kernel_rfl) | (rw [if_neg (by decide +kernel)]; exact ⟨rfl, rfl⟩))
    (fun os started H enc _ => lifted os started H enc)

/-- the statement -/
theorem proved : Rows.RecordJoinsSaid := over
end Go.Proofs.Ytioledhbdehbpaa.recordJoins

