/- CheckOf: for every slice of bytes and every two numbers the law returns true and its arguments read as before: check.Of, whole and in three parts, answers the document's check. No condition. -/
import Derived.Test.YtkonbnpbojepbaaCut
import Derived.Deep.RegionHeld3
import Derived.WalkKit
import Derived.ProofKit
import Derived.OpenShut
import Derived.ShutString
import Derived.ChangeOld
import Derived.Below
namespace Go.Proofs.Ytkonbnpbojepbaa.checkOf
open Go.Proofs.Ytkonbnpbojepbaa.Crc
open Go.ChangeShapes Go.WideShapes Go.ChangeAt Go.RowKit
open Go.ChangeMaps (open_string shut_string)
set_option linter.unusedVariables false

theorem own : ownKnob Try.prog.godebug = none := by kernel_rfl
theorem laidOut : laidOutB Try.prog = true := by kernel_rfl


theorem pts_three {W : World} {B g : Nat} {p q r : Part} (h0 : W.cell? ⟨g, 0, none⟩ = some p.val) (h1 : W.cell? ⟨g, 1, none⟩ = some q.val) (h2 : W.cell? ⟨g, 2, none⟩ = some r.val)
    (hp : Bts W B p.A p.n p.xs) (hq : Bts W B q.A q.n q.xs) (hr : Bts W B r.A r.n r.xs) : Pts W B (some ⟨g, 0, none⟩) 3 [p, q, r] := by
  refine ⟨rfl, by omega, fun _ => ⟨g, 0, rfl, fun i hi => ?_⟩, ?_⟩
  · rw [Nat.zero_add]
    match i, hi with
    | 0, _ => exact h0
    | 1, _ => exact h1
    | 2, _ => exact h2
  · intro z hz
    simp only [List.mem_cons, List.not_mem_nil, or_false] at hz
    rcases hz with rfl | rfl | rfl
    · exact hp
    · exact hq
    · exact hr
theorem flat_three (xs : List Nat) (i k : Nat) (hik : i ≤ k) : xs.take i ++ ((xs.drop i).take (k - i) ++ xs.drop k) = xs := by
  have h1 : (xs.drop i).drop (k - i) = xs.drop k := by rw [List.drop_drop]; congr 1; omega
  rw [← h1, List.take_append_drop, List.take_append_drop]
theorem cell_drew (w : World) (p : Addr) : w.drew.cell? p = w.cell? p := rfl
theorem same1 (w : World) (X : Obj) : ∀ p : Addr, p.block < w.heap.size → ((w.alloc X).drew).cell? p = w.cell? p :=
  fun p hp => (cell_drew _ p).trans (World.cell?_alloc_lt w X p hp)
theorem same2 (w : World) (X Y : Obj) : ∀ p : Addr, p.block < w.heap.size → (((w.alloc X).alloc Y).drew).cell? p = w.cell? p :=
  fun p hp => (cell_drew _ p).trans ((World.cell?_alloc_lt _ Y p (by simp; omega)).trans (World.cell?_alloc_lt w X p hp))
set_option maxHeartbeats 1000000 in
theorem walk_short (a0 : Option Addr) (len0 cap0 : Nat) (x y : Nat) (xs : List Nat) (w : World) (h : len0 ≤ 1500) (hc : len0 ≤ cap0) (hm : cap0 ≤ maxLen) (hx : x < 65536) (hy : y < 65536) (hb : Bts w w.heap.size a0 len0 xs) :
    Calls Try.prog 3 #[.slice a0 len0 cap0, .int .u16 (x : Int), .int .u16 (y : Int)] w fun e w' => e = .returned (.bool true) ∧ Below w.heap.size w w' := by
  have c1 := of_one (W := (w.alloc (.cells #[.slice a0 len0 cap0] 22)).drew) (g := w.heap.size) (n := len0) (c := cap0) (A := a0) (xs := xs) (B := w.heap.size) (by go_simp) (hb.alloc (Nat.le_refl _) _)
  have c2 := fun (W : World) (hW : ∀ p : Addr, p.block < w.heap.size → W.cell? p = w.cell? p) => ref_any a0 len0 cap0 _ xs W (hb.keep hW)
  obtain ⟨q, hq⟩ : ∃ q, q = crc xs := ⟨_, rfl⟩
  rw [← hq] at c1 c2
  have HQ := Lib.hid hq; clear hq
  have C1 := Lib.hid c1; clear c1
  have C2 := Lib.hid c2; clear c2
  have HB := Lib.hid hb; clear hb
  unfold maxLen at hm
  have i0 : 0 ≤ (x : Int) % ((len0 : Int) + 1) := Int.emod_nonneg _ (by omega)
  have i1 : (x : Int) % ((len0 : Int) + 1) < len0 + 1 := Int.emod_lt_of_pos _ (by omega)
  have k0 : 0 ≤ (y : Int) % ((len0 : Int) + 1 - (x : Int) % ((len0 : Int) + 1)) := Int.emod_nonneg _ (by omega)
  have k1 : (y : Int) % ((len0 : Int) + 1 - (x : Int) % ((len0 : Int) + 1)) < (len0 : Int) + 1 - (x : Int) % ((len0 : Int) + 1) := Int.emod_lt_of_pos _ (by omega)
  go_enter Try.func3, Try.ntmps3
  go_wp2
  obtain ⟨i, hi⟩ : ∃ i : Nat, (x : Int) % ((len0 : Int) + 1) = i := Int.eq_ofNat_of_zero_le i0
  obtain ⟨k, hk⟩ : ∃ k : Nat, (x : Int) % ((len0 : Int) + 1) + (y : Int) % ((len0 : Int) + 1 - (x : Int) % ((len0 : Int) + 1)) = k := Int.eq_ofNat_of_zero_le (by omega)
  rw [hk, hi]
  obtain ⟨A1, e1, b1⟩ := cut_h HB.out i (by omega) hc
  obtain ⟨A2, e2, b2⟩ := cut_lh HB.out i k (by omega) (by omega) hc
  obtain ⟨A3, e3, b3⟩ := cut_l HB.out k (by omega) hc
  have hik : i ≤ k := by omega
  have c3 := of_any (some ⟨w.heap.size + 1, 0, none⟩) 3 3 w.heap.size [⟨A1, i, cap0, xs.take i⟩, ⟨A2, k - i, cap0 - i, (xs.drop i).take (k - i)⟩, ⟨A3, len0 - k, cap0 - k, xs.drop k⟩]
    (((w.alloc (.cells #[.slice a0 len0 cap0] 22)).alloc (.cells #[.slice A1 i cap0, .slice A2 (k - i) (cap0 - i), .slice A3 (len0 - k) (cap0 - k)] 22)).drew)
    (pts_three (by go_simp; rfl) (by go_simp; rfl) (by go_simp; rfl) (b1.keep (same2 w _ _)) (b2.keep (same2 w _ _)) (b3.keep (same2 w _ _)))
  rw [show flat [⟨A1, i, cap0, xs.take i⟩, ⟨A2, k - i, cap0 - i, (xs.drop i).take (k - i)⟩, ⟨A3, len0 - k, cap0 - k, xs.drop k⟩] = xs by simp [flat, flat_three xs i k hik], ← HQ.out] at c3
  have C3 := Lib.hid c3; clear c3
  clear b1 b2 b3 hik
  clear hi hk i0 i1 k0 k1 h hc hm hx hy
  go_region_held3 (fun W => ∀ p : Addr, p.block < w.heap.size → W.cell? p = w.cell? p) ((intro p hp; first | exact rfl | exact same1 w _ p hp | exact same2 w _ _ p hp | exact (Below.cell ‹Below _ _ _› (by first | omega | (simp; omega))).trans (same2 w _ _ p hp))) ((first
    | (go_at_call_of 8 (Value.slice (some ⟨w.heap.size, 0, none⟩) 1 1); refine (C1.out).mono ?_; rintro e w' ⟨rfl, rfl⟩)
    | (go_at_call 8; refine (C3.out).mono ?_; rintro e w' ⟨rfl, rfl⟩)
    | (go_at_call 9; (first | (with_reducible refine (C2.out _ (same1 w _)).mono ?_) | (with_reducible refine (C2.out _ (same2 w _ _)).mono ?_)); rintro e w' ⟨rfl, rfl⟩)
    | (go_at_call 7; refine (awake_any _).mono ?_; rintro e w4 ⟨rfl, hb4⟩)))
  go_wp2
  go_ret
  have hb5 : Below w.heap.size w ((w.alloc (.cells #[.slice a0 len0 cap0] 22)).alloc (.cells #[.slice A1 i cap0, .slice A2 (k - i) (cap0 - i), .slice A3 (len0 - k) (cap0 - k)] 22)).drew :=
    (((Below.refl _ _).alloc (Nat.le_refl _) _).alloc (by simp) _).drew
  exact ⟨rfl, hb5.trans (hb4.mono (by simp; omega))⟩
set_option maxHeartbeats 400000 in
theorem walk_long (a0 : Option Addr) (len0 cap0 : Nat) (a1 a2 : Int) (w : World) (h : 1500 < len0) :
    Calls Try.prog 3 #[.slice a0 len0 cap0, .int .u16 a1, .int .u16 a2] w fun e w' => e = .returned (.bool true) ∧ Below w.heap.size w w' := by
  go_enter Try.func3, Try.ntmps3
  go_wp2_with (go_at_call 7; refine (awake_any _).mono ?_; rintro e w' ⟨rfl, hb⟩)
  go_ret
  exact ⟨rfl, hb⟩
theorem walk (a0 : Option Addr) (len0 cap0 : Nat) (z0 : List Int) (a1 : Int) (a2 : Int) (w : World) (w0 : IsRow .u8 w a0 len0 cap0 z0) (w1 : (Lit.int .u16 a1).wf = true) (w2 : (Lit.int .u16 a2).wf = true) :
    Calls Try.prog 3 #[.slice a0 len0 cap0, .int .u16 a1, .int .u16 a2] w fun e w' => e = .returned (.bool true) ∧ Below w.heap.size w w' := by
  by_cases h : 1500 < len0
  · exact walk_long a0 len0 cap0 a1 a2 w h
  · obtain ⟨xs, hb, hc, hm⟩ := bts_of_row w0 (by omega)
    have b1 := Go.bounds_u16 w1
    have b2 := Go.bounds_u16 w2
    obtain ⟨x, rfl⟩ := Int.eq_ofNat_of_zero_le b1.1
    obtain ⟨y, rfl⟩ := Int.eq_ofNat_of_zero_le b2.1
    exact walk_short a0 len0 cap0 x y xs w (by omega) hc hm (by omega) (by omega) hb

/-! the step from the walk to the row -/
set_option maxRecDepth 100000 in
theorem lifted (os : Os) (started : os.Started) (H : Type) (enc : TypeId × Value → H) :
    ReturnsInHanded {} Try.checked os 3 .any (Rows.checkOfSpec.pre6 enc Try.prog Try.f3 Rows.checkOfRow.domain false) (Rows.checkOfSpec.post enc Try.prog Try.f3 false true false false) := by
  refine returnsInHanded_of_change (C := Try.checked) own started (by kernel_rfl) Try.func3
    (ChangeSpec.witness6 (enc := enc) (C := Try.checked) false ⟨#[], #[.slice none 0 0, .int .u16 0, .int .u16 0], []⟩ 8 (by kernel_rfl) (by kernel_rfl) (by kernel_rfl) (by kernel_rfl)) ?_
  intro W base args ds gs before hval0 hW hcnd _
  have hval : ∀ (j : Nat) t v, Try.f3.params[j]? = some t → args[j]? = some v → Value.okWide Try.prog W .any base t v := hval0
  have hW' := hW
  obtain ⟨p, q, hA0, hV, rfl, hfz, hnd⟩ := hW
  have hA : DataW.TrodAll enc Try.prog W 0 (fun _ => true) true Try.f3.params.toList args.toList ds p := hA0
  rw [Try.params3] at hA hval
  obtain ⟨v0, vs0, d0, ds0, p0, q0, hargs, rfl, rfl, h0, r0⟩ := trodAll_cons hA
  obtain ⟨v1, vs1, d1, ds1, p1, q1, rfl, rfl, rfl, h1, r1⟩ := trodAll_cons r0
  obtain ⟨v2, vs2, d2, ds2, p2, q2, rfl, rfl, rfl, h2, r2⟩ := trodAll_cons r1
  obtain ⟨rfl, rfl, rfl⟩ := trodAll_nil r2
  obtain rfl : args = #[v0, v1, v2] := by cases args; simp_all
  obtain ⟨rfl, rfl⟩ := trodVars_none hV
  obtain ⟨a0, len0, cap0, rfl⟩ := okWide_slice Try.underlying22 (hval 0 22 v0 rfl rfl)
  have k0 := h0
  have lt0 : ∀ x ∈ p0, x.block < W.heap.size := by obtain ⟨m, hm⟩ := k0; exact DataW.trod_lt m _ _ _ hm
  obtain ⟨z0, w0⟩ : ∃ zs, IsRow .u8 W a0 len0 cap0 zs := by
    obtain ⟨fuel, hf⟩ := h0
    rcases open_ints Try.underlying22 Try.underlying5 (by kernel_rfl) hf with ⟨hcs, _⟩ | ⟨x, l, c, zs, hcs, _, hl, hm, hz, _, hcell, hwz⟩
    · simp [Value.cells] at hcs
      obtain ⟨rfl, rfl, rfl⟩ := hcs
      exact ⟨[], .inl ⟨rfl, rfl, rfl, rfl⟩⟩
    · simp [Value.cells] at hcs
      obtain ⟨rfl, rfl, rfl⟩ := hcs
      exact ⟨zs, .inr ⟨_, rfl, hl, hm, by simpa using hz, hcell, hwz⟩⟩
  obtain ⟨a1, rfl, rfl, rfl, w1⟩ := open_int Try.underlying23 (hval 1 23 v1 rfl rfl) h1
  obtain ⟨a2, rfl, rfl, rfl, w2⟩ := open_int Try.underlying23 (hval 2 23 v2 rfl rfl) h2
  clear hA0 hval0
  refine (walk a0 len0 cap0 z0 a1 a2 W w0 w1 w2).mono fun e W' ⟨he, bel⟩ => ?_
  subst he
  exact ⟨_, rfl, _, _, _, [], _, [], hW', trodAll_mk1 (shut_bool Try.underlying4 _), (trodAll_cons_mk (Below.trod laidOut (by kernel_rfl) (of_decide_eq_true (by kernel_rfl)) k0 bel lt0) (trodAll_cons_mk (shut_int Try.underlying23 w1) (trodAll_cons_mk (shut_int Try.underlying23 w2) trodAll_mk0))), rfl, bel.frame _, fun h => by cases h⟩

theorem over : Rows.checkOfRow.holds Try.pinned (OpenSpec.ofChange Rows.checkOfSpec) :=
  OpenClaim.holds_of_wide 3 Try.f3 rfl rfl rfl rfl rfl rfl rfl ⟨rfl, rfl, rfl, rfl, rfl⟩ rfl rfl rfl rfl rfl (by kernel_rfl) Try.func3 (by kernel_rfl)
    (of_decide_eq_true (by kernel_rfl)) (by unfold Func.isWrapper; first | (rw [if_pos (by decide +kernel)]; kernel_rfl) | (rw [if_neg (by decide +kernel)]; exact ⟨rfl, rfl⟩))
    (fun os started H enc _ => lifted os started H enc)

/-- the statement -/
theorem proved : Rows.CheckOfSaid := over
end Go.Proofs.Ytkonbnpbojepbaa.checkOf
