/- ChangeOne: for every bytes the law returns true and its argument reads as before: bytes that are changes' are just their own. No condition. -/
import Derived.Test.YtjdlkejdgekbaaaChgAwake
import Derived.Test.YtjdlkejdgekbaaaChgRefGet
import Derived.IntWalk
import Derived.WalkKit
import Derived.ProofKit
import Derived.OpenShut
import Derived.ShutString
import Derived.ChangeOld
import Derived.Below
namespace Go.Proofs.Ytjdlkejdgekbaaa.changeOne
open Go.RowKit Go.Proofs.Ytjdlkejdgekbaaa.Mem Go.Proofs.Ytjdlkejdgekbaaa.Oct Go.Proofs.Ytjdlkejdgekbaaa.Lsa Go.Proofs.Ytjdlkejdgekbaaa.Chg
set_option linter.unusedVariables false
set_option linter.unusedSimpArgs false
theorem own_lit0 (w : World) (base g : Nat) (hg : g = w.heap.size) (hb : base ≤ w.heap.size) : (w.alloc (.cells #[] 5)).ownsRow base 5 1 (.slice (some ⟨g, 0, none⟩) 0 0) 0 [] := by
  subst hg
  exact World.ownsRow_lit w #[] 0 hb (by unfold maxLen; omega) rfl
set_option maxHeartbeats 2000000 in
theorem walk_long (a0 : Option Addr) (n0 c0 : Nat) (w : World) (h : 2000 < n0) :
    Calls Try.prog 6 #[.slice a0 n0 c0] w fun e w' => e = .returned (.bool true) ∧ Below w.heap.size w w' := by
  have hd : decide ((2000 : Int) < n0) = true := by simp; omega
  go_enter Try.func6, Try.ntmps6
  go_wp2_with (go_at_call 20; refine (awake10_any _).mono ?_; rintro e w5 ⟨rfl, hb⟩; have HB5 := Lib.hid hb; clear hb)
  go_ret
  exact ⟨rfl, HB5.out⟩
set_option maxRecDepth 20000 in
set_option maxHeartbeats 8000000 in
theorem walk_short (a0 : Option Addr) (n0 c0 : Nat) (xs : List Nat) (w : World) (h0 : n0 ≤ 2000) (hb : Sl w w.heap.size (.slice a0 n0 c0) xs) (hl : xs.length = n0) :
    Calls Try.prog 6 #[.slice a0 n0 c0] w fun e w' => e = .returned (.bool true) ∧ Below w.heap.size w w' := by
  have hd : decide ((2000 : Int) < n0) = false := by simp; omega
  obtain ⟨i0, hi, hz0, hz1, hz2⟩ := info_parts Try.info5
  have HI := Lib.hid hi; clear hi
  have HZ0 := Lib.hid hz0; clear hz0
  have HZ1 := Lib.hid hz1; clear hz1
  have HZ2 := Lib.hid hz2; clear hz2
  have hxlt := hb.lt
  have HX := Lib.hid (fun (W : World) (hW : Below w.heap.size w W) => sl_up hb hW)
  have gt := fun (v : Value) (W : World) (hv : Sl W W.heap.size v xs) => cget_any v xs W hv (by omega)
  have hsound := @getC_sound xs
  generalize getC xs = R at *
  have HXLT := Lib.hid hxlt
  unfold CGetOut at gt
  cases R with
  | none =>
    simp only [errT, Option.getD] at gt
    have GT := Lib.hid gt; clear gt hsound hxlt hb
    go_enter Try.func6, Try.ntmps6
    go_wp2_with (first
      | (at_builtin; (refine wpList_append_any _ rfl (.tmp 12) (.tmp 13) 22 rfl w.heap.size 5 i0 (.int .u8 0) 1 1 Try.underlying22 HI.out HZ0.out HZ1.out HZ2.out rfl (by decide) (.slice (some ⟨w.heap.size, 0, none⟩) 0 0) 0 [] rfl (own_lit0 w w.heap.size w.heap.size rfl (Nat.le_refl _)) _ a0 n0 c0 (vals xs) rfl (sl_bts2 (HX.out _ (low1 (Below.refl _ _) (.cells #[] 5)))).reads (vals_one _) (by unfold maxLen; omega) (by omega) (by simp) ?_; intro v2 w2 hown2 hg2 _; rewrite [Nat.zero_add, List.nil_append] at hown2; obtain ⟨A2, c2, rfl⟩ := Lsa.own_form hown2; have HS2 := Lib.hid (sl_own hown2 HXLT.out (by omega)); have HB2 := Lib.hid ((low1 (Below.refl w.heap.size w) (.cells #[] 5)).grown hg2 (by simp) (fun q hq => by cases hq; exact Nat.le_refl _)); clear hown2 hg2))
      | (go_at_call 27; refine (GT.out _ _ HS2.out).mono ?_; rintro e w3 ⟨v3, rfl, hc3, hb3⟩; obtain ⟨A3, n3, c3, rfl, hl3, _⟩ := id hc3; have HC3 := Lib.hid hc3; have HB3 := Lib.hid (low_low HB2.out hb3); clear hc3 hb3)
      | (go_at_call 20; refine (awake10_any _).mono ?_; rintro e w9 ⟨rfl, hb9⟩; have HB9 := Lib.hid (low_low HB3.out hb9); clear hb9))
    go_ret
    exact ⟨rfl, HB9.out⟩
  | some l =>
    obtain ⟨hok, hput⟩ := hsound hxlt rfl
    simp only [errT, Option.getD] at gt
    have pt := fun (A : Option Addr) (n c : Nat) (W : World) (h : Chs W W.heap.size (.slice A n c) l) => cputs_any A n c l W h
    unfold PutOut at pt
    rw [hok, errI_t, hput] at pt
    have sm := fun (A' : Option Addr) (n' c' : Nat) (W : World) (hA : Sl W W.heap.size (.slice A' n' c') xs) (hW : Below w.heap.size w W) => rsame_any a0 A' n0 n' c0 c' _ _ xs xs W (sl_bts2 (HX.out W hW)) (sl_bts2 hA)
    simp only [decide_true] at sm
    have SM := Lib.hid sm; clear sm
    have PT := Lib.hid pt; clear pt
    have GT := Lib.hid gt; clear gt hsound hxlt hb hput hok
    go_enter Try.func6, Try.ntmps6
    go_wp2_with (first
      | (at_builtin; (refine wpList_append_any _ rfl (.tmp 12) (.tmp 13) 22 rfl w.heap.size 5 i0 (.int .u8 0) 1 1 Try.underlying22 HI.out HZ0.out HZ1.out HZ2.out rfl (by decide) (.slice (some ⟨w.heap.size, 0, none⟩) 0 0) 0 [] rfl (own_lit0 w w.heap.size w.heap.size rfl (Nat.le_refl _)) _ a0 n0 c0 (vals xs) rfl (sl_bts2 (HX.out _ (low1 (Below.refl _ _) (.cells #[] 5)))).reads (vals_one _) (by unfold maxLen; omega) (by omega) (by simp) ?_; intro v2 w2 hown2 hg2 _; rewrite [Nat.zero_add, List.nil_append] at hown2; obtain ⟨A2, c2, rfl⟩ := Lsa.own_form hown2; have HS2 := Lib.hid (sl_own hown2 HXLT.out (by omega)); have HB2 := Lib.hid ((low1 (Below.refl w.heap.size w) (.cells #[] 5)).grown hg2 (by simp) (fun q hq => by cases hq; exact Nat.le_refl _)); clear hown2 hg2))
      | (go_at_call 27; refine (GT.out _ _ HS2.out).mono ?_; rintro e w3 ⟨v3, rfl, hc3, hb3⟩; obtain ⟨A3, n3, c3, rfl, hl3, _⟩ := id hc3; have HC3 := Lib.hid hc3; have HB3 := Lib.hid (low_low HB2.out hb3); clear hc3 hb3)
      | (go_at_call 25; refine (PT.out _ _ _ _ HC3.out).mono ?_; rintro e w4 ⟨v4, rfl, hs4, _, hb4⟩; obtain ⟨A4, n4, c4, rfl, _⟩ := id (hs4 (by simp)); have HS4 := Lib.hid (hs4 (by simp)); have HB4 := Lib.hid (low_low HB3.out hb4); clear hs4 hb4)
      | (go_at_call 28; refine (SM.out A4 n4 c4 _ HS4.out HB4.out).mono ?_; rintro e w5 ⟨rfl, m5, rfl⟩; have HBQ := Lib.hid (below_drewN HB4.out m5))
      | (go_at_call 20; refine (awake10_any _).mono ?_; rintro e w9 ⟨rfl, hb9⟩; have HB9 := Lib.hid (low_low HBQ.out hb9); clear hb9))
    go_ret
    exact ⟨rfl, HB9.out⟩
theorem walk (a0 : Option Addr) (len0 cap0 : Nat) (z0 : List Int) (w : World) (w0 : IsRow .u8 w a0 len0 cap0 z0) :
    Calls Try.prog 6 #[.slice a0 len0 cap0] w fun e w' => e = .returned (.bool true) ∧ Below w.heap.size w w' := by
  by_cases h : 2000 < len0
  · exact walk_long a0 len0 cap0 w h
  · obtain ⟨xs, hx, hl⟩ := sl_of_row w0 (by omega)
    exact walk_short a0 len0 cap0 xs w (by omega) hx hl
open Go.ChangeShapes Go.WideShapes Go.ChangeAt Go.RowKit
theorem own : ownKnob Try.prog.godebug = none := by kernel_rfl
theorem laidOut : laidOutB Try.prog = true := by kernel_rfl
/-! the step from the walk to the row -/
set_option maxRecDepth 100000 in
theorem lifted (os : Os) (started : os.Started) (H : Type) (enc : TypeId × Value → H) :
    ReturnsInHanded {} Try.checked os 6 .any (Rows.changeOneSpec.pre6 enc Try.prog Try.f6 Rows.changeOneRow.domain false) (Rows.changeOneSpec.post enc Try.prog Try.f6 false true false false) := by
  refine returnsInHanded_of_change (C := Try.checked) own started (by kernel_rfl) Try.func6
    (ChangeSpec.witness6 (enc := enc) (C := Try.checked) false ⟨#[], #[.slice none 0 0], []⟩ 8 (by kernel_rfl) (by kernel_rfl) (by kernel_rfl) (by kernel_rfl)) ?_
  intro W base args ds gs before hval0 hW hcnd _
  have hval : ∀ (j : Nat) t v, Try.f6.params[j]? = some t → args[j]? = some v → Value.okWide Try.prog W .any base t v := hval0
  have hW' := hW
  obtain ⟨p, q, hA0, hV, rfl, hfz, hnd⟩ := hW
  have hA : DataW.TrodAll enc Try.prog W 0 (fun _ => true) true Try.f6.params.toList args.toList ds p := hA0
  rw [Try.params6] at hA hval
  obtain ⟨v0, vs0, d0, ds0, p0, q0, hargs, rfl, rfl, h0, r0⟩ := trodAll_cons hA
  obtain ⟨rfl, rfl, rfl⟩ := trodAll_nil r0
  obtain rfl : args = #[v0] := by cases args; simp_all
  obtain ⟨rfl, rfl⟩ := trodVars_none hV
  obtain ⟨a0, len0, cap0, rfl⟩ := okWide_slice Try.underlying22 (hval 0 22 v0 rfl rfl)
  have k0 := h0
  have lt0 : ∀ x ∈ p0, x.block < W.heap.size := by obtain ⟨m, hm⟩ := k0; exact DataW.trod_lt m _ _ _ hm
  obtain ⟨z0, w0⟩ : ∃ zs, IsRow .u8 W a0 len0 cap0 zs := by
    obtain ⟨fuel, hf⟩ := h0
    rcases open_ints Try.underlying22 Try.underlying5 (by kernel_rfl) hf with ⟨hcs, _⟩ | ⟨x, l, c, zs, hcs, _, hl, hm, hz, _, hcell, hwz⟩
    · simp [Value.cells] at hcs
      obtain ⟨rfl, rfl, rfl⟩ := hcs
      exact ⟨[], .inl ⟨rfl, rfl, rfl, rfl⟩⟩
    · simp [Value.cells] at hcs
      obtain ⟨rfl, rfl, rfl⟩ := hcs
      exact ⟨zs, .inr ⟨_, rfl, hl, hm, by simpa using hz, hcell, hwz⟩⟩
  clear hA0 hval0
  refine (walk a0 len0 cap0 z0 W w0).mono fun e W' ⟨he, bel⟩ => ?_
  subst he
  exact ⟨_, rfl, _, _, _, [], _, [], hW', trodAll_mk1 (shut_bool Try.underlying4 _), (trodAll_cons_mk (Below.trod laidOut (by kernel_rfl) (of_decide_eq_true (by kernel_rfl)) k0 bel lt0) trodAll_mk0), rfl, bel.frame _, fun h => by cases h⟩

theorem over : Rows.changeOneRow.holds Try.pinned (OpenSpec.ofChange Rows.changeOneSpec) :=
  OpenClaim.holds_of_wide 6 Try.f6 rfl rfl rfl rfl rfl rfl rfl ⟨rfl, rfl, rfl, rfl, rfl⟩ rfl rfl rfl rfl rfl (by kernel_rfl) Try.func6 (by kernel_rfl)
    (of_decide_eq_true (by kernel_rfl)) (by unfold Func.isWrapper; first | (rw [if_pos (by decide +kernel)]; kernel_rfl) | (rw [if_neg (by decide +kernel)]; exact ⟨rfl, rfl⟩))
    (fun os started H enc _ => lifted os started H enc)

/-- the statement -/
theorem proved : Rows.ChangeOneSaid := over
end Go.Proofs.Ytjdlkejdgekbaaa.changeOne
