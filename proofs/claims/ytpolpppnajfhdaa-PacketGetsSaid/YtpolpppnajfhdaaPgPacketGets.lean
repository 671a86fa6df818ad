/- PacketGets: for every bytes the law returns true and its argument reads as before: which packet they are, if one, is as the document says, and no other bytes are the same one's. No condition. -/
import Derived.Test.YtpolpppnajfhdaaPgGetSome
import Derived.Test.YtpolpppnajfhdaaPgGotAll
import Derived.Test.YtpolpppnajfhdaaPgPkRefSame
import Derived.Test.YtpolpppnajfhdaaPgSame
import Derived.Below
import Derived.ChangeOld
import Derived.IntWalk
import Derived.OpenShut
import Derived.ProofKit
import Derived.ShutString
import Derived.WalkKit
namespace Go.Proofs.Ytpolpppnajfhdaa.packetGets
open Go.RowKit Go.Proofs.Ytpolpppnajfhdaa.Mem Go.Proofs.Ytpolpppnajfhdaa.Lsa Go.Proofs.Ytpolpppnajfhdaa.Bas Go.Proofs.Ytpolpppnajfhdaa.Pkt
open Go.Proofs.Ytpolpppnajfhdaa.Chg (low1 low_low low2 blk_second)
set_option linter.unusedVariables false
set_option linter.unusedSimpArgs false
theorem own_lit0 (w : World) (base g : Nat) (hg : g = w.heap.size) (hb : base ≤ w.heap.size) : (w.alloc (.cells #[] 5)).ownsRow base 5 1 (.slice (some ⟨g, 0, none⟩) 0 0) 0 [] := by
  subst hg
  exact World.ownsRow_lit w #[] 0 hb (by unfold maxLen; omega) rfl
set_option maxHeartbeats 2000000 in
theorem walk_long (a0 : Option Addr) (n0 c0 : Nat) (w : World) (h : 2000 < n0) :
    Calls Try.prog 4 #[.slice a0 n0 c0] w fun e w' => e = .returned (.bool true) ∧ Below w.heap.size w w' := by
  have hd : decide ((2000 : Int) < n0) = true := by simp; omega
  go_enter Try.func4, Try.ntmps4
  go_wp2_with (go_at_call 7; refine (awake14_any _).mono ?_; rintro e w9 ⟨rfl, hb9⟩; have HB9 := Lib.hid (low_low (Below.refl _ _) hb9); clear hb9)
  go_ret
  exact ⟨rfl, HB9.out⟩
set_option maxRecDepth 100000 in
set_option maxHeartbeats 16000000 in
theorem walk_none (a0 : Option Addr) (n0 c0 : Nat) (xs : List Nat) (w : World) (h0 : n0 ≤ 2000) (hb : Sl w w.heap.size (.slice a0 n0 c0) xs) (hl : xs.length = n0) (hr : getP xs = none) :
    Calls Try.prog 4 #[.slice a0 n0 c0] w fun e w' => e = .returned (.bool true) ∧ Below w.heap.size w w' := by
  have hd : decide ((2000 : Int) < n0) = false := by simp; omega
  obtain ⟨i0, hi, hz0, hz1, hz2⟩ := info_parts Try.info5
  have HI := Lib.hid hi; clear hi
  have HZ0 := Lib.hid hz0; clear hz0
  have HZ1 := Lib.hid hz1; clear hz1
  have HZ2 := Lib.hid hz2; clear hz2
  have hxlt := hb.lt
  have HX := Lib.hid (fun (W : World) (hW : Below w.heap.size w W) => (hb.below hW (Nat.le_refl _)).more hW.size)
  have gt := fun (v : Value) (W : World) (hv : Sl W W.heap.size v xs) => pget_any v xs W hv (by omega)
  have rd := fun (W : World) (hW : Below w.heap.size w W) => rget_pk (.slice a0 n0 c0) xs W (HX.out W hW)
  rw [getC_eq hxlt, hr] at gt
  rw [hr] at rd
  have HXLT := Lib.hid hxlt; clear hxlt hb
  have sm := fun (A1 A2 A3 D1 D2 D3 : Option Addr) (n1 z1 n2 z2 n3 z3 m1 y1 m2 y2 m3 y3 : Nat) (W : World) (h : PkM W W.heap.size (.slice A1 n1 z1) (.slice A2 n2 z2) (.slice A3 n3 z3) zeroP) (h' : PkM W W.heap.size (.slice D1 m1 y1) (.slice D2 m2 y2) (.slice D3 m3 y3) zeroP) => rsame_pk zeroP zeroP A1 A2 A3 D1 D2 D3 n1 z1 n2 z2 n3 z3 m1 y1 m2 y2 m3 y3 W h h'
  rw [sameP_iff.2 rfl] at sm
  unfold GetOutP at gt
  unfold GetOut14 at rd
  simp only [Option.getD_none, Option.isSome_none, errP] at gt rd
  obtain ⟨q, hq⟩ : ∃ q, q = zeroP := ⟨_, rfl⟩
  rw [← hq] at gt rd sm
  clear hq hr
  have SM := Lib.hid sm; clear sm
  have GT := Lib.hid gt; clear gt
  have RD := Lib.hid rd; clear rd
  go_enter Try.func4, Try.ntmps4
  go_wp2_with (first
    | (at_builtin; (refine wpList_append_any _ rfl (.tmp 14) (.tmp 15) 29 rfl w.heap.size 5 i0 (.int .u8 0) 1 1 Try.underlying29 HI.out HZ0.out HZ1.out HZ2.out rfl (by decide) (.slice (some ⟨w.heap.size, 0, none⟩) 0 0) 0 [] rfl (own_lit0 w w.heap.size w.heap.size rfl (Nat.le_refl _)) _ a0 n0 c0 (vals xs) rfl (sl_btsG (HX.out _ (low1 (Below.refl _ _) (.cells #[] 5)))).reads (vals_one _) (by unfold maxLen; omega) (by omega) (by simp) ?_; intro v2 w2 hown2 hg2 _; rewrite [Nat.zero_add, List.nil_append] at hown2; obtain ⟨A4, c4, rfl⟩ := Lsa.own_form hown2; have HS2 := Lib.hid (sl_own hown2 HXLT.out (by omega)); have HB2 := Lib.hid ((low1 (Below.refl w.heap.size w) (.cells #[] 5)).grown hg2 (by simp) (fun q hq => by cases hq; exact Nat.le_refl _)); clear hown2 hg2))
    | (go_at_call 13; refine (GT.out _ _ HS2.out).mono ?_; rintro e w3 ⟨h_, i_, l_, rfl, hp3, hb3⟩; obtain ⟨A1, n1, z1, rfl, hq_⟩ := id hp3.1; obtain ⟨A2, n2, z2, rfl, hr_⟩ := id hp3.2.1; obtain ⟨A3, n3, z3, rfl, ht_⟩ := id hp3.2.2; clear hq_ hr_ ht_; have hbx := low1 (Below.refl w3.heap.size w3) (.cells (pkC q (.slice A1 n1 z1) (.slice A2 n2 z2) (.slice A3 n3 z3)) 26); have HP3 := Lib.hid (hp3.up hbx); have K3 := Lib.hid (Blk.new w3 26 (pkC q (.slice A1 n1 z1) (.slice A2 n2 z2) (.slice A3 n3 z3))); have HB3 := Lib.hid (low1 (low_low HB2.out hb3) (.cells (pkC q (.slice A1 n1 z1) (.slice A2 n2 z2) (.slice A3 n3 z3)) 26)); clear hp3 hb3 hbx)
    | (go_at_call 16; refine (RD.out _ HB3.out).mono ?_; rintro e w4 ⟨D1, D2, D3, m1, y1, m2, y2, m3, y3, hp4, rfl, hb4⟩; have hbx := low1 (Below.refl w4.heap.size w4) (.cells (pkC q (.slice D1 m1 y1) (.slice D2 m2 y2) (.slice D3 m3 y3)) 26); have HP4 := Lib.hid (hp4.up hbx); have HQ4 := Lib.hid ((HP3.out.up hb4).up hbx); have K4 := Lib.hid ((K3.out.below hb4 K3.out.lt).alloc (.cells (pkC q (.slice D1 m1 y1) (.slice D2 m2 y2) (.slice D3 m3 y3)) 26)); obtain ⟨x0, x1, x2, x3, x4, x5, x6, x7, x8, x9, x10⟩ := blk_cells10 (K3.out.below hb4 K3.out.lt); have HB4 := Lib.hid (low1 (low_low HB3.out hb4) (.cells (pkC q (.slice D1 m1 y1) (.slice D2 m2 y2) (.slice D3 m3 y3)) 26)); clear hp4 hb4 hbx)
    | (go_at_call 12; refine (SM.out _ _ _ _ _ _ _ _ _ _ _ _ _ _ _ _ _ _ _ HQ4.out HP4.out).mono ?_; rintro e w5 ⟨rfl, hb5⟩; have HB5 := Lib.hid (low_low HB4.out hb5); have HQ5 := Lib.hid (HQ4.out.up hb5); have K5 := Lib.hid (K4.out.below hb5 K4.out.lt); obtain ⟨y_0, y_1, y_2, y_3, y_4, y_5, y_6, y_7, y_8, y_9, y_10⟩ := blk_cells10 K5.out; clear hb5)
    | (go_at_call 7; refine (awake14_any _).mono ?_; rintro e w9 ⟨rfl, hb9⟩; have HB9 := Lib.hid (low_low HB5.out hb9); clear hb9))
  go_ret
  exact ⟨rfl, HB9.out⟩
set_option maxRecDepth 100000 in
set_option maxHeartbeats 16000000 in
theorem walk_some (a0 : Option Addr) (n0 c0 : Nat) (xs : List Nat) (w : World) (q : Pk) (h0 : n0 ≤ 2000) (hb : Sl w w.heap.size (.slice a0 n0 c0) xs) (hl : xs.length = n0) (hr : getP xs = some q) :
    Calls Try.prog 4 #[.slice a0 n0 c0] w fun e w' => e = .returned (.bool true) ∧ Below w.heap.size w w' := by
  obtain ⟨hm, hpx⟩ := getP_sound hr
  have hd : decide ((2000 : Int) < n0) = false := by simp; omega
  obtain ⟨i0, hi, hz0, hz1, hz2⟩ := info_parts Try.info5
  have HI := Lib.hid hi; clear hi
  have HZ0 := Lib.hid hz0; clear hz0
  have HZ1 := Lib.hid hz1; clear hz1
  have HZ2 := Lib.hid hz2; clear hz2
  have hxlt := hb.lt
  have HX := Lib.hid (fun (W : World) (hW : Below w.heap.size w W) => (hb.below hW (Nat.le_refl _)).more hW.size)
  have gt := fun (v : Value) (W : World) (hv : Sl W W.heap.size v xs) => pget_any v xs W hv (by omega)
  have rd := fun (W : World) (hW : Below w.heap.size w W) => rget_pk (.slice a0 n0 c0) xs W (HX.out W hW)
  rw [getC_eq hxlt, hr] at gt
  rw [hr] at rd
  have HXLT := Lib.hid hxlt; clear hxlt hb
  have sm := fun (A1 A2 A3 D1 D2 D3 : Option Addr) (n1 z1 n2 z2 n3 z3 m1 y1 m2 y2 m3 y3 : Nat) (W : World) (h : PkM W W.heap.size (.slice A1 n1 z1) (.slice A2 n2 z2) (.slice A3 n3 z3) q) (h' : PkM W W.heap.size (.slice D1 m1 y1) (.slice D2 m2 y2) (.slice D3 m3 y3) q) => rsame_pk q q A1 A2 A3 D1 D2 D3 n1 z1 n2 z2 n3 z3 m1 y1 m2 y2 m3 y3 W h h'
  rw [sameP_iff.2 rfl] at sm
  unfold GetOutP at gt
  unfold GetOut14 at rd
  simp only [Option.getD_some, Option.isSome_some, errP] at gt rd
  have pt := fun (A1 A2 A3 : Option Addr) (n1 z1 n2 z2 n3 z3 : Nat) (W : World) (h : PkM W W.heap.size (.slice A1 n1 z1) (.slice A2 n2 z2) (.slice A3 n3 z3) q) => pput_yes q A1 A2 A3 n1 z1 n2 z2 n3 z3 W h hm
  unfold PPutOut at pt
  rw [hpx] at pt
  have sq := fun (A' : Option Addr) (n' c' : Nat) (W : World) (hA : Sl W W.heap.size (.slice a0 n0 c0) xs) (hB : Sl W W.heap.size (.slice A' n' c') xs) => Mem.rsame_any a0 A' n0 n' c0 c' _ _ xs xs W (sl_btsG hA) (sl_btsG hB)
  simp only [decide_true] at sq
  clear hm hpx hr
  have SQ := Lib.hid sq; clear sq
  have PT := Lib.hid pt; clear pt
  have SM := Lib.hid sm; clear sm
  have GT := Lib.hid gt; clear gt
  have RD := Lib.hid rd; clear rd
  go_enter Try.func4, Try.ntmps4
  go_wp2_with (first
    | (at_builtin; (refine wpList_append_any _ rfl (.tmp 14) (.tmp 15) 29 rfl w.heap.size 5 i0 (.int .u8 0) 1 1 Try.underlying29 HI.out HZ0.out HZ1.out HZ2.out rfl (by decide) (.slice (some ⟨w.heap.size, 0, none⟩) 0 0) 0 [] rfl (own_lit0 w w.heap.size w.heap.size rfl (Nat.le_refl _)) _ a0 n0 c0 (vals xs) rfl (sl_btsG (HX.out _ (low1 (Below.refl _ _) (.cells #[] 5)))).reads (vals_one _) (by unfold maxLen; omega) (by omega) (by simp) ?_; intro v2 w2 hown2 hg2 _; rewrite [Nat.zero_add, List.nil_append] at hown2; obtain ⟨A4, c4, rfl⟩ := Lsa.own_form hown2; have HS2 := Lib.hid (sl_own hown2 HXLT.out (by omega)); have HB2 := Lib.hid ((low1 (Below.refl w.heap.size w) (.cells #[] 5)).grown hg2 (by simp) (fun q hq => by cases hq; exact Nat.le_refl _)); clear hown2 hg2))
    | (go_at_call 13; refine (GT.out _ _ HS2.out).mono ?_; rintro e w3 ⟨h_, i_, l_, rfl, hp3, hb3⟩; obtain ⟨A1, n1, z1, rfl, hq_⟩ := id hp3.1; obtain ⟨A2, n2, z2, rfl, hr_⟩ := id hp3.2.1; obtain ⟨A3, n3, z3, rfl, ht_⟩ := id hp3.2.2; clear hq_ hr_ ht_; have hbx := low1 (Below.refl w3.heap.size w3) (.cells (pkC q (.slice A1 n1 z1) (.slice A2 n2 z2) (.slice A3 n3 z3)) 26); have HP3 := Lib.hid (hp3.up hbx); have K3 := Lib.hid (Blk.new w3 26 (pkC q (.slice A1 n1 z1) (.slice A2 n2 z2) (.slice A3 n3 z3))); have HB3 := Lib.hid (low1 (low_low HB2.out hb3) (.cells (pkC q (.slice A1 n1 z1) (.slice A2 n2 z2) (.slice A3 n3 z3)) 26)); clear hp3 hb3 hbx)
    | (go_at_call 16; refine (RD.out _ HB3.out).mono ?_; rintro e w4 ⟨D1, D2, D3, m1, y1, m2, y2, m3, y3, hp4, rfl, hb4⟩; have hbx := low1 (Below.refl w4.heap.size w4) (.cells (pkC q (.slice D1 m1 y1) (.slice D2 m2 y2) (.slice D3 m3 y3)) 26); have HP4 := Lib.hid (hp4.up hbx); have HQ4 := Lib.hid ((HP3.out.up hb4).up hbx); have K4 := Lib.hid ((K3.out.below hb4 K3.out.lt).alloc (.cells (pkC q (.slice D1 m1 y1) (.slice D2 m2 y2) (.slice D3 m3 y3)) 26)); obtain ⟨x0, x1, x2, x3, x4, x5, x6, x7, x8, x9, x10⟩ := blk_cells10 (K3.out.below hb4 K3.out.lt); have HB4 := Lib.hid (low1 (low_low HB3.out hb4) (.cells (pkC q (.slice D1 m1 y1) (.slice D2 m2 y2) (.slice D3 m3 y3)) 26)); clear hp4 hb4 hbx)
    | (go_at_call 12; refine (SM.out _ _ _ _ _ _ _ _ _ _ _ _ _ _ _ _ _ _ _ HQ4.out HP4.out).mono ?_; rintro e w5 ⟨rfl, hb5⟩; have HB5 := Lib.hid (low_low HB4.out hb5); have HQ5 := Lib.hid (HQ4.out.up hb5); have K5 := Lib.hid (K4.out.below hb5 K4.out.lt); obtain ⟨y_0, y_1, y_2, y_3, y_4, y_5, y_6, y_7, y_8, y_9, y_10⟩ := blk_cells10 K5.out; clear hb5)
    | (go_at_call 8; refine (PT.out _ _ _ _ _ _ _ _ _ _ HQ5.out).mono ?_; rintro e w6 ⟨A5, n5, c5, rfl, hn5, ho6, hb6⟩; have HS6 := Lib.hid (sl_own ho6 HXLT.out (by omega)); have HB6 := Lib.hid (low_low HB5.out hb6); have hn5b : n5 = xs.length := hn5; clear ho6 hb6 hn5 hn5b)
    | (go_at_call 14; refine (SQ.out _ _ _ _ (HX.out _ HB6.out) HS6.out).mono ?_; rintro e w7 ⟨rfl, m7, rfl⟩; have HB7 := Lib.hid (below_drewN HB6.out m7))
    | (go_at_call 7; refine (awake14_any _).mono ?_; rintro e w9 ⟨rfl, hb9⟩; have HB9 := Lib.hid (low_low HB7.out hb9); clear hb9))
  go_ret
  exact ⟨rfl, HB9.out⟩
theorem walk (a0 : Option Addr) (len0 cap0 : Nat) (z0 : List Int) (w : World) (w0 : IsRow .u8 w a0 len0 cap0 z0) :
    Calls Try.prog 4 #[.slice a0 len0 cap0] w fun e w' => e = .returned (.bool true) ∧ Below w.heap.size w w' := by
  by_cases h : 2000 < len0
  · exact walk_long a0 len0 cap0 w h
  · obtain ⟨xs, hx, hl⟩ := sl_of_row w0 (by omega)
    cases hr : getP xs with
    | none => exact walk_none a0 len0 cap0 xs w (by omega) hx hl hr
    | some q => exact walk_some a0 len0 cap0 xs w q (by omega) hx hl hr
open Go.ChangeShapes Go.WideShapes Go.ChangeAt Go.RowKit
theorem own : ownKnob Try.prog.godebug = none := by kernel_rfl
theorem laidOut : laidOutB Try.prog = true := by kernel_rfl
/-! the step from the walk to the row -/
set_option maxRecDepth 100000 in
theorem lifted (os : Os) (started : os.Started) (H : Type) (enc : TypeId × Value → H) :
    ReturnsInHanded {} Try.checked os 4 .any (Rows.packetGetsSpec.pre6 enc Try.prog Try.f4 Rows.packetGetsRow.domain false) (Rows.packetGetsSpec.post enc Try.prog Try.f4 false true false false) := by
  refine returnsInHanded_of_change (C := Try.checked) own started (by kernel_rfl) Try.func4
    (ChangeSpec.witness6 (enc := enc) (C := Try.checked) false ⟨#[], #[.slice none 0 0], []⟩ 8 (by kernel_rfl) (by kernel_rfl) (by kernel_rfl) (by kernel_rfl)) ?_
  intro W base args ds gs before hval0 hW hcnd _
  have hval : ∀ (j : Nat) t v, Try.f4.params[j]? = some t → args[j]? = some v → Value.okWide Try.prog W .any base t v := hval0
  have hW' := hW
  obtain ⟨p, q, hA0, hV, rfl, hfz, hnd⟩ := hW
  have hA : DataW.TrodAll enc Try.prog W 0 (fun _ => true) true Try.f4.params.toList args.toList ds p := hA0
  rw [Try.params4] at hA hval
  obtain ⟨v0, vs0, d0, ds0, p0, q0, hargs, rfl, rfl, h0, r0⟩ := trodAll_cons hA
  obtain ⟨rfl, rfl, rfl⟩ := trodAll_nil r0
  obtain rfl : args = #[v0] := by cases args; simp_all
  obtain ⟨rfl, rfl⟩ := trodVars_none hV
  obtain ⟨a0, len0, cap0, rfl⟩ := okWide_slice Try.underlying29 (hval 0 29 v0 rfl rfl)
  have k0 := h0
  have lt0 : ∀ x ∈ p0, x.block < W.heap.size := by obtain ⟨m, hm⟩ := k0; exact DataW.trod_lt m _ _ _ hm
  obtain ⟨z0, w0⟩ : ∃ zs, IsRow .u8 W a0 len0 cap0 zs := by
    obtain ⟨fuel, hf⟩ := h0
    rcases open_ints Try.underlying29 Try.underlying5 (by kernel_rfl) hf with ⟨hcs, _⟩ | ⟨x, l, c, zs, hcs, _, hl, hm, hz, _, hcell, hwz⟩
    · simp [Value.cells] at hcs
      obtain ⟨rfl, rfl, rfl⟩ := hcs
      exact ⟨[], .inl ⟨rfl, rfl, rfl, rfl⟩⟩
    · simp [Value.cells] at hcs
      obtain ⟨rfl, rfl, rfl⟩ := hcs
      exact ⟨zs, .inr ⟨_, rfl, hl, hm, by simpa using hz, hcell, hwz⟩⟩
  clear hA0 hval0
  refine (walk a0 len0 cap0 z0 W w0).mono fun e W' ⟨he, bel⟩ => ?_
  subst he
  exact ⟨_, rfl, _, _, _, [], _, [], hW', trodAll_mk1 (shut_bool Try.underlying4 _), (trodAll_cons_mk (Below.trod laidOut (by kernel_rfl) (of_decide_eq_true (by kernel_rfl)) k0 bel lt0) trodAll_mk0), rfl, bel.frame _, fun h => by cases h⟩

theorem over : Rows.packetGetsRow.holds Try.pinned (OpenSpec.ofChange Rows.packetGetsSpec) :=
  OpenClaim.holds_of_wide 4 Try.f4 rfl rfl rfl rfl rfl rfl rfl ⟨rfl, rfl, rfl, rfl, rfl⟩ rfl rfl rfl rfl rfl (by kernel_rfl) Try.func4 (by kernel_rfl)
    (of_decide_eq_true (by kernel_rfl)) (by unfold Func.isWrapper; first | (rw [if_pos (by decide +kernel)]; kernel_rfl) | (rw [if_neg (by decide +kernel)]; exact ⟨rfl, rfl⟩))
    (fun os started H enc _ => lifted os started H enc)

/-- the statement -/
theorem proved : Rows.PacketGetsSaid := over
end Go.Proofs.Ytpolpppnajfhdaa.packetGets
