/- SpaceRises: for every number to begin behind and every row of acts the law returns true and its arguments read as before. No condition. -/
import Derived.Test.YtgcmkcohfpgcfaaSpace
import Derived.Test.YtgcmkcohfpgcfaaOpen
import Derived.Test.YtgcmkcohfpgcfaaBytes
import Derived.WalkKit
import Derived.ProofKit
import Derived.OpenShut
import Derived.ShutString
import Derived.ChangeOld
import Derived.Below
namespace Go.Proofs.Ytgcmkcohfpgcfaa.spaceRises
open Go.Proofs.Ytgcmkcohfpgcfaa.Mem Go.Proofs.Ytgcmkcohfpgcfaa.Spc
open Go.ChangeShapes Go.WideShapes Go.ChangeAt Go.RowKit
set_option linter.unusedVariables false
set_option linter.unusedSimpArgs false
theorem own : ownKnob Try.prog.godebug = none := by kernel_rfl
theorem laidOut : laidOutB Try.prog = true := by kernel_rfl
set_option maxRecDepth 100000 in
set_option maxHeartbeats 2000000 in
theorem walk_out (from_ : Int) (A : Option Addr) (n c : Nat) (w : World) (h : 200 < n ∨ from_ < 0 ∨ 4611686018427387904 < from_) :
    Calls Try.prog 4 #[.int .i64 from_, .slice A n c] w fun e w' => e = .returned (.bool true) ∧ Below w.heap.size w w' := by
  by_cases h0 : 200 < n
  · have d0 : decide ((200 : Int) < n) = true := by simp; omega
    go_enter Try.func4, Try.ntmps4
    go_wp2_with (go_at_call 10; refine (awake13_any _).mono ?_; rintro e w9 ⟨rfl, hb9⟩)
    go_ret
    exact ⟨rfl, hb9⟩
  · have d0 : decide ((200 : Int) < n) = false := by simp; omega
    by_cases h1 : from_ < 0
    · have d1 : decide (from_ < 0) = true := by simpa using h1
      go_enter Try.func4, Try.ntmps4
      go_wp2_with (go_at_call 10; refine (awake13_any _).mono ?_; rintro e w9 ⟨rfl, hb9⟩)
      go_ret
      exact ⟨rfl, hb9⟩
    · have d1 : decide (from_ < 0) = false := by simpa using h1
      have d2 : decide (4611686018427387904 < from_) = true := by simp; omega
      go_enter Try.func4, Try.ntmps4
      go_wp2_with (go_at_call 10; refine (awake13_any _).mono ?_; rintro e w9 ⟨rfl, hb9⟩)
      go_ret
      exact ⟨rfl, hb9⟩
theorem want_lies {n : Int} (h : 1 ≤ n) (h2 : n ≤ 4611686018427387904) : n ≤ wantI n ∧ wantI n ≤ 4611686018427387904 := by unfold wantI; omega
theorem set2 {w : World} {g : Nat} {t : TypeId} {a b c d : Value} (h : Blk w g t #[a, b]) : Blk ((w.setCell ⟨g, 0, none⟩ c).setCell ⟨g, 1, none⟩ d) g t #[c, d] := by
  have := (h.set_ 0 c).set_ 1 d
  simpa using this
/-- what holds between two rounds: the space in block g, what was granted, and the last number taken -/
structure Inv (w wr : World) (g : Nat) (n u la : Int) : Prop where
  may : mayB n u = true
  last : la < n
  blk : Blk wr g 23 #[.int .i64 n, .int .i64 u]
  low : w.heap.size ≤ g
  below : Below w.heap.size w wr
set_option maxRecDepth 100000 in
set_option maxHeartbeats 8000000 in
theorem walk_in (from_ : Int) (A : Option Addr) (len cap : Nat) (z : List Int) (w : World) (hl : len ≤ 200) (h0 : 0 ≤ from_) (h1 : from_ ≤ 4611686018427387904) (w1 : IsRow .u8 w A len cap z) :
    Calls Try.prog 4 #[.int .i64 from_, .slice A len cap] w fun e w' => e = .returned (.bool true) ∧ Below w.heap.size w w' := by
  have d0 : decide ((200 : Int) < len) = false := by simp; omega
  have d1 : decide (from_ < 0) = false := by simp; omega
  have d2 : decide (4611686018427387904 < from_) = false := by simp; omega
  have AF := Lib.hid (fun W : World => after_yes from_ W (upB_mk h0 h1))
  have W1 := Lib.hid w1; clear w1
  have HM := Lib.hid (mayB_mk (n := from_ + 1) (u := from_) h0 h1 (by omega) (by omega))
  go_enter Try.func4, Try.ntmps4
  go_wp2_with (go_at_call 5; refine (AF.out _).mono ?_; rintro e wa ⟨rfl, hb⟩; have HK := Lib.hid (Blk.new wa 23 #[.int .i64 (from_ + 1), .int .i64 from_]); have HS := Lib.hid hb.size; have HB := Lib.hid (hb.alloc hb.size (.cells #[.int .i64 (from_ + 1), .int .i64 from_] 23)); clear hb)
  have hi : Inv w (wa.alloc (.cells #[.int .i64 (from_ + 1), .int .i64 from_] 23)) wa.heap.size (from_ + 1) from_ from_ := ⟨HM.out, by omega, HK.out, HS.out, HB.out⟩
  have HI := Lib.hid hi; clear hi HK HS HB HM AF
  generalize wa.alloc (.cells #[.int .i64 (from_ + 1), .int .i64 from_] 23) = W at *
  generalize wa.heap.size = g at *
  go_loopw [7, 8, 9] (fun gr la i wr => ∃ (k : Nat) (n u l : Int), k ≤ len ∧ i = .int .i64 k ∧ gr = .int .i64 u ∧ la = .int .i64 l ∧ Inv w wr g n u l) (fun _ _ i _ => len - (intOf i).toNat)
  case atStart => exact ⟨0, _, _, _, Nat.zero_le _, rfl, rfl, rfl, HI.out⟩
  case round =>
    obtain ⟨k, n, u, l, hk, rfl, rfl, rfl, hinv⟩ := hrel
    obtain ⟨hm, hla, hblk, hlow, hbel⟩ := hinv
    obtain ⟨u0, uM, n1, nu⟩ := mayB_yes hm
    have HM := Lib.hid hm; clear hm
    have HK := Lib.hid hblk; clear hblk
    have HB := Lib.hid hbel; clear hbel
    have HL := Lib.hid hlow; clear hlow
    by_cases hlt : k < len
    · obtain ⟨b1, o1, rfl, hb1, hc1, hw1⟩ := row_at W1.out k hlt
      have hc := (HB.out.cell (p := ⟨b1, o1 + k, none⟩) hb1).trans hc1
      clear hc1
      generalize z.getD k 0 = q at *
      have hq : 0 ≤ q ∧ q ≤ 255 := (by simpa [Lit.wf, IntKind.min, IntKind.max, IntKind.signed, go_sem] using hw1)
      have c_0 := HK.out.cell 0; have c_1 := HK.out.cell 1; have f_0 := HK.out.frozen 0; have f_1 := HK.out.frozen 1; simp at c_0 c_1; have hgl := HK.out.lt
      obtain hq4 | hq4 | hq4 : q % 4 = 0 ∨ q % 4 = 1 ∨ (2 ≤ q % 4 ∧ q % 4 ≤ 3) := by omega
      · have e0 : (q % 4 == 0) = true := by rw [hq4]; rfl
        have AF := Lib.hid (fun W : World => after_yes u W (upB_mk u0 uM))
        clear hq4
        go_wp2_with (go_at_call 5; refine (AF.out _).mono ?_; rintro e w2 ⟨rfl, hb⟩; have HK2 := Lib.hid ((HK.out.below hb HK.out.lt).alloc (.cells #[.int .i64 (u + 1), .int .i64 u] 23)); have HB2 := Lib.hid ((HB.out.trans (hb.mono HB.out.size)).alloc (HB.out.trans (hb.mono HB.out.size)).size (.cells #[.int .i64 (u + 1), .int .i64 u] 23)); have NB := Lib.hid (Blk.new w2 23 #[.int .i64 (u + 1), .int .i64 u]); have n_0 := NB.out.cell 0; have n_1 := NB.out.cell 1; simp at n_0 n_1; have hne := Lib.hid (show g < w2.heap.size from Nat.lt_of_lt_of_le HK.out.lt hb.size); clear c_0 c_1 f_0 f_1 hgl; clear hb; have c_0 := HK2.out.cell 0; have c_1 := HK2.out.cell 1; have f_0 := HK2.out.frozen 0; have f_1 := HK2.out.frozen 1; simp at c_0 c_1; have hgl := HK2.out.lt)
        go_roundw
        case rel => exact ⟨k + 1, u + 1, u, l, by omega, by go_num, rfl, rfl, mayB_mk u0 uM (by omega) (by omega), by omega, set2 HK2.out, HL.out, (HB2.out.setCell HL.out _).setCell HL.out _⟩
        case measure => simp [intOf]; omega
      · have e0 : (q % 4 == 0) = false := by rw [hq4]; rfl
        have e1 : (q % 4 == 1) = true := by rw [hq4]; rfl
        clear hq4
        rcases Int.lt_or_le 4611686018427387904 n with hn | hn
        · have WT := Lib.hid (fun W : World => want_spent n u W HM.out hn)
          go_wp2_with (go_at_call 7; refine (WT.out _).mono ?_; rintro e w2 ⟨rfl, hb⟩; have HK2 := Lib.hid (HK.out.below hb HK.out.lt); have HB2 := Lib.hid (HB.out.trans (hb.mono HB.out.size)); clear c_0 c_1 f_0 f_1 hgl; clear hb; have c_0 := HK2.out.cell 0; have c_1 := HK2.out.cell 1; have f_0 := HK2.out.frozen 0; have f_1 := HK2.out.frozen 1; simp at c_0 c_1; have hgl := HK2.out.lt)
          go_roundw
          case rel => exact ⟨k + 1, n, u, l, by omega, by go_num, rfl, rfl, HM.out, hla, HK2.out, HL.out, HB2.out⟩
          case measure => simp [intOf]; omega
        · have hv := want_lies n1 hn
          have wt := fun W : World => want_ok n u W HM.out hn
          generalize wantI n = v at *
          have WT := Lib.hid wt; clear wt
          rcases Int.lt_or_le u v with hu | hu
          · have e2 : decide (v ≤ u) = false := by simp; omega
            have GR := Lib.hid (fun W : World => grant_ok n u v W HM.out (upB_mk (by omega) hv.2) hu)
            go_wp2_with (first | (go_at_call 7; refine (WT.out _).mono ?_; rintro e w2 ⟨rfl, hb⟩; have HK2 := Lib.hid (HK.out.below hb HK.out.lt); have HB2 := Lib.hid (HB.out.trans (hb.mono HB.out.size)); clear c_0 c_1 f_0 f_1 hgl; clear hb; have c_0 := HK2.out.cell 0; have c_1 := HK2.out.cell 1; have f_0 := HK2.out.frozen 0; have f_1 := HK2.out.frozen 1; simp at c_0 c_1; have hgl := HK2.out.lt) | (go_at_call 8; refine (GR.out _).mono ?_; rintro e w3 ⟨rfl, hb⟩; have HK3 := Lib.hid ((HK2.out.below hb HK2.out.lt).alloc (.cells #[.int .i64 n, .int .i64 v] 23)); have HB3 := Lib.hid ((HB2.out.trans (hb.mono HB2.out.size)).alloc (HB2.out.trans (hb.mono HB2.out.size)).size (.cells #[.int .i64 n, .int .i64 v] 23)); have NB := Lib.hid (Blk.new w3 23 #[.int .i64 n, .int .i64 v]); have n_0 := NB.out.cell 0; have n_1 := NB.out.cell 1; simp at n_0 n_1; have hne := Lib.hid (show g < w3.heap.size from Nat.lt_of_lt_of_le HK2.out.lt hb.size); clear c_0 c_1 f_0 f_1 hgl; clear hb; have c_0 := HK3.out.cell 0; have c_1 := HK3.out.cell 1; have f_0 := HK3.out.frozen 0; have f_1 := HK3.out.frozen 1; simp at c_0 c_1; have hgl := HK3.out.lt))
            go_roundw
            case rel => exact ⟨k + 1, n, v, l, by omega, by go_num, rfl, rfl, mayB_mk (by omega) hv.2 n1 (by omega), hla, set2 HK3.out, HL.out, (HB3.out.setCell HL.out _).setCell HL.out _⟩
            case measure => simp [intOf]; omega
          · have e2 : decide (v ≤ u) = true := by simpa using hu
            go_wp2_with (go_at_call 7; refine (WT.out _).mono ?_; rintro e w2 ⟨rfl, hb⟩; have HK2 := Lib.hid (HK.out.below hb HK.out.lt); have HB2 := Lib.hid (HB.out.trans (hb.mono HB.out.size)); clear c_0 c_1 f_0 f_1 hgl; clear hb; have c_0 := HK2.out.cell 0; have c_1 := HK2.out.cell 1; have f_0 := HK2.out.frozen 0; have f_1 := HK2.out.frozen 1; simp at c_0 c_1; have hgl := HK2.out.lt)
            go_roundw
            case rel => exact ⟨k + 1, n, u, l, by omega, by go_num, rfl, rfl, HM.out, hla, HK2.out, HL.out, HB2.out⟩
            case measure => simp [intOf]; omega
      · have e0 : (q % 4 == 0) = false := beq_false_of_ne (by omega)
        have e1 : (q % 4 == 1) = false := beq_false_of_ne (by omega)
        clear hq4
        rcases Int.lt_or_le u n with hn | hn
        · have TK := Lib.hid (fun W : World => take_none n u W HM.out hn)
          go_wp2_with (go_at_call 6; refine (TK.out _).mono ?_; rintro e w2 ⟨rfl, hb⟩; have HK2 := Lib.hid ((HK.out.below hb HK.out.lt).alloc (.cells #[.int .i64 0, .int .i64 0] 23)); have HB2 := Lib.hid ((HB.out.trans (hb.mono HB.out.size)).alloc (HB.out.trans (hb.mono HB.out.size)).size (.cells #[.int .i64 0, .int .i64 0] 23)); have NB := Lib.hid (Blk.new w2 23 #[.int .i64 0, .int .i64 0]); have n_0 := NB.out.cell 0; have n_1 := NB.out.cell 1; simp at n_0 n_1; have hne := Lib.hid (show g < w2.heap.size from Nat.lt_of_lt_of_le HK.out.lt hb.size); clear c_0 c_1 f_0 f_1 hgl; clear hb; have c_0 := HK2.out.cell 0; have c_1 := HK2.out.cell 1; have f_0 := HK2.out.frozen 0; have f_1 := HK2.out.frozen 1; simp at c_0 c_1; have hgl := HK2.out.lt)
          go_roundw
          case rel => exact ⟨k + 1, n, u, l, by omega, by go_num, rfl, rfl, HM.out, hla, HK2.out, HL.out, HB2.out⟩
          case measure => simp [intOf]; omega
        · have TK := Lib.hid (fun W : World => take_ok n u W HM.out hn)
          have e3 : decide (n ≤ l) = false := by simp; omega
          have e4 : decide (u < n) = false := by simp; omega
          go_wp2_with (go_at_call 6; refine (TK.out _).mono ?_; rintro e w2 ⟨rfl, hb⟩; have HK2 := Lib.hid ((HK.out.below hb HK.out.lt).alloc (.cells #[.int .i64 (n + 1), .int .i64 u] 23)); have HB2 := Lib.hid ((HB.out.trans (hb.mono HB.out.size)).alloc (HB.out.trans (hb.mono HB.out.size)).size (.cells #[.int .i64 (n + 1), .int .i64 u] 23)); have NB := Lib.hid (Blk.new w2 23 #[.int .i64 (n + 1), .int .i64 u]); have n_0 := NB.out.cell 0; have n_1 := NB.out.cell 1; simp at n_0 n_1; have hne := Lib.hid (show g < w2.heap.size from Nat.lt_of_lt_of_le HK.out.lt hb.size); clear c_0 c_1 f_0 f_1 hgl; clear hb; have c_0 := HK2.out.cell 0; have c_1 := HK2.out.cell 1; have f_0 := HK2.out.frozen 0; have f_1 := HK2.out.frozen 1; simp at c_0 c_1; have hgl := HK2.out.lt)
          go_roundw
          case rel => exact ⟨k + 1, n + 1, u, n, by omega, by go_num, rfl, rfl, mayB_mk u0 uM (by omega) (by omega), by omega, set2 HK2.out, HL.out, (HB2.out.setCell HL.out _).setCell HL.out _⟩
          case measure => simp [intOf]; omega
    · go_wp2_with (go_at_call 10; refine (awake13_any _).mono ?_; rintro e w9 ⟨rfl, hb9⟩)
      go_ret
      exact ⟨rfl, HB.out.trans (hb9.mono HB.out.size)⟩
theorem walk (from_ : Int) (A : Option Addr) (len cap : Nat) (z : List Int) (w : World) (_ : (Lit.int .i64 from_).wf = true) (w1 : IsRow .u8 w A len cap z) :
    Calls Try.prog 4 #[.int .i64 from_, .slice A len cap] w fun e w' => e = .returned (.bool true) ∧ Below w.heap.size w w' := by
  by_cases h : 200 < len ∨ from_ < 0 ∨ 4611686018427387904 < from_
  · exact walk_out from_ A len cap w h
  · exact walk_in from_ A len cap z w (by omega) (by omega) (by omega) w1
/-! the step from the walk to the row -/
set_option maxRecDepth 100000 in
theorem lifted (os : Os) (started : os.Started) (H : Type) (enc : TypeId × Value → H) :
    ReturnsInHanded {} Try.checked os 4 .any (Rows.spaceRisesSpec.pre6 enc Try.prog Try.f4 Rows.spaceRisesRow.domain false) (Rows.spaceRisesSpec.post enc Try.prog Try.f4 false true false false) := by
  refine returnsInHanded_of_change (C := Try.checked) own started (by kernel_rfl) Try.func4
    (ChangeSpec.witness6 (enc := enc) (C := Try.checked) false ⟨#[], #[.int .i64 0, .slice none 0 0], []⟩ 8 (by kernel_rfl) (by kernel_rfl) (by kernel_rfl) (by kernel_rfl)) ?_
  intro W base args ds gs before hval0 hW hcnd _
  have hval : ∀ (j : Nat) t v, Try.f4.params[j]? = some t → args[j]? = some v → Value.okWide Try.prog W .any base t v := hval0
  have hW' := hW
  obtain ⟨p, q, hA0, hV, rfl, hfz, hnd⟩ := hW
  have hA : DataW.TrodAll enc Try.prog W 0 (fun _ => true) true Try.f4.params.toList args.toList ds p := hA0
  rw [Try.params4] at hA hval
  obtain ⟨v0, vs0, d0, ds0, p0, q0, hargs, rfl, rfl, h0, r0⟩ := trodAll_cons hA
  obtain ⟨v1, vs1, d1, ds1, p1, q1, rfl, rfl, rfl, h1, r1⟩ := trodAll_cons r0
  obtain ⟨rfl, rfl, rfl⟩ := trodAll_nil r1
  obtain rfl : args = #[v0, v1] := by cases args; simp_all
  obtain ⟨rfl, rfl⟩ := trodVars_none hV
  obtain ⟨a0, rfl, rfl, rfl, w0⟩ := open_int Try.underlying3 (hval 0 3 v0 rfl rfl) h0
  obtain ⟨a1, len1, cap1, rfl⟩ := okWide_slice Try.underlying36 (hval 1 36 v1 rfl rfl)
  have k1 := h1
  have lt1 : ∀ x ∈ p1, x.block < W.heap.size := by obtain ⟨m, hm⟩ := k1; exact DataW.trod_lt m _ _ _ hm
  obtain ⟨z1, w1⟩ : ∃ zs, IsRow .u8 W a1 len1 cap1 zs := by
    obtain ⟨fuel, hf⟩ := h1
    rcases open_ints Try.underlying36 Try.underlying5 (by kernel_rfl) hf with ⟨hcs, _⟩ | ⟨x, l, c, zs, hcs, _, hl, hm, hz, _, hcell, hwz⟩
    · simp [Value.cells] at hcs
      obtain ⟨rfl, rfl, rfl⟩ := hcs
      exact ⟨[], .inl ⟨rfl, rfl, rfl, rfl⟩⟩
    · simp [Value.cells] at hcs
      obtain ⟨rfl, rfl, rfl⟩ := hcs
      exact ⟨zs, .inr ⟨_, rfl, hl, hm, by simpa using hz, hcell, hwz⟩⟩
  clear hA0 hval0
  refine (walk a0 a1 len1 cap1 z1 W w0 w1).mono fun e W' ⟨he, bel⟩ => ?_
  subst he
  exact ⟨_, rfl, _, _, _, [], _, [], hW', trodAll_mk1 (shut_bool Try.underlying4 _), (trodAll_cons_mk (shut_int Try.underlying3 w0) (trodAll_cons_mk (Below.trod laidOut (by kernel_rfl) (of_decide_eq_true (by kernel_rfl)) k1 bel lt1) trodAll_mk0)), rfl, bel.frame _, fun h => by cases h⟩

theorem over : Rows.spaceRisesRow.holds Try.pinned (OpenSpec.ofChange Rows.spaceRisesSpec) :=
  OpenClaim.holds_of_wide 4 Try.f4 rfl rfl rfl rfl rfl rfl rfl ⟨rfl, rfl, rfl, rfl, rfl⟩ rfl rfl rfl rfl rfl (by kernel_rfl) Try.func4 (by kernel_rfl)
    (of_decide_eq_true (by kernel_rfl)) (by unfold Func.isWrapper; first | (rw [if_pos (by decide +kernel)]; kernel_rfl) | (rw [if_neg (by decide +kernel)]; exact ⟨rfl, rfl⟩))
    (fun os started H enc _ => lifted os started H enc)

/-- the statement -/
theorem proved : Rows.SpaceRisesSaid := over
end Go.Proofs.Ytgcmkcohfpgcfaa.spaceRises
