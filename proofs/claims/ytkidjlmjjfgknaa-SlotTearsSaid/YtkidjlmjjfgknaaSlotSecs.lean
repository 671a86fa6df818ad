/- The sectors of a base (layer 7): the contract of slot.Sectors. -/
import Derived.Test.YtkidjlmjjfgknaaSlotLoad
import Derived.Deep.OwnRows
namespace Go.Proofs.Ytkidjlmjjfgknaa.Slt
open Go.RowKit Go.Proofs.Ytkidjlmjjfgknaa.Mem Go.Proofs.Ytkidjlmjjfgknaa.Oct Go.Proofs.Ytkidjlmjjfgknaa.Pg Go.Proofs.Ytkidjlmjjfgknaa.Rcd
set_option linter.unusedVariables false
set_option linter.unusedSimpArgs false
theorem made_slices (n : Nat) : madeCells #[.slice none 0 0] n = (List.replicate n (Value.slice none 0 0)).toArray := by
  apply Array.ext
  · simp [madeCells]
  · intro i h1 h2
    simp [madeCells, Nat.mod_one]
theorem make_slices (m : Nat) (hm : m ≤ 1000) (w : World) : (Instr.makeSlice 22 (.int .i64 (m : Nat)) (.int .i64 (m : Nat))).run Try.prog w = .ok (.slice (some ⟨w.heap.size, 0, none⟩) m m) (w.alloc (.cells (List.replicate m (Value.slice none 0 0)).toArray 25)) := by
  have := run_make_row' (P := Try.prog) 22 25 (.slice none 0 0) 24 Try.underlying22 info25 rfl .i64 .i64 m (by omega) (by omega) w
  rw [made_slices] at this
  exact this
/-- a made row, the first k of which are sectors -/
def Made (w : World) (g m k : Nat) (F : Nat → List Nat) : Prop := ∃ vs : List Value, Blk w g 25 vs.toArray ∧ vs.length = m ∧ (∀ u ∈ vs, u.oneCell' = true ∧ isBy u = false) ∧ ∀ i, i < k → Sl w w.heap.size (vs.getD i undef) (F i)
theorem Made.below {w w' : World} {g m k : Nat} {F : Nat → List Nat} (h : Made w g m k F) (hb : Below w.heap.size w w') : Made w' g m k F := by
  obtain ⟨vs, h1, h2, h3, h4⟩ := h
  exact ⟨vs, h1.below hb h1.lt, h2, h3, fun i hi => ((h4 i hi).below hb (Nat.le_refl _)).more hb.size⟩
theorem made_new (w : World) (m : Nat) (F : Nat → List Nat) : Made (w.alloc (.cells (List.replicate m (Value.slice none 0 0)).toArray 25)) w.heap.size m 0 F := by
  refine ⟨List.replicate m (Value.slice none 0 0), Blk.new w _ _, by simp, fun u hu => ?_, fun i hi => absurd hi (by omega)⟩
  rw [List.eq_of_mem_replicate hu]
  exact ⟨rfl, rfl⟩
theorem Made.cell {w : World} {g m k : Nat} {F : Nat → List Nat} (h : Made w g m k F) (hk : k < m) : (∃ u, w.cell? ⟨g, k, none⟩ = some u ∧ u.oneCell' = true) ∧ w.frozen? ⟨g, k, none⟩ = false ∧ g < w.heap.size := by
  obtain ⟨vs, h1, h2, h3, h4⟩ := h
  refine ⟨⟨vs[k]'(by omega), by rw [h1.cell]; simp [List.getElem?_eq_getElem (by omega : k < vs.length)], (h3 _ (List.getElem_mem _)).1⟩, h1.frozen k, h1.lt⟩
theorem Made.step {w : World} {g m k : Nat} {F : Nat → List Nat} {u : Value} (h : Made w g m k F) (hk : k < m) (hs : Sl w w.heap.size u (F k)) : Made (w.setCell ⟨g, k, none⟩ u) g m (k + 1) F := by
  obtain ⟨vs, h1, h2, h3, h4⟩ := h
  have hn : NoBy w (some g) := noBy_cells h1 (fun u hu => (h3 u (by simpa using hu)).2)
  have hg := grown_set w ⟨g, k, none⟩ u
  have hup : ∀ v xs, Sl w w.heap.size v xs → Sl (w.setCell ⟨g, k, none⟩ u) (w.setCell ⟨g, k, none⟩ u).heap.size v xs := fun v xs h => (sl_by h hg (Nat.le_refl _) hn).more hg.size
  refine ⟨vs.set k u, ?_, by simp [h2], fun v hv => ?_, fun i hi => ?_⟩
  · have := h1.set_ k u
    simpa using this
  · rcases List.mem_or_eq_of_mem_set hv with hv | rfl
    · exact h3 v hv
    · exact sl_one hs
  · by_cases e : i = k
    · subst e
      have e1 : (vs.set i u).getD i undef = u := by simp [List.getD, h2, hk]
      rw [e1]
      exact hup _ _ hs
    · have e1 : (vs.set k u).getD i undef = vs.getD i undef := by simp [List.getD, List.getElem?_set, Ne.symm e]
      rw [e1]
      exact hup _ _ (h4 i (by omega))
theorem Made.sls {w : World} {g m : Nat} {F : Nat → List Nat} {ss : List (List Nat)} (h : Made w g m m F) (hm : m ≤ maxLen) (hl : ss.length = m) (hs : ∀ i, i < m → ss.getD i [] = F i) : Sls w w.heap.size (.slice (some ⟨g, 0, none⟩) m m) ss := by
  obtain ⟨vs, h1, h2, h3, h4⟩ := h
  refine ⟨_, _, _, rfl, hl, Nat.le_refl _, hm, fun _ => ⟨g, 0, rfl, h1.lt, fun i hi => ⟨vs.getD i undef, ?_, by rw [hs i hi]; exact h4 i hi⟩⟩⟩
  rw [Nat.zero_add, h1.cell]
  simp [List.getD, List.getElem?_eq_getElem (by omega : i < vs.length)]
theorem pages_may {g m : Int} {b : List Nat} {i : Nat} (h : fits (bP g m) b = true) (hi : i < parts b.length) : (nth (bP g m) b (parts b.length) i).May := by
  simp only [fits, Bool.and_eq_true] at h
  exact (may_iff _).1 (List.all_eq_true.1 h.2 _ (by simp only [pages, List.mem_map, List.mem_range]; exact ⟨i, hi, rfl⟩))
theorem secs_none {g m most : Int} {b : List Nat} (h : errOf g m most b ≠ 0) : secs g m most b = [] := by
  unfold secs
  rw [if_neg h]
set_option maxRecDepth 20000 in
set_option maxHeartbeats 8000000 in
theorem sectors_any (g mk most : Int) (A : Option Addr) (n c : Nat) (bs : List Nat) (w : World) (h : Sl w w.heap.size (.slice A n c) bs) (hb : bs.length = n) :
    Calls Try.prog 15 #[.agg #[.int .i64 g, .slice A n c], .int .i64 mk, .int .i64 most] w fun e w' => ∃ v', e = .returned (.tuple #[v', .int .i64 (errOf g mk most bs)]) ∧ Sls w' w'.heap.size v' (secs g mk most bs) ∧ Below w.heap.size w w' := by
  have hb0 := palloc (Below.refl w.heap.size w) (Obj.cells #[.int .i64 g, .slice A n c] 27)
  have kb := Blk.new w 27 #[.int .i64 g, .slice A n c]
  have hp := fun (W : World) => parts_any (n : Int) W
  rw [partsI_nat] at hp
  have sp := fun (W : World) (hW : Below w.heap.size w W) => split_any (bP g mk) (.slice none 0 0) A n c bs W ((h.below hW (Nat.le_refl _)).more hW.size) hb (by unfold In64 bP; simp only; omega)
  have e0 : pgV (bP g mk) (.slice none 0 0) = .agg #[.int .i64 1, .int .i64 g, .int .i64 mk, .int .i64 0, .int .i64 0, .int .i64 0, .slice none 0 0] := rfl
  rw [e0] at sp
  clear e0
  have hm16 := parts_le n
  have hpn : parts n = 0 ↔ 7808 < n := ⟨fun h => Nat.lt_of_not_le fun h2 => by have := parts_pos h2; omega, parts_zero⟩
  have her : errOf g mk most bs = if parts n = 0 ∨ most < parts n then 5 else if fits (bP g mk) bs = true then 0 else 1 := by unfold errOf; rw [hb]
  have hsn := @secs_none g mk most bs
  have hss : errOf g mk most bs = 0 → secs g mk most bs = sectorsOf g mk bs := fun h => by unfold secs; rw [if_pos h]
  have hgt := fun i (hi : i < parts n) => sectorsOf_get g mk bs i (by rw [hb]; exact hi)
  have hsl := sectorsOf_len g mk bs
  have hpg := fun i (hi : i < parts n) => pages_getD (bP g mk) bs i (by rw [hb]; exact hi)
  have hpy := fun i (hf : fits (bP g mk) bs = true) (hi : i < parts n) => pages_may hf (by rw [hb]; exact hi)
  rw [hb] at hgt hsl hpg hpy
  obtain ⟨m, hm⟩ : ∃ m, m = parts n := ⟨_, rfl⟩
  rw [← hm] at hp hm16 hpn her hgt hsl hpg hpy
  obtain ⟨ec, hec⟩ : ∃ ec, ec = errOf g mk most bs := ⟨_, rfl⟩
  obtain ⟨sl, hsl0⟩ : ∃ sl, sl = secs g mk most bs := ⟨_, rfl⟩
  rw [← hec] at her hsn hss ⊢
  rw [← hsl0] at hsn hss ⊢
  clear hec hsl0 hm h
  have HP := Lib.hid hp; clear hp
  have HB0 := Lib.hid hb0; clear hb0
  have KB := Lib.hid kb; clear kb
  have HBL := Lib.hid hb; clear hb
  by_cases hmo : most < (m : Int)
  · rw [if_pos (.inr hmo)] at her
    have hd : decide (most < (m : Int)) = true := by simpa using hmo
    have hs0 := hsn (by omega)
    rw [her, hs0]
    clear her hsn hss hgt hsl hpg hpy sp hmo hpn hs0
    go_enter Try.func15, Try.ntmps15
    go_wp2_with (go_at_call 24; refine (HP.out _).mono ?_; rintro e w' ⟨rfl, rfl⟩)
    go_ret2
    exact ⟨_, rfl, sls_nil _ _, HB0.out⟩
  · have hd : decide (most < (m : Int)) = false := by simpa using hmo
    by_cases hf : fits (bP g mk) bs = true
    · have hn78 : n ≤ 7808 := by have := fits_len hf; have := HBL.out; omega
      have hm0 : m ≠ 0 := fun e => by have := hpn.1 e; omega
      rw [if_neg (fun h => h.elim (fun e => hm0 e) hmo), if_pos hf] at her
      have hs0 := hss her
      rw [her, hs0]
      rw [if_neg (by omega : ¬ 7808 < n), if_pos hf, if_pos hf] at sp
      have hpy' := fun i hi => hpy i hf hi
      have SP := Lib.hid sp; clear sp
      have HPY := Lib.hid hpy'; clear hpy' hpy
      have HPG := Lib.hid hpg; clear hpg
      have HGT := Lib.hid hgt; clear hgt
      have HSL := Lib.hid hsl; clear hsl
      clear her hsn hss hmo hpn hs0 hf
      have hmk := fun (W : World) => make_slices m (by omega) W
      have hmp : 0 < m := by omega
      go_enter Try.func15, Try.ntmps15
      go_wp2_with (first
        | (go_at_call 24; refine (HP.out _).mono ?_; rintro e w' ⟨rfl, rfl⟩)
        | (go_at_call 25; refine (SP.out _ HB0.out).mono ?_; rintro e w2 ⟨v2, rfl, hp2, hb2⟩; obtain ⟨A2, n2, c2, rfl, _⟩ := id hp2; have hn2 : n2 = m := (by have h1 := (pgs_len hp2).1; rw [pages_length, HBL.out] at h1; have h2 := HGT; have := HSL.out; unfold sectorsOf at this; rw [List.length_map, pages_length, HBL.out] at this; omega); subst hn2; have HP2 := Lib.hid hp2; have HB2 := Lib.hid (HB0.out.trans (hb2.mono HB0.out.size)); clear hp2 hb2))
      obtain ⟨F, hF⟩ : ∃ F : Nat → List Nat, F = fun i => (nth (bP g mk) bs n2 i).sector := ⟨_, rfl⟩
      have HF := Lib.hid hF; clear hF
      have hmd := made_new w2 n2 F
      have hz2 : w2.heap.size < (w2.alloc (.cells (List.replicate n2 (Value.slice none 0 0)).toArray 25)).heap.size := by simp
      have hbm := palloc (Below.refl w2.heap.size w2) (Obj.cells (List.replicate n2 (Value.slice none 0 0)).toArray 25)
      have HMD := Lib.hid hmd; clear hmd
      have HBM := Lib.hid hbm; clear hbm
      have HB3 := Lib.hid (HB2.out.trans (HBM.out.mono HB2.out.size))
      go_loopw [37] (fun i wr => ∃ k : Nat, k ≤ n2 ∧ i = .int .i64 k ∧ Made wr w2.heap.size n2 k F ∧ Below w2.heap.size w2 wr) (fun i _ => n2 - (intOf i).toNat)
      case atStart => exact ⟨0, Nat.zero_le _, rfl, HMD.out, HBM.out⟩
      case round =>
        obtain ⟨k, hk, rfl, hmd, hbw⟩ := hrel
        have HB := Lib.hid hbw; clear hbw
        have HMK := Lib.hid hmd; clear hmd
        by_cases hlt : k < n2
        · obtain ⟨b, off, rfl, hb, hc⟩ := pgs_at HP2.out (by omega)
          obtain ⟨v1, hr1, hs1⟩ := hc k hlt
          rw [HPG.out k hlt] at hr1 hs1
          have hmy := HPY.out k hlt
          have hfk : F k = (nth (bP g mk) bs n2 k).sector := by rw [HF.out]
          obtain ⟨q1, hq1⟩ : ∃ q, q = nth (bP g mk) bs n2 k := ⟨_, rfl⟩
          rw [← hq1] at hr1 hs1 hmy hfk
          clear hq1 hc
          obtain ⟨A1, n1, c1, rfl, hbt1⟩ := hs1
          have HR1 := Lib.hid hr1; clear hr1
          have HFK := Lib.hid hfk; clear hfk
          have pu := put_ok q1 (.slice A1 n1 c1) (wr.alloc (.cells #[.int .i64 q1.kind, .int .i64 q1.gen, .int .i64 q1.mark, .int .i64 q1.index, .int .i64 q1.part, .int .i64 q1.parts, .slice A1 n1 c1] 43)) hmy ⟨A1, n1, c1, rfl, (hbt1.below (palloc HB.out _) (Nat.le_refl _)).more (palloc HB.out _).size⟩
          unfold pgV at pu
          have PU := Lib.hid pu; clear pu hbt1
          go_wp2_with (first
            | (refine wpList_load_mid rfl 43 (.tmp 40) rfl b (off + k * 7) rfl [.int .i64 q1.kind, .int .i64 q1.gen, .int .i64 q1.mark, .int .i64 q1.index, .int .i64 q1.part, .int .i64 q1.parts, .slice A1 n1 c1] _ (rangeAt_below HR1.out HB.out hb) Try.underlying43 rfl (by rw [size24]; rfl) ?_)
            | (go_at_call 26; refine (PU.out).mono ?_; rintro e w4 ⟨v4, rfl, hs4, hb4⟩; obtain ⟨A4, n4, c4, rfl, _⟩ := id hs4; have HS4 := Lib.hid hs4; have hbr := (palloc (Below.refl wr.heap.size wr) (Obj.cells #[.int .i64 q1.kind, .int .i64 q1.gen, .int .i64 q1.mark, .int .i64 q1.index, .int .i64 q1.part, .int .i64 q1.parts, .slice A1 n1 c1] 43)).trans (hb4.mono (by simp)); have HM4 := Lib.hid (HMK.out.below hbr); have HB4 := Lib.hid (HB.out.trans (hbr.mono HB.out.size)); obtain ⟨⟨uk, huk, huo⟩, hfk4, hg4⟩ := HM4.out.cell hlt; clear hbr hb4 hs4))
          go_roundw
          case rel => exact ⟨k + 1, by omega, by go_num, HM4.out.step hlt (by rw [HFK.out]; exact HS4.out), HB4.out.grown (grown_set w4 ⟨w2.heap.size, k, none⟩ _) HB4.out.size (fun q hq => by cases hq; exact Nat.le_refl _)⟩
          case measure => simp [intOf]; omega
        · obtain rfl : k = n2 := by omega
          go_wp2
          go_ret2
          exact ⟨_, rfl, HMK.out.sls (by unfold maxLen; omega) HSL.out (fun i hi => by rw [HGT.out i hi, HF.out]), HB2.out.trans (HB.out.mono HB2.out.size)⟩
    · have hf' : fits (bP g mk) bs = false := by simpa using hf
      obtain ⟨er, hers⟩ : ∃ er : Int, er = if 7808 < n then 5 else 1 := ⟨_, rfl⟩
      have hee : ec = er := by
        rw [her, hers]
        by_cases hn78 : 7808 < n
        · rw [if_pos (.inl (hpn.2 hn78)), if_pos hn78]
        · rw [if_neg (fun h => h.elim (fun e => hn78 (hpn.1 e)) hmo), if_neg hf, if_neg hn78]
      have hne : (er != 0) = true := by rw [bne_iff_ne]; split at hers <;> omega
      have hs0 := hsn (by rw [hee]; split at hers <;> omega)
      rw [hee, hs0]
      rw [if_neg hf, ← hers, if_neg hf] at sp
      have SP := Lib.hid sp; clear sp
      clear her hsn hss hgt hsl hpg hpy hmo hpn hs0 hf hf' hee hers
      go_enter Try.func15, Try.ntmps15
      go_wp2_with (first
        | (go_at_call 24; refine (HP.out _).mono ?_; rintro e w' ⟨rfl, rfl⟩)
        | (go_at_call 25; refine (SP.out _ HB0.out).mono ?_; rintro e w2 ⟨v2, rfl, hp2, hb2⟩; have HB2 := Lib.hid (HB0.out.trans (hb2.mono HB0.out.size)); clear hb2 hp2))
      go_ret2
      exact ⟨_, rfl, sls_nil _ _, HB2.out⟩
end Go.Proofs.Ytkidjlmjjfgknaa.Slt
