/- The sectors of a base (layer 7): the contract of the reference's Sectors. -/
import Derived.Test.YtkidjlmjjfgknaaSlotSecs
import Derived.Test.YtkidjlmjjfgknaaSlotRefPut
namespace Go.Proofs.Ytkidjlmjjfgknaa.Slt
open Go.RowKit Go.Proofs.Ytkidjlmjjfgknaa.Mem Go.Proofs.Ytkidjlmjjfgknaa.Oct Go.Proofs.Ytkidjlmjjfgknaa.Pg Go.Proofs.Ytkidjlmjjfgknaa.Rcd
set_option linter.unusedVariables false
set_option linter.unusedSimpArgs false
theorem reads_slice (w : World) (u : Value) (g : Nat) (hg : g = w.heap.size) : Reads (w.alloc (.cells #[u] 25)) (w.heap.size + 1) 1 (some ⟨g, 0, none⟩) 1 [u] := by
  subst hg
  refine ⟨by simp, fun _ => ⟨_, rfl, Nat.lt_succ_self _, fun j x hx => ?_⟩⟩
  have hk := Blk.new w 25 #[u]
  rw [add_plain, Nat.zero_add, hk.cell]
  simpa using hx
theorem zSl_nob : ∀ u ∈ (Value.slice none 0 0).cells.toList, isBy u = false := by
  intro u hu
  have e : (Value.slice none 0 0).cells.toList = [.slice none 0 0] := rfl
  rw [e] at hu
  rw [List.mem_singleton.1 hu]
  rfl
theorem slRow_push {w5 W w7 : World} {base : Nat} {u v7 vq : Value} {ss : List (List Nat)} {vs : List Value} {s : List Nat} (hvl : vs.length = ss.length) (hown : OwnN w5 base 25 1 u ss.length vs) (hvs : ∀ i, i < ss.length → Sl w5 w5.heap.size (vs.getD i undef) (ss.getD i []))
    (hq : Sl w5 w5.heap.size vq s) (hW : Below w5.heap.size w5 W) (hown7 : OwnN w7 base 25 1 v7 (ss.length + 1) (vs ++ [vq])) (hg7 : W.grownBy w7 u.ownBlock) : SlRow w7 base v7 (ss ++ [s]) :=
  slRow_app (ts := [s]) (us := [vq]) hvl rfl (hown.below hW).2 (fun i hi => ((hvs i hi).below hW (Nat.le_refl _)).more hW.size) (fun i hi => by
    have : i = 0 := by simpa using hi
    subst this
    exact (hq.below hW (Nat.le_refl _)).more hW.size) hown7 hg7
set_option maxRecDepth 20000 in
set_option maxHeartbeats 8000000 in
theorem rsectors_any (g mk most : Int) (A : Option Addr) (n c : Nat) (bs : List Nat) (w : World) (h : Sl w w.heap.size (.slice A n c) bs) (hb : bs.length = n) :
    Calls Try.prog 16 #[.agg #[.int .i64 g, .slice A n c], .int .i64 mk, .int .i64 most] w fun e w' => ∃ v', e = .returned (.tuple #[v', .int .i64 (errOf g mk most bs)]) ∧ Sls w' w'.heap.size v' (secs g mk most bs) ∧ Below w.heap.size w w' := by
  have hb0 := palloc (Below.refl w.heap.size w) (Obj.cells #[.int .i64 g, .slice A n c] 27)
  have kb := Blk.new w 27 #[.int .i64 g, .slice A n c]
  have hp := fun (W : World) => rparts_any (n : Int) W
  rw [partsI_nat] at hp
  have sp := fun (W : World) (hW : Below w.heap.size w W) => rsplit_any (bP g mk) (.slice none 0 0) A n c bs W ((h.below hW (Nat.le_refl _)).more hW.size) hb (by unfold bP; simp only; omega) (by unfold bP; simp only; omega)
  have e0 : pgV (bP g mk) (.slice none 0 0) = .agg #[.int .i64 1, .int .i64 g, .int .i64 mk, .int .i64 0, .int .i64 0, .int .i64 0, .slice none 0 0] := rfl
  rw [e0] at sp
  clear e0
  have hm16 := parts_le n
  have her : errOf g mk most bs = if parts n = 0 ∨ most < parts n then 5 else if fits (bP g mk) bs = true then 0 else 1 := by unfold errOf; rw [hb]
  have hsn := @secs_none g mk most bs
  have hss : errOf g mk most bs = 0 → secs g mk most bs = sectorsOf g mk bs := fun h => by unfold secs; rw [if_pos h]
  have hgt := fun i (hi : i < parts n) => sectorsOf_get g mk bs i (by rw [hb]; exact hi)
  have hsl := sectorsOf_len g mk bs
  have hpg := fun i (hi : i < parts n) => pages_getD (bP g mk) bs i (by rw [hb]; exact hi)
  have hpy := fun i (hf : fits (bP g mk) bs = true) (hi : i < parts n) => pages_may hf (by rw [hb]; exact hi)
  have hpl := pages_length (bP g mk) bs
  have hfa : parts n ≠ 0 → (pages (bP g mk) bs).all P.may = fits (bP g mk) bs := fun h => by unfold fits; rw [hb, decide_eq_true (by omega), Bool.true_and]
  rw [hb] at hgt hsl hpg hpy hpl
  obtain ⟨m, hm⟩ : ∃ m, m = parts n := ⟨_, rfl⟩
  rw [← hm] at hp hm16 her hgt hsl hpg hpy hpl hfa
  obtain ⟨ps, hps⟩ : ∃ ps, ps = pages (bP g mk) bs := ⟨_, rfl⟩
  rw [← hps] at sp hpg hpl hfa
  obtain ⟨ec, hec⟩ : ∃ ec, ec = errOf g mk most bs := ⟨_, rfl⟩
  obtain ⟨sl, hsl0⟩ : ∃ sl, sl = secs g mk most bs := ⟨_, rfl⟩
  rw [← hec] at her hsn hss ⊢
  rw [← hsl0] at hsn hss ⊢
  clear hec hsl0 hm h hps
  have HP := Lib.hid hp; clear hp
  have HB0 := Lib.hid hb0; clear hb0
  have KB := Lib.hid kb; clear kb
  have HBL := Lib.hid hb; clear hb
  have SP := Lib.hid sp; clear sp
  have HPL := Lib.hid hpl; clear hpl
  obtain ⟨i0, hi, hz0, hz1, hz2⟩ := info_parts info25
  have HI := Lib.hid hi; clear hi
  have HZ0 := Lib.hid hz0; clear hz0
  have HZ1 := Lib.hid hz1; clear hz1
  have HZ2 := Lib.hid hz2; clear hz2
  by_cases hm0 : m = 0
  · rw [if_pos (.inl hm0)] at her
    have hd : ((m : Int) == 0) = true := by simp [hm0]
    have hs0 := hsn (by omega)
    rw [her, hs0]
    clear her hsn hss hgt hsl hpg hpy hs0 hm0 hfa
    go_enter Try.func16, Try.ntmps16
    go_wp2_with (go_at_call 27; refine (HP.out _).mono ?_; rintro e w' ⟨rfl, rfl⟩)
    go_ret2
    exact ⟨_, rfl, sls_nil _ _, HB0.out⟩
  · have hd : ((m : Int) == 0) = false := by rw [beq_eq_false_iff_ne]; omega
    have hfa' := hfa hm0
    by_cases hmo : most < (m : Int)
    · rw [if_pos (.inr hmo)] at her
      have hd2 : decide (most < (m : Int)) = true := by simpa using hmo
      have hs0 := hsn (by omega)
      rw [her, hs0]
      clear her hsn hss hgt hsl hpg hpy hmo hs0 hm0 hfa hfa'
      go_enter Try.func16, Try.ntmps16
      go_wp2_with (go_at_call 27; refine (HP.out _).mono ?_; rintro e w' ⟨rfl, rfl⟩)
      go_ret2
      exact ⟨_, rfl, sls_nil _ _, HB0.out⟩
    · have hd2 : decide (most < (m : Int)) = false := by simpa using hmo
      rw [if_neg (fun h => h.elim (fun e => hm0 e) hmo)] at her
      cases hf : fits (bP g mk) bs
      · rw [hf, if_neg (by simp)] at her
        have hs0 := hsn (by omega)
        rw [hf] at hfa'
        rw [her, hs0]
        have my := fun (A1 : Option Addr) (n1 c1 : Nat) (W : World) (h1 : Pgs W W.heap.size (.slice A1 n1 c1) ps) => rmays_any A1 n1 c1 ps W h1 (by have := (pgs_len h1).1; have := HPL.out; omega)
        rw [hfa'] at my
        have MY := Lib.hid my; clear my
        clear her hsn hss hgt hsl hpg hpy hmo hs0 hm0 hfa hfa' hf
        go_enter Try.func16, Try.ntmps16
        go_wp2_with (first
          | (go_at_call 27; refine (HP.out _).mono ?_; rintro e w' ⟨rfl, rfl⟩)
          | (go_at_call 28; refine (SP.out _ HB0.out).mono ?_; rintro e w2 ⟨v2, rfl, hop2, hb2⟩; have hp2 := own_pgs hop2; obtain ⟨A2, n2, c2, rfl, _⟩ := id hp2; have HP2 := Lib.hid hp2; have HB2 := Lib.hid (HB0.out.trans (hb2.mono HB0.out.size)); clear hb2 hp2 hop2)
          | (go_at_call 29; refine (MY.out A2 n2 c2 _ HP2.out).mono ?_; rintro e w3 ⟨rfl, hb3⟩; have HB3 := Lib.hid (HB2.out.trans (hb3.mono HB2.out.size)); clear hb3))
        go_ret2
        exact ⟨_, rfl, sls_nil _ _, HB3.out⟩
      · rw [hf, if_pos rfl] at her
        have hs0 := hss her
        rw [hf] at hfa'
        rw [her, hs0]
        have my := fun (A1 : Option Addr) (n1 c1 : Nat) (W : World) (h1 : Pgs W W.heap.size (.slice A1 n1 c1) ps) => rmays_any A1 n1 c1 ps W h1 (by have := (pgs_len h1).1; have := HPL.out; omega)
        rw [hfa'] at my
        have MY := Lib.hid my; clear my
        have hpy' := fun i hi => hpy i hf hi
        have HPY := Lib.hid hpy'; clear hpy' hpy
        have HPG := Lib.hid hpg; clear hpg
        have HGT := Lib.hid hgt; clear hgt
        have HSL := Lib.hid hsl; clear hsl
        clear her hsn hss hmo hs0 hfa hfa' hf
        go_enter Try.func16, Try.ntmps16
        go_wp2_with (first
          | (go_at_call 27; refine (HP.out _).mono ?_; rintro e w' ⟨rfl, rfl⟩)
          | (go_at_call 28; refine (SP.out _ HB0.out).mono ?_; rintro e w2 ⟨v2, rfl, hop2, hb2⟩; have hp2 := own_pgs hop2; obtain ⟨A2, n2, c2, rfl, _⟩ := id hp2; have hn2 : n2 = m := (by have h1 := (pgs_len hp2).1; have := HPL.out; omega); subst hn2; have HP2 := Lib.hid hp2; have HB2 := Lib.hid (HB0.out.trans (hb2.mono HB0.out.size)); clear hb2 hp2 hop2)
          | (go_at_call 29; refine (MY.out A2 n2 c2 _ HP2.out).mono ?_; rintro e w3 ⟨rfl, hb3⟩; have HP3 := Lib.hid ((HP2.out.below hb3 (Nat.le_refl _)).more hb3.size); have HB3 := Lib.hid (HB2.out.trans (hb3.mono HB2.out.size)); clear hb3))
        have HR0 := Lib.hid (slRow_lit w3 w3.heap.size _ rfl (Nat.le_refl _))
        have HBL3 := Lib.hid (palloc (Below.refl w3.heap.size w3) (Obj.cells #[] 25))
        obtain ⟨F, hF⟩ : ∃ F : Nat → List Nat, F = fun i => (nth (bP g mk) bs n2 i).sector := ⟨_, rfl⟩
        have HF := Lib.hid hF; clear hF
        go_loopw [10, 11] (fun vo i wr => ∃ k : Nat, k ≤ n2 ∧ i = .int .i64 k ∧ SlRow wr w3.heap.size vo ((List.range k).map F) ∧ Below w3.heap.size w3 wr) (fun _ i _ => n2 - (intOf i).toNat)
        case atStart => exact ⟨0, Nat.zero_le _, rfl, HR0.out, HBL3.out⟩
        case round =>
          obtain ⟨k, hk, rfl, hrow, hbw⟩ := hrel
          have HB := Lib.hid hbw; clear hbw
          have HROW := Lib.hid hrow; clear hrow
          by_cases hlt : k < n2
          · obtain ⟨b, off, rfl, hb, hc⟩ := pgs_at HP3.out (by omega)
            obtain ⟨v1, hr1, hs1⟩ := hc k hlt
            rw [HPG.out k hlt] at hr1 hs1
            have hmy := HPY.out k hlt
            have hfk : F k = (nth (bP g mk) bs n2 k).sector := by rw [HF.out]
            obtain ⟨q1, hq1⟩ : ∃ q, q = nth (bP g mk) bs n2 k := ⟨_, rfl⟩
            rw [← hq1] at hr1 hs1 hmy hfk
            clear hq1 hc
            obtain ⟨A1, n1, c1, rfl, hbt1⟩ := hs1
            have HR1 := Lib.hid hr1; clear hr1
            have HFK := Lib.hid hfk; clear hfk
            have pu := ref_putB q1 (.slice A1 n1 c1) wr hmy ⟨A1, n1, c1, rfl, (hbt1.below HB.out (Nat.le_refl _)).more HB.out.size⟩
            unfold pgV at pu
            have PU := Lib.hid pu; clear pu hbt1
            have hk16 : k < 16 := by omega
            obtain ⟨ss, hss⟩ : ∃ ss, ss = (List.range k).map F := ⟨_, rfl⟩
            have hsl : ss.length = k := by rw [hss]; simp
            have hsn : (List.range (k + 1)).map F = ss ++ [F k] := by rw [hss, List.range_succ, List.map_append]; rfl
            rw [← hss] at HROW
            have HSN := Lib.hid hsn; clear hsn hss
            have HSS := Lib.hid hsl; clear hsl
            go_wp2_with (first
              | (refine wpList_load_mid rfl 43 (.tmp 43) rfl b (off + k * 7) rfl [.int .i64 q1.kind, .int .i64 q1.gen, .int .i64 q1.mark, .int .i64 q1.index, .int .i64 q1.part, .int .i64 q1.parts, .slice A1 n1 c1] _ (rangeAt_below HR1.out HB.out hb) Try.underlying43 rfl (by rw [size24]; rfl) ?_)
              | (go_at_call 30; refine (PU.out).mono ?_; rintro e w4 ⟨v4, rfl, hs4, hb4⟩; obtain ⟨A4, n4, c4, rfl, _⟩ := id hs4; have HS4 := Lib.hid hs4; obtain ⟨vs, hvl, hown4, hvs⟩ := (HROW.out).below hb4; have HVL := Lib.hid hvl; have HOW := Lib.hid hown4; have HVS := Lib.hid hvs; have HB4 := Lib.hid (HB.out.trans (hb4.mono HB.out.size)); have hz4 := HB4.out.size; clear hb4 hs4 hvl hown4 hvs)
              | (at_builtin; refine wpList_append_n _ rfl (.tmp 40) (.tmp 46) 22 rfl w3.heap.size 25 i0 (.slice none 0 0) 1 24 Try.underlying22 HI.out HZ0.out HZ1.out HZ2.out rfl (by decide) zSl_nob u10 ss.length vs rfl ?own (w4.heap.size + 1) (some ⟨w4.heap.size, 0, none⟩) 1 1 [.slice A4 n4 c4] ?hx ?hr (by simp [Value.oneCell']) (by intro u hu; rw [List.mem_singleton.1 hu]; rfl) ?h63 ?hby ?hbase ?_; (case own => exact HOW.out.below (palloc (Below.refl _ _) _)); (case hx => first | rfl | simp [Act.eval]); (case hr => exact reads_slice _ _ _ rfl); (case h63 => (have := HSS.out; unfold maxLen; omega)); (case hby => (have := HSS.out; omega)); (case hbase => (simp; omega)); intro v5 w5 hown5 hg5 _; have hbw := palloc (Below.refl w4.heap.size w4) (Obj.cells #[.slice A4 n4 c4] 25); have HR5 := Lib.hid (slRow_push HVL.out HOW.out HVS.out HS4.out hbw hown5 hg5); have HB5 := Lib.hid ((HB4.out.trans (hbw.mono HB4.out.size)).grown hg5 (HB4.out.trans (hbw.mono HB4.out.size)).size (fun q hq => (HOW.out.1.lt q hq).1)); clear hown5 hg5 hbw))
            go_roundw
            case rel => exact ⟨k + 1, by omega, by go_num, by rw [HSN.out, HFK.out]; exact HR5.out, HB5.out⟩
            case measure => simp [intOf]; omega
          · obtain rfl : k = n2 := by omega
            have heq : (List.range k).map F = sectorsOf g mk bs := by
              apply List.ext_getElem
              · rw [HSL.out]; simp
              · intro i h1 h2
                have h3 : i < k := by simpa using h1
                have h4 := HGT.out i h3
                simp only [List.getD, List.getElem?_eq_getElem h2, Option.getD_some] at h4
                have h5 : F i = (nth (bP g mk) bs k i).sector := by rw [HF.out]
                rw [h4, ← h5]
                simp
            rw [heq] at HROW
            go_wp2
            go_ret2
            exact ⟨_, rfl, slRow_sls HROW.out, HB3.out.trans (HB.out.mono HB3.out.size)⟩
end Go.Proofs.Ytkidjlmjjfgknaa.Slt
