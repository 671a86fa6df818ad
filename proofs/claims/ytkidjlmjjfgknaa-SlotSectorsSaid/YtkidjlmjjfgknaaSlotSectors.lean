/- SlotSectors (layer 7): any base's sectors, and that they are loaded as it, whatever stands behind. (The walk was printed by tools/slot/secs.py, the lift by lift.py.) -/
import Derived.Test.YtkidjlmjjfgknaaSlotAwake
import Derived.Deep.RegionHeld3
import Derived.IntWalk
import Derived.WalkKit
import Derived.ProofKit
import Derived.OpenShut
import Derived.ShutString
import Derived.ChangeOld
import Derived.Below
namespace Go.Proofs.Ytkidjlmjjfgknaa.slotSectors
open Go.RowKit Go.Proofs.Ytkidjlmjjfgknaa.Mem Go.Proofs.Ytkidjlmjjfgknaa.Oct Go.Proofs.Ytkidjlmjjfgknaa.Pg Go.Proofs.Ytkidjlmjjfgknaa.Rcd Go.Proofs.Ytkidjlmjjfgknaa.Slt
set_option linter.unusedVariables false
set_option linter.unusedSimpArgs false
theorem secs_600 {g m most : Int} {b : List Nat} : ∀ s ∈ secs g m most b, s.length ≤ 600 := by
  unfold secs
  split
  · rename_i h
    have hf : fits (bP g m) b = true := by
      unfold errOf at h
      split at h
      · cases h
      · split at h
        · assumption
        · cases h
    exact sectorsOf_600 hf
  · simp
theorem err_zero {g m most : Int} {b : List Nat} (h : errOf g m most b = 0) : fits (bP g m) b = true ∧ secs g m most b = sectorsOf g m b := by
  refine ⟨?_, by unfold secs; rw [if_pos h]⟩
  unfold errOf at h
  split at h
  · cases h
  · split at h
    · assumption
    · cases h
theorem slRow_all {w w' : World} {base B n : Nat} {v v' : Value} {A : Option Addr} {ss ts : List (List Nat)} {vs us : List Value} (hl : vs.length = ss.length) (hn : NoBy w v.ownBlock) (h : ∀ i, i < ss.length → Sl w w.heap.size (vs.getD i undef) (ss.getD i [])) (hB : B ≤ w.heap.size)
    (src : SlSrc w B A n ts us) (hown : OwnN w' base 25 1 v' (ss.length + n) (vs ++ us)) (hg : w.grownBy w' v.ownBlock) : SlRow w' base v' (ss ++ ts) :=
  slRow_app hl src.len hn h (fun i hi => (src.sl i hi).more hB) (by rw [src.num]; exact hown) hg
set_option maxRecDepth 20000 in
set_option maxHeartbeats 8000000 in
theorem sectors_true (g x0 x1 : Int) (A A' : Option Addr) (n n' c c' : Nat) (zs : List Int) (w : World) (h : IsRow .u8 w A n c zs) (h' : IsRecs w A' n' c' 1 (fun _ v => RowOf .u8 w v)) :
    Calls Try.prog 4 #[.agg #[.int .i64 g, .slice A n c], .agg #[.int .i64 x0, .int .i64 x1], .slice A' n' c'] w fun e w' => e = .returned (.bool true) ∧ Below w.heap.size w w' := by
  have hb0 := palloc (palloc (Below.refl w.heap.size w) (Obj.cells #[.int .i64 g, .slice A n c] 27)) (Obj.cells #[.int .i64 x0, .int .i64 x1] 34)
  have k3 := (Blk.new w 27 #[.int .i64 g, .slice A n c]).alloc (Obj.cells #[.int .i64 x0, .int .i64 x1] 34)
  have k4 := Blk.new (w.alloc (Obj.cells #[.int .i64 g, .slice A n c] 27)) 34 #[.int .i64 x0, .int .i64 x1]
  rw [show (w.alloc (Obj.cells #[.int .i64 g, .slice A n c] 27)).heap.size = w.heap.size + 1 by simp] at k4
  have HB0 := Lib.hid hb0; clear hb0
  have K3 := Lib.hid k3; clear k3
  have K4 := Lib.hid k4; clear k4
  have li2 := fun (W : World) (hW : Below w.heap.size w W) => slight_any A' n' c' W w hW h'
  have HR' := Lib.hid h'; clear h'
  have LI2 := Lib.hid li2; clear li2
  by_cases hn8 : n ≤ 8000
  · have hd : decide (8000 < (n : Int)) = false := by simp only [decide_eq_false_iff_not]; omega
    obtain ⟨bs, hsl, hbl⟩ := sl_of_row h (by omega)
    have HSLB := Lib.hid hsl; clear hsl
    have HBL := Lib.hid hbl; clear hbl
    clear h
    go_enter Try.func4, Try.ntmps4
    go_wp2_with fail
    refine (LI2.out _ ?hb0).mono ?_
    case hb0 => with_reducible repeat (first | exact HB0.out | refine below_drewN ?_ _ | refine pdrew ?_)
    rintro e w1 ⟨ok, rfl, hok, m2, rfl⟩
    cases ok
    · go_wp2_with (go_at_call 7; refine (awake7_any _).mono ?_; rintro e w2 ⟨rfl, hb2⟩; have HB2 := Lib.hid (below_up (w := w) hb2 (by with_reducible repeat (first | exact HB0.out | refine below_drewN ?_ _ | refine pdrew ?_))); clear hb2)
      go_ret
      exact ⟨rfl, HB2.out⟩
    · obtain ⟨hn', hs'⟩ := hok rfl
      clear hok
      obtain ⟨ts, hslt, hlen'⟩ := sls_in HR'.out hs'
      have hA' := recs_none HR'.out
      have se := fun (W : World) (hW : Below w.heap.size w W) => sectors_any g x0 x1 A n c bs W ((HSLB.out.below hW (Nat.le_refl _)).more hW.size) HBL.out
      have re := fun (W : World) (hW : Below w.heap.size w W) => rsectors_any g x0 x1 A n c bs W ((HSLB.out.below hW (Nat.le_refl _)).more hW.size) HBL.out
      have hs6 := @secs_600 g x0 x1 bs
      have hez := @err_zero g x0 x1 bs
      have hsn := @secs_none g x0 x1 bs
      have hsl16 : (secs g x0 x1 bs).length ≤ 16 := by
        unfold secs
        split
        · rw [sectorsOf_len]; exact parts_le _
        · simp
      obtain ⟨ec, hec⟩ : ∃ ec, ec = errOf g x0 x1 bs := ⟨_, rfl⟩
      obtain ⟨ss, hss⟩ : ∃ ss, ss = secs g x0 x1 bs := ⟨_, rfl⟩
      rw [← hec] at se re hez hsn
      rw [← hss] at se re hs6 hez hsn hsl16
      obtain ⟨N, hN⟩ : ∃ N, N = ss.length := ⟨_, rfl⟩
      rw [← hN] at hsl16
      have hqe : (ec != ec) = false := by simp
      have hqn : ((N : Int) != (N : Int)) = false := by simp
      have SE := Lib.hid se; clear se
      have RE := Lib.hid re; clear re
      have HS6 := Lib.hid hs6; clear hs6
      have HEZ := Lib.hid hez; clear hez
      have HN := Lib.hid hN; clear hN
      have HSLT := Lib.hid hslt; clear hslt
      have HLT := Lib.hid hlen'; clear hlen'
      have HSN := Lib.hid hsn; clear hsn
      clear hec hss hs' hA'
      go_wp2_with (first
        | (go_at_call 15; refine (SE.out _ ?hb1).mono ?_; (case hb1 => with_reducible repeat (first | exact HB0.out | refine below_drewN ?_ _ | refine pdrew ?_)); rintro e w1 ⟨v1, rfl, hs1, hb⟩; have hn1 : ∃ A1 c1, v1 = .slice A1 N c1 := (by obtain ⟨A1, c1, e⟩ := sls_form hs1; exact ⟨A1, c1, by rw [e, HN.out]⟩); obtain ⟨A1, c1, rfl⟩ := hn1; have HS1 := Lib.hid hs1; have HB1 := Lib.hid (below_up (w := w) hb (by with_reducible repeat (first | exact HB0.out | refine below_drewN ?_ _ | refine pdrew ?_))); have K31 := Lib.hid ((K3.out.drewN m2).below hb K3.out.lt); have K41 := Lib.hid ((K4.out.drewN m2).below hb K4.out.lt); have p0 := K31.out.cell 0; have p1 := K31.out.cell 1; have q0 := K41.out.cell 0; have q1 := K41.out.cell 1; simp at p0 p1 q0 q1; clear hs1 hb)
        | (go_at_call 16; refine (RE.out _ HB1.out).mono ?_; clear p0 p1 q0 q1; rintro e w2 ⟨v2, rfl, hs2, hb⟩; have hn2 : ∃ A2 c2, v2 = .slice A2 N c2 := (by obtain ⟨A2, c2, e⟩ := sls_form hs2; exact ⟨A2, c2, by rw [e, HN.out]⟩); obtain ⟨A2, c2, rfl⟩ := hn2; have HS2 := Lib.hid hs2; have HS12 := Lib.hid (HS1.out.up hb); have HB2 := Lib.hid (HB1.out.trans (hb.mono HB1.out.size)); have K32 := Lib.hid (K31.out.below hb K31.out.lt); clear hs2 hb))
      go_loopw [11] (fun i wr => ∃ k : Nat, k ≤ N ∧ i = .int .i64 k ∧ Below w2.heap.size w2 wr) (fun i _ => N - (intOf i).toNat)
      case atStart => exact ⟨0, Nat.zero_le _, rfl, Below.refl _ _⟩
      case round =>
        obtain ⟨k, hk, rfl, hbw⟩ := hrel
        have HB := Lib.hid hbw; clear hbw
        by_cases hlt : k < N
        · obtain ⟨b1, o1, rfl, hb1, hc1⟩ := sls_at HS12.out (by omega)
          obtain ⟨b2, o2, rfl, hb2, hc2⟩ := sls_at HS2.out (by omega)
          obtain ⟨u1, hu1, hs1⟩ := hc1 k hlt
          obtain ⟨u2, hu2, hs2⟩ := hc2 k hlt
          obtain ⟨A3, n3, c3, rfl, hbt3, _⟩ := hs1
          obtain ⟨A4, n4, c4, rfl, hbt4, _⟩ := hs2
          have e1 : wr.cell? ⟨b1, o1 + k, none⟩ = some (.slice A3 n3 c3) := by rw [HB.out.cell (p := ⟨b1, o1 + k, none⟩) hb1]; exact hu1
          have e2 : wr.cell? ⟨b2, o2 + k, none⟩ = some (.slice A4 n4 c4) := by rw [HB.out.cell (p := ⟨b2, o2 + k, none⟩) hb2]; exact hu2
          obtain ⟨s, hs⟩ : ∃ s, s = ss.getD k [] := ⟨_, rfl⟩
          rw [← hs] at hbt3 hbt4
          have HT3 := Lib.hid hbt3
          have HT4 := Lib.hid hbt4
          clear hs hbt3 hbt4 hu1 hu2 hc1 hc2
          go_wp2
          go_region_held3 (fun W => W.cell? ⟨b1, o1 + k, none⟩ = some (.slice A3 n3 c3) ∧ W.cell? ⟨b2, o2 + k, none⟩ = some (.slice A4 n4 c4))
            (first
              | with_reducible exact ⟨e1, e2⟩
              | go_keep)
            (first
              | (go_at_call 17; refine (rsame_any A3 A4 n3 n4 c3 c4 w2.heap.size w2.heap.size s s _ ?t3 ?t4).mono ?_; (case t3 => exact Bts.below HT3.out (by with_reducible repeat (first | exact HB.out | refine below_drewN ?_ _ | refine pdrew ?_)) (Nat.le_refl _)); (case t4 => exact Bts.below HT4.out (by with_reducible repeat (first | exact HB.out | refine below_drewN ?_ _ | refine pdrew ?_)) (Nat.le_refl _)); rintro e w4 ⟨rfl, m4, rfl⟩; rw [decide_eq_true rfl]))
          go_wp2
          go_roundw
          case rel => exact ⟨k + 1, by omega, by go_num, by with_reducible repeat (first | exact HB.out | refine below_drewN ?_ _ | refine pdrew ?_)⟩
          case measure => simp [intOf]; omega
        · obtain rfl : k = N := by omega
          have HBR := Lib.hid (HB2.out.trans (HB.out.mono HB2.out.size))
          by_cases he : ec = 0
          · obtain ⟨hf, hse⟩ := HEZ.out he
            have hee : (ec != 0) = false := by simp [he]
            have hk0 : 0 < k := by rw [HN.out, hse, sectors_len hf]; exact parts_pos (fits_len hf)
            have hld := loaded_sectors ts hf
            rw [← hse] at hld
            obtain ⟨M, hM⟩ : ∃ M, M = (ss ++ ts).length := ⟨_, rfl⟩
            have hM1 : 0 < M ∧ M ≤ 1000 := by rw [hM, List.length_append]; have := (sls_len HSLT.out).1; have := HN.out; omega
            have HMM := Lib.hid hM; clear hM
            have HM1b := Lib.hid hM1; clear hM1
            have ld := fun (A5 : Option Addr) (c5 : Nat) (W : World) (hS : Sls W W.heap.size (.slice A5 M c5) (ss ++ ts)) => load_at A5 M c5 (ss ++ ts) W W (Below.refl _ _) hS HM1b.out.2 (sls_some hS HM1b.out.1) (fun s hs => by
              rcases List.mem_append.1 hs with hs | hs
              · exact HS6.out s hs
              · exact HLT.out s hs)
            have hlb : theB (ss ++ ts) = (g, bs) := by unfold theB; rw [hld]; rfl
            rw [hld, hlb] at ld
            simp only [Option.isSome_some] at ld
            have LD := Lib.hid ld; clear ld
            obtain ⟨us, hsrc⟩ := slSrc_of (HS12.out.up HB.out)
            obtain ⟨us', hsrc'⟩ := slSrc_of (HSLT.out.up HBR.out)
            have hsrc0 := hsrc.below (palloc (Below.refl wr.heap.size wr) (Obj.cells #[] 25))
            have SRC := Lib.hid hsrc0; clear hsrc hsrc0
            have SRC' := Lib.hid hsrc'; clear hsrc'
            have hnts := (sls_len HSLT.out).1
            have HNT := Lib.hid hnts; clear hnts
            have K3r := Lib.hid (K32.out.below HB.out K32.out.lt)
            obtain ⟨i0, hi, hz0, hz1, hz2⟩ := info_parts info25
            have HI := Lib.hid hi; clear hi
            have HZ0 := Lib.hid hz0; clear hz0
            have HZ1 := Lib.hid hz1; clear hz1
            have HZ2 := Lib.hid hz2; clear hz2
            have OL := Lib.hid (ownN_lit wr wr.heap.size 25 1 (Nat.le_refl _))
            have HM0 := Lib.hid (rfl : (0 : Nat) = 0)
            clear hf hse hld hlb he
            have hbl0 := palloc (Below.refl wr.heap.size wr) (Obj.cells #[] 25)
            have HBL0 := Lib.hid hbl0; clear hbl0
            have HBT0 := Lib.hid (HSLB.out)
            go_wp2_with (first
              | (have HM1 := HM0; at_builtin; refine wpList_append_n _ rfl (.tmp 72) (.tmp 73) 22 rfl wr.heap.size 25 i0 (.slice none 0 0) 1 24 Try.underlying22 HI.out HZ0.out HZ1.out HZ2.out rfl (by decide) zSl_nob (.slice (some ⟨wr.heap.size, 0, none⟩) 0 0) 0 [] rfl OL.out wr.heap.size A1 k c1 us rfl SRC.out.reads SRC.out.ones SRC.out.nob ?h63 ?hby ?hbase ?_; (case h63 => (unfold maxLen; omega)); (case hby => omega); (case hbase => simp); intro v5 w5 hown5 hg5 _; clear HM0; have HM2 := HM1; clear HM1; have hr5 := slRow_all (ss := []) (vs := []) rfl OL.out.2 (fun i hi => absurd hi (by simp)) (by simp) SRC.out (by rw [List.length_nil]; exact hown5) hg5; have hb5 := HBL0.out.grown hg5 HBL0.out.size (fun q hq => by simp [Value.ownBlock] at hq; omega); rw [List.nil_append] at hr5; have SRC5 := Lib.hid (SRC'.out.below hb5); obtain ⟨vs5, hvl5, hown6, hvs5⟩ := hr5; rw [← HN.out] at hown6; have HVL := Lib.hid hvl5; have HOW := Lib.hid hown6; have HVS := Lib.hid hvs5; have K35 := Lib.hid (K3r.out.below hb5 K3r.out.lt); have HB5 := Lib.hid hb5; have hz5 := hb5.size; clear hvl5 hown6 hvs5 hb5 hown5 hg5)
              | (have HM3 := HM2; at_builtin; refine wpList_append_n _ rfl (.tmp 74) (.tmp 75) 22 rfl wr.heap.size 25 i0 (.slice none 0 0) 1 24 Try.underlying22 HI.out HZ0.out HZ1.out HZ2.out rfl (by decide) zSl_nob v5 k vs5 rfl HOW.out wr.heap.size A' n' c' us' rfl SRC5.out.reads SRC5.out.ones SRC5.out.nob ?h63 ?hby ?hbase ?_; (case h63 => (unfold maxLen; omega)); (case hby => omega); (case hbase => exact hz5); intro v6 w6 hown6 hg6 _; clear HM2 HM3; have hr6 := slRow_all HVL.out HOW.out.2 HVS.out hz5 SRC5.out (by rw [← HN.out]; exact hown6) hg6; have hb6 := HB5.out.grown hg6 HB5.out.size (fun q hq => (HOW.out.1.lt q hq).1); have hs6 := slRow_sls hr6; obtain ⟨A6, c6, e6⟩ := sls_form hs6; rw [← HMM.out] at e6; subst e6; have HS6' := Lib.hid hs6; have HB6 := Lib.hid hb6; have K36 := Lib.hid (K3r.out.below hb6 K3r.out.lt); clear hr6 hs6 hb6 hown6 hg6)
              | (go_at_call 8; refine (LD.out A6 c6 _ HS6'.out).mono ?_; rintro e w7 ⟨A7, n7, c7, rfl, hbt, hb⟩; have hba := palloc (Below.refl w7.heap.size w7) (Obj.cells #[.int .i64 g, .slice A7 n7 c7] 27); have T7 := Lib.hid (bts_up hbt hba); have hb7 := hb.trans (hba.mono hb.size); have K37 := Lib.hid (K36.out.below hb7 K36.out.lt); have K7 := Lib.hid (Blk.new w7 27 #[.int .i64 g, .slice A7 n7 c7]); have HB7 := Lib.hid (HB6.out.trans (hb7.mono HB6.out.size)); have hbw7 := HBR.out.trans (HB7.out.mono HBR.out.size); have TB := Lib.hid (((sl_bts HBT0.out).below hbw7 (Nat.le_refl _)).more hbw7.size); have y0 := K37.out.cell 0; have y1 := K37.out.cell 1; have r0 := K7.out.cell 0; have r1 := K7.out.cell 1; simp at y0 y1 r0 r1; have HBW7 := Lib.hid hbw7; clear hbt hb hba hb7 hbw7)
              | (go_at_call 12; refine (bsame_any g g A7 A n7 n c7 c bs bs _ T7.out TB.out).mono ?_; rintro e w8 ⟨rfl, hb⟩; rw [decide_eq_true rfl]; have HB8 := Lib.hid (HBW7.out.trans (hb.mono HBW7.out.size)); clear hb)
              | (go_at_call 7; refine (awake7_any _).mono ?_; rintro e w9 ⟨rfl, hb⟩; have HB9 := Lib.hid (HB8.out.trans (hb.mono HB8.out.size)); clear hb))
            go_ret
            exact ⟨rfl, HB9.out⟩
          · have hee : (ec != 0) = true := by rw [bne_iff_ne]; exact he
            clear he
            go_wp2_with (go_at_call 7; refine (awake7_any _).mono ?_; rintro e w9 ⟨rfl, hb⟩; have HB9 := Lib.hid (HBR.out.trans (hb.mono HBR.out.size)); clear hb)
            go_ret
            exact ⟨rfl, HB9.out⟩
  · have hd : decide (8000 < (n : Int)) = true := by simp only [decide_eq_true_eq]; omega
    clear h
    go_enter Try.func4, Try.ntmps4
    go_wp2_with (go_at_call 7; refine (awake7_any _).mono ?_; rintro e w2 ⟨rfl, hb2⟩; have HB2 := Lib.hid (below_up (w := w) hb2 (by with_reducible repeat (first | exact HB0.out | refine below_drewN ?_ _ | refine pdrew ?_))); clear hb2)
    go_ret
    exact ⟨rfl, HB2.out⟩
open Go.ChangeShapes Go.WideShapes Go.ChangeAt Go.RowKit
theorem own : ownKnob Try.prog.godebug = none := by kernel_rfl
theorem laidOut : laidOutB Try.prog = true := by kernel_rfl
theorem walk (a0a : Int) (a0b : Option Addr) (len0b cap0b : Nat) (z0b : List Int) (a1a a1b : Int) (a2 : Option Addr) (len2 cap2 : Nat) (w : World) (w0a : (Lit.int .i64 a0a).wf = true) (w0b : IsRow .u8 w a0b len0b cap0b z0b) (w1a : (Lit.int .i64 a1a).wf = true) (w1b : (Lit.int .i64 a1b).wf = true) (w2 : IsRecs w a2 len2 cap2 1 (fun _ v => RowOf .u8 w v)) :
    Calls Try.prog 4 #[.agg #[.int .i64 a0a, .slice a0b len0b cap0b], .agg #[.int .i64 a1a, .int .i64 a1b], .slice a2 len2 cap2] w fun e w' => e = .returned (.bool true) ∧ Below w.heap.size w w' := sectors_true a0a a1a a1b a0b a2 len0b len2 cap0b cap2 z0b w w0b w2
/-! the step from the walk to the row -/
set_option maxRecDepth 100000 in
theorem lifted (os : Os) (started : os.Started) (H : Type) (enc : TypeId × Value → H) :
    ReturnsInHanded {} Try.checked os 4 .any (Rows.slotSectorsSpec.pre6 enc Try.prog Try.f4 Rows.slotSectorsRow.domain false) (Rows.slotSectorsSpec.post enc Try.prog Try.f4 false true false false) := by
  refine returnsInHanded_of_change (C := Try.checked) own started (by kernel_rfl) Try.func4
    (ChangeSpec.witness6 (enc := enc) (C := Try.checked) false ⟨#[], #[.agg #[.int .i64 0, .slice none 0 0], .agg #[.int .i64 0, .int .i64 0], .slice none 0 0], []⟩ 8 (by kernel_rfl) (by kernel_rfl) (by kernel_rfl) (by kernel_rfl)) ?_
  intro W base args ds gs before hval0 hW hcnd _
  have hval : ∀ (j : Nat) t v, Try.f4.params[j]? = some t → args[j]? = some v → Value.okWide Try.prog W .any base t v := hval0
  have hW' := hW
  obtain ⟨p, q, hA0, hV, rfl, hfz, hnd⟩ := hW
  have hA : DataW.TrodAll enc Try.prog W 0 (fun _ => true) true Try.f4.params.toList args.toList ds p := hA0
  rw [Try.params4] at hA hval
  obtain ⟨v0, vs0, d0, ds0, p0, q0, hargs, rfl, rfl, h0, r0⟩ := trodAll_cons hA
  obtain ⟨v1, vs1, d1, ds1, p1, q1, rfl, rfl, rfl, h1, r1⟩ := trodAll_cons r0
  obtain ⟨v2, vs2, d2, ds2, p2, q2, rfl, rfl, rfl, h2, r2⟩ := trodAll_cons r1
  obtain ⟨rfl, rfl, rfl⟩ := trodAll_nil r2
  obtain rfl : args = #[v0, v1, v2] := by cases args; simp_all
  obtain ⟨rfl, rfl⟩ := trodVars_none hV
  have k0 := h0
  have lt0 : ∀ x ∈ p0, x.block < W.heap.size := by obtain ⟨m, hm⟩ := k0; exact DataW.trod_lt m _ _ _ hm
  obtain ⟨u0a, u0b, _, _, _, rfl, _, _, g0a, g0b⟩ := Go.Joins.open_agg2 Try.underlying27 (by kernel_rfl) (by kernel_rfl) (hval 0 27 v0 rfl rfl) h0
  obtain ⟨a0a, rfl, w0a⟩ := open_num_at Try.underlying3 g0a
  obtain ⟨a0b, len0b, cap0b, z0b, rfl, w0b⟩ := open_row_at Try.underlying25 Try.underlying5 (by kernel_rfl) g0b
  have k1 := h1
  have lt1 : ∀ x ∈ p1, x.block < W.heap.size := by obtain ⟨m, hm⟩ := k1; exact DataW.trod_lt m _ _ _ hm
  obtain ⟨a1a, a1b, rfl, w1a, w1b⟩ := open_arr2 Try.underlying34 Try.underlying3 (by kernel_rfl) (by kernel_rfl) (hval 1 34 v1 rfl rfl) h1
  obtain ⟨a2, len2, cap2, rfl⟩ := okWide_slice Try.underlying22 (hval 2 22 v2 rfl rfl)
  have k2 := h2
  have lt2 : ∀ x ∈ p2, x.block < W.heap.size := by obtain ⟨m, hm⟩ := k2; exact DataW.trod_lt m _ _ _ hm
  have w2 : IsRecs W a2 len2 cap2 1 (fun _ v => RowOf .u8 W v) := by
    obtain ⟨fuel, hf⟩ := h2
    rcases Go.Deep.open_slice1 Try.underlying22 (by kernel_rfl) hf with ⟨hcs, _⟩ | ⟨x, l, c, m, n, V, D, Pl, hcs, _, hl, hm, hmm, _, hx⟩
    · simp [Value.cells] at hcs
      obtain ⟨rfl, rfl, rfl⟩ := hcs
      exact .inl ⟨rfl, rfl, rfl⟩
    · simp [Value.cells] at hcs
      obtain ⟨rfl, rfl, rfl⟩ := hcs
      refine .inr ⟨_, rfl, hl, hm, fun i hi j hj => ?_⟩
      obtain rfl : j = 0 := by omega
      obtain ⟨h1, h2⟩ := hx i (by rw [hmm, if_pos rfl]; exact hi)
      exact ⟨V i, by rw [Nat.mul_one, Nat.add_zero]; exact h1, open_row_at Try.underlying25 Try.underlying5 (by kernel_rfl) h2⟩
  clear hA0 hval0
  refine (walk a0a a0b len0b cap0b z0b a1a a1b a2 len2 cap2 W w0a w0b w1a w1b w2).mono fun e W' ⟨he, bel⟩ => ?_
  subst he
  exact ⟨_, rfl, _, _, _, [], _, [], hW', trodAll_mk1 (shut_bool Try.underlying4 _), (trodAll_cons_mk (Below.trod laidOut (by kernel_rfl) (of_decide_eq_true (by kernel_rfl)) k0 bel lt0) (trodAll_cons_mk (Below.trod laidOut (by kernel_rfl) (of_decide_eq_true (by kernel_rfl)) k1 bel lt1) (trodAll_cons_mk (Below.trod laidOut (by kernel_rfl) (of_decide_eq_true (by kernel_rfl)) k2 bel lt2) trodAll_mk0))), rfl, bel.frame _, fun h => by cases h⟩

theorem over : Rows.slotSectorsRow.holds Try.pinned (OpenSpec.ofChange Rows.slotSectorsSpec) :=
  OpenClaim.holds_of_wide 4 Try.f4 rfl rfl rfl rfl rfl rfl rfl ⟨rfl, rfl, rfl, rfl, rfl⟩ rfl rfl rfl rfl rfl (by kernel_rfl) Try.func4 (by kernel_rfl)
    (of_decide_eq_true (by kernel_rfl)) (by unfold Func.isWrapper; first | (rw [if_pos (by decide +kernel)]; kernel_rfl) | (rw [if_neg (by decide +kernel)]; exact ⟨rfl, rfl⟩))
    (fun os started H enc _ => lifted os started H enc)

/-- the statement -/
theorem proved : Rows.SlotSectorsSaid := over
end Go.Proofs.Ytkidjlmjjfgknaa.slotSectors
