/- QueueActs: for every acts the law returns true and its argument reads as before: what any acts tell, and what is left. No condition. Printed by tools/queue/acts.py. -/
import Derived.Test.YtoglongkhpbomaaQuLaw
import Derived.Deep.Cut
import Derived.Deep.CutBlock
import Derived.Deep.CutRange
import Derived.IntWalk
import Derived.WalkKit
import Derived.ProofKit
import Derived.OpenShut
import Derived.ShutString
import Derived.ChangeOld
import Derived.Below
namespace Go.Proofs.Ytoglongkhpbomaa.queueActs
open Go.RowKit Go.Proofs.Ytoglongkhpbomaa.Mem Go.Proofs.Ytoglongkhpbomaa.Que
set_option linter.unusedVariables false
set_option linter.unusedSimpArgs false
theorem sl_reads {A : Option Addr} {n c B : Nat} {xs : List Nat} {w : World} (h : Sl w B (.slice A n c) xs) : Reads w B 1 A n (vals xs) := by
  obtain ⟨_, _, _, e, hb, _⟩ := h
  cases e
  exact hb.reads
theorem sl_same {A A' : Option Addr} {n n' c c' B B' : Nat} {xs : List Nat} {w : World} (h : Sl w B (.slice A n c) xs) (h' : Sl w B' (.slice A' n' c') xs) :
    Calls Try.prog 10 #[.slice A n c, .slice A' n' c'] w fun e w' => e = .returned (.bool true) ∧ ∃ m, w' = w.drewN m := by
  obtain ⟨_, _, _, e, hb, _⟩ := h
  obtain ⟨_, _, _, e', hb', _⟩ := h'
  cases e
  cases e'
  obtain rfl : n = n' := hb.1.symm.trans hb'.1
  exact same_yes A A' n c c' _ _ xs w hb hb'
theorem putE_lt {ts : List (List Nat)} (h : ts.length < 32) : putE ts = 0 := if_pos h
theorem putE_full {ts : List (List Nat)} (h : ¬ ts.length < 32) : putE ts = 4 := if_neg h
theorem putQ_lt {ts : List (List Nat)} (xs : List Nat) (h : ts.length < 32) : putQ ts xs = ts ++ [xs] := if_pos h
theorem putQ_full {ts : List (List Nat)} (xs : List Nat) (h : ¬ ts.length < 32) : putQ ts xs = ts := if_neg h
set_option maxRecDepth 20000 in
set_option maxHeartbeats 2000000 in
theorem walk_long (a0 : Option Addr) (n0 c0 : Nat) (w : World) (h : 100 < n0) :
    Calls Try.prog 3 #[.slice a0 n0 c0] w fun e w' => e = .returned (.bool true) ∧ Below w.heap.size w w' := by
  have hd : decide ((100 : Int) < n0) = true := by simp; omega
  go_enter Try.func3, Try.ntmps3
  go_wp2_with (go_at_call 5; refine (awake15_any _).mono ?_; rintro e w5 ⟨rfl, hb⟩; have HB5 := Lib.hid hb; clear hb)
  go_ret
  exact ⟨rfl, HB5.out⟩
set_option maxRecDepth 20000 in
set_option maxHeartbeats 8000000 in
theorem walk_short (a0 : Option Addr) (n0 c0 : Nat) (w : World) (h0 : n0 ≤ 100) (w0 : IsRecs w a0 n0 c0 3 (ActR w)) :
    Calls Try.prog 3 #[.slice a0 n0 c0] w fun e w' => e = .returned (.bool true) ∧ Below w.heap.size w w' := by
  have hd : decide ((100 : Int) < n0) = false := by simp; omega
  have W0 := Lib.hid w0; clear w0
  have NW := Lib.hid (new_any w.heap.size w (Nat.le_refl _))
  have AW := Lib.hid (fun (W : World) => awake15_any W)
  go_enter Try.func3, Try.ntmps3
  go_wp2_with (first
    | (go_at_call 6; refine (NW.out).mono ?_; rintro e w1 ⟨rfl, h1, hb1⟩; have HQ1 := Lib.hid h1; have HB1 := Lib.hid hb1; clear h1 hb1))
  have hlq0 : LQ w (w1.alloc (.cells #[] 27)) w.heap.size (.slice none 0 0) (.slice (some ⟨w1.heap.size, 0, none⟩) 0 0) [] [] :=
    LQ.told (lv := .slice none 0 0) (ls := []) ⟨HQ1.out, slRow_nil _ _, fun q e => by simp [Value.ownBlock] at e, HB1.out⟩ ((Below.refl _ _).alloc (Nat.le_refl _) _) (slRow_lit w1 w1.heap.size w1.heap.size rfl (Nat.le_refl _))
  have HL0 := Lib.hid hlq0; clear hlq0
  go_loopw [4, 5] (fun l i wr => ∃ k : Nat, k ≤ n0 ∧ i = .int .i64 k ∧ ∃ v ts, Small ts ∧ LQ w wr w.heap.size v l ts ts) (fun _ i _ => n0 - (intOf i).toNat)
  case atStart => exact ⟨0, Nat.zero_le _, rfl, _, [], ⟨by simp, by simp⟩, HL0.out⟩
  case round =>
    clear HL0 HQ1 HB1
    obtain ⟨k, hk, rfl, v, ts, hsm, hlq⟩ := hrel
    have HSM := Lib.hid hsm; clear hsm
    have HLQ := Lib.hid hlq; clear hlq
    by_cases hlt : k < n0
    · obtain ⟨b, off, d, B, m, cb, q, rfl, hb, c0, c1, c2, hx⟩ := act_at W0.out hlt
      replace c0 := (HLQ.out.low.cell (p := ⟨b, off + k * 3, none⟩) hb).trans c0
      replace c1 := (HLQ.out.low.cell (p := ⟨b, off + k * 3 + 1, none⟩) hb).trans c1
      replace c2 := (HLQ.out.low.cell (p := ⟨b, off + k * 3 + 2, none⟩) hb).trans c2
      obtain ⟨Al, nl, cl, rfl, hnl, hl1, hl2⟩ := slRow_form2 HLQ.out.l
      have hu : LY w (wr.alloc (.cells #[.int .i64 d, .slice B m cb, .int .i64 q] 29)) w.heap.size v (.slice Al nl cl) ts ts wr.heap.size #[.int .i64 d, .slice B m cb, .int .i64 q] := ⟨HLQ.out.up ((Below.refl _ _).alloc (Nat.le_refl _) _), Blk.new wr _ _⟩
      have HU := Lib.hid hu; clear hu
      have HLN := Lib.hid hnl; clear hnl
      by_cases hm : m ≤ 200
      · obtain ⟨xs, hxs, hxl⟩ := hx hm
        have HX := Lib.hid hxs; clear hxs hx
        have dm : decide ((200 : Int) < m) = false := by simp; omega
        have dlen := Lib.hid HLN.out
        go_upto_region 11 with fail
        generalize wr.alloc (.cells #[.int .i64 d, .slice B m cb, .int .i64 q] 29) = W0 at *
        generalize wr.heap.size = y at *
        obtain ⟨th, hth⟩ : ∃ t, t = there q ts := ⟨_, rfl⟩
        have HTH := Lib.hid hth; clear hth
        go_cut [7] from 36 to 45 (fun z wx => z = .bool th ∧ W0 = wx)
        case first =>
          obtain ⟨x0, x1, x2, xl⟩ := HU.out.cells
          by_cases hq0 : 0 ≤ q
          · have dq0 : decide (0 ≤ q) = true := by simp [hq0]
            have HT := Lib.hid (show there q ts = decide (q < (nl : Int)) by unfold there; rw [dq0, Bool.true_and, HLN.out])
            clear hq0
            go_wp2_with (fail)
            go_meet
            case rel => exact ⟨by rw [HTH.out, HT.out], rfl⟩
          · have dq0 : decide (0 ≤ q) = false := by simp; omega
            have HT := Lib.hid (show there q ts = false by unfold there; rw [dq0, Bool.false_and])
            clear hq0
            go_wp2_with (fail)
            go_meet
            case rel => exact ⟨by rw [HTH.out, HT.out], rfl⟩
        case rest =>
          obtain ⟨rfl, rfl⟩ := hcut
          go_upto_if 47 with fail
          go_cut [8] from 46 to 47 (fun z wx => z = .int .i64 (if th = true then 0 else 3) ∧ W0 = wx)
          case first =>
            cases th
            · go_wp2_with (fail)
              go_meet
              case rel => exact ⟨rfl, rfl⟩
            · go_wp2_with (fail)
              go_meet
              case rel => exact ⟨rfl, rfl⟩
          case rest =>
            obtain ⟨rfl, rfl⟩ := hcut
            obtain ⟨x0, x1, x2, xl⟩ := HU.out.cells
            go_upto_block 2 with fail
            clear x0 x1 x2 xl
            go_cut [4, 9, 10, 11, 12, 13, 14] from 50 to 178 (fun l z9 o z11 z12 z13 z14 wx => o = .bool true ∧ ∃ v' ts', Small ts' ∧ LQ w wx w.heap.size v' l ts' ts')
            case first =>
              cases th
              · replace HTH : Hid (there q ts = false) := Lib.hid HTH.out.symm
                obtain ⟨x0, x1, x2, xl⟩ := HU.out.cells
                by_cases d0 : d = 0
                · subst d0
                  as_aux_lemma =>
                    obtain ⟨i0, hi, hz0, hz1, hz2⟩ := info_parts Try.info5
                    have HI := Lib.hid hi; clear hi
                    have HZ0 := Lib.hid hz0; clear hz0
                    have HZ1 := Lib.hid hz1; clear hz1
                    have HZ2 := Lib.hid hz2; clear hz2
                    have HO := Lib.hid (World.ownsRow_lit (size := 1) (e := 5) W0 #[] 0 (Nat.le_refl _) (by unfold maxLen; omega) rfl)
                    have HR := Lib.hid ((HX.out.below HU.out.q.low (Nat.le_refl _)).alloc HU.out.q.low.size (.cells #[] 5))
                    by_cases hf : ts.length < 32
                    · have df : decide (32 ≤ (nl : Int)) = false := by have := HLN.out; simp; omega
                      have PE := putE_lt hf
                      have PQ := Lib.hid (fun x => putQ_lt x hf)
                      have HF := Lib.hid hf; clear hf
                      go_wp2_with (first
                        | (at_builtin; (refine wpList_append_any _ rfl (.tmp 56) (.tmp 58) 27 rfl W0.heap.size 5 i0 (.int .u8 0) 1 1 Try.underlying27 HI.out HZ0.out HZ1.out HZ2.out rfl (by decide) (.slice (some ⟨W0.heap.size, 0, none⟩) 0 0) 0 [] rfl HO.out w.heap.size B m cb (vals xs) rfl (sl_reads HR.out) (vals_one xs) (by unfold maxLen; omega) (by omega) (by simp) ?_; intro v2 w2 hown2 hg2 _; rw [Nat.zero_add, List.nil_append] at hown2; have hs2 := sl_own hown2 HX.out.lt (by omega); have HU2 := Lib.hid (HU.out.up (((Below.refl _ _).alloc (Nat.le_refl _) _).grown hg2 (by simp) (fun q e => (HO.out.lt q e).1))); obtain ⟨A2, n2, c2, rfl, _⟩ := id hs2; have HS2 := Lib.hid hs2; clear hown2 hg2 hs2; clear x0 x1 x2 xl; obtain ⟨x0, x1, x2, xl⟩ := HU2.out.cells))
                        | (go_at_call 7; refine (ly_put HU2.out HS2.out (by omega) HSM.out.1).mono ?_; rintro e w3 ⟨rfl, v3, h3⟩; rw [PQ.out] at h3; have HU3 := Lib.hid h3; clear h3; clear x0 x1 x2 xl; obtain ⟨x0, x1, x2, xl⟩ := HU3.out.cells)
                        | (go_at_call 8; refine (ly_with (xs := xs) HU3.out ((HX.out.below HU3.out.q.low (Nat.le_refl _)).more HU3.out.q.low.size) HSM.out.1).mono ?_; rintro e w4 ⟨A4, n4, c4, rfl, h4⟩; have HU4 := Lib.hid h4; clear h4; clear x0 x1 x2 xl))
                      go_meet
                      case rel => exact ⟨rfl, _, _, by rw [← PQ.out]; exact small_put HSM.out (by omega), HU4.out.q⟩
                    · have df : decide (32 ≤ (nl : Int)) = true := by have := HLN.out; simp; omega
                      have PE := putE_full hf
                      have PQ := Lib.hid (fun x => putQ_full x hf)
                      have HF := Lib.hid hf; clear hf
                      go_wp2_with (first
                        | (at_builtin; (refine wpList_append_any _ rfl (.tmp 56) (.tmp 58) 27 rfl W0.heap.size 5 i0 (.int .u8 0) 1 1 Try.underlying27 HI.out HZ0.out HZ1.out HZ2.out rfl (by decide) (.slice (some ⟨W0.heap.size, 0, none⟩) 0 0) 0 [] rfl HO.out w.heap.size B m cb (vals xs) rfl (sl_reads HR.out) (vals_one xs) (by unfold maxLen; omega) (by omega) (by simp) ?_; intro v2 w2 hown2 hg2 _; rw [Nat.zero_add, List.nil_append] at hown2; have hs2 := sl_own hown2 HX.out.lt (by omega); have HU2 := Lib.hid (HU.out.up (((Below.refl _ _).alloc (Nat.le_refl _) _).grown hg2 (by simp) (fun q e => (HO.out.lt q e).1))); obtain ⟨A2, n2, c2, rfl, _⟩ := id hs2; have HS2 := Lib.hid hs2; clear hown2 hg2 hs2; clear x0 x1 x2 xl; obtain ⟨x0, x1, x2, xl⟩ := HU2.out.cells))
                        | (go_at_call 7; refine (ly_put HU2.out HS2.out (by omega) HSM.out.1).mono ?_; rintro e w3 ⟨rfl, v3, h3⟩; rw [PQ.out] at h3; have HU3 := Lib.hid h3; clear h3; clear x0 x1 x2 xl; obtain ⟨x0, x1, x2, xl⟩ := HU3.out.cells))
                      go_meet
                      case rel => exact ⟨rfl, _, _, HSM.out, HU3.out.q⟩
                have e0 : (d == 0) = false := beq_false_of_ne d0
                clear d0
                by_cases d1 : d = 1
                · subst d1
                  as_aux_lemma =>
                    go_wp2_with (first
                      | (go_at_call 9; refine (ly_take_no HU.out HTH.out HSM.out.1).mono ?_; rintro e w3 ⟨A3, c3, rfl, v3, h3⟩; have HU3 := Lib.hid h3; clear h3; clear x0 x1 x2 xl; obtain ⟨x0, x1, x2, xl⟩ := HU3.out.cells))
                    go_meet
                    case rel => exact ⟨rfl, _, _, HSM.out, HU3.out.q⟩
                have e1 : (d == 1) = false := beq_false_of_ne d1
                clear d1
                by_cases d2 : d = 2
                · subst d2
                  as_aux_lemma =>
                    go_wp2_with (first
                      | (go_at_call 12; refine (ly_again_no HU.out HTH.out HSM.out).mono ?_; rintro e w3 ⟨rfl, v3, h3⟩; have HU3 := Lib.hid h3; clear h3; clear x0 x1 x2 xl; obtain ⟨x0, x1, x2, xl⟩ := HU3.out.cells))
                    go_meet
                    case rel => exact ⟨rfl, _, _, HSM.out, HU3.out.q⟩
                have e2 : (d == 2) = false := beq_false_of_ne d2
                clear d2
                by_cases d3 : d = 3
                · subst d3
                  as_aux_lemma =>
                    go_wp2_with (first
                      | (go_at_call 13; refine (ly_drop_no HU.out HTH.out HSM.out.1).mono ?_; rintro e w3 ⟨rfl, v3, h3⟩; have HU3 := Lib.hid h3; clear h3; clear x0 x1 x2 xl; obtain ⟨x0, x1, x2, xl⟩ := HU3.out.cells))
                    go_meet
                    case rel => exact ⟨rfl, _, _, HSM.out, HU3.out.q⟩
                have e3 : (d == 3) = false := beq_false_of_ne d3
                clear d3
                by_cases d4 : d = 4
                · subst d4
                  as_aux_lemma =>
                    go_wp2_with (first
                      | (go_at_call 14; refine (ly_clear HU.out).mono ?_; rintro e w3 ⟨rfl, v3, h3⟩; have HU3 := Lib.hid h3; clear h3; clear x0 x1 x2 xl))
                    go_meet
                    case rel => exact ⟨rfl, _, [], ⟨by simp, by simp⟩, HU3.out.q.told ((Below.refl _ _).alloc (Nat.le_refl _) _) (slRow_lit w3 _ _ rfl (Nat.le_refl _))⟩
                have e4 : (d == 4) = false := beq_false_of_ne d4
                clear d4
                go_wp2_with (fail)
                go_meet
                case rel => exact ⟨rfl, _, _, HSM.out, HU.out.q⟩
              · obtain ⟨j, rfl, hj⟩ := there_iff.1 HTH.out.symm
                have HJ := Lib.hid hj
                rw [dlen.out] at hj
                have hj0 : 0 < nl := by omega
                obtain ⟨bl, ol, el, _⟩ := sls_at (slRow_sls HLQ.out.l) (by omega)
                subst el
                obtain ⟨x0, x1, x2, xl⟩ := HU.out.cells
                by_cases d0 : d = 0
                · subst d0
                  as_aux_lemma =>
                    obtain ⟨i0, hi, hz0, hz1, hz2⟩ := info_parts Try.info5
                    have HI := Lib.hid hi; clear hi
                    have HZ0 := Lib.hid hz0; clear hz0
                    have HZ1 := Lib.hid hz1; clear hz1
                    have HZ2 := Lib.hid hz2; clear hz2
                    have HO := Lib.hid (World.ownsRow_lit (size := 1) (e := 5) W0 #[] 0 (Nat.le_refl _) (by unfold maxLen; omega) rfl)
                    have HR := Lib.hid ((HX.out.below HU.out.q.low (Nat.le_refl _)).alloc HU.out.q.low.size (.cells #[] 5))
                    by_cases hf : ts.length < 32
                    · have df : decide (32 ≤ (nl : Int)) = false := by have := HLN.out; simp; omega
                      have PE := putE_lt hf
                      have PQ := Lib.hid (fun x => putQ_lt x hf)
                      have HF := Lib.hid hf; clear hf
                      go_wp2_with (first
                        | (at_builtin; (refine wpList_append_any _ rfl (.tmp 56) (.tmp 58) 27 rfl W0.heap.size 5 i0 (.int .u8 0) 1 1 Try.underlying27 HI.out HZ0.out HZ1.out HZ2.out rfl (by decide) (.slice (some ⟨W0.heap.size, 0, none⟩) 0 0) 0 [] rfl HO.out w.heap.size B m cb (vals xs) rfl (sl_reads HR.out) (vals_one xs) (by unfold maxLen; omega) (by omega) (by simp) ?_; intro v2 w2 hown2 hg2 _; rw [Nat.zero_add, List.nil_append] at hown2; have hs2 := sl_own hown2 HX.out.lt (by omega); have HU2 := Lib.hid (HU.out.up (((Below.refl _ _).alloc (Nat.le_refl _) _).grown hg2 (by simp) (fun q e => (HO.out.lt q e).1))); obtain ⟨A2, n2, c2, rfl, _⟩ := id hs2; have HS2 := Lib.hid hs2; clear hown2 hg2 hs2; clear x0 x1 x2 xl; obtain ⟨x0, x1, x2, xl⟩ := HU2.out.cells))
                        | (go_at_call 7; refine (ly_put HU2.out HS2.out (by omega) HSM.out.1).mono ?_; rintro e w3 ⟨rfl, v3, h3⟩; rw [PQ.out] at h3; have HU3 := Lib.hid h3; clear h3; clear x0 x1 x2 xl; obtain ⟨x0, x1, x2, xl⟩ := HU3.out.cells)
                        | (go_at_call 8; refine (ly_with (xs := xs) HU3.out ((HX.out.below HU3.out.q.low (Nat.le_refl _)).more HU3.out.q.low.size) HSM.out.1).mono ?_; rintro e w4 ⟨A4, n4, c4, rfl, h4⟩; have HU4 := Lib.hid h4; clear h4; clear x0 x1 x2 xl))
                      go_meet
                      case rel => exact ⟨rfl, _, _, by rw [← PQ.out]; exact small_put HSM.out (by omega), HU4.out.q⟩
                    · have df : decide (32 ≤ (nl : Int)) = true := by have := HLN.out; simp; omega
                      have PE := putE_full hf
                      have PQ := Lib.hid (fun x => putQ_full x hf)
                      have HF := Lib.hid hf; clear hf
                      go_wp2_with (first
                        | (at_builtin; (refine wpList_append_any _ rfl (.tmp 56) (.tmp 58) 27 rfl W0.heap.size 5 i0 (.int .u8 0) 1 1 Try.underlying27 HI.out HZ0.out HZ1.out HZ2.out rfl (by decide) (.slice (some ⟨W0.heap.size, 0, none⟩) 0 0) 0 [] rfl HO.out w.heap.size B m cb (vals xs) rfl (sl_reads HR.out) (vals_one xs) (by unfold maxLen; omega) (by omega) (by simp) ?_; intro v2 w2 hown2 hg2 _; rw [Nat.zero_add, List.nil_append] at hown2; have hs2 := sl_own hown2 HX.out.lt (by omega); have HU2 := Lib.hid (HU.out.up (((Below.refl _ _).alloc (Nat.le_refl _) _).grown hg2 (by simp) (fun q e => (HO.out.lt q e).1))); obtain ⟨A2, n2, c2, rfl, _⟩ := id hs2; have HS2 := Lib.hid hs2; clear hown2 hg2 hs2; clear x0 x1 x2 xl; obtain ⟨x0, x1, x2, xl⟩ := HU2.out.cells))
                        | (go_at_call 7; refine (ly_put HU2.out HS2.out (by omega) HSM.out.1).mono ?_; rintro e w3 ⟨rfl, v3, h3⟩; rw [PQ.out] at h3; have HU3 := Lib.hid h3; clear h3; clear x0 x1 x2 xl; obtain ⟨x0, x1, x2, xl⟩ := HU3.out.cells))
                      go_meet
                      case rel => exact ⟨rfl, _, _, HSM.out, HU3.out.q⟩
                have e0 : (d == 0) = false := beq_false_of_ne d0
                clear d0
                by_cases d1 : d = 1
                · subst d1
                  as_aux_lemma =>
                    go_wp2_with (first
                      | (go_at_call 9; refine (ly_take_yes HU.out HJ.out HSM.out.1).mono ?_; rintro e w3 ⟨A3, n3, c3, rfl, hs3, v3, h3⟩; have HS3 := Lib.hid hs3; have HU3 := Lib.hid h3; clear hs3; clear x0 x1 x2 xl; obtain ⟨x0, x1, x2, xl⟩ := HU3.out.cells; obtain ⟨bl3, ol3, el3, _, hc3⟩ := sls_at (slRow_sls h3.q.l) (by omega); cases el3; obtain ⟨ur, hur, hsr⟩ := hc3 j hj; obtain ⟨Ar, nr, cr, rfl, _⟩ := id hsr; have HSR := Lib.hid hsr; clear hc3 hsr; clear h3)
                      | (go_at_call 10; refine (sl_same HS3.out HSR.out).mono ?_; rintro e w4 ⟨rfl, m4, rfl⟩; have HU4 := Lib.hid (HU3.out.up (below_drewN (Below.refl _ w3) m4)); clear hur; clear x0 x1 x2 xl; obtain ⟨x0, x1, x2, xl⟩ := HU4.out.cells)
                      | (go_at_call 11; refine (ly_without HU4.out HJ.out HSM.out.1).mono ?_; rintro e w5 ⟨A5, n5, c5, rfl, h5⟩; have HU5 := Lib.hid h5; clear h5; clear x0 x1 x2 xl))
                    go_meet
                    case rel => exact ⟨rfl, _, _, small_erase HSM.out j, HU5.out.q⟩
                have e1 : (d == 1) = false := beq_false_of_ne d1
                clear d1
                by_cases d2 : d = 2
                · subst d2
                  as_aux_lemma =>
                    by_cases hf : ts.length < 32
                    · have df : decide (32 ≤ (nl : Int)) = false := by have := HLN.out; simp; omega
                      have PE := putE_lt hf
                      have PQ := Lib.hid (fun x => putQ_lt x hf)
                      have HF := Lib.hid hf; clear hf
                      go_wp2_with (first
                        | (go_at_call 12; refine (ly_again_yes HU.out HJ.out HSM.out).mono ?_; rintro e w3 ⟨rfl, v3, h3⟩; rw [PQ.out] at h3; have HU3 := Lib.hid h3; clear x0 x1 x2 xl; obtain ⟨x0, x1, x2, xl⟩ := HU3.out.cells; obtain ⟨bl3, ol3, el3, _, hc3⟩ := sls_at (slRow_sls h3.q.l) (by omega); cases el3; obtain ⟨ur, hur, hsr⟩ := hc3 j hj; obtain ⟨Ar, nr, cr, rfl, _⟩ := id hsr; have HSR := Lib.hid hsr; clear hc3 hsr; clear h3)
                        | (go_at_call 8; refine (ly_with HU3.out HSR.out HSM.out.1).mono ?_; rintro e w5 ⟨A5, n5, c5, rfl, h5⟩; have HU5 := Lib.hid h5; clear h5; clear x0 x1 x2 xl))
                      go_meet
                      case rel => exact ⟨rfl, _, _, by rw [← PQ.out]; exact small_put HSM.out (HSM.out.2 _ (getD_mem_sl HJ.out)), HU5.out.q⟩
                    · have df : decide (32 ≤ (nl : Int)) = true := by have := HLN.out; simp; omega
                      have PE := putE_full hf
                      have PQ := Lib.hid (fun x => putQ_full x hf)
                      have HF := Lib.hid hf; clear hf
                      go_wp2_with (first
                        | (go_at_call 12; refine (ly_again_yes HU.out HJ.out HSM.out).mono ?_; rintro e w3 ⟨rfl, v3, h3⟩; rw [PQ.out] at h3; have HU3 := Lib.hid h3; clear x0 x1 x2 xl; obtain ⟨x0, x1, x2, xl⟩ := HU3.out.cells; obtain ⟨bl3, ol3, el3, _, hc3⟩ := sls_at (slRow_sls h3.q.l) (by omega); cases el3; obtain ⟨ur, hur, hsr⟩ := hc3 j hj; obtain ⟨Ar, nr, cr, rfl, _⟩ := id hsr; have HSR := Lib.hid hsr; clear hc3 hsr; clear h3))
                      go_meet
                      case rel => exact ⟨rfl, _, _, HSM.out, HU3.out.q⟩
                have e2 : (d == 2) = false := beq_false_of_ne d2
                clear d2
                by_cases d3 : d = 3
                · subst d3
                  as_aux_lemma =>
                    go_wp2_with (first
                      | (go_at_call 13; refine (ly_drop_yes HU.out HJ.out HSM.out.1).mono ?_; rintro e w3 ⟨rfl, v3, h3⟩; have HU3 := Lib.hid h3; clear h3; clear x0 x1 x2 xl; obtain ⟨x0, x1, x2, xl⟩ := HU3.out.cells)
                      | (go_at_call 11; refine (ly_without HU3.out HJ.out HSM.out.1).mono ?_; rintro e w5 ⟨A5, n5, c5, rfl, h5⟩; have HU5 := Lib.hid h5; clear h5; clear x0 x1 x2 xl))
                    go_meet
                    case rel => exact ⟨rfl, _, _, small_erase HSM.out j, HU5.out.q⟩
                have e3 : (d == 3) = false := beq_false_of_ne d3
                clear d3
                by_cases d4 : d = 4
                · subst d4
                  as_aux_lemma =>
                    go_wp2_with (first
                      | (go_at_call 14; refine (ly_clear HU.out).mono ?_; rintro e w3 ⟨rfl, v3, h3⟩; have HU3 := Lib.hid h3; clear h3; clear x0 x1 x2 xl))
                    go_meet
                    case rel => exact ⟨rfl, _, [], ⟨by simp, by simp⟩, HU3.out.q.told ((Below.refl _ _).alloc (Nat.le_refl _) _) (slRow_lit w3 _ _ rfl (Nat.le_refl _))⟩
                have e4 : (d == 4) = false := beq_false_of_ne d4
                clear d4
                go_wp2_with (fail)
                go_meet
                case rel => exact ⟨rfl, _, _, HSM.out, HU.out.q⟩
            case rest =>
              obtain ⟨rfl, v1, ts1, hsm1, hlq1⟩ := hcut
              obtain ⟨A1, k1, rfl, _⟩ := slRow_form hlq1.l
              have HSM1 := Lib.hid hsm1; clear hsm1
              have HL1 := Lib.hid hlq1; clear hlq1 HU HX HSM HLQ
              go_wp2_with (first
                | (go_at_call 16; refine (all_any w.heap.size w.heap.size v1 ts1 _ HL1.out.q HSM1.out.up HSM1.out.1).mono ?_; rintro e w8 ⟨A8, c8, rfl, hs8, hb8⟩; have HS8 := Lib.hid hs8; have HL8 := Lib.hid (HL1.out.up hb8); clear hs8 hb8)
                | (go_at_call 15; refine (same_yes15 A8 A1 ts1.length c8 k1 ts1 _ HS8.out (slRow_sls HL8.out.l)).mono ?_; rintro e w9 ⟨rfl, m9, rfl⟩; have HL9 := Lib.hid (HL8.out.up (below_drewN (Below.refl _ w8) m9))))
              go_roundw
              case rel => exact ⟨k + 1, by omega, by go_num, v1, ts1, HSM1.out, HL9.out⟩
              case measure => simp [intOf]; omega
      · have dm : decide ((200 : Int) < m) = true := by simp; omega
        go_wp2_with (go_at_call 5; refine (AW.out _).mono ?_; rintro e w5 ⟨rfl, hb⟩; have HB5 := Lib.hid (HU.out.q.low.trans (hb.mono HU.out.q.low.size)); clear hb)
        go_ret
        exact ⟨rfl, HB5.out⟩
    · go_wp2_with (go_at_call 5; refine (AW.out _).mono ?_; rintro e w5 ⟨rfl, hb⟩; have HB5 := Lib.hid (HLQ.out.low.trans (hb.mono HLQ.out.low.size)); clear hb)
      go_ret
      exact ⟨rfl, HB5.out⟩
theorem walk (a0 : Option Addr) (n0 c0 : Nat) (w : World) (w0 : IsRecs w a0 n0 c0 3 (ActR w)) :
    Calls Try.prog 3 #[.slice a0 n0 c0] w fun e w' => e = .returned (.bool true) ∧ Below w.heap.size w w' := by
  by_cases h : n0 ≤ 100
  · exact walk_short a0 n0 c0 w h w0
  · exact walk_long a0 n0 c0 w (by omega)
open Go.ChangeShapes Go.WideShapes Go.ChangeAt Go.RowKit
theorem own : ownKnob Try.prog.godebug = none := by kernel_rfl
theorem laidOut : laidOutB Try.prog = true := by kernel_rfl
/-! the step from the walk to the row -/
set_option maxRecDepth 100000 in
theorem lifted (os : Os) (started : os.Started) (H : Type) (enc : TypeId × Value → H) :
    ReturnsInHanded {} Try.checked os 3 .any (Rows.queueActsSpec.pre6 enc Try.prog Try.f3 Rows.queueActsRow.domain false) (Rows.queueActsSpec.post enc Try.prog Try.f3 false true false false) := by
  refine returnsInHanded_of_change (C := Try.checked) own started (by kernel_rfl) Try.func3
    (ChangeSpec.witness6 (enc := enc) (C := Try.checked) false ⟨#[], #[.slice none 0 0], []⟩ 8 (by kernel_rfl) (by kernel_rfl) (by kernel_rfl) (by kernel_rfl)) ?_
  intro W base args ds gs before hval0 hW hcnd _
  have hval : ∀ (j : Nat) t v, Try.f3.params[j]? = some t → args[j]? = some v → Value.okWide Try.prog W .any base t v := hval0
  have hW' := hW
  obtain ⟨p, q, hA0, hV, rfl, hfz, hnd⟩ := hW
  have hA : DataW.TrodAll enc Try.prog W 0 (fun _ => true) true Try.f3.params.toList args.toList ds p := hA0
  rw [Try.params3] at hA hval
  obtain ⟨v0, vs0, d0, ds0, p0, q0, hargs, rfl, rfl, h0, r0⟩ := trodAll_cons hA
  obtain ⟨rfl, rfl, rfl⟩ := trodAll_nil r0
  obtain rfl : args = #[v0] := by cases args; simp_all
  obtain ⟨rfl, rfl⟩ := trodVars_none hV
  obtain ⟨a0, len0, cap0, rfl⟩ := okWide_slice Try.underlying22 (hval 0 22 v0 rfl rfl)
  have k0 := h0
  have lt0 : ∀ x ∈ p0, x.block < W.heap.size := by obtain ⟨m, hm⟩ := k0; exact DataW.trod_lt m _ _ _ hm
  have w0 : IsRecs W a0 len0 cap0 3 (ActR W) := by
    obtain ⟨fuel, hf⟩ := h0
    rcases open_slice_fields Try.underlying22 Try.underlying29 (by kernel_rfl) (by kernel_rfl) hf with ⟨hcs, _⟩ | ⟨x, l, c, m, D, Pl, hcs, _, hl, hm, hmm, _, hh⟩
    · simp [Value.cells] at hcs
      obtain ⟨rfl, rfl, rfl⟩ := hcs
      exact .inl ⟨rfl, rfl, rfl⟩
    · simp [Value.cells] at hcs
      obtain ⟨rfl, rfl, rfl⟩ := hcs
      refine .inr ⟨_, rfl, hl, hm, fun i hi j hj => ?_⟩
      obtain ⟨ys, n, _, _, _, hg⟩ := hh i (by rw [hmm, if_pos rfl]; exact hi)
      match j, hj with
      | 0, _ =>
        obtain ⟨v, y, hc, _, ht⟩ := hg 0 _ rfl
        exact ⟨v, hc, open_num_at Try.underlying3 ht⟩
      | 1, _ =>
        obtain ⟨v, y, hc, _, ht⟩ := hg 1 _ rfl
        exact ⟨v, hc, open_row_at Try.underlying27 Try.underlying5 (by kernel_rfl) ht⟩
      | 2, _ =>
        obtain ⟨v, y, hc, _, ht⟩ := hg 2 _ rfl
        exact ⟨v, hc, open_num_at Try.underlying3 ht⟩
  clear hA0 hval0
  refine (walk a0 len0 cap0 W w0).mono fun e W' ⟨he, bel⟩ => ?_
  subst he
  exact ⟨_, rfl, _, _, _, [], _, [], hW', trodAll_mk1 (shut_bool Try.underlying4 _), (trodAll_cons_mk (Below.trod laidOut (by kernel_rfl) (of_decide_eq_true (by kernel_rfl)) k0 bel lt0) trodAll_mk0), rfl, bel.frame _, fun h => by cases h⟩

theorem over : Rows.queueActsRow.holds Try.pinned (OpenSpec.ofChange Rows.queueActsSpec) :=
  OpenClaim.holds_of_wide 3 Try.f3 rfl rfl rfl rfl rfl rfl rfl ⟨rfl, rfl, rfl, rfl, rfl⟩ rfl rfl rfl rfl rfl (by kernel_rfl) Try.func3 (by kernel_rfl)
    (of_decide_eq_true (by kernel_rfl)) (by unfold Func.isWrapper; first | (rw [if_pos (by decide +kernel)]; kernel_rfl) | (rw [if_neg (by decide +kernel)]; exact ⟨rfl, rfl⟩))
    (fun os started H enc _ => lifted os started H enc)

/-- the statement -/
theorem proved : Rows.QueueActsSaid := over
end Go.Proofs.Ytoglongkhpbomaa.queueActs
