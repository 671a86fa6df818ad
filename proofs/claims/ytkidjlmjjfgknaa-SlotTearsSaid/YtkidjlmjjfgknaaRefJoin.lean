/- The reference's record that pages begin with (layer 5). -/
import Derived.Test.YtkidjlmjjfgknaaRefSplit
import Derived.Test.YtkidjlmjjfgknaaJoin
import Derived.Deep.RegionHeld3
namespace Go.Proofs.Ytkidjlmjjfgknaa.Rcd
open Go.RowKit Go.Proofs.Ytkidjlmjjfgknaa.Mem Go.Proofs.Ytkidjlmjjfgknaa.Oct Go.Proofs.Ytkidjlmjjfgknaa.Pg
set_option linter.unusedVariables false
set_option linter.unusedSimpArgs false
theorem jb_none {ps : List P} (h : joined ps = none) : jb ps = ([], 0) := by unfold jb; rw [h]; rfl
theorem jb_some {ps : List P} {x : List Nat × Nat} (h : joined ps = some x) : jb ps = x := by unfold jb; rw [h]; rfl
theorem below_dn {w1 w2 : World} (h : Below w1.heap.size w1 w2) : Below w1.heap.size w1 w2 := h
set_option maxRecDepth 20000 in
set_option maxHeartbeats 2000000 in
theorem rjoin_any (A : Option Addr) (n c : Nat) (ps : List P) (w : World) (h : Pgs w w.heap.size (.slice A n c) ps) (hn : n ≤ 1000) (hlen : ∀ q ∈ ps, q.b.length ≤ 600) :
    Calls Try.prog 22 #[.slice A n c] w fun e w' => ∃ v', e = .returned (.tuple #[v', .int .i64 ((jb ps).2 : Nat)]) ∧ Sl w' w'.heap.size v' (jb ps).1 ∧ Below w.heap.size w w' := by
  obtain ⟨hl, hnc, hcm⟩ := pgs_len h
  obtain ⟨jl, hjl⟩ : ∃ jl, jl = (jb ps).1 := ⟨_, rfl⟩
  obtain ⟨jn, hjn⟩ : ∃ jn, jn = (jb ps).2 := ⟨_, rfl⟩
  rw [← hjl, ← hjn]
  have HJL := Lib.hid hjl; clear hjl
  have HJN := Lib.hid hjn; clear hjn
  have HL := Lib.hid hl; clear hl
  have HLN := Lib.hid hlen; clear hlen
  have HP := Lib.hid h; clear h
  by_cases h0 : n = 0
  · have hps : ps = [] := List.eq_nil_of_length_eq_zero (by have := HL.out; omega)
    have e2 : jb ps = ([], 0) := jb_none (joined_nil (by rw [hps]; rfl))
    have O2 := Lib.hid e2; clear e2 hps
    subst h0
    go_enter Try.func22, Try.ntmps22
    go_wp2
    go_ret2
    rw [HJL.out, HJN.out, O2.out]
    exact ⟨_, rfl, sl_nil _ _, Below.refl _ _⟩
  · obtain ⟨q, r, hqr⟩ : ∃ q r, ps = q :: r := by
      cases h : ps with
      | nil => have := HL.out; rw [h] at this; simp at this; omega
      | cons q r => exact ⟨q, r, rfl⟩
    have hq0 : ps.getD 0 noP = q := by rw [hqr]; rfl
    obtain ⟨b, off, rfl, hb, hc⟩ := pgs_at HP.out (by omega)
    obtain ⟨v0, hr0, hs0⟩ := hc 0 (by omega)
    rw [hq0, Nat.zero_mul, Nat.add_zero] at hr0
    rw [hq0] at hs0
    obtain ⟨A0, n0, c0, rfl, hbt0⟩ := hs0
    have HR0 := Lib.hid hr0; clear hr0
    have HS0 := Lib.hid hbt0; clear hbt0
    have HQR := Lib.hid hqr; clear hqr
    have HC := Lib.hid hc; clear hc
    have h00 : ((n : Int) == 0) = false := by rw [beq_eq_false_iff_ne]; omega
    clear hq0
    cases hmay : q.may
    · have e2 : jb ps = ([], 0) := jb_none (joined_not HQR.out hmay)
      have O2 := Lib.hid e2; clear e2
      have z_0 : w.cell? ⟨b, off, none⟩ = some (.int .i64 q.kind) := HR0.out 0 _ rfl
      have z_1 : w.cell? ⟨b, off + 1, none⟩ = some (.int .i64 q.gen) := HR0.out 1 _ rfl
      have z_2 : w.cell? ⟨b, off + 2, none⟩ = some (.int .i64 q.mark) := HR0.out 2 _ rfl
      have z_3 : w.cell? ⟨b, off + 3, none⟩ = some (.int .i64 q.index) := HR0.out 3 _ rfl
      have z_4 : w.cell? ⟨b, off + 4, none⟩ = some (.int .i64 q.part) := HR0.out 4 _ rfl
      have z_5 : w.cell? ⟨b, off + 5, none⟩ = some (.int .i64 q.parts) := HR0.out 5 _ rfl
      have z_6 : w.cell? ⟨b, off + 6, none⟩ = some (.slice A0 n0 c0) := HR0.out 6 _ rfl
      go_enter Try.func22, Try.ntmps22
      go_wp2_with (first
        | (go_at_call 32; refine (may_any q (.slice A0 n0 c0) _ ?s1).mono ?_; (case s1 => exact sb_up HS0.out (by with_reducible repeat (first | exact Below.refl _ _ | refine below_drewN ?_ _ | refine pdrew ?_ | refine palloc ?_ _))); rintro e w4 ⟨rfl, hb4⟩; rw [hmay]; have HB := Lib.hid (below_up (w := w) hb4 (by with_reducible repeat (first | exact Below.refl _ _ | refine below_drewN ?_ _ | refine pdrew ?_ | refine palloc ?_ _))); clear hb4))
      go_ret2
      rw [HJL.out, HJN.out, O2.out]
      exact ⟨_, rfl, sl_nil _ _, HB.out⟩
    · by_cases hpn : q.parts ≤ n
      · obtain ⟨hte, hk1, hkn, hkI⟩ := told_may HQR.out hmay (by rw [HL.out]; exact hpn)
        rw [HL.out] at hkn
        obtain ⟨k1, hk1e⟩ : ∃ k1, k1 = q.parts.toNat := ⟨_, rfl⟩
        rw [← hk1e] at hte hk1 hkn hkI
        obtain ⟨t, htt⟩ : ∃ t, t = ps.take k1 := ⟨_, rfl⟩
        rw [← htt] at hte
        have hk16 : k1 ≤ 16 := by
          have := (win_yes ((may_iff q).1 hmay).ps).2
          omega
        have htl : t.length = k1 := by rw [htt, List.length_take]; have := HL.out; omega
        have HPT := Lib.hid (htt ▸ HP.out.take hkn : Pgs w w.heap.size (.slice (some ⟨b, off, none⟩) k1 c) t)
        have HTL := Lib.hid htl; clear htl
        obtain ⟨r', hqr'⟩ : ∃ r', t = q :: r' := by
          obtain ⟨m, hm⟩ : ∃ m, k1 = m + 1 := ⟨k1 - 1, by omega⟩
          rw [htt, HQR.out, hm, List.take_succ_cons]
          exact ⟨_, rfl⟩
        have hj := joined_of (hte.trans hqr')
        rw [← hqr'] at hj
        have HJ := Lib.hid hj; clear hj
        have HLT := Lib.hid (fun x (hx : x ∈ t) => HLN.out x (List.mem_of_mem_take (htt ▸ hx)))
        have HGT := Lib.hid (fun j (hj : j < k1) => (by rw [htt]; simp [List.getD, List.getElem?_take, hj] : t.getD j noP = ps.getD j noP))
        have hix := win_yes ((may_iff q).1 hmay).i
        have HIX := Lib.hid hix; clear hix
        have hd : decide ((n : Int) < q.parts) = false := by simp only [decide_eq_false_iff_not]; omega
        have hqp : q.parts = (k1 : Int) := hkI.symm
        have HQP := Lib.hid hqp; clear hqp
        clear hte hk1e htt hqr' hkI
        have z_0 : w.cell? ⟨b, off, none⟩ = some (.int .i64 q.kind) := HR0.out 0 _ rfl
        have z_1 : w.cell? ⟨b, off + 1, none⟩ = some (.int .i64 q.gen) := HR0.out 1 _ rfl
        have z_2 : w.cell? ⟨b, off + 2, none⟩ = some (.int .i64 q.mark) := HR0.out 2 _ rfl
        have z_3 : w.cell? ⟨b, off + 3, none⟩ = some (.int .i64 q.index) := HR0.out 3 _ rfl
        have z_4 : w.cell? ⟨b, off + 4, none⟩ = some (.int .i64 q.part) := HR0.out 4 _ rfl
        have z_5 : w.cell? ⟨b, off + 5, none⟩ = some (.int .i64 q.parts) := HR0.out 5 _ rfl
        have z_6 : w.cell? ⟨b, off + 6, none⟩ = some (.slice A0 n0 c0) := HR0.out 6 _ rfl
        have hdn : decide (n < k1) = false := by simp only [decide_eq_false_iff_not]; omega
        have zk5 := z_5
        rw [HQP.out] at zk5 hd
        have ZK5 := Lib.hid zk5; clear zk5
        obtain ⟨i5, hi5, hy0, hy1, hy2⟩ := info_parts Try.info5
        have HI := Lib.hid hi5; clear hi5
        have HY0 := Lib.hid hy0; clear hy0
        have HY1 := Lib.hid hy1; clear hy1
        have HY2 := Lib.hid hy2; clear hy2
        go_enter Try.func22, Try.ntmps22
        go_wp2_with (first
          | (go_at_call 32; refine (may_any q (.slice A0 n0 c0) _ ?s1).mono ?_; (case s1 => exact sb_up HS0.out (by with_reducible repeat (first | exact Below.refl _ _ | refine below_drewN ?_ _ | refine pdrew ?_ | refine palloc ?_ _))); rintro e w4 ⟨rfl, hb4⟩; rw [hmay]; have HB := Lib.hid (below_up (w := w) hb4 (by with_reducible repeat (first | exact Below.refl _ _ | refine below_drewN ?_ _ | refine pdrew ?_ | refine palloc ?_ _))); clear hb4; have y_5 : w4.cell? ⟨b, off + 5, none⟩ = some (.int .i64 (k1 : Int)) := (HB.out.cell hb).trans ZK5.out))
        have hop0 := plit w4 w.heap.size w4.heap.size rfl HB.out.size
        have HO0 := Lib.hid hop0; clear hop0
        have HB0 := Lib.hid (palloc HB.out (Obj.cells #[] 5))
        clear HB
        go_loopw [5, 6] (fun vo i wr => ∃ k : Nat, k ≤ k1 ∧ i = .int .i64 k ∧ wr.ownsRow w.heap.size 5 1 vo (cat (t.take k)).length (vals (cat (t.take k))) ∧ Below w.heap.size w wr) (fun _ i _ => k1 - (intOf i).toNat)
        case atStart => exact ⟨0, Nat.zero_le _, rfl, HO0.out, HB0.out⟩
        case round =>
          obtain ⟨k, hk, rfl, hown, hbw⟩ := hrel
          have HO := Lib.hid hown; clear hown
          have HB := Lib.hid hbw; clear hbw
          clear HO0 HB0
          by_cases hlt : k < k1
          · obtain ⟨v1, hr1, hs1⟩ := HC.out k (by omega)
            rw [← HGT.out k hlt] at hr1 hs1
            have hst := cat_step t k (by have := HTL.out; omega)
            have hq6 := HLT.out _ (getD_mem (by have := HTL.out; omega : k < t.length))
            have hcl : (cat (t.take k)).length ≤ 16 * 600 := by
              have h1 := cat_len (t := t.take k) (m := 600) (fun q hq => HLT.out q (List.mem_of_mem_take hq))
              have h2 : (t.take k).length ≤ 16 := by rw [List.length_take]; omega
              have h3 := Nat.mul_le_mul_right 600 h2
              omega
            obtain ⟨q1, hq1⟩ : ∃ q, q = t.getD k noP := ⟨_, rfl⟩
            rw [← hq1] at hr1 hs1 hst hq6
            clear hq1
            obtain ⟨A2, n2, c2, rfl, hbt2⟩ := hs1
            have hl2 := hbt2.1
            rw [hl2] at hq6
            have HL2 := Lib.hid hl2; clear hl2
            have HS1 := Lib.hid hbt2; clear hbt2
            have HST := Lib.hid hst; clear hst
            have e6 : wr.cell? ⟨b, off + k * 7 + 6, none⟩ = some (.slice A2 n2 c2) := (HB.out.cell hb).trans (hr1 6 _ rfl)
            clear hr1
            obtain ⟨L, hL⟩ : ∃ L, L = (cat (t.take k)).length := ⟨_, rfl⟩
            rw [← hL] at hcl HO
            have HLL := Lib.hid hL; clear hL
            go_wp2_with (at_builtin; refine wpList_append_any _ rfl (.tmp 38) (.tmp 43) 25 rfl w.heap.size 5 i5 (.int .u8 0) 1 1 Try.underlying25 HI.out HY0.out HY1.out HY2.out rfl (by decide) _ L (vals (cat (t.take k))) rfl HO.out w.heap.size A2 n2 c2 (vals q1.b) rfl (Bts.reads (Bts.below HS1.out HB.out (Nat.le_refl _))) (vals_one _) (by unfold maxLen; omega) (by omega) HB.out.size ?_; intro v5 w5 hown5 hg5 _; rw [← vals_append, ← HST.out] at hown5; have HO5 := Lib.hid hown5; have HB5 := Lib.hid (HB.out.grown hg5 HB.out.size (fun q hq => (HO.out.lt q hq).1)); clear hown5 hg5)
            go_roundw
            case rel => exact ⟨k + 1, by omega, by go_num, by rw [show (cat (t.take (k + 1))).length = L + n2 by rw [HST.out, List.length_append, HLL.out, HL2.out]]; exact HO5.out, HB5.out⟩
            case measure => simp [intOf]; omega
          · obtain rfl : k = k1 := by omega
            have htk : t.take k = t := List.take_of_length_le (by have := HTL.out; omega)
            rw [htk] at HO
            have hcl : (cat t).length ≤ 9600 := by
              have h1 := cat_len (t := t) (m := 600) HLT.out
              have h2 := Nat.mul_le_mul_right 600 hk16
              have := HTL.out
              rw [this] at h1
              omega
            have hx := cat_lt (pgs_lt HPT.out)
            obtain ⟨bs, hbs⟩ : ∃ bs, bs = cat t := ⟨_, rfl⟩
            rw [← hbs] at HO hcl hx HJ
            obtain ⟨L, hL⟩ : ∃ L, L = bs.length := ⟨_, rfl⟩
            rw [← hL] at HO hcl
            obtain ⟨A5, c5, rfl⟩ := own_form HO.out
            have hsl := sl_own HO.out hx (by omega)
            have hfi := fits_iff (q := q) (b := bs) (t := t) (by have := HTL.out; omega)
            rw [← hL, HTL.out] at hfi
            have HFI := Lib.hid hfi; clear hfi
            have hpa := fun (W : World) => rparts_any (L : Int) W
            rw [partsI_nat] at hpa
            have HPA := Lib.hid hpa; clear hpa
            have HSL := Lib.hid hsl; clear hsl
            have HLL := Lib.hid hL; clear hL
            clear hx htk hbs HO
            obtain ⟨pl, hpl⟩ : ∃ pl, pl = parts L := ⟨_, rfl⟩
            rw [← hpl] at HPA HFI
            have HPL := Lib.hid hpl; clear hpl
            by_cases hpk : pl = k
            · subst hpk
              have hneq : ((pl : Int) != (pl : Int)) = false := by simp
              have rm := fun (W : World) (hW : Below w.heap.size w W) => rmays_any (some ⟨b, off, none⟩) pl c t W ((HPT.out.below hW (Nat.le_refl _)).more hW.size) (by omega)
              have RM := Lib.hid rm; clear rm
              have hkc : pl ≤ c := by omega
              cases hall : t.all P.may
              · have e1 : joined ps = none := by rw [HJ.out, if_neg (fun h => by have := (HFI.out.1 h).2.1; rw [hall] at this; cases this)]
                have O2 := Lib.hid (jb_none e1); clear e1
                go_wp2_with (first
                  | (go_at_call 27; refine (HPA.out _).mono ?_; rintro e w' ⟨rfl, rfl⟩)
                  | (go_at_call 29; refine (RM.out _ ?hb).mono ?_; (case hb => with_reducible repeat (first | exact HB.out | refine below_drewN ?_ _ | refine pdrew ?_ | refine palloc ?_ _)); rintro e w5 ⟨rfl, hb5⟩; rw [hall]; have HB5 := Lib.hid (below_up (w := w) hb5 (by with_reducible repeat (first | exact HB.out | refine below_drewN ?_ _ | refine pdrew ?_ | refine palloc ?_ _))); clear hb5))
                go_ret2
                rw [HJL.out, HJN.out, O2.out]
                exact ⟨_, rfl, sl_nil _ _, HB5.out⟩
              · go_wp2_with (first
                  | (go_at_call 27; refine (HPA.out _).mono ?_; rintro e w' ⟨rfl, rfl⟩)
                  | (go_at_call 29; refine (RM.out _ ?hb).mono ?_; (case hb => with_reducible repeat (first | exact HB.out | refine below_drewN ?_ _ | refine pdrew ?_ | refine palloc ?_ _)); rintro e w5 ⟨rfl, hb5⟩; rw [hall]; have HB5 := Lib.hid (below_up (w := w) hb5 (by with_reducible repeat (first | exact HB.out | refine below_drewN ?_ _ | refine pdrew ?_ | refine palloc ?_ _))); have HSL5 := Lib.hid ((HSL.out.below (below_dn hb5) (Nat.le_refl _)).more hb5.size); clear hb5)
                  | (refine wpList_load_mid rfl 43 (.tmp 58) rfl b off rfl [.int .i64 q.kind, .int .i64 q.gen, .int .i64 q.mark, .int .i64 q.index, .int .i64 q.part, .int .i64 q.parts, .slice A0 n0 c0] _ (rangeAt_below HR0.out HB5.out hb) Try.underlying43 rfl (by rw [size24]; rfl) ?_)
                  | (go_at_call 28; refine (rsplit_any q (.slice A0 n0 c0) A5 L c5 bs _ ?hsl HLL.out.symm HIX.out.1 HIX.out.2).mono ?_; (case hsl => exact HSL5.out); rintro e w6 ⟨v6, rfl, hop6, hb6⟩; have HB6 := Lib.hid (below_up (w := w) hb6 HB5.out); have HSL6 := Lib.hid ((HSL5.out.below hb6 (Nat.le_refl _)).more hb6.size); have hpw := own_pgs hop6; obtain ⟨A6, n6, c6, rfl, _⟩ := id hpw; have HPW := Lib.hid hpw; clear hop6 hpw hb6))
                have hpw6 := HPW.out
                have hn6 := (pgs_len hpw6).1
                rw [pages_length, ← HLL.out, ← HPL.out] at hn6
                subst hn6
                have HPT6 := Lib.hid ((HPT.out.below HB6.out (Nat.le_refl _)).more HB6.out.size)
                obtain ⟨b', off', rfl, hb', hc'⟩ := pgs_at hpw6 (by omega)
                obtain ⟨b2, off2, hbe, hb2, hc2⟩ := pgs_at HPT6.out (by omega)
                injection hbe with hbe
                injection hbe with hbe1 hbe2 _
                subst hbe1 hbe2
                have HC1 := Lib.hid hc'; clear hc'
                have HC2 := Lib.hid hc2; clear hc2
                clear hpw6
                go_loopw [8] (fun i wr2 => ∃ k : Nat, k ≤ pl ∧ i = .int .i64 k ∧ Below w6.heap.size w6 wr2 ∧ ∀ j, j < k → (pages q bs).getD j noP = t.getD j noP) (fun i _ => pl - (intOf i).toNat)
                case atStart => exact ⟨0, Nat.zero_le _, rfl, Below.refl _ _, fun j hj => absurd hj (by omega)⟩
                case round =>
                  obtain ⟨k, hk, rfl, hbw, heq⟩ := hrel
                  have HB := Lib.hid hbw; clear hbw
                  have HE := Lib.hid heq; clear heq
                  by_cases hlt : k < pl
                  · obtain ⟨v1, hr1, hs1⟩ := HC1.out k hlt
                    obtain ⟨v2, hr2, hs2⟩ := HC2.out k hlt
                    obtain ⟨q1, hq1⟩ : ∃ x, x = (pages q bs).getD k noP := ⟨_, rfl⟩
                    obtain ⟨q2, hq2⟩ : ∃ x, x = t.getD k noP := ⟨_, rfl⟩
                    rw [← hq1] at hr1 hs1
                    rw [← hq2] at hr2 hs2
                    have HQ1 := Lib.hid hq1; clear hq1
                    have HQ2 := Lib.hid hq2; clear hq2
                    have HR1 := Lib.hid hr1; clear hr1
                    have HR2 := Lib.hid hr2; clear hr2
                    obtain ⟨A1, n1, c1, rfl, hbt1⟩ := hs1
                    obtain ⟨A2, n2, c2, rfl, hbt2⟩ := hs2
                    have HS1 := Lib.hid hbt1; clear hbt1
                    have HS2 := Lib.hid hbt2; clear hbt2
                    have hkn2 : k < n := by omega
                    have hkn3 : (k : Int) < (n : Int) := by omega
                    cases hde : decide (q1 = q2)
                    · have hne : pages q bs ≠ t := getD_ne (k := k) (fun e => by
                        rw [← HQ1.out, ← HQ2.out] at e
                        rw [decide_eq_true e] at hde
                        cases hde)
                      have e1 : joined ps = none := by rw [HJ.out, if_neg (fun h => hne h.2)]
                      have O2 := Lib.hid (jb_none e1); clear e1 hne
                      go_wp2
                      have e1 := rangeAt_below HR1.out HB.out hb'
                      have e1_0 : wr.cell? ⟨b', off' + k * 7, none⟩ = some (.int .i64 q1.kind) := e1 0 _ rfl
                      have e1_1 : wr.cell? ⟨b', off' + k * 7 + 1, none⟩ = some (.int .i64 q1.gen) := e1 1 _ rfl
                      have e1_2 : wr.cell? ⟨b', off' + k * 7 + 2, none⟩ = some (.int .i64 q1.mark) := e1 2 _ rfl
                      have e1_3 : wr.cell? ⟨b', off' + k * 7 + 3, none⟩ = some (.int .i64 q1.index) := e1 3 _ rfl
                      have e1_4 : wr.cell? ⟨b', off' + k * 7 + 4, none⟩ = some (.int .i64 q1.part) := e1 4 _ rfl
                      have e1_5 : wr.cell? ⟨b', off' + k * 7 + 5, none⟩ = some (.int .i64 q1.parts) := e1 5 _ rfl
                      have e1_6 : wr.cell? ⟨b', off' + k * 7 + 6, none⟩ = some (.slice A1 n1 c1) := e1 6 _ rfl
                      clear e1
                      have e2 := rangeAt_below HR2.out HB.out hb2
                      have e2_0 : wr.cell? ⟨b, off + k * 7, none⟩ = some (.int .i64 q2.kind) := e2 0 _ rfl
                      have e2_1 : wr.cell? ⟨b, off + k * 7 + 1, none⟩ = some (.int .i64 q2.gen) := e2 1 _ rfl
                      have e2_2 : wr.cell? ⟨b, off + k * 7 + 2, none⟩ = some (.int .i64 q2.mark) := e2 2 _ rfl
                      have e2_3 : wr.cell? ⟨b, off + k * 7 + 3, none⟩ = some (.int .i64 q2.index) := e2 3 _ rfl
                      have e2_4 : wr.cell? ⟨b, off + k * 7 + 4, none⟩ = some (.int .i64 q2.part) := e2 4 _ rfl
                      have e2_5 : wr.cell? ⟨b, off + k * 7 + 5, none⟩ = some (.int .i64 q2.parts) := e2 5 _ rfl
                      have e2_6 : wr.cell? ⟨b, off + k * 7 + 6, none⟩ = some (.slice A2 n2 c2) := e2 6 _ rfl
                      clear e2
                      go_region_held3 (fun W => W.cell? ⟨b', off' + k * 7, none⟩ = some (.int .i64 q1.kind) ∧ W.cell? ⟨b', off' + k * 7 + 1, none⟩ = some (.int .i64 q1.gen) ∧ W.cell? ⟨b', off' + k * 7 + 2, none⟩ = some (.int .i64 q1.mark) ∧ W.cell? ⟨b', off' + k * 7 + 3, none⟩ = some (.int .i64 q1.index) ∧ W.cell? ⟨b', off' + k * 7 + 4, none⟩ = some (.int .i64 q1.part) ∧ W.cell? ⟨b', off' + k * 7 + 5, none⟩ = some (.int .i64 q1.parts) ∧ W.cell? ⟨b', off' + k * 7 + 6, none⟩ = some (.slice A1 n1 c1) ∧ W.cell? ⟨b, off + k * 7, none⟩ = some (.int .i64 q2.kind) ∧ W.cell? ⟨b, off + k * 7 + 1, none⟩ = some (.int .i64 q2.gen) ∧ W.cell? ⟨b, off + k * 7 + 2, none⟩ = some (.int .i64 q2.mark) ∧ W.cell? ⟨b, off + k * 7 + 3, none⟩ = some (.int .i64 q2.index) ∧ W.cell? ⟨b, off + k * 7 + 4, none⟩ = some (.int .i64 q2.part) ∧ W.cell? ⟨b, off + k * 7 + 5, none⟩ = some (.int .i64 q2.parts) ∧ W.cell? ⟨b, off + k * 7 + 6, none⟩ = some (.slice A2 n2 c2))
                        (first
                          | with_reducible exact ⟨e1_0, e1_1, e1_2, e1_3, e1_4, e1_5, e1_6, e2_0, e2_1, e2_2, e2_3, e2_4, e2_5, e2_6⟩
                          | with_reducible exact ⟨z1_0, z1_1, z1_2, z1_3, z1_4, z1_5, z1_6, z2_0, z2_1, z2_2, z2_3, z2_4, z2_5, z2_6⟩
                          | go_keep)
                        (first
                          | (go_at_call 36; refine (refsame_any q1 q2 (.slice A1 n1 c1) (.slice A2 n2 c2) _ ?s1 ?s2).mono ?_; (case s1 => exact sb_up HS1.out (by with_reducible repeat (first | exact HB.out | refine below_drewN ?_ _ | refine pdrew ?_ | refine palloc ?_ _))); (case s2 => exact sb_up HS2.out (by with_reducible repeat (first | exact HB.out | refine below_drewN ?_ _ | refine pdrew ?_ | refine palloc ?_ _))); rintro e w4' ⟨rfl, hb4⟩; rw [hde]; have HB4 := Lib.hid (below_up (w := w6) hb4 (by with_reducible repeat (first | exact HB.out | refine below_drewN ?_ _ | refine pdrew ?_ | refine palloc ?_ _))); clear hb4; have z1_0 : w4'.cell? ⟨b', off' + k * 7, none⟩ = some (.int .i64 q1.kind) := (rangeAt_below HR1.out HB4.out hb') 0 _ rfl; have z1_1 : w4'.cell? ⟨b', off' + k * 7 + 1, none⟩ = some (.int .i64 q1.gen) := (rangeAt_below HR1.out HB4.out hb') 1 _ rfl; have z1_2 : w4'.cell? ⟨b', off' + k * 7 + 2, none⟩ = some (.int .i64 q1.mark) := (rangeAt_below HR1.out HB4.out hb') 2 _ rfl; have z1_3 : w4'.cell? ⟨b', off' + k * 7 + 3, none⟩ = some (.int .i64 q1.index) := (rangeAt_below HR1.out HB4.out hb') 3 _ rfl; have z1_4 : w4'.cell? ⟨b', off' + k * 7 + 4, none⟩ = some (.int .i64 q1.part) := (rangeAt_below HR1.out HB4.out hb') 4 _ rfl; have z1_5 : w4'.cell? ⟨b', off' + k * 7 + 5, none⟩ = some (.int .i64 q1.parts) := (rangeAt_below HR1.out HB4.out hb') 5 _ rfl; have z1_6 : w4'.cell? ⟨b', off' + k * 7 + 6, none⟩ = some (.slice A1 n1 c1) := (rangeAt_below HR1.out HB4.out hb') 6 _ rfl; have z2_0 : w4'.cell? ⟨b, off + k * 7, none⟩ = some (.int .i64 q2.kind) := (rangeAt_below HR2.out HB4.out hb2) 0 _ rfl; have z2_1 : w4'.cell? ⟨b, off + k * 7 + 1, none⟩ = some (.int .i64 q2.gen) := (rangeAt_below HR2.out HB4.out hb2) 1 _ rfl; have z2_2 : w4'.cell? ⟨b, off + k * 7 + 2, none⟩ = some (.int .i64 q2.mark) := (rangeAt_below HR2.out HB4.out hb2) 2 _ rfl; have z2_3 : w4'.cell? ⟨b, off + k * 7 + 3, none⟩ = some (.int .i64 q2.index) := (rangeAt_below HR2.out HB4.out hb2) 3 _ rfl; have z2_4 : w4'.cell? ⟨b, off + k * 7 + 4, none⟩ = some (.int .i64 q2.part) := (rangeAt_below HR2.out HB4.out hb2) 4 _ rfl; have z2_5 : w4'.cell? ⟨b, off + k * 7 + 5, none⟩ = some (.int .i64 q2.parts) := (rangeAt_below HR2.out HB4.out hb2) 5 _ rfl; have z2_6 : w4'.cell? ⟨b, off + k * 7 + 6, none⟩ = some (.slice A2 n2 c2) := (rangeAt_below HR2.out HB4.out hb2) 6 _ rfl))
                      go_wp2
                      go_ret2
                      rw [HJL.out, HJN.out, O2.out]
                      exact ⟨_, rfl, sl_nil _ _, below_up (w := w) HB4.out HB6.out⟩
                    · have heq : (pages q bs).getD k noP = t.getD k noP := by
                        rw [← HQ1.out, ← HQ2.out]
                        exact of_decide_eq_true hde
                      have HEQ := Lib.hid heq; clear heq
                      go_wp2
                      have e1 := rangeAt_below HR1.out HB.out hb'
                      have e1_0 : wr.cell? ⟨b', off' + k * 7, none⟩ = some (.int .i64 q1.kind) := e1 0 _ rfl
                      have e1_1 : wr.cell? ⟨b', off' + k * 7 + 1, none⟩ = some (.int .i64 q1.gen) := e1 1 _ rfl
                      have e1_2 : wr.cell? ⟨b', off' + k * 7 + 2, none⟩ = some (.int .i64 q1.mark) := e1 2 _ rfl
                      have e1_3 : wr.cell? ⟨b', off' + k * 7 + 3, none⟩ = some (.int .i64 q1.index) := e1 3 _ rfl
                      have e1_4 : wr.cell? ⟨b', off' + k * 7 + 4, none⟩ = some (.int .i64 q1.part) := e1 4 _ rfl
                      have e1_5 : wr.cell? ⟨b', off' + k * 7 + 5, none⟩ = some (.int .i64 q1.parts) := e1 5 _ rfl
                      have e1_6 : wr.cell? ⟨b', off' + k * 7 + 6, none⟩ = some (.slice A1 n1 c1) := e1 6 _ rfl
                      clear e1
                      have e2 := rangeAt_below HR2.out HB.out hb2
                      have e2_0 : wr.cell? ⟨b, off + k * 7, none⟩ = some (.int .i64 q2.kind) := e2 0 _ rfl
                      have e2_1 : wr.cell? ⟨b, off + k * 7 + 1, none⟩ = some (.int .i64 q2.gen) := e2 1 _ rfl
                      have e2_2 : wr.cell? ⟨b, off + k * 7 + 2, none⟩ = some (.int .i64 q2.mark) := e2 2 _ rfl
                      have e2_3 : wr.cell? ⟨b, off + k * 7 + 3, none⟩ = some (.int .i64 q2.index) := e2 3 _ rfl
                      have e2_4 : wr.cell? ⟨b, off + k * 7 + 4, none⟩ = some (.int .i64 q2.part) := e2 4 _ rfl
                      have e2_5 : wr.cell? ⟨b, off + k * 7 + 5, none⟩ = some (.int .i64 q2.parts) := e2 5 _ rfl
                      have e2_6 : wr.cell? ⟨b, off + k * 7 + 6, none⟩ = some (.slice A2 n2 c2) := e2 6 _ rfl
                      clear e2
                      go_region_held3 (fun W => W.cell? ⟨b', off' + k * 7, none⟩ = some (.int .i64 q1.kind) ∧ W.cell? ⟨b', off' + k * 7 + 1, none⟩ = some (.int .i64 q1.gen) ∧ W.cell? ⟨b', off' + k * 7 + 2, none⟩ = some (.int .i64 q1.mark) ∧ W.cell? ⟨b', off' + k * 7 + 3, none⟩ = some (.int .i64 q1.index) ∧ W.cell? ⟨b', off' + k * 7 + 4, none⟩ = some (.int .i64 q1.part) ∧ W.cell? ⟨b', off' + k * 7 + 5, none⟩ = some (.int .i64 q1.parts) ∧ W.cell? ⟨b', off' + k * 7 + 6, none⟩ = some (.slice A1 n1 c1) ∧ W.cell? ⟨b, off + k * 7, none⟩ = some (.int .i64 q2.kind) ∧ W.cell? ⟨b, off + k * 7 + 1, none⟩ = some (.int .i64 q2.gen) ∧ W.cell? ⟨b, off + k * 7 + 2, none⟩ = some (.int .i64 q2.mark) ∧ W.cell? ⟨b, off + k * 7 + 3, none⟩ = some (.int .i64 q2.index) ∧ W.cell? ⟨b, off + k * 7 + 4, none⟩ = some (.int .i64 q2.part) ∧ W.cell? ⟨b, off + k * 7 + 5, none⟩ = some (.int .i64 q2.parts) ∧ W.cell? ⟨b, off + k * 7 + 6, none⟩ = some (.slice A2 n2 c2))
                        (first
                          | with_reducible exact ⟨e1_0, e1_1, e1_2, e1_3, e1_4, e1_5, e1_6, e2_0, e2_1, e2_2, e2_3, e2_4, e2_5, e2_6⟩
                          | with_reducible exact ⟨z1_0, z1_1, z1_2, z1_3, z1_4, z1_5, z1_6, z2_0, z2_1, z2_2, z2_3, z2_4, z2_5, z2_6⟩
                          | go_keep)
                        (first
                          | (go_at_call 36; refine (refsame_any q1 q2 (.slice A1 n1 c1) (.slice A2 n2 c2) _ ?s1 ?s2).mono ?_; (case s1 => exact sb_up HS1.out (by with_reducible repeat (first | exact HB.out | refine below_drewN ?_ _ | refine pdrew ?_ | refine palloc ?_ _))); (case s2 => exact sb_up HS2.out (by with_reducible repeat (first | exact HB.out | refine below_drewN ?_ _ | refine pdrew ?_ | refine palloc ?_ _))); rintro e w4' ⟨rfl, hb4⟩; rw [hde]; have HB4 := Lib.hid (below_up (w := w6) hb4 (by with_reducible repeat (first | exact HB.out | refine below_drewN ?_ _ | refine pdrew ?_ | refine palloc ?_ _))); clear hb4; have z1_0 : w4'.cell? ⟨b', off' + k * 7, none⟩ = some (.int .i64 q1.kind) := (rangeAt_below HR1.out HB4.out hb') 0 _ rfl; have z1_1 : w4'.cell? ⟨b', off' + k * 7 + 1, none⟩ = some (.int .i64 q1.gen) := (rangeAt_below HR1.out HB4.out hb') 1 _ rfl; have z1_2 : w4'.cell? ⟨b', off' + k * 7 + 2, none⟩ = some (.int .i64 q1.mark) := (rangeAt_below HR1.out HB4.out hb') 2 _ rfl; have z1_3 : w4'.cell? ⟨b', off' + k * 7 + 3, none⟩ = some (.int .i64 q1.index) := (rangeAt_below HR1.out HB4.out hb') 3 _ rfl; have z1_4 : w4'.cell? ⟨b', off' + k * 7 + 4, none⟩ = some (.int .i64 q1.part) := (rangeAt_below HR1.out HB4.out hb') 4 _ rfl; have z1_5 : w4'.cell? ⟨b', off' + k * 7 + 5, none⟩ = some (.int .i64 q1.parts) := (rangeAt_below HR1.out HB4.out hb') 5 _ rfl; have z1_6 : w4'.cell? ⟨b', off' + k * 7 + 6, none⟩ = some (.slice A1 n1 c1) := (rangeAt_below HR1.out HB4.out hb') 6 _ rfl; have z2_0 : w4'.cell? ⟨b, off + k * 7, none⟩ = some (.int .i64 q2.kind) := (rangeAt_below HR2.out HB4.out hb2) 0 _ rfl; have z2_1 : w4'.cell? ⟨b, off + k * 7 + 1, none⟩ = some (.int .i64 q2.gen) := (rangeAt_below HR2.out HB4.out hb2) 1 _ rfl; have z2_2 : w4'.cell? ⟨b, off + k * 7 + 2, none⟩ = some (.int .i64 q2.mark) := (rangeAt_below HR2.out HB4.out hb2) 2 _ rfl; have z2_3 : w4'.cell? ⟨b, off + k * 7 + 3, none⟩ = some (.int .i64 q2.index) := (rangeAt_below HR2.out HB4.out hb2) 3 _ rfl; have z2_4 : w4'.cell? ⟨b, off + k * 7 + 4, none⟩ = some (.int .i64 q2.part) := (rangeAt_below HR2.out HB4.out hb2) 4 _ rfl; have z2_5 : w4'.cell? ⟨b, off + k * 7 + 5, none⟩ = some (.int .i64 q2.parts) := (rangeAt_below HR2.out HB4.out hb2) 5 _ rfl; have z2_6 : w4'.cell? ⟨b, off + k * 7 + 6, none⟩ = some (.slice A2 n2 c2) := (rangeAt_below HR2.out HB4.out hb2) 6 _ rfl))
                      go_wp2
                      go_roundw
                      case rel =>
                        refine ⟨k + 1, by omega, by go_num, HB4.out, fun j hj => ?_⟩
                        by_cases e : j = k
                        · subst e
                          exact HEQ.out
                        · exact HE.out j (by omega)
                      case measure => simp [intOf]; omega
                  · obtain rfl : k = pl := by omega
                    have hpt : pages q bs = t := list_eq (by rw [pages_length, ← HLL.out, ← HPL.out, HTL.out]) (fun j hj => HE.out j (by rw [pages_length, ← HLL.out, ← HPL.out] at hj; exact hj))
                    have e1 : joined ps = some (bs, t.length) := by rw [HJ.out, if_pos (HFI.out.2 ⟨by trivial, hall, hpt⟩)]
                    have O2 := Lib.hid (jb_some e1); clear e1 hpt
                    go_wp2
                    go_ret2
                    rw [HJL.out, HJN.out, O2.out, HTL.out]
                    exact ⟨_, rfl, (HSL6.out.below HB.out (Nat.le_refl _)).more HB.out.size, below_up (w := w) HB.out HB6.out⟩
            · have hneq : ((pl : Int) != (k : Int)) = true := by rw [bne_iff_ne]; omega
              have e1 : joined ps = none := by rw [HJ.out, if_neg (fun h => hpk (HFI.out.1 h).1)]
              have O2 := Lib.hid (jb_none e1); clear e1 hpk
              go_wp2_with (go_at_call 27; refine (HPA.out _).mono ?_; rintro e w' ⟨rfl, rfl⟩)
              go_ret2
              rw [HJL.out, HJN.out, O2.out]
              exact ⟨_, rfl, sl_nil _ _, HB.out⟩
      · have e2 : jb ps = ([], 0) := jb_none (joined_big HQR.out (by rw [HL.out]; exact hpn))
        have O2 := Lib.hid e2; clear e2
        have hd : decide ((n : Int) < q.parts) = true := by simp only [decide_eq_true_eq]; omega
        have z_0 : w.cell? ⟨b, off, none⟩ = some (.int .i64 q.kind) := HR0.out 0 _ rfl
        have z_1 : w.cell? ⟨b, off + 1, none⟩ = some (.int .i64 q.gen) := HR0.out 1 _ rfl
        have z_2 : w.cell? ⟨b, off + 2, none⟩ = some (.int .i64 q.mark) := HR0.out 2 _ rfl
        have z_3 : w.cell? ⟨b, off + 3, none⟩ = some (.int .i64 q.index) := HR0.out 3 _ rfl
        have z_4 : w.cell? ⟨b, off + 4, none⟩ = some (.int .i64 q.part) := HR0.out 4 _ rfl
        have z_5 : w.cell? ⟨b, off + 5, none⟩ = some (.int .i64 q.parts) := HR0.out 5 _ rfl
        have z_6 : w.cell? ⟨b, off + 6, none⟩ = some (.slice A0 n0 c0) := HR0.out 6 _ rfl
        go_enter Try.func22, Try.ntmps22
        go_wp2_with (first
          | (go_at_call 32; refine (may_any q (.slice A0 n0 c0) _ ?s1).mono ?_; (case s1 => exact sb_up HS0.out (by with_reducible repeat (first | exact Below.refl _ _ | refine below_drewN ?_ _ | refine pdrew ?_ | refine palloc ?_ _))); rintro e w4 ⟨rfl, hb4⟩; rw [hmay]; have HB := Lib.hid (below_up (w := w) hb4 (by with_reducible repeat (first | exact Below.refl _ _ | refine below_drewN ?_ _ | refine pdrew ?_ | refine palloc ?_ _))); clear hb4; have y_5 : w4.cell? ⟨b, off + 5, none⟩ = some (.int .i64 q.parts) := (HB.out.cell hb).trans z_5))
        go_ret2
        rw [HJL.out, HJN.out, O2.out]
        exact ⟨_, rfl, sl_nil _ _, HB.out⟩
end Go.Proofs.Ytkidjlmjjfgknaa.Rcd
