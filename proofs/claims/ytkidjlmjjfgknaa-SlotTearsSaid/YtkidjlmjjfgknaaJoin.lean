/- The record that pages begin with (layer 5): the contract of record.Join. -/
import Derived.Test.YtkidjlmjjfgknaaTold
namespace Go.Proofs.Ytkidjlmjjfgknaa.Rcd
open Go.RowKit Go.Proofs.Ytkidjlmjjfgknaa.Mem Go.Proofs.Ytkidjlmjjfgknaa.Oct Go.Proofs.Ytkidjlmjjfgknaa.Pg
set_option linter.unusedVariables false
set_option linter.unusedSimpArgs false
theorem pgs_lt {w : World} {B : Nat} {v : Value} {ps : List P} (h : Pgs w B v ps) : ∀ q ∈ ps, ∀ x ∈ q.b, x < 256 := by
  obtain ⟨A, n, c, e, h1, h2, h3, h4⟩ := h
  intro q hq
  obtain ⟨i, hi, rfl⟩ := List.mem_iff_getElem.1 hq
  obtain ⟨b, off, _, _, h5⟩ := h4 (by omega)
  obtain ⟨vb, _, hs⟩ := h5 i (by omega)
  have e : ps.getD i noP = ps[i] := by simp [List.getD, List.getElem?_eq_getElem hi]
  rw [e] at hs
  exact hs.lt
theorem cat_lt {t : List P} (h : ∀ q ∈ t, ∀ x ∈ q.b, x < 256) : ∀ x ∈ cat t, x < 256 := by
  intro x hx
  simp only [cat, List.mem_flatMap] at hx
  obtain ⟨q, hq, hx⟩ := hx
  exact h q hq x hx
def jb (ps : List P) : List Nat × Nat := (joined ps).getD ([], 0)
theorem cat_step (t : List P) (k : Nat) (h : k < t.length) : cat (t.take (k + 1)) = cat (t.take k) ++ (t.getD k noP).b := by
  have e : t.take (k + 1) = t.take k ++ [t.getD k noP] := by
    rw [List.take_add_one, List.getElem?_eq_getElem h]
    simp [List.getD, List.getElem?_eq_getElem h]
  rw [e]
  simp [cat]
theorem cat_len {t : List P} {m : Nat} (h : ∀ q ∈ t, q.b.length ≤ m) : (cat t).length ≤ t.length * m := by
  induction t with
  | nil => simp [cat]
  | cons q r ih =>
    have h1 := ih (fun x hx => h x (by simp [hx]))
    have h2 := h q (by simp)
    simp only [cat, List.flatMap_cons, List.length_append, List.length_cons] at h1 ⊢
    rw [Nat.succ_mul]
    omega
theorem told_mem {ps : List P} {q : P} (h : q ∈ told ps) : q ∈ ps := by
  unfold told at h
  split at h
  · exact List.mem_of_mem_take h
  · simp at h
theorem told_len (ps : List P) : (told ps).length ≤ 16 := by
  unfold told
  split
  · rw [List.length_take]
    omega
  · simp
theorem getD_mem {t : List P} {k : Nat} (h : k < t.length) : t.getD k noP ∈ t := by
  simp only [List.getD, List.getElem?_eq_getElem h, Option.getD_some]
  exact List.getElem_mem h
theorem vals_len (xs : List Nat) : (vals xs).length = xs.length := by simp [vals]
set_option maxRecDepth 20000 in
set_option maxHeartbeats 8000000 in
theorem join_any (A : Option Addr) (n c : Nat) (ps : List P) (w : World) (h : Pgs w w.heap.size (.slice A n c) ps) (hn : n ≤ 1000) (hlen : ∀ q ∈ ps, q.b.length ≤ 600) (hin : ∀ q ∈ ps, In64 q.index) :
    Calls Try.prog 20 #[.slice A n c] w fun e w' => ∃ v', e = .returned (.tuple #[v', .int .i64 ((jb ps).2 : Nat), .bool (joined ps).isSome]) ∧ Sl w' w'.heap.size v' (jb ps).1 ∧ Below w.heap.size w w' := by
  have ht := told_any A n c ps w h hn
  have hlt16 := told_len ps
  have hln : ∀ q ∈ told ps, q.b.length ≤ 600 := fun q hq => hlen q (told_mem hq)
  have hint : ∀ q ∈ told ps, In64 q.index := fun q hq => hin q (told_mem hq)
  obtain ⟨t, hte⟩ : ∃ t, t = told ps := ⟨_, rfl⟩
  rw [← hte] at ht hlt16 hln hint
  have HT := Lib.hid ht; clear ht
  have HTE := Lib.hid hte; clear hte
  have HLN := Lib.hid hln; clear hln
  have HIN := Lib.hid hint; clear hint
  obtain ⟨i5, hi5, hy0, hy1, hy2⟩ := info_parts Try.info5
  have HI := Lib.hid hi5; clear hi5
  have HY0 := Lib.hid hy0; clear hy0
  have HY1 := Lib.hid hy1; clear hy1
  have HY2 := Lib.hid hy2; clear hy2
  clear hlen hin h
  by_cases h0 : t = []
  · have e1 : joined ps = none := joined_nil (HTE.out.symm.trans h0)
    have e2 : jb ps = ([], 0) := by unfold jb; rw [e1]; rfl
    rw [e1, e2]
    subst h0
    go_enter Try.func20, Try.ntmps20
    go_wp2_with (go_at_call 33; refine (HT.out).mono ?_; rintro e w' ⟨⟨A1, k1, c1, rfl, hk1, hp1⟩, rfl⟩; have hk0 : k1 = 0 := hk1.symm; clear hk1; subst hk0)
    go_ret3
    exact ⟨_, rfl, sl_nil _ _, Below.refl _ _⟩
  · obtain ⟨q, r, hqr⟩ : ∃ q r, t = q :: r := by
      cases t with
      | nil => exact absurd rfl h0
      | cons q r => exact ⟨q, r, rfl⟩
    have hj := joined_of (HTE.out.symm.trans hqr)
    rw [← hqr] at hj
    have hq0 : t.getD 0 noP = q := by rw [hqr]; rfl
    have htl : 0 < t.length := by rw [hqr]; simp
    have hqm : q ∈ t := by rw [hqr]; simp
    have hqi := HIN.out q hqm
    have HJ := Lib.hid hj; clear hj
    have HQ0 := Lib.hid hq0; clear hq0
    clear hqr hqm h0
    obtain ⟨ok, hok⟩ : ∃ ok, ok = (joined ps).isSome := ⟨_, rfl⟩
    obtain ⟨jl, hjl⟩ : ∃ jl, jl = (jb ps).1 := ⟨_, rfl⟩
    obtain ⟨jn, hjn⟩ : ∃ jn, jn = (jb ps).2 := ⟨_, rfl⟩
    rw [← hok, ← hjl, ← hjn]
    have HOK := Lib.hid hok; clear hok
    have HJL := Lib.hid hjl; clear hjl
    have HJN := Lib.hid hjn; clear hjn
    go_enter Try.func20, Try.ntmps20
    go_wp2_with (go_at_call 33; refine (HT.out).mono ?_; rintro e w' ⟨⟨A1, k1, c1, rfl, hk1, hp1⟩, rfl⟩; have hk0 : ((k1 : Int) == 0) = false := (by rw [beq_eq_false_iff_ne]; omega); have HK1 := Lib.hid hk1; have hk16 : k1 ≤ 16 := (by omega); have hk1p : 0 < k1 := (by omega); clear hk1; have HP1 := Lib.hid hp1; clear hp1)
    go_loopw [5, 17] (fun v i wr => ∃ k : Nat, k ≤ k1 ∧ i = .int .i64 k ∧ wr.ownsRow w.heap.size 5 1 v (cat (t.take k)).length (vals (cat (t.take k))) ∧ Below w.heap.size w wr) (fun _ i _ => k1 - (intOf i).toNat)
    case atStart => exact ⟨0, Nat.zero_le _, rfl, World.ownsRow_nil _ _ _ _, Below.refl _ _⟩
    case round =>
      obtain ⟨k, hk, rfl, hown, hbw⟩ := hrel
      have HO := Lib.hid hown; clear hown
      have HB := Lib.hid hbw; clear hbw
      obtain ⟨b, off, rfl, hb, hc⟩ := pgs_at HP1.out hk1p
      have HC := Lib.hid hc; clear hc
      by_cases hlt : k < k1
      · obtain ⟨v1, hr1, hs1⟩ := HC.out k hlt
        have hst := cat_step t k (by have := HK1.out; omega)
        have hq6 := HLN.out _ (getD_mem (by have := HK1.out; omega : k < t.length))
        have hcl : (cat (t.take k)).length ≤ 16 * 600 := by
          have h1 := cat_len (t := t.take k) (m := 600) (fun q hq => HLN.out q (List.mem_of_mem_take hq))
          have h2 : (t.take k).length ≤ 16 := by rw [List.length_take]; omega
          have h3 := Nat.mul_le_mul_right 600 h2
          omega
        obtain ⟨q1, hq1⟩ : ∃ q, q = t.getD k noP := ⟨_, rfl⟩
        rw [← hq1] at hr1 hs1 hst hq6
        clear hq1
        obtain ⟨A2, n2, c2, rfl, hbt2⟩ := hs1
        have hl2 := hbt2.1
        rw [hl2] at hq6
        have HL2 := Lib.hid hl2; clear hl2
        have HR1 := Lib.hid hr1; clear hr1
        have HS1 := Lib.hid hbt2; clear hbt2
        have HST := Lib.hid hst; clear hst
        obtain ⟨L, hL⟩ : ∃ L, L = (cat (t.take k)).length := ⟨_, rfl⟩
        rw [← hL] at hcl HO
        have HLL := Lib.hid hL; clear hL
        go_wp2_with (first
          | (refine wpList_load_mid rfl 43 (.tmp 19) rfl b (off + k * 7) rfl [.int .i64 q1.kind, .int .i64 q1.gen, .int .i64 q1.mark, .int .i64 q1.index, .int .i64 q1.part, .int .i64 q1.parts, .slice A2 n2 c2] _ (rangeAt_below HR1.out ?hb1 hb) Try.underlying43 rfl (by rw [size24]; rfl) ?_; (case hb1 => with_reducible repeat (first | exact HB.out | refine below_drewN ?_ _ | refine pdrew ?_ | refine palloc ?_ _)))
          | (at_builtin; refine wpList_append_any _ rfl (.tmp 21) (.tmp 23) 25 rfl w.heap.size 5 i5 (.int .u8 0) 1 1 Try.underlying25 HI.out HY0.out HY1.out HY2.out rfl (by decide) _ L (vals (cat (t.take k))) rfl (HO.out.alloc (Obj.cells #[.int .i64 q1.kind, .int .i64 q1.gen, .int .i64 q1.mark, .int .i64 q1.index, .int .i64 q1.part, .int .i64 q1.parts, .slice A2 n2 c2] 43)) w.heap.size A2 n2 c2 (vals q1.b) rfl (Bts.reads (Bts.below HS1.out (palloc HB.out (Obj.cells #[.int .i64 q1.kind, .int .i64 q1.gen, .int .i64 q1.mark, .int .i64 q1.index, .int .i64 q1.part, .int .i64 q1.parts, .slice A2 n2 c2] 43)) (Nat.le_refl _))) (vals_one _) (by unfold maxLen; omega) (by omega) (palloc HB.out (Obj.cells #[.int .i64 q1.kind, .int .i64 q1.gen, .int .i64 q1.mark, .int .i64 q1.index, .int .i64 q1.part, .int .i64 q1.parts, .slice A2 n2 c2] 43)).size ?_; intro v5 w5 hown5 hg5 _; rw [← vals_append, ← HST.out] at hown5; have HO5 := Lib.hid hown5; have HB5 := Lib.hid ((palloc HB.out (Obj.cells #[.int .i64 q1.kind, .int .i64 q1.gen, .int .i64 q1.mark, .int .i64 q1.index, .int .i64 q1.part, .int .i64 q1.parts, .slice A2 n2 c2] 43)).grown hg5 (palloc HB.out (Obj.cells #[.int .i64 q1.kind, .int .i64 q1.gen, .int .i64 q1.mark, .int .i64 q1.index, .int .i64 q1.part, .int .i64 q1.parts, .slice A2 n2 c2] 43)).size (fun q hq => ((HO.out.alloc (Obj.cells #[.int .i64 q1.kind, .int .i64 q1.gen, .int .i64 q1.mark, .int .i64 q1.index, .int .i64 q1.part, .int .i64 q1.parts, .slice A2 n2 c2] 43)).lt q hq).1)); clear hown5 hg5))
        go_roundw
        case rel => exact ⟨k + 1, by omega, by go_num, by rw [show (cat (t.take (k + 1))).length = L + n2 by rw [HST.out, List.length_append, HLL.out, HL2.out]]; exact HO5.out, HB5.out⟩
        case measure => simp [intOf]; omega
      · obtain rfl : k = k1 := by omega
        have htk : t.take k = t := List.take_of_length_le (by have := HK1.out; omega)
        rw [htk] at HO
        have hcl : (cat t).length ≤ 9600 := by
          have h1 := cat_len (t := t) (m := 600) HLN.out
          have h2 := Nat.mul_le_mul_right 600 hlt16
          omega
        have hx := cat_lt (pgs_lt HP1.out)
        obtain ⟨bs, hbs⟩ : ∃ bs, bs = cat t := ⟨_, rfl⟩
        rw [← hbs] at HO hcl hx HJ
        obtain ⟨L, hL⟩ : ∃ L, L = bs.length := ⟨_, rfl⟩
        rw [← hL] at HO hcl
        obtain ⟨v1, hr1, hs1⟩ := HC.out 0 hk1p
        rw [HQ0.out] at hr1 hs1
        obtain ⟨A2, n2, c2, rfl, _⟩ := hs1
        have HR1 := Lib.hid hr1; clear hr1
        obtain ⟨A5, c5, rfl⟩ := own_form HO.out
        have hsl := sl_own HO.out hx (by omega)
        have hsp := split_any q (.slice A2 n2 c2) A5 L c5 bs wr hsl hL.symm hqi
        have HSL := Lib.hid hsl; clear hsl
        have HLL := Lib.hid hL; clear hL
        have HBS := Lib.hid hbs; clear hbs
        clear hx
        cases hf : fits q bs
        · rw [hf, if_neg (by simp : ¬ false = true), if_neg (by simp : ¬ false = true)] at hsp
          obtain ⟨er, her⟩ : ∃ er : Int, er = if 7808 < L then 5 else 1 := ⟨_, rfl⟩
          rw [← her] at hsp
          have hne : (er != 0) = true := by rw [bne_iff_ne]; split at her <;> omega
          have e1 : joined ps = none := by rw [HJ.out, hf, if_neg (by simp)]
          have e2 : jb ps = ([], 0) := by unfold jb; rw [e1]; rfl
          have o1 : ok = false := by rw [HOK.out, e1]; rfl
          have o2 : jl = [] := by rw [HJL.out, e2]
          have o3 : jn = 0 := by rw [HJN.out, e2]
          have O1 := Lib.hid o1; clear o1
          have O2 := Lib.hid o2; clear o2
          have O3 := Lib.hid o3; clear o3
          have SP := Lib.hid hsp; clear hsp her e1 e2
          go_wp2_with (first
            | (refine wpList_load_mid rfl 43 (.tmp 28) rfl b (off + 0 * 7) ?hx [.int .i64 q.kind, .int .i64 q.gen, .int .i64 q.mark, .int .i64 q.index, .int .i64 q.part, .int .i64 q.parts, .slice A2 n2 c2] _ (rangeAt_below HR1.out ?hb1 hb) Try.underlying43 rfl (by rw [size24]; rfl) ?_; (case hx => first | rfl | simp [Act.eval]); (case hb1 => with_reducible repeat (first | exact HB.out | refine below_drewN ?_ _ | refine pdrew ?_ | refine palloc ?_ _)))
            | (go_at_call 25; refine (SP.out).mono ?_; rintro e w3 ⟨v3, rfl, hp3, hb3⟩; obtain ⟨A3, n3, c3, rfl, _⟩ := id hp3; have HB3 := Lib.hid (below_up (w := w) hb3 HB.out); clear hb3 hp3))
          go_ret3
          rw [O1.out, O2.out, O3.out]
          exact ⟨_, rfl, sl_nil _ _, HB3.out⟩
        · have hl78 : L ≤ 7808 := by rw [HLL.out]; exact fits_len hf
          rw [hf, if_pos rfl, if_pos rfl, if_neg (by omega)] at hsp
          have SP := Lib.hid hsp; clear hsp
          cases hd : decide (pages q bs = t)
          · have e1 : joined ps = none := by rw [HJ.out, if_neg (fun h => absurd (decide_eq_true h.2) (by rw [hd]; simp))]
            have e2 : jb ps = ([], 0) := by unfold jb; rw [e1]; rfl
            have o1 : ok = false := by rw [HOK.out, e1]; rfl
            have o2 : jl = [] := by rw [HJL.out, e2]
            have o3 : jn = 0 := by rw [HJN.out, e2]
            have O1 := Lib.hid o1; clear o1
            have O2 := Lib.hid o2; clear o2
            have O3 := Lib.hid o3; clear o3
            clear e1 e2
            go_wp2_with (first
              | (refine wpList_load_mid rfl 43 (.tmp 28) rfl b (off + 0 * 7) ?hx [.int .i64 q.kind, .int .i64 q.gen, .int .i64 q.mark, .int .i64 q.index, .int .i64 q.part, .int .i64 q.parts, .slice A2 n2 c2] _ (rangeAt_below HR1.out ?hb1 hb) Try.underlying43 rfl (by rw [size24]; rfl) ?_; (case hx => first | rfl | simp [Act.eval]); (case hb1 => with_reducible repeat (first | exact HB.out | refine below_drewN ?_ _ | refine pdrew ?_ | refine palloc ?_ _)))
              | (go_at_call 25; refine (SP.out).mono ?_; rintro e w3 ⟨v3, rfl, hp3, hb3⟩; obtain ⟨A3, n3, c3, rfl, _⟩ := id hp3; have hn3 := (pgs_len hp3).1; have HN3 := Lib.hid hn3; clear hn3; have HB3 := Lib.hid (below_up (w := w) hb3 HB.out); have HP3 := Lib.hid hp3; clear hb3 hp3)
              | (go_at_call 34; refine (eqf_any A3 (some ⟨b, off, none⟩) n3 k c3 c1 (pages q bs) t _ HP3.out ((HP1.out.below HB3.out (Nat.le_refl _)).more HB3.out.size) ?hn9).mono ?_; (case hn9 => (have h9 := HN3.out; rw [pages_length] at h9; have := parts_le bs.length; omega)); rintro e w4 ⟨rfl, hb4⟩; rw [hd]; have HB4 := Lib.hid (below_up (w := w) hb4 HB3.out); clear hb4))
            go_ret3
            rw [O1.out, O2.out, O3.out]
            exact ⟨_, rfl, sl_nil _ _, HB4.out⟩
          · have hpt : pages q bs = t := of_decide_eq_true hd
            have e1 : joined ps = some (bs, t.length) := by rw [HJ.out, if_pos ⟨hf, hpt⟩]
            have e2 : jb ps = (bs, t.length) := by unfold jb; rw [e1]; rfl
            have o1 : ok = true := by rw [HOK.out, e1]; rfl
            have o2 : jl = bs := by rw [HJL.out, e2]
            have o3 : jn = t.length := by rw [HJN.out, e2]
            have O1 := Lib.hid o1; clear o1
            have O2 := Lib.hid o2; clear o2
            have O3 := Lib.hid o3; clear o3
            have HPT := Lib.hid hpt; clear hpt e1 e2
            go_wp2_with (first
              | (refine wpList_load_mid rfl 43 (.tmp 28) rfl b (off + 0 * 7) ?hx [.int .i64 q.kind, .int .i64 q.gen, .int .i64 q.mark, .int .i64 q.index, .int .i64 q.part, .int .i64 q.parts, .slice A2 n2 c2] _ (rangeAt_below HR1.out ?hb1 hb) Try.underlying43 rfl (by rw [size24]; rfl) ?_; (case hx => first | rfl | simp [Act.eval]); (case hb1 => with_reducible repeat (first | exact HB.out | refine below_drewN ?_ _ | refine pdrew ?_ | refine palloc ?_ _)))
              | (go_at_call 25; refine (SP.out).mono ?_; rintro e w3 ⟨v3, rfl, hp3, hb3⟩; obtain ⟨A3, n3, c3, rfl, _⟩ := id hp3; have hn3 := (pgs_len hp3).1; have HN3 := Lib.hid hn3; clear hn3; have HSL3 := Lib.hid ((HSL.out.below hb3 (Nat.le_refl _)).more hb3.size); have HB3 := Lib.hid (below_up (w := w) hb3 HB.out); have HP3 := Lib.hid hp3; clear hb3 hp3)
              | (go_at_call 34; refine (eqf_any A3 (some ⟨b, off, none⟩) n3 k c3 c1 (pages q bs) t _ HP3.out ((HP1.out.below HB3.out (Nat.le_refl _)).more HB3.out.size) ?hn9).mono ?_; (case hn9 => (have h9 := HN3.out; rw [pages_length] at h9; have := parts_le bs.length; omega)); rintro e w4 ⟨rfl, hb4⟩; rw [hd]; have HB4 := Lib.hid (below_up (w := w) hb4 HB3.out); have HSL4 := Lib.hid ((HSL3.out.below hb4 (Nat.le_refl _)).more hb4.size); clear hb4))
            go_ret3
            rw [O1.out, O2.out, O3.out, HK1.out]
            exact ⟨_, rfl, HSL4.out, HB4.out⟩
end Go.Proofs.Ytkidjlmjjfgknaa.Rcd
