/- The reference's pages of a record (layer 5): the contracts of its May and Split. -/
import Derived.Test.YtkidjlmjjfgknaaOwnPgs
import Derived.Deep.RegionHeld3
namespace Go.Proofs.Ytkidjlmjjfgknaa.Rcd
open Go.RowKit Go.Proofs.Ytkidjlmjjfgknaa.Mem Go.Proofs.Ytkidjlmjjfgknaa.Oct Go.Proofs.Ytkidjlmjjfgknaa.Pg
set_option linter.unusedVariables false
set_option linter.unusedSimpArgs false
theorem all_first {ps : List P} (h : ps.all P.may = false) : ∃ d, d < ps.length ∧ (ps.getD d noP).may = false ∧ ∀ j, j < d → (ps.getD j noP).may = true := by
  induction ps with
  | nil => simp at h
  | cons p ps ih =>
    cases hp : p.may
    · exact ⟨0, by simp, hp, fun j hj => absurd hj (by omega)⟩
    · rw [List.all_cons, hp, Bool.true_and] at h
      obtain ⟨d, h1, h2, h3⟩ := ih h
      refine ⟨d + 1, by simpa using h1, h2, fun j hj => ?_⟩
      rcases j with _ | j
      · exact hp
      · exact h3 j (by omega)
set_option maxRecDepth 20000 in
set_option maxHeartbeats 4000000 in
theorem rmays_any (A : Option Addr) (n c : Nat) (ps : List P) (w : World) (h : Pgs w w.heap.size (.slice A n c) ps) (hn : n ≤ 1000) :
    Calls Try.prog 29 #[.slice A n c] w fun e w' => e = .returned (.bool (ps.all P.may)) ∧ Below w.heap.size w w' := by
  obtain ⟨hl, hnc, hcm⟩ := pgs_len h
  obtain ⟨dd, hdd⟩ : ∃ dd, dd = ps.all P.may := ⟨_, rfl⟩
  rw [← hdd]
  have HDD := Lib.hid hdd; clear hdd
  have HL := Lib.hid hl; clear hl
  have HP := Lib.hid h; clear h
  go_enter Try.func29, Try.ntmps29
  go_wp2
  go_loopw [3] (fun i wr => ∃ k : Nat, k ≤ n ∧ i = .int .i64 k ∧ Below w.heap.size w wr ∧ ∀ j, j < k → (ps.getD j noP).may = true) (fun i _ => n - (intOf i).toNat)
  case atStart => exact ⟨0, Nat.zero_le _, rfl, Below.refl _ _, fun j hj => absurd hj (by omega)⟩
  case round =>
    obtain ⟨k, hk, rfl, hbw, hmy⟩ := hrel
    have HB := Lib.hid hbw; clear hbw
    have HMY := Lib.hid hmy; clear hmy
    by_cases hlt : k < n
    · obtain ⟨b, off, rfl, hb, hc⟩ := pgs_at HP.out (by omega)
      obtain ⟨v1, hr1, hs1⟩ := hc k hlt
      obtain ⟨q1, hq1⟩ : ∃ q, q = ps.getD k noP := ⟨_, rfl⟩
      rw [← hq1] at hr1 hs1
      have HQ1 := Lib.hid hq1; clear hq1
      have HR1 := Lib.hid hr1; clear hr1
      obtain ⟨A1, n1, c1, rfl, hbt1⟩ := hs1
      have HS1 := Lib.hid hbt1; clear hbt1
      clear hc
      cases hmay : q1.may
      · have hdf : dd = false := by
          rw [HDD.out]
          cases h : ps.all P.may
          · rfl
          · have h9 := List.all_eq_true.1 h q1 (by rw [HQ1.out]; simp only [List.getD, List.getElem?_eq_getElem (by have := HL.out; omega : k < ps.length), Option.getD_some]; exact List.getElem_mem _)
            rw [hmay] at h9
            cases h9
        have HDF := Lib.hid hdf; clear hdf
        go_wp2_with (first
          | (refine wpList_load_mid rfl 43 (.tmp 12) rfl b (off + k * 7) rfl [.int .i64 q1.kind, .int .i64 q1.gen, .int .i64 q1.mark, .int .i64 q1.index, .int .i64 q1.part, .int .i64 q1.parts, .slice A1 n1 c1] _ (rangeAt_below HR1.out ?hb1 hb) Try.underlying43 rfl (by rw [size24]; rfl) ?_; (case hb1 => with_reducible repeat (first | exact HB.out | refine below_drewN ?_ _ | refine pdrew ?_ | refine palloc ?_ _)))
          | (go_at_call 32; refine (may_any q1 (.slice A1 n1 c1) _ ?s1).mono ?_; (case s1 => exact sb_up HS1.out (by with_reducible repeat (first | exact HB.out | refine below_drewN ?_ _ | refine pdrew ?_ | refine palloc ?_ _))); rintro e w4 ⟨rfl, hb4⟩; rw [hmay]; have HB4 := Lib.hid (below_up (w := w) hb4 (by with_reducible repeat (first | exact HB.out | refine below_drewN ?_ _ | refine pdrew ?_ | refine palloc ?_ _))); clear hb4))
        go_ret
        exact ⟨ret_bool HDF.out.symm, HB4.out⟩
      · go_wp2_with (first
          | (refine wpList_load_mid rfl 43 (.tmp 12) rfl b (off + k * 7) rfl [.int .i64 q1.kind, .int .i64 q1.gen, .int .i64 q1.mark, .int .i64 q1.index, .int .i64 q1.part, .int .i64 q1.parts, .slice A1 n1 c1] _ (rangeAt_below HR1.out ?hb1 hb) Try.underlying43 rfl (by rw [size24]; rfl) ?_; (case hb1 => with_reducible repeat (first | exact HB.out | refine below_drewN ?_ _ | refine pdrew ?_ | refine palloc ?_ _)))
          | (go_at_call 32; refine (may_any q1 (.slice A1 n1 c1) _ ?s1).mono ?_; (case s1 => exact sb_up HS1.out (by with_reducible repeat (first | exact HB.out | refine below_drewN ?_ _ | refine pdrew ?_ | refine palloc ?_ _))); rintro e w4 ⟨rfl, hb4⟩; rw [hmay]; have HB4 := Lib.hid (below_up (w := w) hb4 (by with_reducible repeat (first | exact HB.out | refine below_drewN ?_ _ | refine pdrew ?_ | refine palloc ?_ _))); clear hb4))
        go_roundw
        case rel =>
          refine ⟨k + 1, by omega, by go_num, HB4.out, fun j hj => ?_⟩
          by_cases e : j = k
          · subst e
            rw [← HQ1.out]
            exact hmay
          · exact HMY.out j (by omega)
        case measure => simp [intOf]; omega
    · obtain rfl : k = n := by omega
      have hdt : dd = true := by
        rw [HDD.out]
        cases h : ps.all P.may
        · obtain ⟨d, h1, h2, _⟩ := all_first h
          rw [HMY.out d (by have := HL.out; omega)] at h2
          cases h2
        · rfl
      have HDT := Lib.hid hdt; clear hdt
      go_wp2
      go_ret
      exact ⟨ret_bool HDT.out.symm, HB.out⟩
theorem plit (W : World) (base g : Nat) (h : g = W.heap.size) (hB : base ≤ W.heap.size) : (W.alloc (.cells #[] 5)).ownsRow base 5 1 (.slice (some ⟨g, 0, none⟩) 0 0) 0 [] := by
  subst h
  exact World.ownsRow_lit W #[] 0 hB (by unfold maxLen; omega) rfl
section
variable {w : World} {base n size : Nat} {e : TypeId} {v : Value} {xs : List Value}
theorem pown_al (h : w.ownsRow base e size v n xs) (o : Obj) : (w.alloc o).ownsRow base e size v n xs := h.alloc o
theorem pown_dr (h : w.ownsRow base e size v n xs) : w.drew.ownsRow base e size v n xs := h.drew
theorem pown_drN (h : w.ownsRow base e size v n xs) (m : Nat) : (w.drewN m).ownsRow base e size v n xs := h
end
theorem pbelow_of {w W w5 : World} {row : Option Nat} (hg : W.grownBy w5 row) (h : Below w.heap.size w W) : Below w.heap.size w W := h
theorem row_one (p : P) (A : Option Addr) (n c : Nat) : ∀ u ∈ row p (.slice A n c), u.oneCell' = true := by
  intro u hu
  simp only [row, List.mem_cons, List.not_mem_nil, or_false] at hu
  rcases hu with rfl | rfl | rfl | rfl | rfl | rfl | rfl <;> rfl
theorem sba_new {w5 : World} {g : Option Nat} {B : Nat} {A6 : Option Addr} {n c6 : Nat} {xs : List Nat} (hown : w5.ownsRow B 5 1 (.slice A6 n c6) n (vals xs)) (hx : ∀ x ∈ xs, x < 256) (hn : n ≤ 1000000) (hg : ∀ k, g = some k → k < B) : SbA w5 g (.slice A6 n c6) xs := by
  refine ⟨A6, n, c6, rfl, sl_bts (sl_own hown hx hn), fun h0 ad had e => ?_⟩
  have h1 := (hown.lt ad.block (by rw [had]; rfl)).1
  have h2 := hg _ e.symm
  omega
theorem own_ul {w : World} {base j : Nat} {v : Value} {ps : List P} (h : OwnPgs w base v ps) (hj : v.ownBlock = some j) : j < w.heap.size := by
  obtain ⟨vs, _, h2, _⟩ := h
  exact (h2.lt j hj).2
theorem own_us {w : World} {base j : Nat} {v : Value} {ps : List P} (h : OwnPgs w base v ps) (hj : v.ownBlock = some j) : base ≤ j := by
  obtain ⟨vs, _, h2, _⟩ := h
  exact (h2.lt j hj).1
theorem own_mono {w : World} {base base' : Nat} {v : Value} {ps : List P} (h : OwnPgs w base v ps) (hb : base' ≤ base) : OwnPgs w base' v ps := by
  obtain ⟨vs, h1, h2, h3⟩ := h
  refine ⟨vs, h1, ⟨h2.1, ?_⟩, h3⟩
  rcases h2.2 with e | ⟨g, cap, cur, e, e1, e2⟩
  · exact .inl e
  · exact .inr ⟨g, cap, cur, e, by omega, e2⟩
theorem push_page {w5 W w7 : World} {base : Nat} {u v7 vq : Value} {ps : List P} {vs : List Value} {q : P} (hvl : vs.length = ps.length) (hvs : ∀ i, i < ps.length → SbA w5 u.ownBlock (vs.getD i undef) (ps.getD i noP).b) (hq : SbA w5 u.ownBlock vq q.b) (hW : Below w5.heap.size w5 W)
    (hown7 : w7.ownsRow base 43 7 v7 (ps.length + 1) (flat ps vs ++ row q vq)) (hg7 : W.grownBy w7 u.ownBlock) (hv7 : v7.ownBlock = u.ownBlock ∨ v7.ownBlock = some W.heap.size) : OwnPgs w7 base v7 (ps ++ [q]) :=
  own_app (qs := [q]) (us := [vq]) hvl rfl (fun i hi => (hvs i hi).below hW) (fun i hi => by
    have : i = 0 := by simpa using hi
    subst this
    exact hq.below hW) (by rw [flat_one]; exact hown7) hg7 hv7
set_option maxRecDepth 20000 in
set_option maxHeartbeats 8000000 in
theorem rsplit_any (p : P) (v : Value) (A : Option Addr) (n c : Nat) (bs : List Nat) (w : World) (h : Sl w w.heap.size (.slice A n c) bs) (hb : bs.length = n) (hx0 : 0 ≤ p.index) (hx1 : p.index ≤ 2147483648) :
    Calls Try.prog 28 #[pgV p v, .slice A n c] w fun e w' => ∃ v', e = .returned v' ∧ OwnPgs w' w.heap.size v' (pages p bs) ∧ Below w.heap.size w w' := by
  obtain ⟨hbt, hnc, hcm, hnil⟩ : Bts w w.heap.size A n bs ∧ n ≤ c ∧ c ≤ maxLen ∧ (A = none → c = 0) := by
    obtain ⟨A', n', c', e, h1, h2, h3, h4⟩ := h
    injection e with e1 e2 e3
    subst e1 e2 e3
    exact ⟨h1, h2, h3, h4⟩
  have hp := fun (W : World) => rparts_any (n : Int) W
  rw [partsI_nat] at hp
  have hm16 := parts_le n
  have hmn : ∀ i, i < parts n → i * 488 ≤ n ∧ n ≤ 7808 := fun i hi => ⟨parts_small hi, parts_ge (by omega)⟩
  have HMN := Lib.hid hmn; clear hmn
  have HP := Lib.hid hp; clear hp
  have HBL := Lib.hid hb; clear hb
  obtain ⟨m, hm⟩ : ∃ m, m = parts n := ⟨_, rfl⟩
  rw [← hm] at hm16 HP HMN
  have HM := Lib.hid hm; clear hm
  have hpg : pages p bs = (List.range m).map (nth p bs m) := by unfold pages; rw [HBL.out, HM.out]
  rw [hpg]
  clear hpg
  obtain ⟨i0, hi, hz0, hz1, hz2⟩ := info_parts info24
  have HI := Lib.hid hi; clear hi
  have HZ0 := Lib.hid hz0; clear hz0
  have HZ1 := Lib.hid hz1; clear hz1
  have HZ2 := Lib.hid hz2; clear hz2
  obtain ⟨i5, hi5, hy0, hy1, hy2⟩ := info_parts Try.info5
  have HJ := Lib.hid hi5; clear hi5
  have HY0 := Lib.hid hy0; clear hy0
  have HY1 := Lib.hid hy1; clear hy1
  have HY2 := Lib.hid hy2; clear hy2
  obtain ⟨kind, gen, mark, index, part, parts_, b⟩ := p
  simp only at hx0 hx1
  have kb := (Blk.new w 43 #[.int .i64 kind, .int .i64 gen, .int .i64 mark, .int .i64 index, .int .i64 part, .int .i64 parts_, v]).alloc (Obj.cells #[] 43)
  have hb0 := palloc (palloc (Below.refl w.heap.size w) (Obj.cells #[.int .i64 kind, .int .i64 gen, .int .i64 mark, .int .i64 index, .int .i64 part, .int .i64 parts_, v] 43)) (Obj.cells #[] 43)
  have KB := Lib.hid kb; clear kb
  have HB0 := Lib.hid hb0; clear hb0
  have HBT := Lib.hid hbt; clear hbt
  unfold pgV
  simp only
  go_enter Try.func28, Try.ntmps28
  go_wp2_with (go_at_call 27; refine (HP.out _).mono ?_; rintro e w' ⟨rfl, rfl⟩)
  generalize hw0 : (w.alloc (Obj.cells #[.int .i64 kind, .int .i64 gen, .int .i64 mark, .int .i64 index, .int .i64 part, .int .i64 parts_, v] 43)).alloc (Obj.cells #[] 43) = w0 at KB HB0 ⊢
  have hop0 : OwnPgs w0 (w.heap.size + 1) (.slice (some ⟨w.heap.size + 1, 0, none⟩) 0 0) [] := by
    refine ⟨[], rfl, ?_, fun i hi => absurd hi (by simp)⟩
    have h := World.ownsRow_lit (size := 7) (e := 43) (w.alloc (Obj.cells #[.int .i64 kind, .int .i64 gen, .int .i64 mark, .int .i64 index, .int .i64 part, .int .i64 parts_, v] 43)) #[] 0 (base := w.heap.size + 1) (by simp) (by unfold maxLen; omega) rfl
    rw [hw0, show (w.alloc (Obj.cells #[.int .i64 kind, .int .i64 gen, .int .i64 mark, .int .i64 index, .int .i64 part, .int .i64 parts_, v] 43)).heap.size = w.heap.size + 1 by simp] at h
    exact h
  have HOP0 := Lib.hid hop0; clear hop0 hw0
  go_loopw [5, 7] (fun vo i wr => ∃ k : Nat, k ≤ m ∧ i = .int .i64 k ∧ OwnPgs wr (w.heap.size + 1) vo ((List.range k).map (nth ⟨kind, gen, mark, index, part, parts_, b⟩ bs m)) ∧ Below w.heap.size w wr ∧ Blk wr w.heap.size 43 #[.int .i64 kind, .int .i64 gen, .int .i64 mark, .int .i64 index, .int .i64 part, .int .i64 parts_, v]) (fun _ i _ => m - (intOf i).toNat)
  case atStart => exact ⟨0, Nat.zero_le _, rfl, HOP0.out, HB0.out, KB.out⟩
  case round =>
    obtain ⟨k, hk, rfl, hop, hbw, hkb⟩ := hrel
    have HB := Lib.hid hbw; clear hbw
    have KB := Lib.hid hkb; clear hkb
    have HOP := Lib.hid hop; clear hop
    by_cases hlt : k < m
    · obtain ⟨hk4, hn78⟩ := HMN.out k hlt
      obtain ⟨kk, hkk⟩ : ∃ kk, kk = if (k + 1) * 488 > n then n else (k + 1) * 488 := ⟨_, rfl⟩
      have hkk1 : k * 488 ≤ kk := by split at hkk <;> omega
      have hkk2 : kk ≤ n := by split at hkk <;> omega
      have hcutx : (bs.drop (k * 488)).take (kk - k * 488) = (nth ⟨kind, gen, mark, index, part, parts_, b⟩ bs m k).b := by
        show _ = (bs.drop (k * 488)).take 488
        by_cases hc : (k + 1) * 488 > n
        · rw [if_pos hc] at hkk
          rw [List.take_of_length_le (by rw [List.length_drop, HBL.out]; omega), List.take_of_length_le (by rw [List.length_drop, HBL.out]; omega)]
        · rw [if_neg hc] at hkk
          rw [show kk - k * 488 = 488 by omega]
      obtain ⟨A5, hc5, hb5, _⟩ := cut_lhn HBT.out (k * 488) kk hkk1 hkk2 hnc
      rw [hcutx] at hb5
      have e488 : ((k * 488 : Nat) : Int) = (k : Int) * 488 := by omega
      rw [e488] at hc5
      clear hcutx e488
      have hwr : IntKind.i64.wrap (index + (k : Int)) = index + k := by rw [IntKind.wrap_i64]; omega
      have hwm : IntKind.i64.wrap ((k : Int) * 488) = k * 488 := by rw [IntKind.wrap_i64]; omega
      have HB5 := Lib.hid hb5; clear hb5
      have hk16 : k ≤ 16 := by omega
      have hkbl := KB.out.lt
      have HX := Lib.hid (fun x (hx : x ∈ ((nth ⟨kind, gen, mark, index, part, parts_, b⟩ bs m) k).b) => HBT.out.2.1 x (List.mem_of_mem_drop (List.mem_of_mem_take hx)))
      have HUL := Lib.hid (fun j (hj : u5.ownBlock = some j) => own_ul HOP.out hj)
      have HUS := Lib.hid (fun j (hj : u5.ownBlock = some j) => own_us HOP.out hj)
      have k0 := KB.out.cell 0
      have k1 := KB.out.cell 1
      have k2 := KB.out.cell 2
      have k3 := KB.out.cell 3
      simp at k0 k1 k2 k3
      by_cases hc : n < (k + 1) * 488
      · rw [if_pos hc] at hkk
        have hd : decide ((n : Int) < ((k : Int) + 1) * 488) = true := by simp only [decide_eq_true_eq]; omega
        have hv : Value.int .i64 ((n : Nat) : Int) = Value.int .i64 ((kk : Nat) : Int) := by rw [hkk]
        have HV := Lib.hid hv; clear hv
        clear hkk hc
        go_wp2
        rw [HV.out]
        go_region_held3 (fun W => W.cell? ⟨w.heap.size, 0, none⟩ = some (.int .i64 kind) ∧ W.cell? ⟨w.heap.size, 1, none⟩ = some (.int .i64 gen) ∧ W.cell? ⟨w.heap.size, 2, none⟩ = some (.int .i64 mark) ∧ W.cell? ⟨w.heap.size, 3, none⟩ = some (.int .i64 index))
          (first
            | with_reducible exact ⟨k0, k1, k2, k3⟩
            | with_reducible exact ⟨m0, m1, m2, m3⟩
            | with_reducible exact ⟨r0, r1, r2, r3⟩
            | go_keep)
          (first
            | (refine step_append_any _ rfl (.tmp 40) (.tmp 45) 25 rfl wr.heap.size 5 i5 (.int .u8 0) 1 1 Try.underlying25 HJ.out HY0.out HY1.out HY2.out rfl (by decide) (.slice (some ⟨_, 0, none⟩) 0 0) 0 [] rfl ?own w.heap.size A5 (kk - k * 488) (c - k * 488) (vals ((nth ⟨kind, gen, mark, index, part, parts_, b⟩ bs m) k).b) ?hx (Bts.reads (Bts.below HB5.out ?bw (Nat.le_refl _))) (vals_one _) ?h63 ?hby ?hbase ?_; (case own => with_reducible repeat (first | exact plit _ _ _ (by simp) (by simp) | refine pown_drN ?_ _ | refine pown_dr ?_ | refine pown_al ?_ _)); (case bw => with_reducible repeat (first | exact HB.out | refine below_drewN ?_ _ | refine pdrew ?_ | refine palloc ?_ _)); (case hx => rfl); (case h63 => unfold maxLen; omega); (case hby => omega); (case hbase => simp); intro v5 w5 hown5 hg5 _; rw [Nat.zero_add, List.nil_append] at hown5; obtain ⟨A6, c6, rfl⟩ := own_form hown5; have hbw := pbelow_of (w := wr) hg5 (by with_reducible repeat (first | exact Below.refl _ _ | refine below_drewN ?_ _ | refine pdrew ?_ | refine palloc ?_ _)); have HBR := Lib.hid (hbw.grown hg5 hbw.size (fun q hq => by simp [Value.ownBlock] at hq; omega)); have HB6 := Lib.hid (HB.out.trans (HBR.out.mono HB.out.size)); have KB6 := Lib.hid (KB.out.below HBR.out hkbl); have m0 := KB6.out.cell 0; have m1 := KB6.out.cell 1; have m2 := KB6.out.cell 2; have m3 := KB6.out.cell 3; simp at m0 m1 m2 m3; obtain ⟨vs, hvl, hownp, hvs⟩ := HOP.out.below HBR.out; have HSA := Lib.hid (sba_new (g := u5.ownBlock) hown5 HX.out (by omega) HUL.out); have HVL := Lib.hid hvl; have HOW := Lib.hid hownp; have HVS := Lib.hid hvs; clear hvl hownp hvs hown5 hg5 hbw)
            | (refine step_append_any _ rfl (.tmp 27) (.tmp 48) 47 rfl (w.heap.size + 1) 43 i0 zPg 7 72 Try.underlying47 HI.out HZ0.out HZ1.out HZ2.out rfl (by decide) u5 ((List.range k).map (nth ⟨kind, gen, mark, index, part, parts_, b⟩ bs m)).length (flat ((List.range k).map (nth ⟨kind, gen, mark, index, part, parts_, b⟩ bs m)) vs) rfl ?own (w5.heap.size + 1) (some ⟨w5.heap.size, 0, none⟩) 1 1 (row ((nth ⟨kind, gen, mark, index, part, parts_, b⟩ bs m) k) (.slice A6 (kk - k * 488) c6)) ?hx ?hr (row_one _ _ _ _) ?h63 ?hby ?hbase ?_; (case own => with_reducible repeat (first | exact HOW.out | refine pown_drN ?_ _ | refine pown_dr ?_ | refine pown_al ?_ _)); (case hx => rfl); (case hr => first | exact reads_page w5 _ _ rfl rfl | exact reads_page w5.drew _ _ rfl rfl); (case h63 => (simp only [List.length_map, List.length_range]; unfold maxLen; omega)); (case hby => (simp only [List.length_map, List.length_range]; omega)); (case hbase => have := HB6.out.size; have := HBR.out.size; simp; omega); intro v7 w7 hown7 hg7 hv7; have hbw := pbelow_of (w := w5) hg7 (by with_reducible repeat (first | exact Below.refl _ _ | refine below_drewN ?_ _ | refine pdrew ?_ | refine palloc ?_ _)); have HOP7 := Lib.hid (push_page HVL.out HVS.out HSA.out hbw hown7 hg7 hv7); have HB7 := Lib.hid ((HB6.out.trans (hbw.mono HB6.out.size)).grown hg7 (HB6.out.trans (hbw.mono HB6.out.size)).size (fun q hq => by have := (HOW.out.lt q hq).1; omega)); have KB7 := Lib.hid ((KB6.out.below hbw (Nat.lt_of_lt_of_le hkbl HBR.out.size)).grown hg7 (fun e => by have := HUS.out _ e.symm; omega)); have r0 := KB7.out.cell 0; have r1 := KB7.out.cell 1; have r2 := KB7.out.cell 2; have r3 := KB7.out.cell 3; simp at r0 r1 r2 r3; clear hown7 hg7 hv7 hbw))
        go_wp2
        rw [← HV.out]
        go_roundw
        case rel =>
          exact ⟨k + 1, by omega, by go_num, by rw [List.range_succ, List.map_append]; exact HOP7.out, HB7.out, KB7.out⟩
        case measure => simp [intOf]; omega
      · rw [if_neg (by omega)] at hkk
        have hd : decide ((n : Int) < ((k : Int) + 1) * 488) = false := by simp only [decide_eq_false_iff_not]; omega
        have hv : Value.int .i64 (((k : Nat) + 1 : Int) * 488) = Value.int .i64 ((kk : Nat) : Int) := by rw [hkk]; rfl
        have HV := Lib.hid hv; clear hv
        clear hkk hc
        go_wp2
        rw [HV.out]
        go_region_held3 (fun W => W.cell? ⟨w.heap.size, 0, none⟩ = some (.int .i64 kind) ∧ W.cell? ⟨w.heap.size, 1, none⟩ = some (.int .i64 gen) ∧ W.cell? ⟨w.heap.size, 2, none⟩ = some (.int .i64 mark) ∧ W.cell? ⟨w.heap.size, 3, none⟩ = some (.int .i64 index))
          (first
            | with_reducible exact ⟨k0, k1, k2, k3⟩
            | with_reducible exact ⟨m0, m1, m2, m3⟩
            | with_reducible exact ⟨r0, r1, r2, r3⟩
            | go_keep)
          (first
            | (refine step_append_any _ rfl (.tmp 40) (.tmp 45) 25 rfl wr.heap.size 5 i5 (.int .u8 0) 1 1 Try.underlying25 HJ.out HY0.out HY1.out HY2.out rfl (by decide) (.slice (some ⟨_, 0, none⟩) 0 0) 0 [] rfl ?own w.heap.size A5 (kk - k * 488) (c - k * 488) (vals ((nth ⟨kind, gen, mark, index, part, parts_, b⟩ bs m) k).b) ?hx (Bts.reads (Bts.below HB5.out ?bw (Nat.le_refl _))) (vals_one _) ?h63 ?hby ?hbase ?_; (case own => with_reducible repeat (first | exact plit _ _ _ (by simp) (by simp) | refine pown_drN ?_ _ | refine pown_dr ?_ | refine pown_al ?_ _)); (case bw => with_reducible repeat (first | exact HB.out | refine below_drewN ?_ _ | refine pdrew ?_ | refine palloc ?_ _)); (case hx => rfl); (case h63 => unfold maxLen; omega); (case hby => omega); (case hbase => simp); intro v5 w5 hown5 hg5 _; rw [Nat.zero_add, List.nil_append] at hown5; obtain ⟨A6, c6, rfl⟩ := own_form hown5; have hbw := pbelow_of (w := wr) hg5 (by with_reducible repeat (first | exact Below.refl _ _ | refine below_drewN ?_ _ | refine pdrew ?_ | refine palloc ?_ _)); have HBR := Lib.hid (hbw.grown hg5 hbw.size (fun q hq => by simp [Value.ownBlock] at hq; omega)); have HB6 := Lib.hid (HB.out.trans (HBR.out.mono HB.out.size)); have KB6 := Lib.hid (KB.out.below HBR.out hkbl); have m0 := KB6.out.cell 0; have m1 := KB6.out.cell 1; have m2 := KB6.out.cell 2; have m3 := KB6.out.cell 3; simp at m0 m1 m2 m3; obtain ⟨vs, hvl, hownp, hvs⟩ := HOP.out.below HBR.out; have HSA := Lib.hid (sba_new (g := u5.ownBlock) hown5 HX.out (by omega) HUL.out); have HVL := Lib.hid hvl; have HOW := Lib.hid hownp; have HVS := Lib.hid hvs; clear hvl hownp hvs hown5 hg5 hbw)
            | (refine step_append_any _ rfl (.tmp 27) (.tmp 48) 47 rfl (w.heap.size + 1) 43 i0 zPg 7 72 Try.underlying47 HI.out HZ0.out HZ1.out HZ2.out rfl (by decide) u5 ((List.range k).map (nth ⟨kind, gen, mark, index, part, parts_, b⟩ bs m)).length (flat ((List.range k).map (nth ⟨kind, gen, mark, index, part, parts_, b⟩ bs m)) vs) rfl ?own (w5.heap.size + 1) (some ⟨w5.heap.size, 0, none⟩) 1 1 (row ((nth ⟨kind, gen, mark, index, part, parts_, b⟩ bs m) k) (.slice A6 (kk - k * 488) c6)) ?hx ?hr (row_one _ _ _ _) ?h63 ?hby ?hbase ?_; (case own => with_reducible repeat (first | exact HOW.out | refine pown_drN ?_ _ | refine pown_dr ?_ | refine pown_al ?_ _)); (case hx => rfl); (case hr => first | exact reads_page w5 _ _ rfl rfl | exact reads_page w5.drew _ _ rfl rfl); (case h63 => (simp only [List.length_map, List.length_range]; unfold maxLen; omega)); (case hby => (simp only [List.length_map, List.length_range]; omega)); (case hbase => have := HB6.out.size; have := HBR.out.size; simp; omega); intro v7 w7 hown7 hg7 hv7; have hbw := pbelow_of (w := w5) hg7 (by with_reducible repeat (first | exact Below.refl _ _ | refine below_drewN ?_ _ | refine pdrew ?_ | refine palloc ?_ _)); have HOP7 := Lib.hid (push_page HVL.out HVS.out HSA.out hbw hown7 hg7 hv7); have HB7 := Lib.hid ((HB6.out.trans (hbw.mono HB6.out.size)).grown hg7 (HB6.out.trans (hbw.mono HB6.out.size)).size (fun q hq => by have := (HOW.out.lt q hq).1; omega)); have KB7 := Lib.hid ((KB6.out.below hbw (Nat.lt_of_lt_of_le hkbl HBR.out.size)).grown hg7 (fun e => by have := HUS.out _ e.symm; omega)); have r0 := KB7.out.cell 0; have r1 := KB7.out.cell 1; have r2 := KB7.out.cell 2; have r3 := KB7.out.cell 3; simp at r0 r1 r2 r3; clear hown7 hg7 hv7 hbw))
        go_wp2
        go_roundw
        case rel =>
          exact ⟨k + 1, by omega, by go_num, by rw [List.range_succ, List.map_append]; exact HOP7.out, HB7.out, KB7.out⟩
        case measure => simp [intOf]; omega
    · obtain rfl : k = m := by omega
      go_wp2
      go_ret
      exact ⟨_, rfl, own_mono HOP.out (Nat.le_succ _), HB.out⟩
end Go.Proofs.Ytkidjlmjjfgknaa.Rcd
