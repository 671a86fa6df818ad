/- SlotTears (layer 7): the theorem of tears. (The walk was printed by tools/slot/tears.py, the lift by lift.py.) -/
import Derived.Test.YtkidjlmjjfgknaaSlotAwake
import Derived.BigQuiet
import Derived.Deep.QuietTactic
import Derived.IntWalk
import Derived.WalkKit
import Derived.ProofKit
import Derived.OpenShut
import Derived.ShutString
import Derived.ChangeOld
import Derived.Below
namespace Go.Proofs.Ytkidjlmjjfgknaa.slotTears
open Go.RowKit Go.Proofs.Ytkidjlmjjfgknaa.Mem Go.Proofs.Ytkidjlmjjfgknaa.Oct Go.Proofs.Ytkidjlmjjfgknaa.Pg Go.Proofs.Ytkidjlmjjfgknaa.Rcd Go.Proofs.Ytkidjlmjjfgknaa.Slt
set_option linter.unusedVariables false
set_option linter.unusedSimpArgs false
theorem secs_600 {g m most : Int} {b : List Nat} : ∀ s ∈ secs g m most b, s.length ≤ 600 := by
  unfold secs
  split
  · rename_i h
    have hf : fits (bP g m) b = true := by
      unfold errOf at h
      split at h
      · cases h
      · split at h
        · assumption
        · cases h
    exact sectorsOf_600 hf
  · simp
theorem err_zero {g m most : Int} {b : List Nat} (h : errOf g m most b = 0) : fits (bP g m) b = true ∧ secs g m most b = sectorsOf g m b := by
  refine ⟨?_, by unfold secs; rw [if_pos h]⟩
  unfold errOf at h
  split at h
  · cases h
  · split at h
    · assumption
    · cases h
theorem slRow_all {w w' : World} {base B n : Nat} {v v' : Value} {A : Option Addr} {ss ts : List (List Nat)} {vs us : List Value} (hl : vs.length = ss.length) (hn : NoBy w v.ownBlock) (h : ∀ i, i < ss.length → Sl w w.heap.size (vs.getD i undef) (ss.getD i [])) (hB : B ≤ w.heap.size)
    (src : SlSrc w B A n ts us) (hown : OwnN w' base 25 1 v' (ss.length + n) (vs ++ us)) (hg : w.grownBy w' v.ownBlock) : SlRow w' base v' (ss ++ ts) :=
  slRow_app hl src.len hn h (fun i hi => (src.sl i hi).more hB) (by rw [src.num]; exact hown) hg
theorem ownN_litg (w : World) (base g : Nat) (hg : g = w.heap.size) (hb : base ≤ w.heap.size) : OwnN (w.alloc (.cells #[] 25)) base 25 1 (.slice (some ⟨g, 0, none⟩) 0 0) 0 [] := by
  subst hg
  exact ownN_lit w base _ 1 hb
theorem two_blk {w w' : World} {g B : Nat} {t : TypeId} {cs : Array Value} (h : Blk w g t cs) (hb : Below B w w') (hg : g < B) : Blk w' g t cs := h.below hb hg
theorem slRow_form {w : World} {base : Nat} {v : Value} {ss : List (List Nat)} {N : Nat} (h : SlRow w base v ss) (hN : ss.length = N) (h0 : 0 < N) : ∃ gl cap, v = .slice (some ⟨gl, 0, none⟩) N cap ∧ base ≤ gl ∧ gl < w.heap.size := by
  obtain ⟨vs, hl, ⟨hown, _⟩, hs⟩ := h
  rcases hown.2 with ⟨_, h⟩ | ⟨g, cap, cur, rfl, hb, hg, _⟩
  · omega
  · rw [hN]
    exact ⟨g, cap, rfl, hb, (Array.getElem?_eq_some_iff.1 hg).1⟩
theorem slRow_cell {w : World} {base gl N cap k : Nat} {ss : List (List Nat)} (h : SlRow w base (.slice (some ⟨gl, 0, none⟩) N cap) ss) (hN : ss.length = N) (hk : k < N) : (∃ u, w.cell? ⟨gl, k, none⟩ = some u ∧ u.oneCell' = true) ∧ w.frozen? ⟨gl, k, none⟩ = false := by
  obtain ⟨vs, hl, ⟨hown, _⟩, hs⟩ := h
  rw [hN] at hown
  refine ⟨⟨vs[k]'(by omega), ?_, ?_⟩, hown.frozenAt k⟩
  · rw [hown.cellAt k (by omega), List.getElem?_eq_getElem (by omega)]
  · have := (sl_one (hs k (by omega))).1
    simpa [List.getD, List.getElem?_eq_getElem (by omega : k < vs.length)] using this
theorem slRow_set {w : World} {base gl N cap k : Nat} {ss : List (List Nat)} {u : Value} {s : List Nat} (h : SlRow w base (.slice (some ⟨gl, 0, none⟩) N cap) ss) (hN : ss.length = N) (hk : k < N) (hu : Sl w w.heap.size u s) :
    SlRow (w.setCell ⟨gl, k, none⟩ u) base (.slice (some ⟨gl, 0, none⟩) N cap) (ss.set k s) ∧ w.grownBy (w.setCell ⟨gl, k, none⟩ u) (some gl) := by
  obtain ⟨vs, hl, ⟨hown, hn⟩, hs⟩ := h
  rw [hN] at hown
  obtain ⟨h1, h2⟩ := hown.stored k u
  have hn' : NoBy w (some gl) := hn
  have hup : ∀ v xs, Sl w w.heap.size v xs → Sl (w.setCell ⟨gl, k, none⟩ u) (w.setCell ⟨gl, k, none⟩ u).heap.size v xs := fun v xs h => (sl_by h h2 (Nat.le_refl _) hn').more h2.size
  refine ⟨⟨vs.set k u, by simp [hl], ⟨by rw [List.length_set, hN]; exact h1, ?_⟩, fun i hi => ?_⟩, h2⟩
  · rcases h1.2 with ⟨h, _⟩ | ⟨g2, cap2, cur2, e, _, hg2, _⟩
    · cases h
    · injection e with e _ _
      injection e with e
      injection e with e _ _
      subst e
      rcases hown.2 with ⟨h, _⟩ | ⟨g3, cap3, cur3, e, _, hg3, _⟩
      · cases h
      · injection e with e _ _
        injection e with e
        injection e with e _ _
        subst e
        have h4 : Blk w gl 25 cur3 := hg3
        refine noBy_cells (h4.set_ k u) fun x hx => ?_
        rw [Array.toList_setIfInBounds] at hx
        rcases List.mem_or_eq_of_mem_set hx with hx | rfl
        · exact noBy_of hg3 hn' x hx
        · exact (sl_one hu).2
  · by_cases e : i = k
    · subst e
      have e1 : (vs.set i u).getD i undef = u := by simp [List.getD, hl, hN, hk]
      have e2 : (ss.set i s).getD i [] = s := by simp [List.getD, hN, hk]
      rw [e1, e2]
      exact hup _ _ hu
    · have e1 : (vs.set k u).getD i undef = vs.getD i undef := by simp [List.getD, List.getElem?_set, Ne.symm e]
      have e2 : (ss.set k s).getD i [] = ss.getD i [] := by simp [List.getD, List.getElem?_set, Ne.symm e]
      rw [e1, e2]
      exact hup _ _ (hs i (by rw [List.length_set] at hi; exact hi))
set_option maxRecDepth 20000 in
set_option maxHeartbeats 8000000 in
theorem tears_true (g mk : Int) (t : Nat) (A A' : Option Addr) (n n' c c' : Nat) (zs zs' : List Int) (w : World) (ht : t < 256) (h : IsRow .u8 w A n c zs) (h' : IsRow .u8 w A' n' c' zs') :
    Calls Try.prog 5 #[.agg #[.int .i64 g, .slice A n c], .agg #[.int .i64 mk, .int .u8 (t : Nat), .slice A' n' c']] w fun e w' => e = .returned (.bool true) ∧ Below w.heap.size w w' := by
  have hb0 := palloc (palloc (Below.refl w.heap.size w) (Obj.cells #[.int .i64 g, .slice A n c] 27)) (Obj.cells #[.int .i64 mk, .int .u8 (t : Nat), .slice A' n' c'] 41)
  have k2 := (Blk.new w 27 #[.int .i64 g, .slice A n c]).alloc (Obj.cells #[.int .i64 mk, .int .u8 (t : Nat), .slice A' n' c'] 41)
  have k3 := Blk.new (w.alloc (Obj.cells #[.int .i64 g, .slice A n c] 27)) 41 #[.int .i64 mk, .int .u8 (t : Nat), .slice A' n' c']
  rw [show (w.alloc (Obj.cells #[.int .i64 g, .slice A n c] 27)).heap.size = w.heap.size + 1 by simp] at k3
  have HB0 := Lib.hid hb0; clear hb0
  have K2 := Lib.hid k2; clear k2
  have K3 := Lib.hid k3; clear k3
  have z0 := K3.out.cell 0
  have z1 := K3.out.cell 1
  have z2 := K3.out.cell 2
  simp at z0 z1 z2
  by_cases hn8 : n ≤ 8000
  · have hd : decide (8000 < (n : Int)) = false := by simp only [decide_eq_false_iff_not]; omega
    by_cases hn6 : n' ≤ 600
    · have hd2 : decide (600 < (n' : Int)) = false := by simp only [decide_eq_false_iff_not]; omega
      obtain ⟨bs, hslb, hbl⟩ := sl_of_row h (by omega)
      obtain ⟨s, hsls, hsl⟩ := sl_of_row h' (by omega)
      have se := fun (W : World) (hW : Below w.heap.size w W) => sectors_any g mk 16 A n c bs W ((hslb.below hW (Nat.le_refl _)).more hW.size) hbl
      have hs6 := @secs_600 g mk 16 bs
      have hez := @err_zero g mk 16 bs
      have hsl16 : (secs g mk 16 bs).length ≤ 16 := by
        unfold secs
        split
        · rw [sectorsOf_len]; exact parts_le _
        · simp
      obtain ⟨ec, hec⟩ : ∃ ec, ec = errOf g mk 16 bs := ⟨_, rfl⟩
      obtain ⟨ss, hss⟩ : ∃ ss, ss = secs g mk 16 bs := ⟨_, rfl⟩
      rw [← hec] at se hez
      rw [← hss] at se hs6 hez hsl16
      obtain ⟨N, hN⟩ : ∃ N, N = ss.length := ⟨_, rfl⟩
      rw [← hN] at hsl16
      have HSLS := Lib.hid hsls; clear hsls
      have SE := Lib.hid se; clear se
      have HS6 := Lib.hid hs6; clear hs6
      have HEZ := Lib.hid hez; clear hez
      have HN := Lib.hid hN; clear hN
      have HL := Lib.hid hsl; clear hsl
      clear hec hss hslb hbl h h' hn8
      by_cases he : ec = 0
      · obtain ⟨hf, hse⟩ := HEZ.out he
        have hee : (ec != 0) = false := by simp [he]
        have hN1 : N = parts bs.length := by rw [HN.out, hse, sectors_len hf]
        have hN0 : 0 < N := by rw [hN1]; exact parts_pos (fits_len hf)
        have hne : ((N : Int) == 0) = false := by rw [beq_eq_false_iff_ne]; omega
        obtain ⟨k, hk⟩ : ∃ k, k = t % N := ⟨_, rfl⟩
        have hkN : k < N := by rw [hk]; exact Nat.mod_lt _ hN0
        have hkm : (t : Int).tmod (N : Int) = (k : Int) := by rw [hk]; exact (Int.ofNat_tmod t N).symm
        have hkm2 : (t : Int) % (N : Int) = (k : Int) := by rw [hk]; exact (Int.natCast_emod t N).symm
        have hto := fun hs => loaded_torn (s := s) (k := k) hf (by rw [← hN1]; exact hkN) hs
        rw [← hse] at hto
        clear hf hse hN1 hk
        obtain ⟨tn, htn⟩ : ∃ tn, tn = ss.set k s := ⟨_, rfl⟩
        have htl : tn.length = N := by rw [htn, List.length_set, HN.out]
        have ht6 : ∀ x ∈ tn, x.length ≤ 600 := fun x hx => by
          rw [htn] at hx
          rcases List.mem_or_eq_of_mem_set hx with hx | rfl
          · exact HS6.out x hx
          · have := HL.out; omega
        have ld := fun (A5 : Option Addr) (c5 : Nat) (W : World) (hS : Sls W W.heap.size (.slice A5 N c5) tn) => load_at A5 N c5 tn W W (Below.refl _ _) hS (by omega) (sls_some hS hN0) ht6
        obtain ⟨is, his⟩ : ∃ is, is = (loaded tn).isSome := ⟨_, rfl⟩
        have hto' : (∀ p, got s = some p → ¬ (p.gen = g ∧ p.mark = mk)) → is = false ∨ (k = 0 ∧ ∃ p, got s = some p ∧ p.parts = 1) := fun hs => by
          rcases hto hs with h1 | h1
          · left
            rw [his, htn, h1]
            rfl
          · exact .inr h1
        rw [← his] at ld
        obtain ⟨x, hx⟩ : ∃ x, x = theB tn := ⟨_, rfl⟩
        rw [← hx] at ld
        obtain ⟨gx, bx⟩ := x
        simp only at ld
        rw [htn] at ld
        have LD := Lib.hid ld; clear ld
        clear his hx hto htl ht6 htn he
        cases hg : got s with
        | none =>
          have hi0 : is = false := by
            rcases hto' (fun p hp => by rw [hg] at hp; cases hp) with h1 | ⟨_, p, hp, _⟩
            · exact h1
            · rw [hg] at hp; cases hp
          subst hi0
          have gt := fun (v : Value) (W : World) (hs : Sl W W.heap.size v s) => rget_none v s W hs (by have := HL.out; omega) hg
          have GT := Lib.hid gt; clear gt hto' hg
          obtain ⟨i0, hi, hz0, hz1, hz2⟩ := info_parts info25
          have HI := Lib.hid hi; clear hi
          have HZ0 := Lib.hid hz0; clear hz0
          have HZ1 := Lib.hid hz1; clear hz1
          have HZ2 := Lib.hid hz2; clear hz2
          go_enter Try.func5, Try.ntmps5
          go_wp2
          go_quiet (fail)
          go_wp2_with (first
            | (go_at_call 15; refine (SE.out _ ?hb1).mono ?_; (case hb1 => with_reducible repeat (first | exact HB0.out | refine below_drewN ?_ _ | refine pdrew ?_)); rintro e w1 ⟨v1, rfl, hs1, hb⟩; have hn1 : ∃ A1 c1, v1 = .slice A1 N c1 := (by obtain ⟨A1, c1, e⟩ := sls_form hs1; exact ⟨A1, c1, by rw [e, HN.out]⟩); obtain ⟨A1, c1, rfl⟩ := hn1; have HS1 := Lib.hid hs1; have HB1 := Lib.hid (below_up (w := w) hb (by with_reducible repeat (first | exact HB0.out | refine below_drewN ?_ _ | refine pdrew ?_))); have k21 : Blk w1 w.heap.size 27 #[.int .i64 g, .slice A n c] := blk_up hb (by with_reducible repeat (first | exact K2.out | refine Blk.drewN ?_ _ | refine Blk.drew ?_)); have K21 := Lib.hid k21; have hz21 := K21.out.lt; clear hs1 hb k21)
            | (go_at_call 18; refine (GT.out _ _ (sl_up HSLS.out HB1.out)).mono ?_; rintro e w2 ⟨A2, n2, c2, rfl, hb⟩; have hba := palloc (Below.refl w2.heap.size w2) (Obj.cells #[.int .i64 0, .int .i64 0, .int .i64 0, .int .i64 0, .int .i64 0, .int .i64 0, .slice A2 n2 c2] 43); have hbb := hb.trans (hba.mono hb.size); have HS2 := Lib.hid (HS1.out.up hbb); have HB2 := Lib.hid (HB1.out.trans (hbb.mono HB1.out.size)); have K22 := Lib.hid (K21.out.below hbb hz21); have K10 := Lib.hid (Blk.new w2 43 #[.int .i64 0, .int .i64 0, .int .i64 0, .int .i64 0, .int .i64 0, .int .i64 0, .slice A2 n2 c2]); have hz22 := K22.out.lt; have hz10 := K10.out.lt; have b0 := K22.out.cell 0; have p1 := K10.out.cell 1; have p2 := K10.out.cell 2; simp at b0 p1 p2; clear hb hba hbb)
            | (at_builtin; obtain ⟨us, hsrc0⟩ := slSrc_of HS2.out; have hsrc := hsrc0.below (palloc (Below.refl (w2.alloc (Obj.cells #[.int .i64 0, .int .i64 0, .int .i64 0, .int .i64 0, .int .i64 0, .int .i64 0, .slice A2 n2 c2] 43)).heap.size (w2.alloc (Obj.cells #[.int .i64 0, .int .i64 0, .int .i64 0, .int .i64 0, .int .i64 0, .int .i64 0, .slice A2 n2 c2] 43))) (Obj.cells #[] 25)); have SRC := Lib.hid hsrc; have OL := Lib.hid (ownN_litg (w2.alloc (Obj.cells #[.int .i64 0, .int .i64 0, .int .i64 0, .int .i64 0, .int .i64 0, .int .i64 0, .slice A2 n2 c2] 43)) (w2.alloc (Obj.cells #[.int .i64 0, .int .i64 0, .int .i64 0, .int .i64 0, .int .i64 0, .int .i64 0, .slice A2 n2 c2] 43)).heap.size (w2.heap.size + 1) (by simp) (Nat.le_refl _)); clear hsrc hsrc0; refine wpList_append_n _ rfl (.tmp 70) (.tmp 71) 22 rfl (w2.alloc (Obj.cells #[.int .i64 0, .int .i64 0, .int .i64 0, .int .i64 0, .int .i64 0, .int .i64 0, .slice A2 n2 c2] 43)).heap.size 25 i0 (.slice none 0 0) 1 24 Try.underlying22 HI.out HZ0.out HZ1.out HZ2.out rfl (by decide) zSl_nob (.slice (some ⟨w2.heap.size + 1, 0, none⟩) 0 0) 0 [] rfl OL.out (w2.alloc (Obj.cells #[.int .i64 0, .int .i64 0, .int .i64 0, .int .i64 0, .int .i64 0, .int .i64 0, .slice A2 n2 c2] 43)).heap.size A1 N c1 us rfl SRC.out.reads SRC.out.ones SRC.out.nob ?h63 ?hby ?hbase ?_; (case h63 => (unfold maxLen; omega)); (case hby => omega); (case hbase => simp); intro v5 w5 hown5 hg5 _; have hr5 := slRow_all (ss := []) (vs := []) rfl OL.out.2 (fun i hi => absurd hi (by simp)) (by simp) SRC.out (by rw [List.length_nil]; exact hown5) hg5; have hb5 := (palloc (Below.refl (w2.alloc (Obj.cells #[.int .i64 0, .int .i64 0, .int .i64 0, .int .i64 0, .int .i64 0, .int .i64 0, .slice A2 n2 c2] 43)).heap.size (w2.alloc (Obj.cells #[.int .i64 0, .int .i64 0, .int .i64 0, .int .i64 0, .int .i64 0, .int .i64 0, .slice A2 n2 c2] 43))) (Obj.cells #[] 25)).grown hg5 (palloc (Below.refl (w2.alloc (Obj.cells #[.int .i64 0, .int .i64 0, .int .i64 0, .int .i64 0, .int .i64 0, .int .i64 0, .slice A2 n2 c2] 43)).heap.size (w2.alloc (Obj.cells #[.int .i64 0, .int .i64 0, .int .i64 0, .int .i64 0, .int .i64 0, .int .i64 0, .slice A2 n2 c2] 43))) (Obj.cells #[] 25)).size (fun q hq => by simp [Value.ownBlock] at hq; subst hq; simp); rw [List.nil_append] at hr5; obtain ⟨gl, cap5, rfl, hgl, hgz⟩ := slRow_form hr5 HN.out.symm hN0; obtain ⟨⟨u5, hu5, ho5⟩, hf5⟩ := slRow_cell hr5 HN.out.symm hkN; have HR5 := Lib.hid hr5; have HB5 := Lib.hid (HB2.out.trans (hb5.mono HB2.out.size)); have K105 := Lib.hid (K10.out.below hb5 hz10); have HG5 := Lib.hid hgl; clear hr5 hb5 hown5 hg5 hgl)
            | (go_at_call 8; have hst := slRow_set HR5.out HN.out.symm hkN (sl_up HSLS.out HB5.out); have hb6 := HB5.out.grown hst.2 HB5.out.size (fun q hq => by cases hq; exact Nat.le_trans HB2.out.size HG5.out); have K106 := Lib.hid (K105.out.grown hst.2 (fun e => by injection e with e; have h8 := HG5.out; omega)); have HB6 := Lib.hid hb6; have hz106 := K106.out.lt; have hS6 := slRow_sls hst.1; refine (LD.out _ _ _ hS6).mono ?_; rintro e w7 ⟨A7, n7, c7, rfl, hbt, hb⟩; have hba := palloc (Below.refl w7.heap.size w7) (Obj.cells #[.int .i64 gx, .slice A7 n7 c7] 27); have hbb := hb.trans (hba.mono hb.size); have HB7 := Lib.hid (HB6.out.trans (hbb.mono HB6.out.size)); have p5 := (K106.out.below hbb hz106).cell 5; simp at p5; clear hst hb6 hS6 hbt hb hba hbb)
            | (go_at_call 7; refine (awake7_any _).mono ?_; rintro e w9 ⟨rfl, hb⟩; have HB9 := Lib.hid (HB7.out.trans (hb.mono HB7.out.size)); clear hb))
          go_ret
          exact ⟨rfl, HB9.out⟩
        | some p =>
          have gt := fun (v : Value) (W : World) (hs : Sl W W.heap.size v s) => rget_some v s p W hs (by have := HL.out; omega) hg
          have GT := Lib.hid gt; clear gt
          by_cases hpg : p.gen = g
          · by_cases hpm : p.mark = mk
            · have e1 : (p.gen == g) = true := by simp [hpg]
              have e2 : (p.mark == mk) = true := by simp [hpm]
              clear hto' hg hpg hpm LD
              go_enter Try.func5, Try.ntmps5
              go_wp2
              go_quiet (fail)
              go_wp2_with (first
                | (go_at_call 15; refine (SE.out _ ?hb1).mono ?_; (case hb1 => with_reducible repeat (first | exact HB0.out | refine below_drewN ?_ _ | refine pdrew ?_)); rintro e w1 ⟨v1, rfl, hs1, hb⟩; have hn1 : ∃ A1 c1, v1 = .slice A1 N c1 := (by obtain ⟨A1, c1, e⟩ := sls_form hs1; exact ⟨A1, c1, by rw [e, HN.out]⟩); obtain ⟨A1, c1, rfl⟩ := hn1; have HS1 := Lib.hid hs1; have HB1 := Lib.hid (below_up (w := w) hb (by with_reducible repeat (first | exact HB0.out | refine below_drewN ?_ _ | refine pdrew ?_))); have k21 : Blk w1 w.heap.size 27 #[.int .i64 g, .slice A n c] := blk_up hb (by with_reducible repeat (first | exact K2.out | refine Blk.drewN ?_ _ | refine Blk.drew ?_)); have K21 := Lib.hid k21; have hz21 := K21.out.lt; clear hs1 hb k21)
                | (go_at_call 18; refine (GT.out _ _ (sl_up HSLS.out HB1.out)).mono ?_; rintro e w2 ⟨A2, n2, c2, rfl, hbt, hb⟩; have hba := palloc (Below.refl w2.heap.size w2) (Obj.cells #[.int .i64 p.kind, .int .i64 p.gen, .int .i64 p.mark, .int .i64 p.index, .int .i64 p.part, .int .i64 p.parts, .slice A2 n2 c2] 43); have hbb := hb.trans (hba.mono hb.size); have HS2 := Lib.hid (HS1.out.up hbb); have HB2 := Lib.hid (HB1.out.trans (hbb.mono HB1.out.size)); have K22 := Lib.hid (K21.out.below hbb hz21); have K10 := Lib.hid (Blk.new w2 43 #[.int .i64 p.kind, .int .i64 p.gen, .int .i64 p.mark, .int .i64 p.index, .int .i64 p.part, .int .i64 p.parts, .slice A2 n2 c2]); have hz22 := K22.out.lt; have hz10 := K10.out.lt; have b0 := K22.out.cell 0; have p1 := K10.out.cell 1; have p2 := K10.out.cell 2; simp at b0 p1 p2; clear hb hba hbb hbt)
                | (go_at_call 7; refine (awake7_any _).mono ?_; rintro e w9 ⟨rfl, hb⟩; have HB9 := Lib.hid (HB2.out.trans (hb.mono HB2.out.size)); clear hb))
              go_ret
              exact ⟨rfl, HB9.out⟩
            · have e1 : (p.gen == g) = true := by simp [hpg]
              have e2 : (p.mark == mk) = false := by simp [hpm]
              have HNE := Lib.hid (fun h => hpm h.2 : ¬ (p.gen = g ∧ p.mark = mk))
              clear hpg hpm
              rcases hto' (fun q hq => by rw [hg] at hq; injection hq with hq; subst hq; exact HNE.out) with hi0 | ⟨hk0, q, hq, hq1⟩
              · subst hi0
                clear hto' hg
                obtain ⟨i0, hi, hz0, hz1, hz2⟩ := info_parts info25
                have HI := Lib.hid hi; clear hi
                have HZ0 := Lib.hid hz0; clear hz0
                have HZ1 := Lib.hid hz1; clear hz1
                have HZ2 := Lib.hid hz2; clear hz2
                go_enter Try.func5, Try.ntmps5
                go_wp2
                go_quiet (fail)
                go_wp2_with (first
                  | (go_at_call 15; refine (SE.out _ ?hb1).mono ?_; (case hb1 => with_reducible repeat (first | exact HB0.out | refine below_drewN ?_ _ | refine pdrew ?_)); rintro e w1 ⟨v1, rfl, hs1, hb⟩; have hn1 : ∃ A1 c1, v1 = .slice A1 N c1 := (by obtain ⟨A1, c1, e⟩ := sls_form hs1; exact ⟨A1, c1, by rw [e, HN.out]⟩); obtain ⟨A1, c1, rfl⟩ := hn1; have HS1 := Lib.hid hs1; have HB1 := Lib.hid (below_up (w := w) hb (by with_reducible repeat (first | exact HB0.out | refine below_drewN ?_ _ | refine pdrew ?_))); have k21 : Blk w1 w.heap.size 27 #[.int .i64 g, .slice A n c] := blk_up hb (by with_reducible repeat (first | exact K2.out | refine Blk.drewN ?_ _ | refine Blk.drew ?_)); have K21 := Lib.hid k21; have hz21 := K21.out.lt; clear hs1 hb k21)
                  | (go_at_call 18; refine (GT.out _ _ (sl_up HSLS.out HB1.out)).mono ?_; rintro e w2 ⟨A2, n2, c2, rfl, hbt, hb⟩; have hba := palloc (Below.refl w2.heap.size w2) (Obj.cells #[.int .i64 p.kind, .int .i64 p.gen, .int .i64 p.mark, .int .i64 p.index, .int .i64 p.part, .int .i64 p.parts, .slice A2 n2 c2] 43); have hbb := hb.trans (hba.mono hb.size); have HS2 := Lib.hid (HS1.out.up hbb); have HB2 := Lib.hid (HB1.out.trans (hbb.mono HB1.out.size)); have K22 := Lib.hid (K21.out.below hbb hz21); have K10 := Lib.hid (Blk.new w2 43 #[.int .i64 p.kind, .int .i64 p.gen, .int .i64 p.mark, .int .i64 p.index, .int .i64 p.part, .int .i64 p.parts, .slice A2 n2 c2]); have hz22 := K22.out.lt; have hz10 := K10.out.lt; have b0 := K22.out.cell 0; have p1 := K10.out.cell 1; have p2 := K10.out.cell 2; simp at b0 p1 p2; clear hb hba hbb hbt)
                  | (at_builtin; obtain ⟨us, hsrc0⟩ := slSrc_of HS2.out; have hsrc := hsrc0.below (palloc (Below.refl (w2.alloc (Obj.cells #[.int .i64 p.kind, .int .i64 p.gen, .int .i64 p.mark, .int .i64 p.index, .int .i64 p.part, .int .i64 p.parts, .slice A2 n2 c2] 43)).heap.size (w2.alloc (Obj.cells #[.int .i64 p.kind, .int .i64 p.gen, .int .i64 p.mark, .int .i64 p.index, .int .i64 p.part, .int .i64 p.parts, .slice A2 n2 c2] 43))) (Obj.cells #[] 25)); have SRC := Lib.hid hsrc; have OL := Lib.hid (ownN_litg (w2.alloc (Obj.cells #[.int .i64 p.kind, .int .i64 p.gen, .int .i64 p.mark, .int .i64 p.index, .int .i64 p.part, .int .i64 p.parts, .slice A2 n2 c2] 43)) (w2.alloc (Obj.cells #[.int .i64 p.kind, .int .i64 p.gen, .int .i64 p.mark, .int .i64 p.index, .int .i64 p.part, .int .i64 p.parts, .slice A2 n2 c2] 43)).heap.size (w2.heap.size + 1) (by simp) (Nat.le_refl _)); clear hsrc hsrc0; refine wpList_append_n _ rfl (.tmp 70) (.tmp 71) 22 rfl (w2.alloc (Obj.cells #[.int .i64 p.kind, .int .i64 p.gen, .int .i64 p.mark, .int .i64 p.index, .int .i64 p.part, .int .i64 p.parts, .slice A2 n2 c2] 43)).heap.size 25 i0 (.slice none 0 0) 1 24 Try.underlying22 HI.out HZ0.out HZ1.out HZ2.out rfl (by decide) zSl_nob (.slice (some ⟨w2.heap.size + 1, 0, none⟩) 0 0) 0 [] rfl OL.out (w2.alloc (Obj.cells #[.int .i64 p.kind, .int .i64 p.gen, .int .i64 p.mark, .int .i64 p.index, .int .i64 p.part, .int .i64 p.parts, .slice A2 n2 c2] 43)).heap.size A1 N c1 us rfl SRC.out.reads SRC.out.ones SRC.out.nob ?h63 ?hby ?hbase ?_; (case h63 => (unfold maxLen; omega)); (case hby => omega); (case hbase => simp); intro v5 w5 hown5 hg5 _; have hr5 := slRow_all (ss := []) (vs := []) rfl OL.out.2 (fun i hi => absurd hi (by simp)) (by simp) SRC.out (by rw [List.length_nil]; exact hown5) hg5; have hb5 := (palloc (Below.refl (w2.alloc (Obj.cells #[.int .i64 p.kind, .int .i64 p.gen, .int .i64 p.mark, .int .i64 p.index, .int .i64 p.part, .int .i64 p.parts, .slice A2 n2 c2] 43)).heap.size (w2.alloc (Obj.cells #[.int .i64 p.kind, .int .i64 p.gen, .int .i64 p.mark, .int .i64 p.index, .int .i64 p.part, .int .i64 p.parts, .slice A2 n2 c2] 43))) (Obj.cells #[] 25)).grown hg5 (palloc (Below.refl (w2.alloc (Obj.cells #[.int .i64 p.kind, .int .i64 p.gen, .int .i64 p.mark, .int .i64 p.index, .int .i64 p.part, .int .i64 p.parts, .slice A2 n2 c2] 43)).heap.size (w2.alloc (Obj.cells #[.int .i64 p.kind, .int .i64 p.gen, .int .i64 p.mark, .int .i64 p.index, .int .i64 p.part, .int .i64 p.parts, .slice A2 n2 c2] 43))) (Obj.cells #[] 25)).size (fun q hq => by simp [Value.ownBlock] at hq; subst hq; simp); rw [List.nil_append] at hr5; obtain ⟨gl, cap5, rfl, hgl, hgz⟩ := slRow_form hr5 HN.out.symm hN0; obtain ⟨⟨u5, hu5, ho5⟩, hf5⟩ := slRow_cell hr5 HN.out.symm hkN; have HR5 := Lib.hid hr5; have HB5 := Lib.hid (HB2.out.trans (hb5.mono HB2.out.size)); have K105 := Lib.hid (K10.out.below hb5 hz10); have HG5 := Lib.hid hgl; clear hr5 hb5 hown5 hg5 hgl)
                  | (go_at_call 8; have hst := slRow_set HR5.out HN.out.symm hkN (sl_up HSLS.out HB5.out); have hb6 := HB5.out.grown hst.2 HB5.out.size (fun q hq => by cases hq; exact Nat.le_trans HB2.out.size HG5.out); have K106 := Lib.hid (K105.out.grown hst.2 (fun e => by injection e with e; have h8 := HG5.out; omega)); have HB6 := Lib.hid hb6; have hz106 := K106.out.lt; have hS6 := slRow_sls hst.1; refine (LD.out _ _ _ hS6).mono ?_; rintro e w7 ⟨A7, n7, c7, rfl, hbt, hb⟩; have hba := palloc (Below.refl w7.heap.size w7) (Obj.cells #[.int .i64 gx, .slice A7 n7 c7] 27); have hbb := hb.trans (hba.mono hb.size); have HB7 := Lib.hid (HB6.out.trans (hbb.mono HB6.out.size)); have p5 := (K106.out.below hbb hz106).cell 5; simp at p5; clear hst hb6 hS6 hbt hb hba hbb)
                  | (go_at_call 7; refine (awake7_any _).mono ?_; rintro e w9 ⟨rfl, hb⟩; have HB9 := Lib.hid (HB7.out.trans (hb.mono HB7.out.size)); clear hb))
                go_ret
                exact ⟨rfl, HB9.out⟩
              · rw [hg] at hq
                injection hq with hq
                subst hq
                have e5 : (p.parts == 1) = true := by simp [hq1]
                have e6 : ((k : Int) == 0) = true := by simp [hk0]
                clear hto' hg hq1 hk0
                cases is
                · skip
                  obtain ⟨i0, hi, hz0, hz1, hz2⟩ := info_parts info25
                  have HI := Lib.hid hi; clear hi
                  have HZ0 := Lib.hid hz0; clear hz0
                  have HZ1 := Lib.hid hz1; clear hz1
                  have HZ2 := Lib.hid hz2; clear hz2
                  go_enter Try.func5, Try.ntmps5
                  go_wp2
                  go_quiet (fail)
                  go_wp2_with (first
                    | (go_at_call 15; refine (SE.out _ ?hb1).mono ?_; (case hb1 => with_reducible repeat (first | exact HB0.out | refine below_drewN ?_ _ | refine pdrew ?_)); rintro e w1 ⟨v1, rfl, hs1, hb⟩; have hn1 : ∃ A1 c1, v1 = .slice A1 N c1 := (by obtain ⟨A1, c1, e⟩ := sls_form hs1; exact ⟨A1, c1, by rw [e, HN.out]⟩); obtain ⟨A1, c1, rfl⟩ := hn1; have HS1 := Lib.hid hs1; have HB1 := Lib.hid (below_up (w := w) hb (by with_reducible repeat (first | exact HB0.out | refine below_drewN ?_ _ | refine pdrew ?_))); have k21 : Blk w1 w.heap.size 27 #[.int .i64 g, .slice A n c] := blk_up hb (by with_reducible repeat (first | exact K2.out | refine Blk.drewN ?_ _ | refine Blk.drew ?_)); have K21 := Lib.hid k21; have hz21 := K21.out.lt; clear hs1 hb k21)
                    | (go_at_call 18; refine (GT.out _ _ (sl_up HSLS.out HB1.out)).mono ?_; rintro e w2 ⟨A2, n2, c2, rfl, hbt, hb⟩; have hba := palloc (Below.refl w2.heap.size w2) (Obj.cells #[.int .i64 p.kind, .int .i64 p.gen, .int .i64 p.mark, .int .i64 p.index, .int .i64 p.part, .int .i64 p.parts, .slice A2 n2 c2] 43); have hbb := hb.trans (hba.mono hb.size); have HS2 := Lib.hid (HS1.out.up hbb); have HB2 := Lib.hid (HB1.out.trans (hbb.mono HB1.out.size)); have K22 := Lib.hid (K21.out.below hbb hz21); have K10 := Lib.hid (Blk.new w2 43 #[.int .i64 p.kind, .int .i64 p.gen, .int .i64 p.mark, .int .i64 p.index, .int .i64 p.part, .int .i64 p.parts, .slice A2 n2 c2]); have hz22 := K22.out.lt; have hz10 := K10.out.lt; have b0 := K22.out.cell 0; have p1 := K10.out.cell 1; have p2 := K10.out.cell 2; simp at b0 p1 p2; clear hb hba hbb hbt)
                    | (at_builtin; obtain ⟨us, hsrc0⟩ := slSrc_of HS2.out; have hsrc := hsrc0.below (palloc (Below.refl (w2.alloc (Obj.cells #[.int .i64 p.kind, .int .i64 p.gen, .int .i64 p.mark, .int .i64 p.index, .int .i64 p.part, .int .i64 p.parts, .slice A2 n2 c2] 43)).heap.size (w2.alloc (Obj.cells #[.int .i64 p.kind, .int .i64 p.gen, .int .i64 p.mark, .int .i64 p.index, .int .i64 p.part, .int .i64 p.parts, .slice A2 n2 c2] 43))) (Obj.cells #[] 25)); have SRC := Lib.hid hsrc; have OL := Lib.hid (ownN_litg (w2.alloc (Obj.cells #[.int .i64 p.kind, .int .i64 p.gen, .int .i64 p.mark, .int .i64 p.index, .int .i64 p.part, .int .i64 p.parts, .slice A2 n2 c2] 43)) (w2.alloc (Obj.cells #[.int .i64 p.kind, .int .i64 p.gen, .int .i64 p.mark, .int .i64 p.index, .int .i64 p.part, .int .i64 p.parts, .slice A2 n2 c2] 43)).heap.size (w2.heap.size + 1) (by simp) (Nat.le_refl _)); clear hsrc hsrc0; refine wpList_append_n _ rfl (.tmp 70) (.tmp 71) 22 rfl (w2.alloc (Obj.cells #[.int .i64 p.kind, .int .i64 p.gen, .int .i64 p.mark, .int .i64 p.index, .int .i64 p.part, .int .i64 p.parts, .slice A2 n2 c2] 43)).heap.size 25 i0 (.slice none 0 0) 1 24 Try.underlying22 HI.out HZ0.out HZ1.out HZ2.out rfl (by decide) zSl_nob (.slice (some ⟨w2.heap.size + 1, 0, none⟩) 0 0) 0 [] rfl OL.out (w2.alloc (Obj.cells #[.int .i64 p.kind, .int .i64 p.gen, .int .i64 p.mark, .int .i64 p.index, .int .i64 p.part, .int .i64 p.parts, .slice A2 n2 c2] 43)).heap.size A1 N c1 us rfl SRC.out.reads SRC.out.ones SRC.out.nob ?h63 ?hby ?hbase ?_; (case h63 => (unfold maxLen; omega)); (case hby => omega); (case hbase => simp); intro v5 w5 hown5 hg5 _; have hr5 := slRow_all (ss := []) (vs := []) rfl OL.out.2 (fun i hi => absurd hi (by simp)) (by simp) SRC.out (by rw [List.length_nil]; exact hown5) hg5; have hb5 := (palloc (Below.refl (w2.alloc (Obj.cells #[.int .i64 p.kind, .int .i64 p.gen, .int .i64 p.mark, .int .i64 p.index, .int .i64 p.part, .int .i64 p.parts, .slice A2 n2 c2] 43)).heap.size (w2.alloc (Obj.cells #[.int .i64 p.kind, .int .i64 p.gen, .int .i64 p.mark, .int .i64 p.index, .int .i64 p.part, .int .i64 p.parts, .slice A2 n2 c2] 43))) (Obj.cells #[] 25)).grown hg5 (palloc (Below.refl (w2.alloc (Obj.cells #[.int .i64 p.kind, .int .i64 p.gen, .int .i64 p.mark, .int .i64 p.index, .int .i64 p.part, .int .i64 p.parts, .slice A2 n2 c2] 43)).heap.size (w2.alloc (Obj.cells #[.int .i64 p.kind, .int .i64 p.gen, .int .i64 p.mark, .int .i64 p.index, .int .i64 p.part, .int .i64 p.parts, .slice A2 n2 c2] 43))) (Obj.cells #[] 25)).size (fun q hq => by simp [Value.ownBlock] at hq; subst hq; simp); rw [List.nil_append] at hr5; obtain ⟨gl, cap5, rfl, hgl, hgz⟩ := slRow_form hr5 HN.out.symm hN0; obtain ⟨⟨u5, hu5, ho5⟩, hf5⟩ := slRow_cell hr5 HN.out.symm hkN; have HR5 := Lib.hid hr5; have HB5 := Lib.hid (HB2.out.trans (hb5.mono HB2.out.size)); have K105 := Lib.hid (K10.out.below hb5 hz10); have HG5 := Lib.hid hgl; clear hr5 hb5 hown5 hg5 hgl)
                    | (go_at_call 8; have hst := slRow_set HR5.out HN.out.symm hkN (sl_up HSLS.out HB5.out); have hb6 := HB5.out.grown hst.2 HB5.out.size (fun q hq => by cases hq; exact Nat.le_trans HB2.out.size HG5.out); have K106 := Lib.hid (K105.out.grown hst.2 (fun e => by injection e with e; have h8 := HG5.out; omega)); have HB6 := Lib.hid hb6; have hz106 := K106.out.lt; have hS6 := slRow_sls hst.1; refine (LD.out _ _ _ hS6).mono ?_; rintro e w7 ⟨A7, n7, c7, rfl, hbt, hb⟩; have hba := palloc (Below.refl w7.heap.size w7) (Obj.cells #[.int .i64 gx, .slice A7 n7 c7] 27); have hbb := hb.trans (hba.mono hb.size); have HB7 := Lib.hid (HB6.out.trans (hbb.mono HB6.out.size)); have p5 := (K106.out.below hbb hz106).cell 5; simp at p5; clear hst hb6 hS6 hbt hb hba hbb)
                    | (go_at_call 7; refine (awake7_any _).mono ?_; rintro e w9 ⟨rfl, hb⟩; have HB9 := Lib.hid (HB7.out.trans (hb.mono HB7.out.size)); clear hb))
                  go_ret
                  exact ⟨rfl, HB9.out⟩
                · skip
                  obtain ⟨i0, hi, hz0, hz1, hz2⟩ := info_parts info25
                  have HI := Lib.hid hi; clear hi
                  have HZ0 := Lib.hid hz0; clear hz0
                  have HZ1 := Lib.hid hz1; clear hz1
                  have HZ2 := Lib.hid hz2; clear hz2
                  go_enter Try.func5, Try.ntmps5
                  go_wp2
                  go_quiet (fail)
                  go_wp2_with (first
                    | (go_at_call 15; refine (SE.out _ ?hb1).mono ?_; (case hb1 => with_reducible repeat (first | exact HB0.out | refine below_drewN ?_ _ | refine pdrew ?_)); rintro e w1 ⟨v1, rfl, hs1, hb⟩; have hn1 : ∃ A1 c1, v1 = .slice A1 N c1 := (by obtain ⟨A1, c1, e⟩ := sls_form hs1; exact ⟨A1, c1, by rw [e, HN.out]⟩); obtain ⟨A1, c1, rfl⟩ := hn1; have HS1 := Lib.hid hs1; have HB1 := Lib.hid (below_up (w := w) hb (by with_reducible repeat (first | exact HB0.out | refine below_drewN ?_ _ | refine pdrew ?_))); have k21 : Blk w1 w.heap.size 27 #[.int .i64 g, .slice A n c] := blk_up hb (by with_reducible repeat (first | exact K2.out | refine Blk.drewN ?_ _ | refine Blk.drew ?_)); have K21 := Lib.hid k21; have hz21 := K21.out.lt; clear hs1 hb k21)
                    | (go_at_call 18; refine (GT.out _ _ (sl_up HSLS.out HB1.out)).mono ?_; rintro e w2 ⟨A2, n2, c2, rfl, hbt, hb⟩; have hba := palloc (Below.refl w2.heap.size w2) (Obj.cells #[.int .i64 p.kind, .int .i64 p.gen, .int .i64 p.mark, .int .i64 p.index, .int .i64 p.part, .int .i64 p.parts, .slice A2 n2 c2] 43); have hbb := hb.trans (hba.mono hb.size); have HS2 := Lib.hid (HS1.out.up hbb); have HB2 := Lib.hid (HB1.out.trans (hbb.mono HB1.out.size)); have K22 := Lib.hid (K21.out.below hbb hz21); have K10 := Lib.hid (Blk.new w2 43 #[.int .i64 p.kind, .int .i64 p.gen, .int .i64 p.mark, .int .i64 p.index, .int .i64 p.part, .int .i64 p.parts, .slice A2 n2 c2]); have hz22 := K22.out.lt; have hz10 := K10.out.lt; have b0 := K22.out.cell 0; have p1 := K10.out.cell 1; have p2 := K10.out.cell 2; simp at b0 p1 p2; clear hb hba hbb hbt)
                    | (at_builtin; obtain ⟨us, hsrc0⟩ := slSrc_of HS2.out; have hsrc := hsrc0.below (palloc (Below.refl (w2.alloc (Obj.cells #[.int .i64 p.kind, .int .i64 p.gen, .int .i64 p.mark, .int .i64 p.index, .int .i64 p.part, .int .i64 p.parts, .slice A2 n2 c2] 43)).heap.size (w2.alloc (Obj.cells #[.int .i64 p.kind, .int .i64 p.gen, .int .i64 p.mark, .int .i64 p.index, .int .i64 p.part, .int .i64 p.parts, .slice A2 n2 c2] 43))) (Obj.cells #[] 25)); have SRC := Lib.hid hsrc; have OL := Lib.hid (ownN_litg (w2.alloc (Obj.cells #[.int .i64 p.kind, .int .i64 p.gen, .int .i64 p.mark, .int .i64 p.index, .int .i64 p.part, .int .i64 p.parts, .slice A2 n2 c2] 43)) (w2.alloc (Obj.cells #[.int .i64 p.kind, .int .i64 p.gen, .int .i64 p.mark, .int .i64 p.index, .int .i64 p.part, .int .i64 p.parts, .slice A2 n2 c2] 43)).heap.size (w2.heap.size + 1) (by simp) (Nat.le_refl _)); clear hsrc hsrc0; refine wpList_append_n _ rfl (.tmp 70) (.tmp 71) 22 rfl (w2.alloc (Obj.cells #[.int .i64 p.kind, .int .i64 p.gen, .int .i64 p.mark, .int .i64 p.index, .int .i64 p.part, .int .i64 p.parts, .slice A2 n2 c2] 43)).heap.size 25 i0 (.slice none 0 0) 1 24 Try.underlying22 HI.out HZ0.out HZ1.out HZ2.out rfl (by decide) zSl_nob (.slice (some ⟨w2.heap.size + 1, 0, none⟩) 0 0) 0 [] rfl OL.out (w2.alloc (Obj.cells #[.int .i64 p.kind, .int .i64 p.gen, .int .i64 p.mark, .int .i64 p.index, .int .i64 p.part, .int .i64 p.parts, .slice A2 n2 c2] 43)).heap.size A1 N c1 us rfl SRC.out.reads SRC.out.ones SRC.out.nob ?h63 ?hby ?hbase ?_; (case h63 => (unfold maxLen; omega)); (case hby => omega); (case hbase => simp); intro v5 w5 hown5 hg5 _; have hr5 := slRow_all (ss := []) (vs := []) rfl OL.out.2 (fun i hi => absurd hi (by simp)) (by simp) SRC.out (by rw [List.length_nil]; exact hown5) hg5; have hb5 := (palloc (Below.refl (w2.alloc (Obj.cells #[.int .i64 p.kind, .int .i64 p.gen, .int .i64 p.mark, .int .i64 p.index, .int .i64 p.part, .int .i64 p.parts, .slice A2 n2 c2] 43)).heap.size (w2.alloc (Obj.cells #[.int .i64 p.kind, .int .i64 p.gen, .int .i64 p.mark, .int .i64 p.index, .int .i64 p.part, .int .i64 p.parts, .slice A2 n2 c2] 43))) (Obj.cells #[] 25)).grown hg5 (palloc (Below.refl (w2.alloc (Obj.cells #[.int .i64 p.kind, .int .i64 p.gen, .int .i64 p.mark, .int .i64 p.index, .int .i64 p.part, .int .i64 p.parts, .slice A2 n2 c2] 43)).heap.size (w2.alloc (Obj.cells #[.int .i64 p.kind, .int .i64 p.gen, .int .i64 p.mark, .int .i64 p.index, .int .i64 p.part, .int .i64 p.parts, .slice A2 n2 c2] 43))) (Obj.cells #[] 25)).size (fun q hq => by simp [Value.ownBlock] at hq; subst hq; simp); rw [List.nil_append] at hr5; obtain ⟨gl, cap5, rfl, hgl, hgz⟩ := slRow_form hr5 HN.out.symm hN0; obtain ⟨⟨u5, hu5, ho5⟩, hf5⟩ := slRow_cell hr5 HN.out.symm hkN; have HR5 := Lib.hid hr5; have HB5 := Lib.hid (HB2.out.trans (hb5.mono HB2.out.size)); have K105 := Lib.hid (K10.out.below hb5 hz10); have HG5 := Lib.hid hgl; clear hr5 hb5 hown5 hg5 hgl)
                    | (go_at_call 8; have hst := slRow_set HR5.out HN.out.symm hkN (sl_up HSLS.out HB5.out); have hb6 := HB5.out.grown hst.2 HB5.out.size (fun q hq => by cases hq; exact Nat.le_trans HB2.out.size HG5.out); have K106 := Lib.hid (K105.out.grown hst.2 (fun e => by injection e with e; have h8 := HG5.out; omega)); have HB6 := Lib.hid hb6; have hz106 := K106.out.lt; have hS6 := slRow_sls hst.1; refine (LD.out _ _ _ hS6).mono ?_; rintro e w7 ⟨A7, n7, c7, rfl, hbt, hb⟩; have hba := palloc (Below.refl w7.heap.size w7) (Obj.cells #[.int .i64 gx, .slice A7 n7 c7] 27); have hbb := hb.trans (hba.mono hb.size); have HB7 := Lib.hid (HB6.out.trans (hbb.mono HB6.out.size)); have p5 := (K106.out.below hbb hz106).cell 5; simp at p5; clear hst hb6 hS6 hbt hb hba hbb)
                    | (go_at_call 7; refine (awake7_any _).mono ?_; rintro e w9 ⟨rfl, hb⟩; have HB9 := Lib.hid (HB7.out.trans (hb.mono HB7.out.size)); clear hb))
                  go_ret
                  exact ⟨rfl, HB9.out⟩
          · have e1 : (p.gen == g) = false := by simp [hpg]
            have HNE := Lib.hid (fun h => hpg h.1 : ¬ (p.gen = g ∧ p.mark = mk))
            clear hpg
            rcases hto' (fun q hq => by rw [hg] at hq; injection hq with hq; subst hq; exact HNE.out) with hi0 | ⟨hk0, q, hq, hq1⟩
            · subst hi0
              clear hto' hg
              obtain ⟨i0, hi, hz0, hz1, hz2⟩ := info_parts info25
              have HI := Lib.hid hi; clear hi
              have HZ0 := Lib.hid hz0; clear hz0
              have HZ1 := Lib.hid hz1; clear hz1
              have HZ2 := Lib.hid hz2; clear hz2
              go_enter Try.func5, Try.ntmps5
              go_wp2
              go_quiet (fail)
              go_wp2_with (first
                | (go_at_call 15; refine (SE.out _ ?hb1).mono ?_; (case hb1 => with_reducible repeat (first | exact HB0.out | refine below_drewN ?_ _ | refine pdrew ?_)); rintro e w1 ⟨v1, rfl, hs1, hb⟩; have hn1 : ∃ A1 c1, v1 = .slice A1 N c1 := (by obtain ⟨A1, c1, e⟩ := sls_form hs1; exact ⟨A1, c1, by rw [e, HN.out]⟩); obtain ⟨A1, c1, rfl⟩ := hn1; have HS1 := Lib.hid hs1; have HB1 := Lib.hid (below_up (w := w) hb (by with_reducible repeat (first | exact HB0.out | refine below_drewN ?_ _ | refine pdrew ?_))); have k21 : Blk w1 w.heap.size 27 #[.int .i64 g, .slice A n c] := blk_up hb (by with_reducible repeat (first | exact K2.out | refine Blk.drewN ?_ _ | refine Blk.drew ?_)); have K21 := Lib.hid k21; have hz21 := K21.out.lt; clear hs1 hb k21)
                | (go_at_call 18; refine (GT.out _ _ (sl_up HSLS.out HB1.out)).mono ?_; rintro e w2 ⟨A2, n2, c2, rfl, hbt, hb⟩; have hba := palloc (Below.refl w2.heap.size w2) (Obj.cells #[.int .i64 p.kind, .int .i64 p.gen, .int .i64 p.mark, .int .i64 p.index, .int .i64 p.part, .int .i64 p.parts, .slice A2 n2 c2] 43); have hbb := hb.trans (hba.mono hb.size); have HS2 := Lib.hid (HS1.out.up hbb); have HB2 := Lib.hid (HB1.out.trans (hbb.mono HB1.out.size)); have K22 := Lib.hid (K21.out.below hbb hz21); have K10 := Lib.hid (Blk.new w2 43 #[.int .i64 p.kind, .int .i64 p.gen, .int .i64 p.mark, .int .i64 p.index, .int .i64 p.part, .int .i64 p.parts, .slice A2 n2 c2]); have hz22 := K22.out.lt; have hz10 := K10.out.lt; have b0 := K22.out.cell 0; have p1 := K10.out.cell 1; have p2 := K10.out.cell 2; simp at b0 p1 p2; clear hb hba hbb hbt)
                | (at_builtin; obtain ⟨us, hsrc0⟩ := slSrc_of HS2.out; have hsrc := hsrc0.below (palloc (Below.refl (w2.alloc (Obj.cells #[.int .i64 p.kind, .int .i64 p.gen, .int .i64 p.mark, .int .i64 p.index, .int .i64 p.part, .int .i64 p.parts, .slice A2 n2 c2] 43)).heap.size (w2.alloc (Obj.cells #[.int .i64 p.kind, .int .i64 p.gen, .int .i64 p.mark, .int .i64 p.index, .int .i64 p.part, .int .i64 p.parts, .slice A2 n2 c2] 43))) (Obj.cells #[] 25)); have SRC := Lib.hid hsrc; have OL := Lib.hid (ownN_litg (w2.alloc (Obj.cells #[.int .i64 p.kind, .int .i64 p.gen, .int .i64 p.mark, .int .i64 p.index, .int .i64 p.part, .int .i64 p.parts, .slice A2 n2 c2] 43)) (w2.alloc (Obj.cells #[.int .i64 p.kind, .int .i64 p.gen, .int .i64 p.mark, .int .i64 p.index, .int .i64 p.part, .int .i64 p.parts, .slice A2 n2 c2] 43)).heap.size (w2.heap.size + 1) (by simp) (Nat.le_refl _)); clear hsrc hsrc0; refine wpList_append_n _ rfl (.tmp 70) (.tmp 71) 22 rfl (w2.alloc (Obj.cells #[.int .i64 p.kind, .int .i64 p.gen, .int .i64 p.mark, .int .i64 p.index, .int .i64 p.part, .int .i64 p.parts, .slice A2 n2 c2] 43)).heap.size 25 i0 (.slice none 0 0) 1 24 Try.underlying22 HI.out HZ0.out HZ1.out HZ2.out rfl (by decide) zSl_nob (.slice (some ⟨w2.heap.size + 1, 0, none⟩) 0 0) 0 [] rfl OL.out (w2.alloc (Obj.cells #[.int .i64 p.kind, .int .i64 p.gen, .int .i64 p.mark, .int .i64 p.index, .int .i64 p.part, .int .i64 p.parts, .slice A2 n2 c2] 43)).heap.size A1 N c1 us rfl SRC.out.reads SRC.out.ones SRC.out.nob ?h63 ?hby ?hbase ?_; (case h63 => (unfold maxLen; omega)); (case hby => omega); (case hbase => simp); intro v5 w5 hown5 hg5 _; have hr5 := slRow_all (ss := []) (vs := []) rfl OL.out.2 (fun i hi => absurd hi (by simp)) (by simp) SRC.out (by rw [List.length_nil]; exact hown5) hg5; have hb5 := (palloc (Below.refl (w2.alloc (Obj.cells #[.int .i64 p.kind, .int .i64 p.gen, .int .i64 p.mark, .int .i64 p.index, .int .i64 p.part, .int .i64 p.parts, .slice A2 n2 c2] 43)).heap.size (w2.alloc (Obj.cells #[.int .i64 p.kind, .int .i64 p.gen, .int .i64 p.mark, .int .i64 p.index, .int .i64 p.part, .int .i64 p.parts, .slice A2 n2 c2] 43))) (Obj.cells #[] 25)).grown hg5 (palloc (Below.refl (w2.alloc (Obj.cells #[.int .i64 p.kind, .int .i64 p.gen, .int .i64 p.mark, .int .i64 p.index, .int .i64 p.part, .int .i64 p.parts, .slice A2 n2 c2] 43)).heap.size (w2.alloc (Obj.cells #[.int .i64 p.kind, .int .i64 p.gen, .int .i64 p.mark, .int .i64 p.index, .int .i64 p.part, .int .i64 p.parts, .slice A2 n2 c2] 43))) (Obj.cells #[] 25)).size (fun q hq => by simp [Value.ownBlock] at hq; subst hq; simp); rw [List.nil_append] at hr5; obtain ⟨gl, cap5, rfl, hgl, hgz⟩ := slRow_form hr5 HN.out.symm hN0; obtain ⟨⟨u5, hu5, ho5⟩, hf5⟩ := slRow_cell hr5 HN.out.symm hkN; have HR5 := Lib.hid hr5; have HB5 := Lib.hid (HB2.out.trans (hb5.mono HB2.out.size)); have K105 := Lib.hid (K10.out.below hb5 hz10); have HG5 := Lib.hid hgl; clear hr5 hb5 hown5 hg5 hgl)
                | (go_at_call 8; have hst := slRow_set HR5.out HN.out.symm hkN (sl_up HSLS.out HB5.out); have hb6 := HB5.out.grown hst.2 HB5.out.size (fun q hq => by cases hq; exact Nat.le_trans HB2.out.size HG5.out); have K106 := Lib.hid (K105.out.grown hst.2 (fun e => by injection e with e; have h8 := HG5.out; omega)); have HB6 := Lib.hid hb6; have hz106 := K106.out.lt; have hS6 := slRow_sls hst.1; refine (LD.out _ _ _ hS6).mono ?_; rintro e w7 ⟨A7, n7, c7, rfl, hbt, hb⟩; have hba := palloc (Below.refl w7.heap.size w7) (Obj.cells #[.int .i64 gx, .slice A7 n7 c7] 27); have hbb := hb.trans (hba.mono hb.size); have HB7 := Lib.hid (HB6.out.trans (hbb.mono HB6.out.size)); have p5 := (K106.out.below hbb hz106).cell 5; simp at p5; clear hst hb6 hS6 hbt hb hba hbb)
                | (go_at_call 7; refine (awake7_any _).mono ?_; rintro e w9 ⟨rfl, hb⟩; have HB9 := Lib.hid (HB7.out.trans (hb.mono HB7.out.size)); clear hb))
              go_ret
              exact ⟨rfl, HB9.out⟩
            · rw [hg] at hq
              injection hq with hq
              subst hq
              have e5 : (p.parts == 1) = true := by simp [hq1]
              have e6 : ((k : Int) == 0) = true := by simp [hk0]
              clear hto' hg hq1 hk0
              cases is
              · skip
                obtain ⟨i0, hi, hz0, hz1, hz2⟩ := info_parts info25
                have HI := Lib.hid hi; clear hi
                have HZ0 := Lib.hid hz0; clear hz0
                have HZ1 := Lib.hid hz1; clear hz1
                have HZ2 := Lib.hid hz2; clear hz2
                go_enter Try.func5, Try.ntmps5
                go_wp2
                go_quiet (fail)
                go_wp2_with (first
                  | (go_at_call 15; refine (SE.out _ ?hb1).mono ?_; (case hb1 => with_reducible repeat (first | exact HB0.out | refine below_drewN ?_ _ | refine pdrew ?_)); rintro e w1 ⟨v1, rfl, hs1, hb⟩; have hn1 : ∃ A1 c1, v1 = .slice A1 N c1 := (by obtain ⟨A1, c1, e⟩ := sls_form hs1; exact ⟨A1, c1, by rw [e, HN.out]⟩); obtain ⟨A1, c1, rfl⟩ := hn1; have HS1 := Lib.hid hs1; have HB1 := Lib.hid (below_up (w := w) hb (by with_reducible repeat (first | exact HB0.out | refine below_drewN ?_ _ | refine pdrew ?_))); have k21 : Blk w1 w.heap.size 27 #[.int .i64 g, .slice A n c] := blk_up hb (by with_reducible repeat (first | exact K2.out | refine Blk.drewN ?_ _ | refine Blk.drew ?_)); have K21 := Lib.hid k21; have hz21 := K21.out.lt; clear hs1 hb k21)
                  | (go_at_call 18; refine (GT.out _ _ (sl_up HSLS.out HB1.out)).mono ?_; rintro e w2 ⟨A2, n2, c2, rfl, hbt, hb⟩; have hba := palloc (Below.refl w2.heap.size w2) (Obj.cells #[.int .i64 p.kind, .int .i64 p.gen, .int .i64 p.mark, .int .i64 p.index, .int .i64 p.part, .int .i64 p.parts, .slice A2 n2 c2] 43); have hbb := hb.trans (hba.mono hb.size); have HS2 := Lib.hid (HS1.out.up hbb); have HB2 := Lib.hid (HB1.out.trans (hbb.mono HB1.out.size)); have K22 := Lib.hid (K21.out.below hbb hz21); have K10 := Lib.hid (Blk.new w2 43 #[.int .i64 p.kind, .int .i64 p.gen, .int .i64 p.mark, .int .i64 p.index, .int .i64 p.part, .int .i64 p.parts, .slice A2 n2 c2]); have hz22 := K22.out.lt; have hz10 := K10.out.lt; have b0 := K22.out.cell 0; have p1 := K10.out.cell 1; have p2 := K10.out.cell 2; simp at b0 p1 p2; clear hb hba hbb hbt)
                  | (at_builtin; obtain ⟨us, hsrc0⟩ := slSrc_of HS2.out; have hsrc := hsrc0.below (palloc (Below.refl (w2.alloc (Obj.cells #[.int .i64 p.kind, .int .i64 p.gen, .int .i64 p.mark, .int .i64 p.index, .int .i64 p.part, .int .i64 p.parts, .slice A2 n2 c2] 43)).heap.size (w2.alloc (Obj.cells #[.int .i64 p.kind, .int .i64 p.gen, .int .i64 p.mark, .int .i64 p.index, .int .i64 p.part, .int .i64 p.parts, .slice A2 n2 c2] 43))) (Obj.cells #[] 25)); have SRC := Lib.hid hsrc; have OL := Lib.hid (ownN_litg (w2.alloc (Obj.cells #[.int .i64 p.kind, .int .i64 p.gen, .int .i64 p.mark, .int .i64 p.index, .int .i64 p.part, .int .i64 p.parts, .slice A2 n2 c2] 43)) (w2.alloc (Obj.cells #[.int .i64 p.kind, .int .i64 p.gen, .int .i64 p.mark, .int .i64 p.index, .int .i64 p.part, .int .i64 p.parts, .slice A2 n2 c2] 43)).heap.size (w2.heap.size + 1) (by simp) (Nat.le_refl _)); clear hsrc hsrc0; refine wpList_append_n _ rfl (.tmp 70) (.tmp 71) 22 rfl (w2.alloc (Obj.cells #[.int .i64 p.kind, .int .i64 p.gen, .int .i64 p.mark, .int .i64 p.index, .int .i64 p.part, .int .i64 p.parts, .slice A2 n2 c2] 43)).heap.size 25 i0 (.slice none 0 0) 1 24 Try.underlying22 HI.out HZ0.out HZ1.out HZ2.out rfl (by decide) zSl_nob (.slice (some ⟨w2.heap.size + 1, 0, none⟩) 0 0) 0 [] rfl OL.out (w2.alloc (Obj.cells #[.int .i64 p.kind, .int .i64 p.gen, .int .i64 p.mark, .int .i64 p.index, .int .i64 p.part, .int .i64 p.parts, .slice A2 n2 c2] 43)).heap.size A1 N c1 us rfl SRC.out.reads SRC.out.ones SRC.out.nob ?h63 ?hby ?hbase ?_; (case h63 => (unfold maxLen; omega)); (case hby => omega); (case hbase => simp); intro v5 w5 hown5 hg5 _; have hr5 := slRow_all (ss := []) (vs := []) rfl OL.out.2 (fun i hi => absurd hi (by simp)) (by simp) SRC.out (by rw [List.length_nil]; exact hown5) hg5; have hb5 := (palloc (Below.refl (w2.alloc (Obj.cells #[.int .i64 p.kind, .int .i64 p.gen, .int .i64 p.mark, .int .i64 p.index, .int .i64 p.part, .int .i64 p.parts, .slice A2 n2 c2] 43)).heap.size (w2.alloc (Obj.cells #[.int .i64 p.kind, .int .i64 p.gen, .int .i64 p.mark, .int .i64 p.index, .int .i64 p.part, .int .i64 p.parts, .slice A2 n2 c2] 43))) (Obj.cells #[] 25)).grown hg5 (palloc (Below.refl (w2.alloc (Obj.cells #[.int .i64 p.kind, .int .i64 p.gen, .int .i64 p.mark, .int .i64 p.index, .int .i64 p.part, .int .i64 p.parts, .slice A2 n2 c2] 43)).heap.size (w2.alloc (Obj.cells #[.int .i64 p.kind, .int .i64 p.gen, .int .i64 p.mark, .int .i64 p.index, .int .i64 p.part, .int .i64 p.parts, .slice A2 n2 c2] 43))) (Obj.cells #[] 25)).size (fun q hq => by simp [Value.ownBlock] at hq; subst hq; simp); rw [List.nil_append] at hr5; obtain ⟨gl, cap5, rfl, hgl, hgz⟩ := slRow_form hr5 HN.out.symm hN0; obtain ⟨⟨u5, hu5, ho5⟩, hf5⟩ := slRow_cell hr5 HN.out.symm hkN; have HR5 := Lib.hid hr5; have HB5 := Lib.hid (HB2.out.trans (hb5.mono HB2.out.size)); have K105 := Lib.hid (K10.out.below hb5 hz10); have HG5 := Lib.hid hgl; clear hr5 hb5 hown5 hg5 hgl)
                  | (go_at_call 8; have hst := slRow_set HR5.out HN.out.symm hkN (sl_up HSLS.out HB5.out); have hb6 := HB5.out.grown hst.2 HB5.out.size (fun q hq => by cases hq; exact Nat.le_trans HB2.out.size HG5.out); have K106 := Lib.hid (K105.out.grown hst.2 (fun e => by injection e with e; have h8 := HG5.out; omega)); have HB6 := Lib.hid hb6; have hz106 := K106.out.lt; have hS6 := slRow_sls hst.1; refine (LD.out _ _ _ hS6).mono ?_; rintro e w7 ⟨A7, n7, c7, rfl, hbt, hb⟩; have hba := palloc (Below.refl w7.heap.size w7) (Obj.cells #[.int .i64 gx, .slice A7 n7 c7] 27); have hbb := hb.trans (hba.mono hb.size); have HB7 := Lib.hid (HB6.out.trans (hbb.mono HB6.out.size)); have p5 := (K106.out.below hbb hz106).cell 5; simp at p5; clear hst hb6 hS6 hbt hb hba hbb)
                  | (go_at_call 7; refine (awake7_any _).mono ?_; rintro e w9 ⟨rfl, hb⟩; have HB9 := Lib.hid (HB7.out.trans (hb.mono HB7.out.size)); clear hb))
                go_ret
                exact ⟨rfl, HB9.out⟩
              · skip
                obtain ⟨i0, hi, hz0, hz1, hz2⟩ := info_parts info25
                have HI := Lib.hid hi; clear hi
                have HZ0 := Lib.hid hz0; clear hz0
                have HZ1 := Lib.hid hz1; clear hz1
                have HZ2 := Lib.hid hz2; clear hz2
                go_enter Try.func5, Try.ntmps5
                go_wp2
                go_quiet (fail)
                go_wp2_with (first
                  | (go_at_call 15; refine (SE.out _ ?hb1).mono ?_; (case hb1 => with_reducible repeat (first | exact HB0.out | refine below_drewN ?_ _ | refine pdrew ?_)); rintro e w1 ⟨v1, rfl, hs1, hb⟩; have hn1 : ∃ A1 c1, v1 = .slice A1 N c1 := (by obtain ⟨A1, c1, e⟩ := sls_form hs1; exact ⟨A1, c1, by rw [e, HN.out]⟩); obtain ⟨A1, c1, rfl⟩ := hn1; have HS1 := Lib.hid hs1; have HB1 := Lib.hid (below_up (w := w) hb (by with_reducible repeat (first | exact HB0.out | refine below_drewN ?_ _ | refine pdrew ?_))); have k21 : Blk w1 w.heap.size 27 #[.int .i64 g, .slice A n c] := blk_up hb (by with_reducible repeat (first | exact K2.out | refine Blk.drewN ?_ _ | refine Blk.drew ?_)); have K21 := Lib.hid k21; have hz21 := K21.out.lt; clear hs1 hb k21)
                  | (go_at_call 18; refine (GT.out _ _ (sl_up HSLS.out HB1.out)).mono ?_; rintro e w2 ⟨A2, n2, c2, rfl, hbt, hb⟩; have hba := palloc (Below.refl w2.heap.size w2) (Obj.cells #[.int .i64 p.kind, .int .i64 p.gen, .int .i64 p.mark, .int .i64 p.index, .int .i64 p.part, .int .i64 p.parts, .slice A2 n2 c2] 43); have hbb := hb.trans (hba.mono hb.size); have HS2 := Lib.hid (HS1.out.up hbb); have HB2 := Lib.hid (HB1.out.trans (hbb.mono HB1.out.size)); have K22 := Lib.hid (K21.out.below hbb hz21); have K10 := Lib.hid (Blk.new w2 43 #[.int .i64 p.kind, .int .i64 p.gen, .int .i64 p.mark, .int .i64 p.index, .int .i64 p.part, .int .i64 p.parts, .slice A2 n2 c2]); have hz22 := K22.out.lt; have hz10 := K10.out.lt; have b0 := K22.out.cell 0; have p1 := K10.out.cell 1; have p2 := K10.out.cell 2; simp at b0 p1 p2; clear hb hba hbb hbt)
                  | (at_builtin; obtain ⟨us, hsrc0⟩ := slSrc_of HS2.out; have hsrc := hsrc0.below (palloc (Below.refl (w2.alloc (Obj.cells #[.int .i64 p.kind, .int .i64 p.gen, .int .i64 p.mark, .int .i64 p.index, .int .i64 p.part, .int .i64 p.parts, .slice A2 n2 c2] 43)).heap.size (w2.alloc (Obj.cells #[.int .i64 p.kind, .int .i64 p.gen, .int .i64 p.mark, .int .i64 p.index, .int .i64 p.part, .int .i64 p.parts, .slice A2 n2 c2] 43))) (Obj.cells #[] 25)); have SRC := Lib.hid hsrc; have OL := Lib.hid (ownN_litg (w2.alloc (Obj.cells #[.int .i64 p.kind, .int .i64 p.gen, .int .i64 p.mark, .int .i64 p.index, .int .i64 p.part, .int .i64 p.parts, .slice A2 n2 c2] 43)) (w2.alloc (Obj.cells #[.int .i64 p.kind, .int .i64 p.gen, .int .i64 p.mark, .int .i64 p.index, .int .i64 p.part, .int .i64 p.parts, .slice A2 n2 c2] 43)).heap.size (w2.heap.size + 1) (by simp) (Nat.le_refl _)); clear hsrc hsrc0; refine wpList_append_n _ rfl (.tmp 70) (.tmp 71) 22 rfl (w2.alloc (Obj.cells #[.int .i64 p.kind, .int .i64 p.gen, .int .i64 p.mark, .int .i64 p.index, .int .i64 p.part, .int .i64 p.parts, .slice A2 n2 c2] 43)).heap.size 25 i0 (.slice none 0 0) 1 24 Try.underlying22 HI.out HZ0.out HZ1.out HZ2.out rfl (by decide) zSl_nob (.slice (some ⟨w2.heap.size + 1, 0, none⟩) 0 0) 0 [] rfl OL.out (w2.alloc (Obj.cells #[.int .i64 p.kind, .int .i64 p.gen, .int .i64 p.mark, .int .i64 p.index, .int .i64 p.part, .int .i64 p.parts, .slice A2 n2 c2] 43)).heap.size A1 N c1 us rfl SRC.out.reads SRC.out.ones SRC.out.nob ?h63 ?hby ?hbase ?_; (case h63 => (unfold maxLen; omega)); (case hby => omega); (case hbase => simp); intro v5 w5 hown5 hg5 _; have hr5 := slRow_all (ss := []) (vs := []) rfl OL.out.2 (fun i hi => absurd hi (by simp)) (by simp) SRC.out (by rw [List.length_nil]; exact hown5) hg5; have hb5 := (palloc (Below.refl (w2.alloc (Obj.cells #[.int .i64 p.kind, .int .i64 p.gen, .int .i64 p.mark, .int .i64 p.index, .int .i64 p.part, .int .i64 p.parts, .slice A2 n2 c2] 43)).heap.size (w2.alloc (Obj.cells #[.int .i64 p.kind, .int .i64 p.gen, .int .i64 p.mark, .int .i64 p.index, .int .i64 p.part, .int .i64 p.parts, .slice A2 n2 c2] 43))) (Obj.cells #[] 25)).grown hg5 (palloc (Below.refl (w2.alloc (Obj.cells #[.int .i64 p.kind, .int .i64 p.gen, .int .i64 p.mark, .int .i64 p.index, .int .i64 p.part, .int .i64 p.parts, .slice A2 n2 c2] 43)).heap.size (w2.alloc (Obj.cells #[.int .i64 p.kind, .int .i64 p.gen, .int .i64 p.mark, .int .i64 p.index, .int .i64 p.part, .int .i64 p.parts, .slice A2 n2 c2] 43))) (Obj.cells #[] 25)).size (fun q hq => by simp [Value.ownBlock] at hq; subst hq; simp); rw [List.nil_append] at hr5; obtain ⟨gl, cap5, rfl, hgl, hgz⟩ := slRow_form hr5 HN.out.symm hN0; obtain ⟨⟨u5, hu5, ho5⟩, hf5⟩ := slRow_cell hr5 HN.out.symm hkN; have HR5 := Lib.hid hr5; have HB5 := Lib.hid (HB2.out.trans (hb5.mono HB2.out.size)); have K105 := Lib.hid (K10.out.below hb5 hz10); have HG5 := Lib.hid hgl; clear hr5 hb5 hown5 hg5 hgl)
                  | (go_at_call 8; have hst := slRow_set HR5.out HN.out.symm hkN (sl_up HSLS.out HB5.out); have hb6 := HB5.out.grown hst.2 HB5.out.size (fun q hq => by cases hq; exact Nat.le_trans HB2.out.size HG5.out); have K106 := Lib.hid (K105.out.grown hst.2 (fun e => by injection e with e; have h8 := HG5.out; omega)); have HB6 := Lib.hid hb6; have hz106 := K106.out.lt; have hS6 := slRow_sls hst.1; refine (LD.out _ _ _ hS6).mono ?_; rintro e w7 ⟨A7, n7, c7, rfl, hbt, hb⟩; have hba := palloc (Below.refl w7.heap.size w7) (Obj.cells #[.int .i64 gx, .slice A7 n7 c7] 27); have hbb := hb.trans (hba.mono hb.size); have HB7 := Lib.hid (HB6.out.trans (hbb.mono HB6.out.size)); have p5 := (K106.out.below hbb hz106).cell 5; simp at p5; clear hst hb6 hS6 hbt hb hba hbb)
                  | (go_at_call 7; refine (awake7_any _).mono ?_; rintro e w9 ⟨rfl, hb⟩; have HB9 := Lib.hid (HB7.out.trans (hb.mono HB7.out.size)); clear hb))
                go_ret
                exact ⟨rfl, HB9.out⟩
      · have hee : (ec != 0) = true := by rw [bne_iff_ne]; exact he
        clear he
        cases hg : got s with
        | none =>
          have gt := fun (v : Value) (W : World) (hs : Sl W W.heap.size v s) => rget_none v s W hs (by have := HL.out; omega) hg
          have GT := Lib.hid gt; clear gt hg
          go_enter Try.func5, Try.ntmps5
          go_wp2
          go_quiet (fail)
          go_wp2_with (first
            | (go_at_call 15; refine (SE.out _ ?hb1).mono ?_; (case hb1 => with_reducible repeat (first | exact HB0.out | refine below_drewN ?_ _ | refine pdrew ?_)); rintro e w1 ⟨v1, rfl, hs1, hb⟩; have hn1 : ∃ A1 c1, v1 = .slice A1 N c1 := (by obtain ⟨A1, c1, e⟩ := sls_form hs1; exact ⟨A1, c1, by rw [e, HN.out]⟩); obtain ⟨A1, c1, rfl⟩ := hn1; have HS1 := Lib.hid hs1; have HB1 := Lib.hid (below_up (w := w) hb (by with_reducible repeat (first | exact HB0.out | refine below_drewN ?_ _ | refine pdrew ?_))); have k21 : Blk w1 w.heap.size 27 #[.int .i64 g, .slice A n c] := blk_up hb (by with_reducible repeat (first | exact K2.out | refine Blk.drewN ?_ _ | refine Blk.drew ?_)); have K21 := Lib.hid k21; have hz21 := K21.out.lt; clear hs1 hb k21)
            | (go_at_call 18; refine (GT.out _ _ (sl_up HSLS.out HB1.out)).mono ?_; rintro e w2 ⟨A2, n2, c2, rfl, hb⟩; have hba := palloc (Below.refl w2.heap.size w2) (Obj.cells #[.int .i64 0, .int .i64 0, .int .i64 0, .int .i64 0, .int .i64 0, .int .i64 0, .slice A2 n2 c2] 43); have hbb := hb.trans (hba.mono hb.size); have HS2 := Lib.hid (HS1.out.up hbb); have HB2 := Lib.hid (HB1.out.trans (hbb.mono HB1.out.size)); have K22 := Lib.hid (K21.out.below hbb hz21); have K10 := Lib.hid (Blk.new w2 43 #[.int .i64 0, .int .i64 0, .int .i64 0, .int .i64 0, .int .i64 0, .int .i64 0, .slice A2 n2 c2]); have hz22 := K22.out.lt; have hz10 := K10.out.lt; have b0 := K22.out.cell 0; have p1 := K10.out.cell 1; have p2 := K10.out.cell 2; simp at b0 p1 p2; clear hb hba hbb)
            | (go_at_call 7; refine (awake7_any _).mono ?_; rintro e w9 ⟨rfl, hb⟩; have HB9 := Lib.hid (HB2.out.trans (hb.mono HB2.out.size)); clear hb))
          go_ret
          exact ⟨rfl, HB9.out⟩
        | some p =>
          have gt := fun (v : Value) (W : World) (hs : Sl W W.heap.size v s) => rget_some v s p W hs (by have := HL.out; omega) hg
          have GT := Lib.hid gt; clear gt hg
          go_enter Try.func5, Try.ntmps5
          go_wp2
          go_quiet (fail)
          go_wp2_with (first
            | (go_at_call 15; refine (SE.out _ ?hb1).mono ?_; (case hb1 => with_reducible repeat (first | exact HB0.out | refine below_drewN ?_ _ | refine pdrew ?_)); rintro e w1 ⟨v1, rfl, hs1, hb⟩; have hn1 : ∃ A1 c1, v1 = .slice A1 N c1 := (by obtain ⟨A1, c1, e⟩ := sls_form hs1; exact ⟨A1, c1, by rw [e, HN.out]⟩); obtain ⟨A1, c1, rfl⟩ := hn1; have HS1 := Lib.hid hs1; have HB1 := Lib.hid (below_up (w := w) hb (by with_reducible repeat (first | exact HB0.out | refine below_drewN ?_ _ | refine pdrew ?_))); have k21 : Blk w1 w.heap.size 27 #[.int .i64 g, .slice A n c] := blk_up hb (by with_reducible repeat (first | exact K2.out | refine Blk.drewN ?_ _ | refine Blk.drew ?_)); have K21 := Lib.hid k21; have hz21 := K21.out.lt; clear hs1 hb k21)
            | (go_at_call 18; refine (GT.out _ _ (sl_up HSLS.out HB1.out)).mono ?_; rintro e w2 ⟨A2, n2, c2, rfl, hbt, hb⟩; have hba := palloc (Below.refl w2.heap.size w2) (Obj.cells #[.int .i64 p.kind, .int .i64 p.gen, .int .i64 p.mark, .int .i64 p.index, .int .i64 p.part, .int .i64 p.parts, .slice A2 n2 c2] 43); have hbb := hb.trans (hba.mono hb.size); have HS2 := Lib.hid (HS1.out.up hbb); have HB2 := Lib.hid (HB1.out.trans (hbb.mono HB1.out.size)); have K22 := Lib.hid (K21.out.below hbb hz21); have K10 := Lib.hid (Blk.new w2 43 #[.int .i64 p.kind, .int .i64 p.gen, .int .i64 p.mark, .int .i64 p.index, .int .i64 p.part, .int .i64 p.parts, .slice A2 n2 c2]); have hz22 := K22.out.lt; have hz10 := K10.out.lt; have b0 := K22.out.cell 0; have p1 := K10.out.cell 1; have p2 := K10.out.cell 2; simp at b0 p1 p2; clear hb hba hbb hbt)
            | (go_at_call 7; refine (awake7_any _).mono ?_; rintro e w9 ⟨rfl, hb⟩; have HB9 := Lib.hid (HB2.out.trans (hb.mono HB2.out.size)); clear hb))
          go_ret
          exact ⟨rfl, HB9.out⟩
    · have hd2 : decide (600 < (n' : Int)) = true := by simp only [decide_eq_true_eq]; omega
      clear h h'
      go_enter Try.func5, Try.ntmps5
      go_wp2
      go_quiet (fail)
      go_wp2_with (first
        | (go_at_call 7; refine (awake7_any _).mono ?_; rintro e w9 ⟨rfl, hb⟩; have HB9 := Lib.hid (below_up (w := w) hb (by with_reducible repeat (first | exact HB0.out | refine below_drewN ?_ _ | refine pdrew ?_))); clear hb))
      go_ret
      exact ⟨rfl, HB9.out⟩
  · have hd : decide (8000 < (n : Int)) = true := by simp only [decide_eq_true_eq]; omega
    clear h h'
    go_enter Try.func5, Try.ntmps5
    go_wp2
    go_quiet (fail)
    go_wp2_with (first
      | (go_at_call 7; refine (awake7_any _).mono ?_; rintro e w9 ⟨rfl, hb⟩; have HB9 := Lib.hid (below_up (w := w) hb (by with_reducible repeat (first | exact HB0.out | refine below_drewN ?_ _ | refine pdrew ?_))); clear hb))
    go_ret
    exact ⟨rfl, HB9.out⟩
open Go.ChangeShapes Go.WideShapes Go.ChangeAt Go.RowKit
theorem own : ownKnob Try.prog.godebug = none := by kernel_rfl
theorem laidOut : laidOutB Try.prog = true := by kernel_rfl
theorem walk (a0a : Int) (a0b : Option Addr) (len0b cap0b : Nat) (z0b : List Int) (a1a a1b : Int) (a1c : Option Addr) (len1c cap1c : Nat) (z1c : List Int) (w : World) (w0a : (Lit.int .i64 a0a).wf = true) (w0b : IsRow .u8 w a0b len0b cap0b z0b) (w1a : (Lit.int .i64 a1a).wf = true) (w1b : (Lit.int .u8 a1b).wf = true) (w1c : IsRow .u8 w a1c len1c cap1c z1c) :
    Calls Try.prog 5 #[.agg #[.int .i64 a0a, .slice a0b len0b cap0b], .agg #[.int .i64 a1a, .int .u8 a1b, .slice a1c len1c cap1c]] w fun e w' => e = .returned (.bool true) ∧ Below w.heap.size w w' := by
  have hb := Go.bounds_u8 w1b
  obtain ⟨t, rfl⟩ : ∃ t : Nat, a1b = t := ⟨a1b.toNat, by omega⟩
  exact tears_true a0a a1a t a0b a1c len0b len1c cap0b cap1c z0b z1c w (by omega) w0b w1c
/-! the step from the walk to the row -/
set_option maxRecDepth 100000 in
theorem lifted (os : Os) (started : os.Started) (H : Type) (enc : TypeId × Value → H) :
    ReturnsInHanded {} Try.checked os 5 .any (Rows.slotTearsSpec.pre6 enc Try.prog Try.f5 Rows.slotTearsRow.domain false) (Rows.slotTearsSpec.post enc Try.prog Try.f5 false true false false) := by
  refine returnsInHanded_of_change (C := Try.checked) own started (by kernel_rfl) Try.func5
    (ChangeSpec.witness6 (enc := enc) (C := Try.checked) false ⟨#[], #[.agg #[.int .i64 0, .slice none 0 0], .agg #[.int .i64 0, .int .u8 0, .slice none 0 0]], []⟩ 8 (by kernel_rfl) (by kernel_rfl) (by kernel_rfl) (by kernel_rfl)) ?_
  intro W base args ds gs before hval0 hW hcnd _
  have hval : ∀ (j : Nat) t v, Try.f5.params[j]? = some t → args[j]? = some v → Value.okWide Try.prog W .any base t v := hval0
  have hW' := hW
  obtain ⟨p, q, hA0, hV, rfl, hfz, hnd⟩ := hW
  have hA : DataW.TrodAll enc Try.prog W 0 (fun _ => true) true Try.f5.params.toList args.toList ds p := hA0
  rw [Try.params5] at hA hval
  obtain ⟨v0, vs0, d0, ds0, p0, q0, hargs, rfl, rfl, h0, r0⟩ := trodAll_cons hA
  obtain ⟨v1, vs1, d1, ds1, p1, q1, rfl, rfl, rfl, h1, r1⟩ := trodAll_cons r0
  obtain ⟨rfl, rfl, rfl⟩ := trodAll_nil r1
  obtain rfl : args = #[v0, v1] := by cases args; simp_all
  obtain ⟨rfl, rfl⟩ := trodVars_none hV
  have k0 := h0
  have lt0 : ∀ x ∈ p0, x.block < W.heap.size := by obtain ⟨m, hm⟩ := k0; exact DataW.trod_lt m _ _ _ hm
  obtain ⟨u0a, u0b, _, _, _, rfl, _, _, g0a, g0b⟩ := Go.Joins.open_agg2 Try.underlying27 (by kernel_rfl) (by kernel_rfl) (hval 0 27 v0 rfl rfl) h0
  obtain ⟨a0a, rfl, w0a⟩ := open_num_at Try.underlying3 g0a
  obtain ⟨a0b, len0b, cap0b, z0b, rfl, w0b⟩ := open_row_at Try.underlying25 Try.underlying5 (by kernel_rfl) g0b
  have k1 := h1
  have lt1 : ∀ x ∈ p1, x.block < W.heap.size := by obtain ⟨m, hm⟩ := k1; exact DataW.trod_lt m _ _ _ hm
  obtain ⟨u1a, u1b, u1c, _, _, _, _, rfl, _, _, g1a, g1b, g1c⟩ := Go.Joins.open_agg3 Try.underlying41 (by kernel_rfl) (by kernel_rfl) (hval 1 41 v1 rfl rfl) h1
  obtain ⟨a1a, rfl, w1a⟩ := open_num_at Try.underlying3 g1a
  obtain ⟨a1b, rfl, w1b⟩ := open_num_at Try.underlying5 g1b
  obtain ⟨a1c, len1c, cap1c, z1c, rfl, w1c⟩ := open_row_at Try.underlying25 Try.underlying5 (by kernel_rfl) g1c
  clear hA0 hval0
  refine (walk a0a a0b len0b cap0b z0b a1a a1b a1c len1c cap1c z1c W w0a w0b w1a w1b w1c).mono fun e W' ⟨he, bel⟩ => ?_
  subst he
  exact ⟨_, rfl, _, _, _, [], _, [], hW', trodAll_mk1 (shut_bool Try.underlying4 _), (trodAll_cons_mk (Below.trod laidOut (by kernel_rfl) (of_decide_eq_true (by kernel_rfl)) k0 bel lt0) (trodAll_cons_mk (Below.trod laidOut (by kernel_rfl) (of_decide_eq_true (by kernel_rfl)) k1 bel lt1) trodAll_mk0)), rfl, bel.frame _, fun h => by cases h⟩

theorem over : Rows.slotTearsRow.holds Try.pinned (OpenSpec.ofChange Rows.slotTearsSpec) :=
  OpenClaim.holds_of_wide 5 Try.f5 rfl rfl rfl rfl rfl rfl rfl ⟨rfl, rfl, rfl, rfl, rfl⟩ rfl rfl rfl rfl rfl (by kernel_rfl) Try.func5 (by kernel_rfl)
    (of_decide_eq_true (by kernel_rfl)) (by unfold Func.isWrapper; first | (rw [if_pos (by decide +kernel)]; kernel_rfl) | (rw [if_neg (by decide +kernel)]; exact ⟨rfl, rfl⟩))
    (fun os started H enc _ => lifted os started H enc)

/-- the statement -/
theorem proved : Rows.SlotTearsSaid := over
end Go.Proofs.Ytkidjlmjjfgknaa.slotTears
