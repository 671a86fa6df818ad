/- The reference's log (layer 8): it commits, where it does. -/
import Derived.Test.YtnenbocjfekmfaaGreatWalRefCommit
namespace Go.Proofs.YtnenbocjfekmfaaGreat.Wl
open Go.RowKit Go.Proofs.YtnenbocjfekmfaaGreat.Mem Go.Proofs.YtnenbocjfekmfaaGreat.Pg Go.Proofs.YtnenbocjfekmfaaGreat.Rcd Go.Proofs.YtnenbocjfekmfaaGreat.Slt
open Go.Proofs.YtnenbocjfekmfaaGreat.Dsk (KeptBut SMap DiskAt St kept_of_below kept_of_grown kept_drew RefAt RowS SlS Good refV armedOf)
open Go.Proofs.YtnenbocjfekmfaaGreat.Plt (sl plV sl_le sl_pos)
set_option linter.unusedVariables false
set_option linter.unusedSimpArgs false
section
variable (S : List Nat) (A1 A2 : Option Addr) (c1 c2 : Nat) (s : St) (k : Nat) (v : Wn) (A : Option Addr) (n c : Nat) (w : World)
set_option maxRecDepth 20000 in
set_option maxHeartbeats 8000000 in
theorem rcommit_goes (b : List Nat) (hf : Dsk.Fine s) (hr : RefAt w S (refV (.slice A1 s.n c1) (.slice A2 s.n c2) s) s) (hS : ∀ x ∈ S, x < w.heap.size) (hk1 : 6 ≤ k) (hk2 : k ≤ 1000) (hv : WnOk k v) (hbr : v.br = false) (hb : Sl w w.heap.size (.slice A n c) b) (hbn : b.length = n) (hn : n ≤ 7808) (hp : ¬ lg k < v.next + parts n) :
    Calls Tryz.prog 13 #[rvA A1 A2 c1 c2 s k (lg k : Nat) v true, .slice A n c] w fun e w' => ∃ val', e = .returned (.tuple #[val', .int .i64 (commitP k s v b).2.2]) ∧ RWal w' S val' (commitP k s v b).1 (sl k : Nat) (2 * (sl k : Nat)) (lg k : Nat) (commitP k s v b).2.1.gen (commitP k s v b).2.1.mark ((commitP k s v b).2.1.next : Nat) (commitP k s v b).2.1.br true ∧ Below w.heap.size w w' := by
  obtain ⟨hg0, hg1, hm0, hm1, hnx⟩ := hv
  have hlk : lg k ≤ 1000 := by unfold lg; omega
  have hpp := parts_pos hn
  have hp16 := parts_le n
  have hs16 := sl_le k
  have p := fun (W : World) => rparts_any (n : Int) W
  rw [partsI_nat] at p
  have P := Lib.hid p; clear p
  have hfit := fits_ok (p := lP v.gen v.mark v.next) (b := b) (by unfold lP; simp) ⟨hg0, hg1⟩ ⟨hm0, hm1⟩ (by unfold lP; simp only; omega) (by omega)
  have sp := fun (W : World) (hW : Below w.heap.size w W) => rsplit_any (lP v.gen v.mark v.next) (.slice none 0 0) A n c b W (sl_up hb hW) hbn (by unfold lP; simp only; omega) (by unfold lP; simp only; omega)
  have e0 : pgV (lP v.gen v.mark v.next) (.slice none 0 0) = .agg #[.int .i64 2, .int .i64 v.gen, .int .i64 v.mark, .int .i64 (v.next : Nat), .int .i64 0, .int .i64 0, .slice none 0 0] := rfl
  rw [e0] at sp
  have hpl := pages_length (lP v.gen v.mark v.next) b
  have hmay := fun i (hi : i < parts n) => fits_may (q := lP v.gen v.mark v.next) (b := b) (i := i) hfit (by rw [hbn]; exact hi)
  have hpg := fun i (hi : i < parts n) => pages_getD (lP v.gen v.mark v.next) b i (by rw [hbn]; exact hi)
  have hsl := secL_len (lP v.gen v.mark v.next) b
  have hsg := fun i (hi : i < parts n) => secL_get (lP v.gen v.mark v.next) b i (by rw [hbn]; exact hi)
  rw [hbn] at hpl hmay hpg hsl hsg
  have e1 : commitP k s v b = ((writes s (2 * sl k + v.next) (secL (lP v.gen v.mark v.next) b)).1, (if (writes s (2 * sl k + v.next) (secL (lP v.gen v.mark v.next) b)).2 = 0 then ⟨v.gen, v.mark, v.next + parts n, false⟩ else ⟨v.gen, v.mark, v.next, true⟩), (writes s (2 * sl k + v.next) (secL (lP v.gen v.mark v.next) b)).2) := by
    unfold commitP
    rw [if_neg (by rw [hbr]; simp), if_neg (by rw [hbn]; exact hp), hbn]
  obtain ⟨L, hL⟩ : ∃ L, L = secL (lP v.gen v.mark v.next) b := ⟨_, rfl⟩
  rw [← hL] at hsl hsg e1
  obtain ⟨f, hff⟩ : ∃ f, f = 2 * sl k + v.next := ⟨_, rfl⟩
  rw [← hff] at e1
  have hf2 : f ≤ 2000 := by omega
  have hl1 : L.length ≤ 1000 := by rw [hsl]; omega
  have hsa : 2 * (sl k : Int) + (v.next : Int) = (f : Int) := by omega
  obtain ⟨R, hR⟩ : ∃ R, R = writes s f L := ⟨_, rfl⟩
  rw [← hR] at e1
  obtain ⟨s', e'⟩ := R
  simp only at e1
  have wr := rw_out A1 A2 c1 c2 S s (sl k : Nat) (2 * (sl k : Nat)) (lg k : Nat) v.gen v.mark (v.next : Nat) v.br true f L w hf hr hl1 hf2 s' e' hR
  rw [e1]
  simp only
  unfold rvA
  rw [hbr] at wr ⊢
  obtain ⟨F, hF⟩ : ∃ F : Nat → List Nat, F = fun i => (nth (lP v.gen v.mark v.next) b (parts n) i).sector := ⟨_, rfl⟩
  have hFL : (List.range (parts n)).map F = L := by
    apply List.ext_getElem
    · rw [hsl]; simp
    · intro i h1 h2
      have h3 : i < parts n := by simpa using h1
      have h4 := hsg i h3
      simp only [List.getD, List.getElem?_eq_getElem h2, Option.getD_some] at h4
      rw [h4]
      simp [hF]
  obtain ⟨gen, mark, next, br⟩ := v
  simp only at wr sp hsa hg0 hg1 hm0 hm1 hnx hp hmay hpg hF ⊢
  obtain ⟨ps, hps⟩ : ∃ ps, ps = pages (lP gen mark next) b := ⟨_, rfl⟩
  have hpl' : ps.length = parts n := by rw [hps]; exact hpl
  simp only at hpl
  rw [← hps] at sp hpg
  have SP := Lib.hid sp; clear sp
  have WR := Lib.hid wr; clear wr
  have HS := Lib.hid hS; clear hS
  have HMAY := Lib.hid hmay; clear hmay
  have HPG := Lib.hid hpg; clear hpg
  have HPL := Lib.hid hpl'; clear hpl'
  have HF := Lib.hid hF; clear hF
  have HFL := Lib.hid hFL; clear hFL
  have HSA := Lib.hid hsa; clear hsa
  clear hL hff hR e0 e1 hbr hbn hb hf hr hfit hpl hsl hsg hps
  generalize parts n = m at *
  generalize lg k = q at *
  generalize sl k = l at *
  have hd1 : ((m : Int) == 0) = false := by rw [beq_eq_false_iff_ne]; omega
  have hd2 : decide ((q : Int) - (next : Int) < (m : Int)) = false := by simp; omega
  have hw1 : wrap64 ((q : Int) - (next : Int)) = (q : Int) - (next : Int) := IntWalk.wrap64_in _ (by omega)
  have hb0 : Below w.heap.size w ((w.alloc (.cells (rwA (.slice A1 s.n c1) (.slice A2 s.n c2) (armedOf s.left) s.dead (l : Nat) (2 * (l : Nat)) (q : Nat) gen mark (next : Nat) false true) 40)).alloc (.cells #[.slice none 0 0, .slice none 0 0, .int .i64 0, .bool false, .int .i64 0, .int .i64 0, .int .i64 0, .int .i64 0, .int .i64 0, .int .i64 0, .bool false, .bool false] 40)) := palloc (palloc (Below.refl _ _) _) _
  have k0 := (Blk.new w 40 (rwA (.slice A1 s.n c1) (.slice A2 s.n c2) (armedOf s.left) s.dead (l : Nat) (2 * (l : Nat)) (q : Nat) gen mark (next : Nat) false true)).alloc (.cells #[.slice none 0 0, .slice none 0 0, .int .i64 0, .bool false, .int .i64 0, .int .i64 0, .int .i64 0, .int .i64 0, .int .i64 0, .int .i64 0, .bool false, .bool false] 40)
  have k1 : Blk ((w.alloc (.cells (rwA (.slice A1 s.n c1) (.slice A2 s.n c2) (armedOf s.left) s.dead (l : Nat) (2 * (l : Nat)) (q : Nat) gen mark (next : Nat) false true) 40)).alloc (.cells #[.slice none 0 0, .slice none 0 0, .int .i64 0, .bool false, .int .i64 0, .int .i64 0, .int .i64 0, .int .i64 0, .int .i64 0, .int .i64 0, .bool false, .bool false] 40)) (w.heap.size + 1) 40 #[.slice none 0 0, .slice none 0 0, .int .i64 0, .bool false, .int .i64 0, .int .i64 0, .int .i64 0, .int .i64 0, .int .i64 0, .int .i64 0, .bool false, .bool false] := by
    have := Blk.new (w.alloc (.cells (rwA (.slice A1 s.n c1) (.slice A2 s.n c2) (armedOf s.left) s.dead (l : Nat) (2 * (l : Nat)) (q : Nat) gen mark (next : Nat) false true) 40)) 40 #[.slice none 0 0, .slice none 0 0, .int .i64 0, .bool false, .int .i64 0, .int .i64 0, .int .i64 0, .int .i64 0, .int .i64 0, .int .i64 0, .bool false, .bool false]
    simpa using this
  have HB0 := Lib.hid hb0; clear hb0
  have K0 := Lib.hid k0; clear k0
  have K1 := Lib.hid k1; clear k1
  have hT : ∀ (W : World), w.heap.size + 1 < W.heap.size → ∀ x ∈ (w.heap.size + 1) :: w.heap.size :: S, x < W.heap.size := fun W hW x hx => by
    rcases List.mem_cons.1 hx with rfl | hx
    · exact hW
    · rcases List.mem_cons.1 hx with rfl | hx
      · omega
      · have := HS.out x hx; omega
  have HT := Lib.hid hT; clear hT
  obtain ⟨i0, hi, hz0, hz1, hz2⟩ := info_parts info25
  have HI := Lib.hid hi; clear hi
  have HZ0 := Lib.hid hz0; clear hz0
  have HZ1 := Lib.hid hz1; clear hz1
  have HZ2 := Lib.hid hz2; clear hz2
  go_enter Tryz.func13, Tryz.ntmps13
  go_wp2_with (first
    | (go_at_call 45; refine (P.out _).mono ?_; rintro e w' ⟨rfl, rfl⟩)
    | (go_at_call 46; refine (SP.out _ HB0.out).mono ?_; rintro e w3 ⟨v2, rfl, hop2, hb2⟩; have hp2 := own_pgs hop2; obtain ⟨A2', n2, c2', rfl, _⟩ := id hp2; have hn2 : n2 = m := (by have h1 := (pgs_len hp2).1; have := HPL.out; omega); subst hn2; have HP3 := Lib.hid hp2; have HB3 := Lib.hid (HB0.out.trans (hb2.mono HB0.out.size)); have kb := K0.out.below hb2 K0.out.lt; have kr := K1.out.below hb2 K1.out.lt; have KB3 := Lib.hid kb; have KR3 := Lib.hid kr; clear hb2 hp2 hop2 kb kr))
  have HR0 := Lib.hid (slRow_lit w3 w3.heap.size _ rfl (Nat.le_refl _))
  have HBL3 := Lib.hid (palloc (Below.refl w3.heap.size w3) (Obj.cells #[] 31))
  go_loopw [8, 9] (fun vo i wr => ∃ j : Nat, j ≤ n2 ∧ i = .int .i64 j ∧ SlRow wr w3.heap.size vo ((List.range j).map F) ∧ Below w3.heap.size w3 wr) (fun _ i _ => n2 - (intOf i).toNat)
  case atStart => exact ⟨0, Nat.zero_le _, rfl, HR0.out, HBL3.out⟩
  case round =>
    obtain ⟨j, hj, rfl, hrow, hbw⟩ := hrel
    have HB := Lib.hid hbw; clear hbw
    have HROW := Lib.hid hrow; clear hrow
    by_cases hlt : j < n2
    · obtain ⟨b0, off, rfl, hb, hc⟩ := pgs_at HP3.out (by omega)
      obtain ⟨u1, hr1, hs1⟩ := hc j hlt
      rw [HPG.out j hlt] at hr1 hs1
      have hmy := HMAY.out j hlt
      have hfk : F j = (nth (lP gen mark next) b n2 j).sector := by rw [HF.out]
      obtain ⟨q1, hq1⟩ : ∃ q, q = nth (lP gen mark next) b n2 j := ⟨_, rfl⟩
      rw [← hq1] at hr1 hs1 hmy hfk
      clear hq1 hc
      obtain ⟨A4', n4', c4', rfl, hbt1⟩ := hs1
      have HR1 := Lib.hid hr1; clear hr1
      have HFK := Lib.hid hfk; clear hfk
      have pu := ref_putB q1 (.slice A4' n4' c4') wr hmy ⟨A4', n4', c4', rfl, (hbt1.below HB.out (Nat.le_refl _)).more HB.out.size⟩
      unfold pgV at pu
      have PU := Lib.hid pu; clear pu hbt1
      obtain ⟨ss, hss⟩ : ∃ ss, ss = (List.range j).map F := ⟨_, rfl⟩
      have hsl : ss.length = j := by rw [hss]; simp
      have hsn : (List.range (j + 1)).map F = ss ++ [F j] := by rw [hss, List.range_succ, List.map_append]; rfl
      rw [← hss] at HROW
      have HSN := Lib.hid hsn; clear hsn hss
      have HSS := Lib.hid hsl; clear hsl
      go_wp2_with (first
        | (refine wpList_load_mid rfl 93 (.tmp 53) rfl b0 (off + j * 7) rfl [.int .i64 q1.kind, .int .i64 q1.gen, .int .i64 q1.mark, .int .i64 q1.index, .int .i64 q1.part, .int .i64 q1.parts, .slice A4' n4' c4'] _ (rangeAt_below HR1.out HB.out hb) Tryz.underlying93 rfl (by rw [size24]; rfl) ?_)
        | (go_at_call 47; refine (PU.out).mono ?_; rintro e w4 ⟨v4, rfl, hs4, hb4⟩; obtain ⟨A4, n4, c4, rfl, _⟩ := id hs4; have HS4 := Lib.hid hs4; obtain ⟨vs, hvl, hown4, hvs⟩ := (HROW.out).below hb4; have HVL := Lib.hid hvl; have HOW := Lib.hid hown4; have HVS := Lib.hid hvs; have HB4 := Lib.hid (HB.out.trans (hb4.mono HB.out.size)); have hz4 := HB4.out.size; clear hb4 hs4 hvl hown4 hvs)
        | (at_builtin; refine wpList_append_n _ rfl (.tmp 50) (.tmp 56) 32 rfl w3.heap.size 31 i0 (.slice none 0 0) 1 24 Tryz.underlying32 HI.out HZ0.out HZ1.out HZ2.out rfl (by decide) zSl_nob u8 ss.length vs rfl ?own (w4.heap.size + 1) (some ⟨w4.heap.size, 0, none⟩) 1 1 [.slice A4 n4 c4] ?hx ?hr (by simp [Value.oneCell']) (by intro u hu; rw [List.mem_singleton.1 hu]; rfl) ?h63 ?hby ?hbase ?_; (case own => exact HOW.out.below (palloc (Below.refl _ _) _)); (case hx => first | rfl | simp [Act.eval]); (case hr => exact reads_slice _ _ _ rfl); (case h63 => (have := HSS.out; unfold maxLen; omega)); (case hby => (have := HSS.out; omega)); (case hbase => (simp; omega)); intro v5 w5 hown5 hg5 _; have hbw := palloc (Below.refl w4.heap.size w4) (Obj.cells #[.slice A4 n4 c4] 31); have HR5 := Lib.hid (slRow_push HVL.out HOW.out HVS.out HS4.out hbw hown5 hg5); have HB5 := Lib.hid ((HB4.out.trans (hbw.mono HB4.out.size)).grown hg5 (HB4.out.trans (hbw.mono HB4.out.size)).size (fun q hq => (HOW.out.1.lt q hq).1)); clear hown5 hg5 hbw))
      go_roundw
      case rel => exact ⟨j + 1, by omega, by go_num, by rw [HSN.out, HFK.out]; exact HR5.out, HB5.out⟩
      case measure => simp [intOf]; omega
    · obtain rfl : j = n2 := by omega
      have hsls := slRow_sls HROW.out
      rw [HFL.out] at hsls
      obtain ⟨A5, n5, c5, hv5, _⟩ := id hsls
      subst hv5
      have HSLS := Lib.hid hsls; clear hsls
      have HB5 := Lib.hid (HB3.out.trans (HB.out.mono HB3.out.size))
      have kb := KB3.out.below HB.out KB3.out.lt
      have x0 := kb.cell 0; have x1 := kb.cell 1; have x2 := kb.cell 2; have x3 := kb.cell 3; have x4 := kb.cell 4; have x5 := kb.cell 5; have x6 := kb.cell 6; have x7 := kb.cell 7; have x8 := kb.cell 8; have x9 := kb.cell 9; have x10 := kb.cell 10; have x11 := kb.cell 11
      simp at x0 x1 x2 x3 x4 x5 x6 x7 x8 x9 x10 x11
      have hk5 := kb.lt
      have KR5 := Lib.hid (KR3.out.below HB.out KR3.out.lt)
      have hkr5 := KR5.out.lt
      clear kb
      by_cases he : e' = 0
      · subst he
        clear hw1
        have hcl : next + j ≤ 2000 := by omega
        go_wp2_with (go_at_call 48; (rewrite [HSA.out]; refine (WR.out ((w.heap.size + 1) :: w.heap.size :: S) _ HB5.out (fun x hx => by rcases List.mem_cons.1 hx with rfl | hx; exact .inr (Nat.le_succ _); rcases List.mem_cons.1 hx with rfl | hx; exact .inr (Nat.le_refl _); exact .inl hx) (by exact HT.out _ hkr5) A5 n5 c5 HSLS.out).mono ?_; rintro e w6 ⟨B1, B2, d1, d2, rfl, hR3, hb3⟩; have kr := KR5.out.below hb3 KR5.out.lt; have r0 := kr.cell 0; have rf0 := kr.frozen 0; have r1 := kr.cell 1; have rf1 := kr.frozen 1; have r2 := kr.cell 2; have rf2 := kr.frozen 2; have r3 := kr.cell 3; have rf3 := kr.frozen 3; have r4 := kr.cell 4; have rf4 := kr.frozen 4; have r5 := kr.cell 5; have rf5 := kr.frozen 5; have r6 := kr.cell 6; have rf6 := kr.frozen 6; have r7 := kr.cell 7; have rf7 := kr.frozen 7; have r8 := kr.cell 8; have rf8 := kr.frozen 8; have r9 := kr.cell 9; have rf9 := kr.frozen 9; have r10 := kr.cell 10; have rf10 := kr.frozen 10; have r11 := kr.cell 11; have rf11 := kr.frozen 11; simp at r0 r1 r2 r3 r4 r5 r6 r7 r8 r9 r10 r11; have r12 := kr.lt; have HR3 := Lib.hid hR3; have HB4 := Lib.hid (HB5.out.trans (hb3.mono HB5.out.size)); clear kr hR3 hb3))
        refine bodyPost_ret (v := .tuple #[.agg (rwA (.slice B1 s'.n d1) (.slice B2 s'.n d2) (armedOf s'.left) s'.dead (l : Nat) (2 * (l : Nat)) (q : Nat) gen mark ((next : Int) + (j : Int)) false true), .int .i64 0]) ?_ rfl ?_
        · simp [results, Tryz.results13, go_sem, r0, r1, r2, r3, r4, r5, r6, r7, r8, r9, r10, r11, r12]
        · exact ⟨_, rfl, ⟨_, _, rfl, ((HR3.out.kept (set12_kept (by simp))).more (fun x hx => List.mem_cons_of_mem _ (List.mem_cons_of_mem _ hx))).below (palloc (Below.refl _ _) _)⟩, palloc (set12_below HB4.out (Nat.le_succ _)) _⟩
      · have hne : (e' != 0) = true := bne_iff_ne.2 he
        have hne2 : (e' == 0) = false := by rw [beq_eq_false_iff_ne]; exact he
        have wr1 := WR.out
        rewrite [hne] at wr1
        clear WR
        have WR := Lib.hid wr1; clear wr1 hne
        go_wp2_with (go_at_call 48; (rewrite [HSA.out]; refine (WR.out ((w.heap.size + 1) :: w.heap.size :: S) _ HB5.out (fun x hx => by rcases List.mem_cons.1 hx with rfl | hx; exact .inr (Nat.le_succ _); rcases List.mem_cons.1 hx with rfl | hx; exact .inr (Nat.le_refl _); exact .inl hx) (by exact HT.out _ hkr5) A5 n5 c5 HSLS.out).mono ?_; rintro e w6 ⟨B1, B2, d1, d2, rfl, hR3, hb3⟩; have kr := KR5.out.below hb3 KR5.out.lt; have r0 := kr.cell 0; have rf0 := kr.frozen 0; have r1 := kr.cell 1; have rf1 := kr.frozen 1; have r2 := kr.cell 2; have rf2 := kr.frozen 2; have r3 := kr.cell 3; have rf3 := kr.frozen 3; have r4 := kr.cell 4; have rf4 := kr.frozen 4; have r5 := kr.cell 5; have rf5 := kr.frozen 5; have r6 := kr.cell 6; have rf6 := kr.frozen 6; have r7 := kr.cell 7; have rf7 := kr.frozen 7; have r8 := kr.cell 8; have rf8 := kr.frozen 8; have r9 := kr.cell 9; have rf9 := kr.frozen 9; have r10 := kr.cell 10; have rf10 := kr.frozen 10; have r11 := kr.cell 11; have rf11 := kr.frozen 11; simp at r0 r1 r2 r3 r4 r5 r6 r7 r8 r9 r10 r11; have r12 := kr.lt; have HR3 := Lib.hid hR3; have HB4 := Lib.hid (HB5.out.trans (hb3.mono HB5.out.size)); clear kr hR3 hb3))
        refine bodyPost_ret (v := .tuple #[.agg (rwA (.slice B1 s'.n d1) (.slice B2 s'.n d2) (armedOf s'.left) s'.dead (l : Nat) (2 * (l : Nat)) (q : Nat) gen mark (next : Nat) true true), .int .i64 e']) ?_ rfl ?_
        · simp [results, Tryz.results13, go_sem, r0, r1, r2, r3, r4, r5, r6, r7, r8, r9, r10, r11, r12]
        · exact ⟨_, rfl, ⟨_, _, rfl, ((HR3.out.kept (set12_kept (by simp))).more (fun x hx => List.mem_cons_of_mem _ (List.mem_cons_of_mem _ hx))).below (palloc (Below.refl _ _) _)⟩, palloc (set12_below HB4.out (Nat.le_succ _)) _⟩
end
end Go.Proofs.YtnenbocjfekmfaaGreat.Wl
