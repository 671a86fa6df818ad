/- The reference's log (layer 8): it turns, where it does. -/
import Derived.Test.YtnenbocjfekmfaaGreatWalRefTurn
namespace Go.Proofs.YtnenbocjfekmfaaGreat.Wl
open Go.RowKit Go.Proofs.YtnenbocjfekmfaaGreat.Mem Go.Proofs.YtnenbocjfekmfaaGreat.Pg Go.Proofs.YtnenbocjfekmfaaGreat.Rcd Go.Proofs.YtnenbocjfekmfaaGreat.Slt
open Go.Proofs.YtnenbocjfekmfaaGreat.Dsk (KeptBut SMap DiskAt St kept_of_below kept_of_grown kept_drew RefAt RowS SlS Good refV armedOf)
open Go.Proofs.YtnenbocjfekmfaaGreat.Plt (sl plV sl_le sl_pos)
set_option linter.unusedVariables false
set_option linter.unusedSimpArgs false
section
variable (S : List Nat) (A1 A2 : Option Addr) (c1 c2 : Nat) (s : St) (k : Nat) (v : Wn) (p2 : Int) (A : Option Addr) (n c : Nat) (w : World)
/-- what a write leaves, in words that a walk can use -/
theorem rw_out (S : List Nat) (s : St) (p0 p1 p2 g m nx : Int) (br is_ : Bool) (fr : Nat) (L : List (List Nat)) (w : World) (hg : Dsk.Fine s) (hr : RefAt w S (refV (.slice A1 s.n c1) (.slice A2 s.n c2) s) s) (hL : L.length ≤ 1000) (hf : fr ≤ 2000) (s' : St) (e' : Int) (hR : (s', e') = writes s fr L) :
    ∀ (T : List Nat) (W : World), Below w.heap.size w W → (∀ x ∈ T, x ∈ S ∨ w.heap.size ≤ x) → (∀ x ∈ T, x < W.heap.size) → ∀ (A3 : Option Addr) (n3 c3 : Nat), Sls W W.heap.size (.slice A3 n3 c3) L →
      Calls Tryz.prog 48 #[.agg (rwA (.slice A1 s.n c1) (.slice A2 s.n c2) (armedOf s.left) s.dead p0 p1 p2 g m nx br is_), .int .i64 (fr : Nat), .slice A3 n3 c3] W fun e w' => ∃ B1 B2 d1 d2, e = .returned (.tuple #[.agg (rwA (.slice B1 s'.n d1) (.slice B2 s'.n d2) (armedOf s'.left) s'.dead p0 p1 p2 g m nx (e' != 0) is_), .int .i64 e']) ∧ RefAt w' T (refV (.slice B1 s'.n d1) (.slice B2 s'.n d2) s') s' ∧ Below W.heap.size W w' := by
  intro T W hW hT hT2 A3 n3 c3 hl
  have hlen := (sls_len hl).1
  refine (rwwrite_any T _ s p0 p1 p2 g m nx br is_ fr A3 n3 c3 L W hg ⟨_, _, rfl, (hr.raise hT).below hW⟩ hT2 hl (by omega) hf).mono ?_
  rintro e w' ⟨val', rfl, ⟨u1, u2, rfl, hR2⟩, hb⟩
  rw [← hR] at hR2 ⊢
  simp only at hR2 ⊢
  obtain ⟨B1, d1, B2, d2, huv⟩ := refAt_two hR2
  have hu : u1 = .slice B1 s'.n d1 ∧ u2 = .slice B2 s'.n d2 := by
    unfold refV at huv
    injection huv with h
    injection h with h
    injection h with h1 h
    injection h with h2 h
    exact ⟨h1, h2⟩
  obtain ⟨rfl, rfl⟩ := hu
  exact ⟨B1, B2, d1, d2, rfl, hR2, hb⟩
set_option maxRecDepth 20000 in
set_option maxHeartbeats 4000000 in
theorem rturn_goes (b : List Nat) (hf : Dsk.Fine s) (hr : RefAt w S (refV (.slice A1 s.n c1) (.slice A2 s.n c2) s) s) (hS : ∀ x ∈ S, x < w.heap.size) (hk1 : 6 ≤ k) (hk2 : k ≤ 1000) (hv : WnOk k v) (hbr : v.br = false) (hb : Sl w w.heap.size (.slice A n c) b) (hbn : b.length = n) (hn : n ≤ 7808) (hp : ¬ sl k < parts n) (hg : v.gen ≠ 2147483648) :
    Calls Tryz.prog 16 #[rvA A1 A2 c1 c2 s k p2 v true, .slice A n c] w fun e w' => ∃ val', e = .returned (.tuple #[val', .int .i64 (turnP k s v b).2.2]) ∧ RWal w' S val' (turnP k s v b).1 (sl k : Nat) (2 * (sl k : Nat)) p2 (turnP k s v b).2.1.gen (turnP k s v b).2.1.mark ((turnP k s v b).2.1.next : Nat) (turnP k s v b).2.1.br true ∧ Below w.heap.size w w' := by
  obtain ⟨hg0, hg1, hm0, hm1, hnx⟩ := hv
  have p := fun (W : World) => rparts_any (n : Int) W
  rw [partsI_nat] at p
  have P := Lib.hid p; clear p
  have h1 := parts_pos hn
  have hs16 := sl_le k
  have e0 : turnP k s v b = ((writes s (slotAt (sl k) (v.gen + 1)) (secL (bP (v.gen + 1) v.mark) b)).1, (if (writes s (slotAt (sl k) (v.gen + 1)) (secL (bP (v.gen + 1) v.mark) b)).2 = 0 then ⟨v.gen + 1, v.mark, 0, false⟩ else ⟨v.gen, v.mark, v.next, true⟩), (writes s (slotAt (sl k) (v.gen + 1)) (secL (bP (v.gen + 1) v.mark) b)).2) := by
    unfold turnP
    rw [if_neg (by rw [hbr]; simp), if_neg (by rw [hbn]; exact hp), if_neg hg]
  have hok : errOf (v.gen + 1) v.mark ((16 : Nat) : Int) b = 0 := err_ok (by omega) ⟨hm0, hm1⟩ (by omega) (by rw [hbn]; omega)
  have e16 : ((16 : Nat) : Int) = 16 := rfl
  rw [e16] at hok
  have hsc : secs (v.gen + 1) v.mark 16 b = secL (bP (v.gen + 1) v.mark) b := by unfold secs; rw [if_pos hok]; rfl
  have se := fun (W : World) (hW : Below w.heap.size w W) => rsectors_any (v.gen + 1) v.mark 16 A n c b W (sl_up hb hW) hbn
  rw [hok, hsc] at se
  have hl16 : (secL (bP (v.gen + 1) v.mark) b).length ≤ 16 := by rw [secL_len]; exact parts_le _
  have hslt := slotAt_lt (sl := sl k) (g := v.gen + 1) (j := 0) (sl_pos (by omega))
  have hsa : wrap64 ((v.gen + 1) % 2 * (sl k : Nat)) = ((slotAt (sl k) (v.gen + 1) : Nat) : Int) := by
    have e2 : (v.gen + 1) % 2 = (((v.gen + 1).toNat % 2 : Nat) : Int) := by omega
    rw [e2, ← Int.natCast_mul]
    unfold slotAt at hslt ⊢
    exact IntWalk.wrap64_in _ (by omega)
  obtain ⟨L, hL⟩ : ∃ L, L = secL (bP (v.gen + 1) v.mark) b := ⟨_, rfl⟩
  rw [← hL] at se hl16 e0
  obtain ⟨f, hff⟩ : ∃ f, f = slotAt (sl k) (v.gen + 1) := ⟨_, rfl⟩
  rw [← hff] at hslt e0 hsa
  obtain ⟨R, hR⟩ : ∃ R, R = writes s f L := ⟨_, rfl⟩
  rw [← hR] at e0
  obtain ⟨s', e'⟩ := R
  simp only at e0
  have wr := rw_out A1 A2 c1 c2 S s (sl k : Nat) (2 * (sl k : Nat)) p2 v.gen v.mark (v.next : Nat) v.br true f L w hf hr (by omega) (by omega) s' e' hR
  rw [e0]
  simp only
  unfold rvA
  rw [hbr] at wr ⊢
  obtain ⟨gen, mark, next, br⟩ := v
  simp only at wr se hsa hg0 hg1 hg hm0 hm1 hnx ⊢
  have HSA := Lib.hid hsa; clear hsa
  have SE := Lib.hid se; clear se
  have WR := Lib.hid wr; clear wr
  have HS := Lib.hid hS; clear hS
  clear hL hff hR e0 hok hsc hbr hbn hb e16 hf hr
  generalize parts n = m at *
  generalize sl k = l at *
  have hd1 : ((m : Int) == 0) = false := by rw [beq_eq_false_iff_ne]; omega
  have hd2 : decide (l < m) = false := by simpa using hp
  have hgf : (gen == 2147483648) = false := by rw [beq_eq_false_iff_ne]; exact hg
  have hw1 : IntKind.i64.wrap (gen + 1) = gen + 1 := IntWalk.i64_in _ (by omega)
  have hb0 : Below w.heap.size w ((w.alloc (.cells (rwA (.slice A1 s.n c1) (.slice A2 s.n c2) (armedOf s.left) s.dead (l : Nat) (2 * (l : Nat)) p2 gen mark (next : Nat) false true) 40)).alloc (.cells #[.slice none 0 0, .slice none 0 0, .int .i64 0, .bool false, .int .i64 0, .int .i64 0, .int .i64 0, .int .i64 0, .int .i64 0, .int .i64 0, .bool false, .bool false] 40)) := palloc (palloc (Below.refl _ _) _) _
  have k0 := (Blk.new w 40 (rwA (.slice A1 s.n c1) (.slice A2 s.n c2) (armedOf s.left) s.dead (l : Nat) (2 * (l : Nat)) p2 gen mark (next : Nat) false true)).alloc (.cells #[.slice none 0 0, .slice none 0 0, .int .i64 0, .bool false, .int .i64 0, .int .i64 0, .int .i64 0, .int .i64 0, .int .i64 0, .int .i64 0, .bool false, .bool false] 40)
  have k1 : Blk ((w.alloc (.cells (rwA (.slice A1 s.n c1) (.slice A2 s.n c2) (armedOf s.left) s.dead (l : Nat) (2 * (l : Nat)) p2 gen mark (next : Nat) false true) 40)).alloc (.cells #[.slice none 0 0, .slice none 0 0, .int .i64 0, .bool false, .int .i64 0, .int .i64 0, .int .i64 0, .int .i64 0, .int .i64 0, .int .i64 0, .bool false, .bool false] 40)) (w.heap.size + 1) 40 #[.slice none 0 0, .slice none 0 0, .int .i64 0, .bool false, .int .i64 0, .int .i64 0, .int .i64 0, .int .i64 0, .int .i64 0, .int .i64 0, .bool false, .bool false] := by
    have := Blk.new (w.alloc (.cells (rwA (.slice A1 s.n c1) (.slice A2 s.n c2) (armedOf s.left) s.dead (l : Nat) (2 * (l : Nat)) p2 gen mark (next : Nat) false true) 40)) 40 #[.slice none 0 0, .slice none 0 0, .int .i64 0, .bool false, .int .i64 0, .int .i64 0, .int .i64 0, .int .i64 0, .int .i64 0, .int .i64 0, .bool false, .bool false]
    simpa using this
  have HB0 := Lib.hid hb0; clear hb0
  have K0 := Lib.hid k0; clear k0
  have K1 := Lib.hid k1; clear k1
  have hT : ∀ (W : World), w.heap.size + 1 < W.heap.size → ∀ x ∈ (w.heap.size + 1) :: w.heap.size :: S, x < W.heap.size := fun W hW x hx => by
    rcases List.mem_cons.1 hx with rfl | hx
    · exact hW
    · rcases List.mem_cons.1 hx with rfl | hx
      · omega
      · have := HS.out x hx; omega
  have HT := Lib.hid hT; clear hT
  by_cases he : e' = 0
  · subst he
    go_enter Tryz.func16, Tryz.ntmps16
    go_wp2_with (first
      | (go_at_call 45; refine (P.out _).mono ?_; rintro e w' ⟨rfl, rfl⟩)
      | (go_at_call 53; refine (SE.out _ HB0.out).mono ?_; rintro e w2 ⟨v3, rfl, hls, hb2⟩; obtain ⟨A3, n3, c3, rfl, _⟩ := id hls; have kb := K0.out.below hb2 K0.out.lt; have x0 := kb.cell 0; have x1 := kb.cell 1; have x2 := kb.cell 2; have x3 := kb.cell 3; have x4 := kb.cell 4; have x5 := kb.cell 5; have x6 := kb.cell 6; have x7 := kb.cell 7; have x8 := kb.cell 8; have x9 := kb.cell 9; have x10 := kb.cell 10; have x11 := kb.cell 11; simp at x0 x1 x2 x3 x4 x5 x6 x7 x8 x9 x10 x11; have hk2 := kb.lt; have KB2 := Lib.hid kb; have kr := K1.out.below hb2 K1.out.lt; have hkr2 := kr.lt; have KR2 := Lib.hid kr; have HLS := Lib.hid hls; have HB2 := Lib.hid (HB0.out.trans (hb2.mono HB0.out.size)); clear kb kr hls hb2)
      | (go_at_call 48; (rewrite [HSA.out]; refine (WR.out ((w.heap.size + 1) :: w.heap.size :: S) _ HB2.out (fun x hx => by rcases List.mem_cons.1 hx with rfl | hx; exact .inr (Nat.le_succ _); rcases List.mem_cons.1 hx with rfl | hx; exact .inr (Nat.le_refl _); exact .inl hx) (by exact HT.out _ hkr2) A3 n3 c3 HLS.out).mono ?_; rintro e w3 ⟨B1, B2, d1, d2, rfl, hR3, hb3⟩; have kr := KR2.out.below hb3 KR2.out.lt; have r0 := kr.cell 0; have rf0 := kr.frozen 0; have r1 := kr.cell 1; have rf1 := kr.frozen 1; have r2 := kr.cell 2; have rf2 := kr.frozen 2; have r3 := kr.cell 3; have rf3 := kr.frozen 3; have r4 := kr.cell 4; have rf4 := kr.frozen 4; have r5 := kr.cell 5; have rf5 := kr.frozen 5; have r6 := kr.cell 6; have rf6 := kr.frozen 6; have r7 := kr.cell 7; have rf7 := kr.frozen 7; have r8 := kr.cell 8; have rf8 := kr.frozen 8; have r9 := kr.cell 9; have rf9 := kr.frozen 9; have r10 := kr.cell 10; have rf10 := kr.frozen 10; have r11 := kr.cell 11; have rf11 := kr.frozen 11; simp at r0 r1 r2 r3 r4 r5 r6 r7 r8 r9 r10 r11; have r12 := kr.lt; have HR3 := Lib.hid hR3; have HB3 := Lib.hid (HB2.out.trans (hb3.mono HB2.out.size)); clear kr hR3 hb3)))
    refine bodyPost_ret (v := .tuple #[.agg (rwA (.slice B1 s'.n d1) (.slice B2 s'.n d2) (armedOf s'.left) s'.dead (l : Nat) (2 * (l : Nat)) p2 (gen + 1) mark 0 false true), .int .i64 0]) ?_ rfl ?_
    · simp [results, Tryz.results16, go_sem, r0, r1, r2, r3, r4, r5, r6, r7, r8, r9, r10, r11, r12]
    · exact ⟨_, rfl, ⟨_, _, rfl, ((HR3.out.kept (set12_kept (by simp))).more (fun x hx => List.mem_cons_of_mem _ (List.mem_cons_of_mem _ hx))).below (palloc (Below.refl _ _) _)⟩, palloc (set12_below HB3.out (Nat.le_succ _)) _⟩
  · have hne : (e' != 0) = true := bne_iff_ne.2 he
    have hne2 : (e' == 0) = false := by rw [beq_eq_false_iff_ne]; exact he
    have wr := WR.out
    rw [hne] at wr
    clear WR
    have WR := Lib.hid wr; clear wr hne
    simp only [if_neg he]
    clear he
    go_enter Tryz.func16, Tryz.ntmps16
    go_wp2_with (first
      | (go_at_call 45; refine (P.out _).mono ?_; rintro e w' ⟨rfl, rfl⟩)
      | (go_at_call 53; refine (SE.out _ HB0.out).mono ?_; rintro e w2 ⟨v3, rfl, hls, hb2⟩; obtain ⟨A3, n3, c3, rfl, _⟩ := id hls; have kb := K0.out.below hb2 K0.out.lt; have x0 := kb.cell 0; have x1 := kb.cell 1; have x2 := kb.cell 2; have x3 := kb.cell 3; have x4 := kb.cell 4; have x5 := kb.cell 5; have x6 := kb.cell 6; have x7 := kb.cell 7; have x8 := kb.cell 8; have x9 := kb.cell 9; have x10 := kb.cell 10; have x11 := kb.cell 11; simp at x0 x1 x2 x3 x4 x5 x6 x7 x8 x9 x10 x11; have hk2 := kb.lt; have KB2 := Lib.hid kb; have kr := K1.out.below hb2 K1.out.lt; have hkr2 := kr.lt; have KR2 := Lib.hid kr; have HLS := Lib.hid hls; have HB2 := Lib.hid (HB0.out.trans (hb2.mono HB0.out.size)); clear kb kr hls hb2)
      | (go_at_call 48; (rewrite [HSA.out]; refine (WR.out ((w.heap.size + 1) :: w.heap.size :: S) _ HB2.out (fun x hx => by rcases List.mem_cons.1 hx with rfl | hx; exact .inr (Nat.le_succ _); rcases List.mem_cons.1 hx with rfl | hx; exact .inr (Nat.le_refl _); exact .inl hx) (by exact HT.out _ hkr2) A3 n3 c3 HLS.out).mono ?_; rintro e w3 ⟨B1, B2, d1, d2, rfl, hR3, hb3⟩; have kr := KR2.out.below hb3 KR2.out.lt; have r0 := kr.cell 0; have rf0 := kr.frozen 0; have r1 := kr.cell 1; have rf1 := kr.frozen 1; have r2 := kr.cell 2; have rf2 := kr.frozen 2; have r3 := kr.cell 3; have rf3 := kr.frozen 3; have r4 := kr.cell 4; have rf4 := kr.frozen 4; have r5 := kr.cell 5; have rf5 := kr.frozen 5; have r6 := kr.cell 6; have rf6 := kr.frozen 6; have r7 := kr.cell 7; have rf7 := kr.frozen 7; have r8 := kr.cell 8; have rf8 := kr.frozen 8; have r9 := kr.cell 9; have rf9 := kr.frozen 9; have r10 := kr.cell 10; have rf10 := kr.frozen 10; have r11 := kr.cell 11; have rf11 := kr.frozen 11; simp at r0 r1 r2 r3 r4 r5 r6 r7 r8 r9 r10 r11; have r12 := kr.lt; have HR3 := Lib.hid hR3; have HB3 := Lib.hid (HB2.out.trans (hb3.mono HB2.out.size)); clear kr hR3 hb3)))
    refine bodyPost_ret (v := .tuple #[.agg (rwA (.slice B1 s'.n d1) (.slice B2 s'.n d2) (armedOf s'.left) s'.dead (l : Nat) (2 * (l : Nat)) p2 gen mark (next : Nat) true true), .int .i64 e']) ?_ rfl ?_
    · simp [results, Tryz.results16, go_sem, r0, r1, r2, r3, r4, r5, r6, r7, r8, r9, r10, r11, r12]
    · exact ⟨_, rfl, ⟨_, _, rfl, ((HR3.out.kept (set12_kept (by simp))).more (fun x hx => List.mem_cons_of_mem _ (List.mem_cons_of_mem _ hx))).below (palloc (Below.refl _ _) _)⟩, palloc (set12_below HB3.out (Nat.le_succ _)) _⟩
end
end Go.Proofs.YtnenbocjfekmfaaGreat.Wl
