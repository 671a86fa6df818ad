/- Lsas copied and read (layer 9): the contracts of slices.Clone at links, lsa.Copy, lsa.links, lsa.Read. -/
import Derived.Test.YtpolpppnajfhdaaPgLsaSame
import Derived.Test.YtpolpppnajfhdaaPgReader
namespace Go.Proofs.Ytpolpppnajfhdaa.Lsa
open Go.RowKit Go.Proofs.Ytpolpppnajfhdaa.Mem Go.Proofs.Ytpolpppnajfhdaa.Oct
set_option linter.unusedVariables false
set_option linter.unusedSimpArgs false
theorem grown_over {w w1 w2 : World} {row row' : Option Nat} (h : w.grownBy w1 row) (k : w1.grownBy w2 row') (hr : ∀ q, row' = some q → w.heap.size ≤ q) : w.grownBy w2 row :=
  ⟨k.os.trans h.os, k.tape.trans h.tape, k.output.trans h.output, Nat.le_trans h.size k.size, fun g hg hn => (k.block g (Nat.lt_of_lt_of_le hg h.size) (fun e => by have := hr _ e.symm; omega)).trans (h.block g hg hn)⟩
theorem own_form {w : World} {base n sz : Nat} {e : TypeId} {v : Value} {xs : List Value} (h : w.ownsRow base e sz v n xs) : ∃ A c, v = .slice A n c := by
  rcases h.2 with ⟨rfl, h0⟩ | ⟨g, cap, cur, rfl, _⟩
  · subst h0
    exact ⟨none, 0, rfl⟩
  · exact ⟨_, _, rfl⟩
theorem blk_fz3 {w : World} {g : Nat} {t : TypeId} {cs : Array Value} (h : Blk w g t cs) : w.frozen? ⟨g, 0, none⟩ = false ∧ w.frozen? ⟨g, 1, none⟩ = false ∧ w.frozen? ⟨g, 2, none⟩ = false := ⟨h.frozen 0, h.frozen 1, h.frozen 2⟩
theorem rnum_lt {st : St} {k : Nat} {K : Int} (hK : K = (k : Int)) (h : ∀ x ∈ st.1, x < 256) : (rnum st K).2 < 256 ^ k := by
  subst hK
  unfold rnum
  split
  · have h1 := num_lt (st.1.take (k : Int).toNat) (take_lt h _)
    have h2 : (st.1.take (k : Int).toNat).length ≤ k := by rw [List.length_take]; simp; omega
    exact Nat.lt_of_lt_of_le h1 (Nat.pow_le_pow_right (by decide) h2)
  · exact Nat.pos_of_ne_zero (by simp)
theorem sgn_wrap {n : Nat} (h : n < 18446744073709551616) : IntKind.i64.wrap (n : Int) = sgn n := by
  rw [IntKind.wrap_i64]
  unfold sgn
  split <;> omega
set_option maxRecDepth 20000 in
set_option maxHeartbeats 4000000 in
theorem links_any (g : Nat) (st : St) (m : Nat) (w : World) (h : Rdr w g st) (hm : m ≤ 255) :
    Calls Try.prog 71 #[ptr g, .int .i64 (m : Nat)] w fun e w' => ∃ v, e = .returned v ∧ w'.ownsRow w.heap.size 85 2 v m (lkCells (rlks st m).2) ∧ Rdr w' g (rlks st m).1 ∧ w.grownBy w' (some g) := by
  obtain ⟨i0, hi, hz0, hz1, hz2⟩ := info_parts info_link
  have hgs := h.size
  have HI := Lib.hid hi; clear hi
  have HZ0 := Lib.hid hz0; clear hz0
  have HZ1 := Lib.hid hz1; clear hz1
  have HZ2 := Lib.hid hz2; clear hz2
  have HR := Lib.hid h; clear h
  go_enter Try.func71, Try.ntmps71
  go_wp2
  go_loopw [5, 7] (fun z i wr => ∃ k : Nat, k ≤ m ∧ i = .int .i64 k ∧ wr.ownsRow w.heap.size 85 2 z k (lkCells (rlks st k).2) ∧ Rdr wr g (rlks st k).1 ∧ w.grownBy wr (some g)) (fun _ i _ => m - (intOf i).toNat)
  case atStart => exact ⟨0, Nat.zero_le _, rfl, own_none _ _, HR.out, World.grownBy.refl w _⟩
  case round =>
    obtain ⟨k, hk, rfl, hown, hr, hg⟩ := hrel
    by_cases hlt : k < m
    · have hx := hr.lt
      have hws := hg.size
      have hs : rlks st (k + 1) = rlk (rlks st k) := rfl
      generalize rlks st k = p at *
      obtain ⟨st0, l0⟩ := p
      simp only at hown hr hx
      have n1 := rnum_lt (st := st0) (k := 1) (K := 1) rfl hx
      have r1 := rnum_any g st0 1 wr hr
      simp only [rlk] at hs
      generalize rnum st0 1 = q at *
      obtain ⟨st1, N1⟩ := q
      simp only at n1 r1 hs
      have r2 := fun W (hW : Rdr W g st1) => rnum_any g st1 4 W hW
      have n2 := fun W (hW : Rdr W g st1) => rnum_lt (st := st1) (k := 4) (K := 4) rfl hW.lt
      generalize rnum st1 4 = q at *
      obtain ⟨st2, N2⟩ := q
      simp only at n2 r2 hs
      have hl0 : (lkCells l0).length = k * 2 := hown.1
      have HS := Lib.hid hs; clear hs
      have R1 := Lib.hid r1; clear r1
      have R2 := Lib.hid r2; clear r2
      have N2' := Lib.hid n2; clear n2
      have HG := Lib.hid hg; clear hg hx
      have HRR := Lib.hid hr; clear hr
      have HOW := Lib.hid hown; clear hown hl0
      obtain ⟨A5, c5, rfl⟩ := own_form HOW.out
      go_wp2_with (first
        | (have HM0 := HOW; go_at_call 54; refine (R1.out).mono ?_; rintro e w1 ⟨rfl, hr1, hg1⟩; have HG1 := Lib.hid (grown_trans HG.out hg1); have HO1 := Lib.hid (own_grown HOW.out hg1 hgs); have hn2 := N2'.out _ hr1; have HR1 := Lib.hid hr1; clear hr1 hg1 HM0 HOW)
        | (go_at_call 54; refine (R2.out _ HR1.out).mono ?_; rintro e w2 ⟨rfl, hr2, hg2⟩; have HG2 := Lib.hid (grown_trans HG1.out hg2); have HO2 := Lib.hid (own_grown HO1.out hg2 hgs); have HR2 := Lib.hid hr2; have hws2 := HG2.out.size; clear hr2 hg2)
        | (at_builtin; (refine wpList_append_any _ rfl (.tmp 9) (.tmp 17) 47 rfl w.heap.size 85 i0 (.agg #[.int .i64 0, .int .i64 0]) 2 16 Try.underlying47 HI.out HZ0.out HZ1.out HZ2.out rfl (by decide) (.slice A5 k c5) k (lkCells l0) rfl (HO2.out.alloc _) (w2.heap.size + 1) (some ⟨w2.heap.size, 0, none⟩) 1 1 (lkCells [((N1 : Nat), (N2 : Nat))]) rfl (reads_link w2 _ _ _ rfl) (lkCells_one' _) (by unfold maxLen; omega) (by omega) (by simp; omega) ?_; intro v3 w3 hown3 hg3 _)))
      have hg9 := grown_over (HG2.out) (grown_trans (World.grownBy_alloc w2 (Obj.cells #[.int .i64 (N1 : Nat), .int .i64 (N2 : Nat)] 85) _) hg3) (fun q hq => (HO2.out.lt q hq).1)
      have hr9 := (HR2.out.alloc (Obj.cells #[.int .i64 (N1 : Nat), .int .i64 (N2 : Nat)] 85)).grown hg3 (fun q hq => Nat.lt_of_lt_of_le hgs (HO2.out.lt q hq).1)
      rw [← lkCells_app] at hown3
      go_roundw
      case rel => exact ⟨k + 1, by omega, by go_num, by rw [HS.out]; exact hown3, by rw [HS.out]; exact hr9, hg9⟩
      case measure => simp [intOf]; omega
    · obtain rfl : k = m := by omega
      have HOW := Lib.hid hown; clear hown
      have HRR := Lib.hid hr; clear hr
      have HG := Lib.hid hg; clear hg
      go_wp2
      go_ret
      exact ⟨_, rfl, HOW.out, HRR.out, HG.out⟩
/-- the same, its links in a row of the call's own -/
def ReadOwn (w : World) (g : Nat) (stE : St) (ok : Bool) (l : Int × Int × List Lk) (e : Ending) (w' : World) : Prop :=
  ∃ v, e = .returned (.tuple #[lsaV l.1 l.2.1 v, .bool ok]) ∧ (∃ n, w'.ownsRow w.heap.size 85 2 v n (lkCells l.2.2)) ∧ Rdr w' g stE ∧ w.grownBy w' (some g)
def lsaOf (st : St) : Int × Int × List Lk := if rOk st = true then rLsa st else (0, 0, [])
theorem upd3_grown (w : World) (g : Nat) (u0 u1 u2 : Value) : w.grownBy (upd3 w g u0 u1 u2) (some g) := grown_trans (grown_trans (grown_set w ⟨g, 0, none⟩ u0) (grown_set _ ⟨g, 1, none⟩ u1)) (grown_set _ ⟨g, 2, none⟩ u2)
set_option maxRecDepth 20000 in
set_option maxHeartbeats 8000000 in
theorem lread_own (g : Nat) (st : St) (w : World) (h : Rdr w g st) :
    Calls Try.prog 68 #[ptr g] w (ReadOwn w g (rAll st).1 (rOk st) (lsaOf st)) := by
  have hgs := h.size
  unfold lsaOf rOk rLsa rAll rMany rSeq rOri
  have r1 := rnum_any g st 1 (w.alloc (.cells #[.int .i64 0, .int .i64 0, .slice none 0 0] 49)) (h.alloc _)
  have n1 := rnum_lt (st := st) (k := 1) (K := 1) rfl h.lt
  generalize rnum st 1 = q at *
  obtain ⟨st1, N1⟩ := q
  simp only at r1 n1 ⊢
  have r2 := fun W (hW : Rdr W g st1) => rnum_any g st1 8 W hW
  have n2 := fun W (hW : Rdr W g st1) => rnum_lt (st := st1) (k := 8) (K := 8) rfl hW.lt
  generalize rnum st1 8 = q at *
  obtain ⟨st2, N2⟩ := q
  simp only at r2 n2 ⊢
  have r3 := fun W (hW : Rdr W g st2) => rnum_any g st2 1 W hW
  have n3 := fun W (hW : Rdr W g st2) => rnum_lt (st := st2) (k := 1) (K := 1) rfl hW.lt
  generalize rnum st2 1 = q at *
  obtain ⟨st3, N3⟩ := q
  simp only at r3 n3 ⊢
  have r4 := fun W (hW : Rdr W g st3) (hm : N3 ≤ 255) => links_any g st3 N3 W hW hm
  have hln := rlks_len st3 N3
  generalize rlks st3 N3 = q at *
  obtain ⟨st4, ls⟩ := q
  simp only at r4 hln ⊢
  have r5 := fun W (hW : Rdr W g st4) => wrong_any g st4 W hW
  obtain ⟨sq, hsq⟩ : ∃ sq, sq = sgn N2 := ⟨_, rfl⟩
  rw [← hsq]
  have hwr := fun W (hW : Rdr W g st1) => sgn_wrap (n := N2) (n2 W hW)
  rw [← hsq] at hwr
  have ck := fun (A : Option Addr) (c : Nat) (W : World) (hL : Lks W W.heap.size (.slice A N3 c) ls) => check_any (N1 : Int) sq A N3 c ls W hL
  clear hsq
  generalize may (N1 : Int) sq ls = mb at *
  have R1 := Lib.hid r1; clear r1
  have R2 := Lib.hid r2; clear r2
  have R3 := Lib.hid r3; clear r3
  have R4 := Lib.hid r4; clear r4
  have NN2 := Lib.hid n2; clear n2
  have NN3 := Lib.hid n3; clear n3
  have HWR := Lib.hid hwr; clear hwr
  have HLN := Lib.hid hln; clear hln
  have HR := Lib.hid h; clear h
  obtain ⟨zs, s4⟩ := st4
  simp only at r5 ⊢
  have R5 := Lib.hid r5; clear r5
  have CK := Lib.hid ck; clear ck
  go_enter Try.func68, Try.ntmps68
  cases s4
  · go_wp2_with (first
      | (have HM1 := R1; go_at_call 54; refine (R1.out).mono ?_; rintro e w1 ⟨rfl, hr1, hg1⟩; have hww := HWR.out _ hr1; have HG1 := Lib.hid (grown_trans (World.grownBy_alloc w (Obj.cells #[.int .i64 0, .int .i64 0, .slice none 0 0] 49) (some g)) hg1); have K1 := Lib.hid ((Blk.new w 49 #[.int .i64 0, .int .i64 0, .slice none 0 0]).grown hg1 (by simp; omega)); have HR1 := Lib.hid hr1; clear hr1 hg1 HM1 R1)
      | (have HM2 := HR1; go_at_call 54; refine (R2.out _ HR1.out).mono ?_; rintro e w2 ⟨rfl, hr2, hg2⟩; have hn3 := NN3.out _ hr2; have HG2 := Lib.hid (grown_trans HG1.out hg2); have K2 := Lib.hid (K1.out.grown hg2 (by simp; omega)); have HR2 := Lib.hid hr2; clear hr2 hg2 HM2 HR1)
      | (have HM3 := HR2; go_at_call 54; refine (R3.out _ (HR2.out.alloc _)).mono ?_; rintro e w3 ⟨rfl, hr3, hg3⟩; have hw2s := K2.out.lt; have hne2 : w.heap.size ≠ w2.heap.size := (by omega); have L3 := Lib.hid ((Blk.new w2 49 #[.int .i64 (N1 : Nat), .int .i64 sq, .slice none 0 0]).grown hg3 (by simp; omega)); have HG3 := Lib.hid (grown_trans (grown_trans HG2.out (World.grownBy_alloc w2 (Obj.cells #[.int .i64 (N1 : Nat), .int .i64 sq, .slice none 0 0] 49) (some g))) hg3); have K3 := Lib.hid ((K2.out.alloc _).grown hg3 (by simp; omega)); have HR3 := Lib.hid hr3; clear hr3 hg3 HM3 HR2)
      | (go_at_call 71; refine (R4.out _ HR3.out (by omega)).mono ?_; rintro e w4 ⟨v4, rfl, ho4, hr4, hg4⟩; obtain ⟨A4, c4, rfl⟩ := own_form ho4; have L4 := Lib.hid (L3.out.grown hg4 (by simp; omega)); have HG4 := Lib.hid (grown_trans HG3.out hg4); have K4 := Lib.hid (K3.out.grown hg4 (by simp; omega)); have HR4 := Lib.hid hr4; have HO4 := Lib.hid ho4; have hl3 := L3.out.lt; obtain ⟨x0, x1, x2, x3⟩ := blk_cells3 L4.out; obtain ⟨f0, f1, f2⟩ := blk_fz3 L4.out; obtain ⟨y0, y1, y2, y3⟩ := blk_cells3 K4.out; obtain ⟨g0, g1, g2⟩ := blk_fz3 K4.out; clear ho4 hr4 hg4)
      | (go_at_call 59; refine (R5.out _ (HR4.out.setFar ⟨w2.heap.size, 2, none⟩ (by show g < w2.heap.size; omega) _)).mono ?_; rintro e w' ⟨rfl, rfl⟩))
    refine bodyPost_ret (v := .tuple #[lsaV 0 0 (.slice none 0 0), .bool false]) ?_ rfl ⟨.slice none 0 0, rfl, ⟨0, own_none _ _⟩, (HR4.out.setFar ⟨w2.heap.size, 2, none⟩ (by show g < w2.heap.size; omega) _).upd3 (g2 := w.heap.size) hgs, grown_over (grown_over HG4.out (grown_set w4 ⟨w2.heap.size, 2, none⟩ (.slice A4 N3 c4)) (fun q hq => by cases hq; show w.heap.size ≤ w2.heap.size; omega)) (upd3_grown _ w.heap.size _ _ _) (fun q hq => by cases hq; exact Nat.le_refl _)⟩
    simp [results, Try.results68, go_sem, y0, y1, y2, y3, hne2, hne2.symm]
  · cases mb
    · go_wp2_with (first
      | (have HM1 := R1; go_at_call 54; refine (R1.out).mono ?_; rintro e w1 ⟨rfl, hr1, hg1⟩; have hww := HWR.out _ hr1; have HG1 := Lib.hid (grown_trans (World.grownBy_alloc w (Obj.cells #[.int .i64 0, .int .i64 0, .slice none 0 0] 49) (some g)) hg1); have K1 := Lib.hid ((Blk.new w 49 #[.int .i64 0, .int .i64 0, .slice none 0 0]).grown hg1 (by simp; omega)); have HR1 := Lib.hid hr1; clear hr1 hg1 HM1 R1)
      | (have HM2 := HR1; go_at_call 54; refine (R2.out _ HR1.out).mono ?_; rintro e w2 ⟨rfl, hr2, hg2⟩; have hn3 := NN3.out _ hr2; have HG2 := Lib.hid (grown_trans HG1.out hg2); have K2 := Lib.hid (K1.out.grown hg2 (by simp; omega)); have HR2 := Lib.hid hr2; clear hr2 hg2 HM2 HR1)
      | (have HM3 := HR2; go_at_call 54; refine (R3.out _ (HR2.out.alloc _)).mono ?_; rintro e w3 ⟨rfl, hr3, hg3⟩; have hw2s := K2.out.lt; have hne2 : w.heap.size ≠ w2.heap.size := (by omega); have L3 := Lib.hid ((Blk.new w2 49 #[.int .i64 (N1 : Nat), .int .i64 sq, .slice none 0 0]).grown hg3 (by simp; omega)); have HG3 := Lib.hid (grown_trans (grown_trans HG2.out (World.grownBy_alloc w2 (Obj.cells #[.int .i64 (N1 : Nat), .int .i64 sq, .slice none 0 0] 49) (some g))) hg3); have K3 := Lib.hid ((K2.out.alloc _).grown hg3 (by simp; omega)); have HR3 := Lib.hid hr3; clear hr3 hg3 HM3 HR2)
      | (go_at_call 71; refine (R4.out _ HR3.out (by omega)).mono ?_; rintro e w4 ⟨v4, rfl, ho4, hr4, hg4⟩; obtain ⟨A4, c4, rfl⟩ := own_form ho4; have L4 := Lib.hid (L3.out.grown hg4 (by simp; omega)); have HG4 := Lib.hid (grown_trans HG3.out hg4); have K4 := Lib.hid (K3.out.grown hg4 (by simp; omega)); have HR4 := Lib.hid hr4; have HO4 := Lib.hid ho4; have hl3 := L3.out.lt; obtain ⟨x0, x1, x2, x3⟩ := blk_cells3 L4.out; obtain ⟨f0, f1, f2⟩ := blk_fz3 L4.out; obtain ⟨y0, y1, y2, y3⟩ := blk_cells3 K4.out; obtain ⟨g0, g1, g2⟩ := blk_fz3 K4.out; clear ho4 hr4 hg4)
      | (go_at_call 59; refine (R5.out _ (HR4.out.setFar ⟨w2.heap.size, 2, none⟩ (by show g < w2.heap.size; omega) _)).mono ?_; rintro e w' ⟨rfl, rfl⟩)
      | (go_at_call 63; refine (CK.out A4 c4 _ (lks_own (ownsRow_setCell_below (a := ⟨w2.heap.size, 2, none⟩) HO4.out hl3 _))).mono ?_; rintro e w6 ⟨rfl, hb6⟩; have l5 := L4.out.set_ 2 (.slice A4 N3 c4); have k5 := K4.out.far (p := ⟨w2.heap.size, 2, none⟩) hne2 (.slice A4 N3 c4); have L6 := Lib.hid (l5.below hb6 l5.lt); have K6 := Lib.hid (k5.below hb6 k5.lt); have HR6 := Lib.hid ((HR4.out.setFar ⟨w2.heap.size, 2, none⟩ (by show g < w2.heap.size; omega) (.slice A4 N3 c4)).below hb6 (by have := HR4.out.size; simpa [World.setCell] using this)); have HK6 := Lib.hid (own_below (ownsRow_setCell_below (a := ⟨w2.heap.size, 2, none⟩) HO4.out hl3 (.slice A4 N3 c4)) hb6); have hl3w : w.heap.size < w3.heap.size := (by omega); have HG6 := Lib.hid (grown_over (grown_over HG4.out (grown_set w4 ⟨w2.heap.size, 2, none⟩ (.slice A4 N3 c4)) (fun q hq => by cases hq; show w.heap.size ≤ w2.heap.size; omega)) (grown_of_below (row := none) hb6) (fun q hq => by cases hq)); obtain ⟨i0, i1, i2, i3⟩ := blk_cells3 L6.out; obtain ⟨j0, j1, j2, j3⟩ := blk_cells3 K6.out; obtain ⟨m0, m1, m2⟩ := blk_fz3 K6.out; clear l5 k5 hb6))
      refine bodyPost_ret (v := .tuple #[lsaV 0 0 (.slice none 0 0), .bool false]) ?_ rfl ⟨_, rfl, ⟨0, own_none _ _⟩, HR6.out.upd3 (g2 := w.heap.size) hgs, grown_over HG6.out (upd3_grown _ w.heap.size _ _ _) (fun q hq => by cases hq; exact Nat.le_refl _)⟩
      simp [results, Try.results68, go_sem, j0, j1, j2, j3]
    · go_wp2_with (first
      | (have HM1 := R1; go_at_call 54; refine (R1.out).mono ?_; rintro e w1 ⟨rfl, hr1, hg1⟩; have hww := HWR.out _ hr1; have HG1 := Lib.hid (grown_trans (World.grownBy_alloc w (Obj.cells #[.int .i64 0, .int .i64 0, .slice none 0 0] 49) (some g)) hg1); have K1 := Lib.hid ((Blk.new w 49 #[.int .i64 0, .int .i64 0, .slice none 0 0]).grown hg1 (by simp; omega)); have HR1 := Lib.hid hr1; clear hr1 hg1 HM1 R1)
      | (have HM2 := HR1; go_at_call 54; refine (R2.out _ HR1.out).mono ?_; rintro e w2 ⟨rfl, hr2, hg2⟩; have hn3 := NN3.out _ hr2; have HG2 := Lib.hid (grown_trans HG1.out hg2); have K2 := Lib.hid (K1.out.grown hg2 (by simp; omega)); have HR2 := Lib.hid hr2; clear hr2 hg2 HM2 HR1)
      | (have HM3 := HR2; go_at_call 54; refine (R3.out _ (HR2.out.alloc _)).mono ?_; rintro e w3 ⟨rfl, hr3, hg3⟩; have hw2s := K2.out.lt; have hne2 : w.heap.size ≠ w2.heap.size := (by omega); have L3 := Lib.hid ((Blk.new w2 49 #[.int .i64 (N1 : Nat), .int .i64 sq, .slice none 0 0]).grown hg3 (by simp; omega)); have HG3 := Lib.hid (grown_trans (grown_trans HG2.out (World.grownBy_alloc w2 (Obj.cells #[.int .i64 (N1 : Nat), .int .i64 sq, .slice none 0 0] 49) (some g))) hg3); have K3 := Lib.hid ((K2.out.alloc _).grown hg3 (by simp; omega)); have HR3 := Lib.hid hr3; clear hr3 hg3 HM3 HR2)
      | (go_at_call 71; refine (R4.out _ HR3.out (by omega)).mono ?_; rintro e w4 ⟨v4, rfl, ho4, hr4, hg4⟩; obtain ⟨A4, c4, rfl⟩ := own_form ho4; have L4 := Lib.hid (L3.out.grown hg4 (by simp; omega)); have HG4 := Lib.hid (grown_trans HG3.out hg4); have K4 := Lib.hid (K3.out.grown hg4 (by simp; omega)); have HR4 := Lib.hid hr4; have HO4 := Lib.hid ho4; have hl3 := L3.out.lt; obtain ⟨x0, x1, x2, x3⟩ := blk_cells3 L4.out; obtain ⟨f0, f1, f2⟩ := blk_fz3 L4.out; obtain ⟨y0, y1, y2, y3⟩ := blk_cells3 K4.out; obtain ⟨g0, g1, g2⟩ := blk_fz3 K4.out; clear ho4 hr4 hg4)
      | (go_at_call 59; refine (R5.out _ (HR4.out.setFar ⟨w2.heap.size, 2, none⟩ (by show g < w2.heap.size; omega) _)).mono ?_; rintro e w' ⟨rfl, rfl⟩)
      | (go_at_call 63; refine (CK.out A4 c4 _ (lks_own (ownsRow_setCell_below (a := ⟨w2.heap.size, 2, none⟩) HO4.out hl3 _))).mono ?_; rintro e w6 ⟨rfl, hb6⟩; have l5 := L4.out.set_ 2 (.slice A4 N3 c4); have k5 := K4.out.far (p := ⟨w2.heap.size, 2, none⟩) hne2 (.slice A4 N3 c4); have L6 := Lib.hid (l5.below hb6 l5.lt); have K6 := Lib.hid (k5.below hb6 k5.lt); have HR6 := Lib.hid ((HR4.out.setFar ⟨w2.heap.size, 2, none⟩ (by show g < w2.heap.size; omega) (.slice A4 N3 c4)).below hb6 (by have := HR4.out.size; simpa [World.setCell] using this)); have HK6 := Lib.hid (own_below (ownsRow_setCell_below (a := ⟨w2.heap.size, 2, none⟩) HO4.out hl3 (.slice A4 N3 c4)) hb6); have hl3w : w.heap.size < w3.heap.size := (by omega); have HG6 := Lib.hid (grown_over (grown_over HG4.out (grown_set w4 ⟨w2.heap.size, 2, none⟩ (.slice A4 N3 c4)) (fun q hq => by cases hq; show w.heap.size ≤ w2.heap.size; omega)) (grown_of_below (row := none) hb6) (fun q hq => by cases hq)); obtain ⟨i0, i1, i2, i3⟩ := blk_cells3 L6.out; obtain ⟨j0, j1, j2, j3⟩ := blk_cells3 K6.out; obtain ⟨m0, m1, m2⟩ := blk_fz3 K6.out; clear l5 k5 hb6))
      refine bodyPost_ret (v := .tuple #[lsaV (N1 : Nat) sq (.slice A4 N3 c4), .bool true]) ?_ rfl ⟨_, rfl, ⟨N3, own_mono (upd3_own (g := w.heap.size) HK6.out hl3w) (Nat.le_of_lt hl3w)⟩, HR6.out.upd3 (g2 := w.heap.size) hgs, grown_over HG6.out (upd3_grown _ w.heap.size _ _ _) (fun q hq => by cases hq; exact Nat.le_refl _)⟩
      simp [results, Try.results68, go_sem, j0, j1, j2, j3]
end Go.Proofs.Ytpolpppnajfhdaa.Lsa
