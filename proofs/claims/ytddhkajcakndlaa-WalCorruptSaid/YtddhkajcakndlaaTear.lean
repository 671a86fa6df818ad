/- The contract of a disk's tear (layer 3). -/
import Derived.Test.YtddhkajcakndlaaWaits
namespace Go.Proofs.Ytddhkajcakndlaa.Dsk
open Go.RowKit Go.Maps Go.Proofs.Ytddhkajcakndlaa.Mem
set_option linter.unusedVariables false
set_option linter.unusedSimpArgs false
theorem KeptBut.thenBelow {w w1 w2 : World} {S : List Nat} {B : Nat} (h : KeptBut w w1 S) (hb : Below B w1 w2) (hB : w.heap.size ≤ B) : KeptBut w w2 S :=
  ⟨hb.os.trans h.os, hb.tape.trans h.tape, hb.output.trans h.output, Nat.le_trans h.size hb.size, fun k hk hn => (hb.block k (by omega)).trans (h.block k hk hn)⟩
theorem DiskAt.belowB {w w' : World} {g bs bw B : Nat} {s : St} (h : DiskAt w g bs bw s) (hb : Below B w w') (h1 : g < B) (h2 : bs < B) (h3 : bw < B) : DiskAt w' g bs bw s := by
  obtain ⟨k1, ⟨D, n, ⟨es, clock, hbb, F, hs, hD⟩, r1⟩, ⟨D', n', ⟨es', clock', hbb', F', hs', hD'⟩, r2⟩, r⟩ := h
  exact ⟨k1.below hb h1, ⟨D, n, ⟨es, clock, (hb.block bs h2).trans hbb, F, hs, hD⟩, r1⟩, ⟨D', n', ⟨es', clock', (hb.block bw h3).trans hbb', F', hs', hD'⟩, r2⟩, r⟩
abbrev tearV (k : Int) (v : Value) : Value := .agg #[.int .i64 k, v]
set_option maxRecDepth 20000 in
set_option maxHeartbeats 2000000 in
theorem tear_kept (g bs bw : Nat) (s : St) (i : Nat) (v : Value) (w : World) (h : DiskAt w g bs bw s) (hi : i < 1024) :
    Calls Try.prog 37 #[ptr g, .int .i64 (i : Nat), tearV 1 v] w fun e w' => e = .returned (.tuple #[]) ∧ DiskAt w' g bs bw { s with fs := upd1 s.fs i ((s.fw i).getD noughts) } ∧ KeptBut w w' [g, bs, bw] := by
  have h1 := h.alloc (.cells #[.int .i64 1, v] 78)
  have HK : Hid (KeptBut w (w.alloc (.cells #[.int .i64 1, v] 78)) [g, bs, bw]) := kept_alloc _
  have HS := Lib.hid (h.2.2.1.secD i)
  obtain ⟨xs, hxs⟩ : ∃ xs, xs = (s.fw i).getD noughts := ⟨_, rfl⟩
  rw [← hxs] at HS ⊢
  have HX := Lib.hid hxs; clear hxs
  have HD := Lib.hid h1; clear h1 h
  go_enter Try.func37, Try.ntmps37
  go_wp2
  generalize w.alloc (.cells #[.int .i64 1, v] 78) = w1 at *
  have k1 := HD.out.c1
  have k2 := HD.out.c2
  have hlt := HD.out.1.lt
  have hl := HD.out.2.2.1.look hi
  rw [← HX.out] at hl
  have HL : Hid ((Instr.lookup 36 (.map (some bw)) (.int .i64 (i : Int)) false).run Try.prog w1.drew = .ok (secV xs) w1.drew) := by
    have := HD.out.drew.2.2.1.look hi
    rw [← HX.out] at this
    exact this
  clear hl
  go_still_tail 11, (by kernel_rfl)
  refine still_lookup rfl 36 (.tmp 19) (.tmp 20) false rfl _ _ _ rfl rfl HL.out ?_
  refine wpStill_nil ?_
  change wpList _ _ _ _ _ w1.drew
  have HD2 : Hid (DiskAt w1.drew g bs bw s) := HD.out.drew
  have HK2 : Hid (KeptBut w w1.drew [g, bs, bw]) := HK.out.trans kept_drew
  clear HD HK k1 k2 hlt HL
  generalize w1.drew = w3 at *
  go_wp2_with (refine wpList_mapUpdate_sec _ rfl (.tmp 14) (.tmp 15) (.tmp 21) rfl bs s.fs i xs rfl rfl rfl HD2.out.2.1 hi HS.out ?_; intro w4 hm4 hg4)
  go_end0
  exact ⟨rfl, disk_put_safe HD2.out i xs hm4.out hg4, HK2.out.trans (kept_of_grown hg4 (by simp))⟩
set_option maxRecDepth 20000 in
set_option maxHeartbeats 2000000 in
theorem tear_lost (g bs bw : Nat) (s : St) (i : Nat) (k : Int) (v : Value) (w : World) (h : DiskAt w g bs bw s) (h1 : k ≠ 1) (h2 : k ≠ 2) :
    Calls Try.prog 37 #[ptr g, .int .i64 (i : Nat), tearV k v] w fun e w' => e = .returned (.tuple #[]) ∧ DiskAt w' g bs bw s ∧ KeptBut w w' [g, bs, bw] := by
  have e1 : (k == 1) = false := beq_false_of_ne h1
  have e2 : (k == 2) = false := beq_false_of_ne h2
  have HD := Lib.hid (h.alloc (.cells #[.int .i64 k, v] 78))
  clear h h1 h2
  go_enter Try.func37, Try.ntmps37
  go_wp2
  go_end0
  exact ⟨rfl, HD.out, kept_alloc _⟩
set_option maxRecDepth 20000 in
set_option maxHeartbeats 4000000 in
theorem tear_torn (g bs bw : Nat) (s : St) (i : Nat) (v : Value) (b : List Nat) (w : World) (h : DiskAt w g bs bw s) (hi : i < 1024) (hv : Sl w w.heap.size v b) :
    Calls Try.prog 37 #[ptr g, .int .i64 (i : Nat), tearV 2 v] w fun e w' => e = .returned (.tuple #[]) ∧ DiskAt w' g bs bw { s with fs := upd1 s.fs i (torn b ((s.fs i).getD noughts)) } ∧ KeptBut w w' [g, bs, bw] := by
  obtain ⟨A, n, c, rfl, hb, hnc, hcm, _⟩ := hv
  have hbl := hb.1
  have hblt := hb.2.1
  have h1 := h.alloc (.cells #[.int .i64 2, .slice A n c] 78)
  have hl := h1.2.1.look hi
  have HLT := Lib.hid h.lt
  have HS := Lib.hid (h.2.1.secD i)
  obtain ⟨xs, hxs⟩ : ∃ xs, xs = (s.fs i).getD noughts := ⟨_, rfl⟩
  rw [← hxs] at HS hl ⊢
  have HT := Lib.hid (torn_sec hblt HS.out)
  have HSP := Lib.hid (splice_torn xs b HS.out.1)
  have kt : (w.alloc (.cells #[.int .i64 2, .slice A n c] 78)).cell? ⟨w.heap.size, 1, none⟩ = some (.slice A n c) := (Blk.new w 78 #[.int .i64 2, .slice A n c]).cell 1
  have HB : Hid (Bts (w.alloc (.cells #[.int .i64 2, .slice A n c] 78)) w.heap.size A n b) := hb.alloc (Nat.le_refl _) _
  have HK : Hid (KeptBut w (w.alloc (.cells #[.int .i64 2, .slice A n c] 78)) [g, bs, bw]) := kept_alloc _
  have hsz : w.heap.size < (w.alloc (.cells #[.int .i64 2, .slice A n c] 78)).heap.size := by simp
  have HD := Lib.hid h1
  have hz := zero72
  have hcut := cut72
  obtain ⟨N, hN⟩ : ∃ N, N = 512 := ⟨_, rfl⟩
  rw [← hN] at hcut HSP
  obtain ⟨zs, hzs⟩ : ∃ zs, zs = noughts := ⟨_, rfl⟩
  simp only [← hzs] at hz
  have HZS := Lib.hid (hzs ▸ isSec_noughts); clear hzs
  have hbt : (b.take N).length = Nat.min n N := by rw [List.length_take, hbl]; exact Nat.min_comm ..
  have hb0 : (b.take N).length ≤ 512 := by rw [List.length_take, hN]; omega
  have hbc : 0 < (vals (b.take N)).length → ∃ ad, A = some ad ∧ ∀ W, Bts W w.heap.size A n b → ∀ j u, (vals (b.take N))[j]? = some u → W.cell? (ad.add j) = some u := by
    intro h0
    rw [vals_length] at h0
    obtain ⟨b0, o0, e, h3, _⟩ := hb.2.2.2 (by rw [hbt] at h0; exact Nat.lt_of_lt_of_le h0 (Nat.min_le_left ..))
    refine ⟨_, e, fun W hW j u hu => ?_⟩
    rw [show vals (b.take N) = (vals b).take N from by simp [vals, List.map_take], List.getElem?_take] at hu
    split at hu
    · exact bts_cells (e ▸ hW) j u hu
    · cases hu
  obtain ⟨w2, hw2⟩ : ∃ w2, w2 = ((w.alloc (.cells #[.int .i64 2, .slice A n c] 78)).alloc (.cells (vals zs).toArray 71)).setRow (w.heap.size + 1) (vals xs).toArray := ⟨_, rfl⟩
  have kz : ((w.alloc (.cells #[.int .i64 2, .slice A n c] 78)).alloc (.cells (vals zs).toArray 71)).heap[w.heap.size + 1]? = some (.cells (vals zs).toArray 71 (0, 0)) := by
    simpa using heap_alloc_new (w.alloc (.cells #[.int .i64 2, .slice A n c] 78)) (.cells (vals zs).toArray 71)
  have hbel : Below (w.heap.size + 1) (w.alloc (.cells #[.int .i64 2, .slice A n c] 78)) w2 := by
    rw [hw2]
    exact below_setRow ((Below.refl _ _).alloc (by simp) _) (Nat.le_refl _) _
  have hg2 : w2.heap[w.heap.size + 1]? = some (.cells (vals xs).toArray 71 (0, 0)) := by
    rw [hw2]
    exact setRow_heap _ _ _ _ _ _ kz
  have kt2 : w2.cell? ⟨w.heap.size, 1, none⟩ = some (.slice A n c) := (hbel.cell (by simp)).trans kt
  have HD2 : Hid (DiskAt w2 g bs bw s) := h1.below (hbel.mono (by simp))
  have k1 := h1.c1
  have k2 := HD2.out.c1
  have hlt := h1.1.lt
  have hlt2 := HD2.out.1.lt
  have hs2 : w.heap.size + 1 < w2.heap.size := (Array.getElem?_eq_some_iff.1 hg2).1
  have HK2 : Hid (KeptBut w w2 [g, bs, bw]) := HK.out.trans (kept_of_below hbel (by simp))
  have HB2 : Hid (Bts w2 w.heap.size A n b) := HB.out.below hbel (by omega)
  have HKZ := Lib.hid kz; clear kz
  have HG2 := Lib.hid hg2; clear hg2
  have HW2 := Lib.hid hw2; clear hw2
  have HBC := Lib.hid hbc; clear hbc
  have HBT := Lib.hid hbt; clear hbt
  have HB0 := Lib.hid hb0; clear hb0
  have HN := Lib.hid hN; clear hN
  have HBL := Lib.hid hbl; clear hbl
  have HBLT := Lib.hid hblt; clear hblt
  clear h h1 hxs hnc hcm hb hbel HB HK HD kt
  go_enter Try.func37, Try.ntmps37
  go_wp2_with (refine wpList_store_row rfl 71 (.tmp 6) (.tmp 29) rfl (w.heap.size + 1) (vals xs).toArray rfl rfl 71 (vals zs).toArray HKZ.out (by rw [size72]; simp [vals_length, HS.out.1]) (by simp [vals_length, HS.out.1, HZS.out.1]) (vals_all _) ?_; rw [← HW2.out]; clear k1 hlt)
  go_frame
  have HG3 : Hid (w2.drew.heap[w.heap.size + 1]? = some (.cells (vals xs).toArray 71 (0, 0))) := HG2
  have HD3 : Hid (DiskAt w2.drew g bs bw s) := HD2.out.drew
  have HK3 : Hid (KeptBut w w2.drew [g, bs, bw]) := HK2.out.trans kept_drew
  have HB3 : Hid (Bts w2.drew w.heap.size A n b) := HB2.out.drew
  go_still_tail 3, (by kernel_rfl)
  change wpList _ _ _ _ _ w2.drew
  have hlt3 : g < w2.drew.heap.size := hlt2
  clear HG2 HD2 HK2 HB2 kt2 k2 hlt2 hs2 HW2 HKZ
  generalize w2.drew = w3 at *
  go_wp2_with (refine wpList_copy_splice rfl (.tmp 30) (.tmp 32) 22 22 rfl 5 Try.underlying22 u8_size1 _ _ N N n c rfl rfl (w.heap.size + 1) 0 (vals xs) 71 HG3.out (vals (b.take N)) (by rw [vals_length]; exact HBT.out) (fun h0 => ⟨rfl, by obtain ⟨ad, e, hc⟩ := HBC.out h0; exact ⟨ad, e, hc w3 HB3.out⟩⟩) (by rw [vals_length, vals_length, HS.out.1]; have := HB0.out; omega) (vals_one _) (w.heap.size + 1) w3 (Below.refl _ _) (Nat.le_refl _) ?_; intro w4 HG4 hb4; rw [HSP.out] at HG4; have HD4 : Hid (DiskAt w4 g bs bw s) := HD3.out.belowB hb4 (by have := HLT.out; omega) (by have := HLT.out; omega) (by have := HLT.out; omega); have HK4 := Lib.hid (HK3.out.thenBelow hb4 (by omega)); clear hb4)
  go_frame
  have k5 := HD4.out.c1
  have hlt5 := HD4.out.1.lt
  have HG5 : Hid (w4.drew.heap[w.heap.size + 1]? = some (.cells (vals (torn b xs)).toArray 71 (0, 0))) := HG4
  have HD5 : Hid (DiskAt w4.drew g bs bw s) := HD4.out.drew
  have HK5 : Hid (KeptBut w w4.drew [g, bs, bw]) := HK4.out.trans kept_drew
  go_still_tail 6, (by kernel_rfl)
  refine still_load_row rfl 71 (.tmp 6) rfl (w.heap.size + 1) rfl 71 (vals (torn b xs)).toArray (0, 0) _ HG5.out Try.underlying71 rfl (by rw [size72]; simp [vals_length, HT.out.1]) ?_
  refine wpStill_nil ?_
  change wpList _ _ _ _ _ w4.drew
  clear HG4 HD4 HK4 k5 hlt5
  generalize w4.drew = w5 at *
  go_wp2_with (refine wpList_mapUpdate_sec _ rfl (.tmp 37) (.tmp 38) (.tmp 39) rfl bs s.fs i (torn b xs) rfl rfl rfl HD5.out.2.1 hi HT.out ?_; intro w6 hm6 hg6)
  go_end0
  exact ⟨rfl, disk_put_safe HD5.out i (torn b xs) hm6.out hg6, HK5.out.trans (kept_of_grown hg6 (by simp))⟩
theorem tear_any (g bs bw : Nat) (s : St) (i : Nat) (k : Int) (v : Value) (b : List Nat) (w : World) (h : DiskAt w g bs bw s) (hi : i < 1024) (hv : Sl w w.heap.size v b) :
    Calls Try.prog 37 #[ptr g, .int .i64 (i : Nat), tearV k v] w fun e w' => e = .returned (.tuple #[]) ∧ DiskAt w' g bs bw (s.tear i k b) ∧ KeptBut w w' [g, bs, bw] := by
  unfold St.tear
  by_cases h1 : k = 1
  · subst h1
    rw [if_pos rfl]
    exact tear_kept g bs bw s i v w h hi
  · by_cases h2 : k = 2
    · subst h2
      rw [if_neg h1, if_pos rfl]
      exact tear_torn g bs bw s i v b w h hi hv
    · rw [if_neg h1, if_neg h2]
      exact tear_lost g bs bw s i k v w h h1 h2
end Go.Proofs.Ytddhkajcakndlaa.Dsk
