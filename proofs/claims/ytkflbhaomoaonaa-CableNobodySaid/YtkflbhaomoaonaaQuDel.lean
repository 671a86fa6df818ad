/- slices.Delete of one text (layer 15): the row behind it. -/
import Derived.Test.YtkflbhaomoaonaaQuNew
import Derived.Deep.RegionHeld3
import Derived.BigFrame
namespace Go.Proofs.Ytkflbhaomoaonaa.Que
open Go.RowKit Go.Proofs.Ytkflbhaomoaonaa.Mem
set_option linter.unusedVariables false
set_option linter.unusedSimpArgs false
theorem zeroSl (w : World) : (zeroValue 33).run Try.prog w = .ok (.slice none 0 0) w := by kernel_rfl
theorem szRow (w : World) : (sizeOf (Try.prog.elem 29)).run Try.prog w = .ok 1 w := by kernel_rfl
theorem unRow : Try.prog.underlying 29 = some (.slice (Try.prog.elem 29)) := by kernel_rfl
/-- the cells behind the cut: what is moved, and one that is cleared -/
def moved (cur : List Value) (n k : Nat) : List Value := (cur.take n).drop (k + 1)
def cutCells (cur : List Value) (n k : Nat) : List Value := cur.take k ++ moved cur n k ++ [.slice none 0 0] ++ cur.drop n
theorem cut_take {cur : List Value} {n k : Nat} (hk : k < n) (hn : n ≤ cur.length) : (cutCells cur n k).take (n - 1) = (cur.take n).eraseIdx k := by
  have h1 : (cur.take k ++ moved cur n k).length = n - 1 := by simp [moved]; omega
  unfold cutCells
  rw [List.append_assoc, List.take_append_of_le_length (by omega), List.take_of_length_le (by omega), List.eraseIdx_eq_take_drop_succ, List.take_take, Nat.min_eq_left (by omega)]
  rfl
theorem cut_len {cur : List Value} {n k : Nat} (hk : k < n) (hn : n ≤ cur.length) : (cutCells cur n k).length = cur.length := by
  unfold cutCells moved
  simp
  omega
theorem setCells_row (g : Nat) (t : TypeId) : ∀ (vs : List Value) (o : Nat) (w : World) (cur : List Value), w.heap[g]? = some (.cells cur.toArray t (0, 0)) → o + vs.length ≤ cur.length →
    (w.setCells g o vs).heap[g]? = some (.cells (cur.take o ++ vs ++ cur.drop (o + vs.length)).toArray t (0, 0))
  | [], o, w, cur, hg, h => by
    have : cur.take o ++ [] ++ cur.drop (o + 0) = cur := by simp
    simp only [List.length_nil, this]
    exact hg
  | v :: vs, o, w, cur, hg, h => by
    simp only [List.length_cons] at h
    have hs : (w.setCell ⟨g, o, none⟩ v).heap[g]? = some (.cells (cur.set o v).toArray t (0, 0)) := by
      have := Blk.set_ (t := t) (cs := cur.toArray) hg o v
      rw [List.setIfInBounds_toArray] at this
      exact this
    have := setCells_row g t vs (o + 1) _ _ hs (by simp; omega)
    have e1 : (cur.set o v).take (o + 1) = cur.take o ++ [v] := by
      rw [List.take_add_one, List.take_set_of_le (by omega)]
      simp [List.getElem?_set, (by omega : o < cur.length)]
    have e2 : (cur.set o v).drop (o + 1 + vs.length) = cur.drop (o + 1 + vs.length) := by
      rw [List.drop_set_of_lt (by omega)]
    rw [e1, e2, List.append_assoc (cur.take o)] at this
    simp only [List.length_cons, show o + (vs.length + 1) = o + 1 + vs.length by omega]
    exact this
theorem grown_cells (g : Nat) : ∀ (vs : List Value) (o : Nat) (w : World), w.grownBy (w.setCells g o vs) (some g)
  | [], o, w => World.grownBy.refl w _
  | v :: vs, o, w => grown_trans (grown_set w ⟨g, o, none⟩ v) (grown_cells g vs (o + 1) _)
set_option maxRecDepth 20000 in
set_option maxHeartbeats 4000000 in
theorem delete_run (r n cap k j m : Nat) (cur : List Value) (w : World) (hg : w.heap[r]? = some (.cells cur.toArray 33 (0, 0))) (hone : ∀ u ∈ cur.take n, u.oneCell' = true) (hcL : cur.length = cap) (hcm : cap ≤ maxLen) (hnc : n ≤ cap) (hj : j = k + 1) (hm : n = j + m) :
    Calls Try.prog 31 #[.slice (some ⟨r, 0, none⟩) n cap, .int .i64 (k : Nat), .int .i64 (j : Nat)] w fun e w' => e = .returned (.slice (some ⟨r, 0, none⟩) (n - 1) cap) ∧ w.grownBy w' (some r) ∧ w'.heap[r]? = some (.cells (cutCells cur n k).toArray 33 (0, 0)) := by
  obtain ⟨i0, hi0, hz0, hz1, hz2⟩ := info_parts info25
  unfold maxLen at hcm
  obtain ⟨A, hA, hsrc⟩ : ∃ A : Addr, (∀ W, (Instr.slice 29 (.slice (some ⟨r, 0, none⟩) n cap) (some (.int .i64 (j : Nat))) none none).run Try.prog W = .ok (.slice (some A) m (cap - j)) W) ∧ Hid (∀ t u, (moved cur n k)[t]? = some u → w.drew.cell? (A.add t) = some u) := by
    have hrun := fun W => run_slice_l (P := Try.prog) W 29 (some ⟨r, 0, none⟩) n cap unRow .i64 (j : Nat) (by omega) (by omega)
    by_cases h : cap = j
    · refine ⟨⟨r, 0, none⟩, fun W => ?_, fun t u hu => ?_⟩
      · rw [hrun W, szRow]
        simp only [Result.andThen, Int.toNat_natCast, sliced, if_pos h]
        rw [show n - j = m by omega]
      · have h0 : (moved cur n k).length = 0 := by simp [moved]; omega
        rw [List.length_eq_zero_iff.1 h0] at hu
        simp at hu
    · refine ⟨⟨r, j, none⟩, fun W => ?_, fun t u hu => ?_⟩
      · rw [hrun W, szRow]
        simp only [Result.andThen, Int.toNat_natCast, sliced, if_neg h]
        rw [show n - j = m by omega]
        simp [add_plain]
      · rw [add_plain]
        show w.cell? _ = _
        rw [cell_of_row w r (j + t) cur.toArray _ (0, 0) hg, ← hu]
        have ht : t < (moved cur n k).length := (List.getElem?_eq_some_iff.1 hu).1
        simp only [moved, List.length_drop, List.length_take] at ht
        simp [moved, List.getElem?_drop, List.getElem?_take, hj, (by omega : k + 1 + t < n)]
  have hlen : (moved cur n k).length = m * 1 := by simp [moved]; omega
  have hmv : Hid (∀ u ∈ moved cur n k, u.oneCell' = true) := fun u hu => hone u (List.mem_of_mem_drop hu)
  have s3 : Hid (∀ t, t < (moved cur n k).length → (w.drew.cell? ⟨r, 0 + k * 1 + t, none⟩).isSome = true ∧ w.drew.frozen? ⟨r, 0 + k * 1 + t, none⟩ = false) := fun t ht => by
    rw [hlen] at ht
    refine ⟨?_, ?_⟩
    · show (w.cell? _).isSome = true
      rw [cell_of_row w r _ cur.toArray _ (0, 0) hg]
      simp
      omega
    · exact Blk.frozen (t := 33) (cs := cur.toArray) hg _
  obtain ⟨W1, hW1⟩ : ∃ W1, W1 = w.drew.setCells r (0 + k * 1) (moved cur n k) := ⟨_, rfl⟩
  have hg1 : W1.heap[r]? = some (.cells (cur.take k ++ moved cur n k ++ cur.drop (k + m)).toArray 33 (0, 0)) := by
    have := setCells_row r 33 (moved cur n k) (0 + k * 1) w.drew cur hg (by rw [hlen]; omega)
    rw [← hW1, hlen] at this
    simpa using this
  obtain ⟨q, hq⟩ : ∃ q, q = k + m := ⟨_, rfl⟩
  have hl1 : (cur.take k ++ moved cur n k ++ cur.drop (k + m)).length = cap := by simp only [List.length_append, hlen]; simp; omega
  have hcl : ∀ ty, (Builtin.clear_ #[29] ty #[.slice (some ⟨r, q, none⟩) 1 (cap - q)]).run Try.prog W1 = .ok (.tuple #[]) (W1.setCells r q [.slice none 0 0]) :=
    fun ty => Lib.run_clear_slice W1 _ _ ty _ Try.underlying29 zeroSl rfl rfl r q 1 _ (by omega) (fun t ht => by
      rw [cell_of_row W1 r _ _ _ (0, 0) hg1]
      rw [List.getElem?_toArray, List.getElem?_eq_getElem (by omega)]
      rfl) (fun t ht => Blk.frozen (t := 33) hg1 _)
  have hsl : ∀ W, (Instr.slice 29 (.slice (some ⟨r, 0, none⟩) q cap) (some (.int .i64 (q : Nat))) (some (.int .i64 (n : Nat))) none).run Try.prog W = .ok (.slice (some ⟨r, q, none⟩) 1 (cap - q)) W := fun W => by
    rw [run_slice_lh W _ (some ⟨r, 0, none⟩) q cap unRow .i64 .i64 (q : Nat) (n : Nat) (by omega) (by omega) (by omega), szRow]
    simp only [Result.andThen, Int.toNat_natCast, sliced, if_neg (by omega : ¬ cap = q)]
    rw [show n - q = 1 by omega]
    simp [add_plain]
  have hg2 : (W1.setCells r q [.slice none 0 0]).heap[r]? = some (.cells (cutCells cur n k).toArray 33 (0, 0)) := by
    have := setCells_row r 33 [.slice none 0 0] q W1 _ hg1 (by rw [hl1]; simp; omega)
    rw [this]
    have e1 : (cur.take k ++ moved cur n k).length = q := by simp only [List.length_append, hlen]; simp; omega
    have e2 : (cur.take k ++ moved cur n k ++ cur.drop (k + m)).take q = cur.take k ++ moved cur n k := by
      rw [List.take_append_of_le_length (by omega), List.take_of_length_le (by omega)]
    have e3 : (cur.take k ++ moved cur n k ++ cur.drop (k + m)).drop (q + 1) = cur.drop n := by
      rw [List.drop_append, List.drop_of_length_le (by omega), List.nil_append, List.drop_drop, e1]
      congr 1
      omega
    simp only [List.length_cons, List.length_nil, e2, e3]
    rfl
  have HG2 := Lib.hid hg2; clear hg2
  have HGR := Lib.hid (grown_trans (grown_trans (grown_drew (w := w) (row := some r)) (grown_cells r (moved cur n k) (0 + k * 1) w.drew)) (show (w.drew.setCells r (0 + k * 1) (moved cur n k)).grownBy (W1.setCells r q [.slice none 0 0]) (some r) by rw [← hW1]; exact grown_cells r _ q W1))
  have HW : Hid (W1 = w.drew.setCells r (0 + k * 1) (moved cur n k)) := hW1
  have HLEN := Lib.hid hlen; clear hlen
  have HQ := Lib.hid hq
  have hq1 : q < n := by omega
  have hq2 : q ≤ cap := by omega
  have hq3 : q = n - 1 := by omega
  have HQ3 := Lib.hid hq3; clear hq3
  have hkj : k < j := by omega
  have hjn : j ≤ n := by omega
  have hkc : k ≤ cap := by omega
  have hjc : j ≤ cap := by omega
  have hkq : k + m ≤ cap := by omega
  have hne : ((k : Int) == (j : Int)) = false := beq_false_of_ne (by omega)
  clear hW1 hg1 hl1 hq hj hm hg hone hcL
  go_enter Try.func31, Try.ntmps31
  go_wp2_with fail
  go_region_law (refine step_append_room rfl (.tmp 22) (.tmp 25) 29 rfl 33 i0 1 Try.underlying29 hi0 hz1 r 0 k cap (by simp [Act.eval, Act.put]) A m (cap - j) (moved cur n k) (by simp [Act.eval, Act.put]) HLEN.out hsrc.out hmv.out (by omega) s3.out ?_; rw [← HW.out, ← HQ.out])
  go_wp2
  go_ret
  exact ⟨by rw [HQ3.out]; rfl, HGR.out, HG2.out⟩
theorem getD_erase {α : Type} (l : List α) (k i : Nat) (d : α) : (l.eraseIdx k).getD i d = if i < k then l.getD i d else l.getD (i + 1) d := by
  simp only [List.getD, List.getElem?_eraseIdx]
  split <;> rfl
/-- one text is taken out of a row of one's own -/
theorem delete_any (base : Nat) (v : Value) (ts : List (List Nat)) (k : Nat) (w : World) (h : SlRow w base v ts) (hk : k < ts.length) :
    Calls Try.prog 31 #[v, .int .i64 (k : Nat), .int .i64 ((k : Int) + 1)] w fun e w' => ∃ v', e = .returned v' ∧ SlRow w' base v' (ts.eraseIdx k) ∧ w.grownBy w' v.ownBlock ∧ v'.ownBlock = v.ownBlock := by
  obtain ⟨vs, hl, ⟨hown, hno⟩, hs⟩ := h
  rcases hown.2 with ⟨rfl, h0⟩ | ⟨r, cap, cur, rfl, hb, hg, hnc, hcm, hcs, htake⟩
  · omega
  · have hcl : cur.toList.length = cap := by rw [Array.length_toList, hcs, Nat.mul_one]
    have hnb := noBy_of hg hno
    rw [Nat.mul_one] at htake
    have hone : ∀ u ∈ cur.toList.take ts.length, u.oneCell' = true := fun u hu => by
      rw [htake] at hu
      obtain ⟨i, hi, rfl⟩ := List.mem_iff_getElem.1 hu
      have := hs i (by omega)
      rw [show vs.getD i undef = vs[i] by simp [List.getD, hi]] at this
      exact (sl_one this).1
    refine (delete_run r ts.length cap k (k + 1) (ts.length - (k + 1)) cur.toList w hg hone hcl hcm hnc rfl (by omega)).mono ?_
    rintro e w' ⟨rfl, hgr, hg'⟩
    have hct := cut_take (cur := cur.toList) hk (by omega)
    have hlen : (ts.eraseIdx k).length = ts.length - 1 := by rw [List.length_eraseIdx, if_pos hk]
    refine ⟨_, rfl, ⟨vs.eraseIdx k, by rw [hlen, List.length_eraseIdx, if_pos (by omega), hl], ⟨⟨by rw [hlen, List.length_eraseIdx, if_pos (by omega), hl, Nat.mul_one], .inr ⟨r, cap, _, by rw [hlen], hb, hg', by omega, hcm, ?_, ?_⟩⟩, ?_⟩, fun i hi => ?_⟩, hgr, rfl⟩
    · rw [List.size_toArray, cut_len hk (by omega), hcl, Nat.mul_one]
    · rw [hlen, Nat.mul_one, hct, htake]
    · refine noBy_cells hg' fun u hu => ?_
      simp only [cutCells, moved, List.mem_append] at hu
      rcases hu with ((hu | hu) | hu) | hu
      · exact hnb u (List.mem_of_mem_take hu)
      · exact hnb u (List.mem_of_mem_take (List.mem_of_mem_drop hu))
      · simp at hu; subst hu; rfl
      · exact hnb u (List.mem_of_mem_drop hu)
    · rw [getD_erase, getD_erase]
      rw [hlen] at hi
      split
      · exact (sl_by (hs i (by omega)) hgr (Nat.le_refl _) hno).more hgr.size
      · exact (sl_by (hs (i + 1) (by omega)) hgr (Nat.le_refl _) hno).more hgr.size
end Go.Proofs.Ytkflbhaomoaonaa.Que
