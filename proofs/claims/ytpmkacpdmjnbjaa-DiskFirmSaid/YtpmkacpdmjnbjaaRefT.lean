/- The reference of layer 3: Waiting, Torn. -/
import Derived.Test.YtpmkacpdmjnbjaaRefS
namespace Go.Proofs.Ytpmkacpdmjnbjaa.Dsk
open Go.RowKit Go.Maps Go.Proofs.Ytpmkacpdmjnbjaa.Mem
set_option linter.unusedVariables false
set_option linter.unusedSimpArgs false
theorem own_form {w : World} {base n size : Nat} {e : TypeId} {v : Value} {xs : List Value} (h : w.ownsRow base e size v n xs) : ∃ A c, v = .slice A n c := by
  rcases h.2 with ⟨rfl, rfl⟩ | ⟨g, cap, cur, rfl, hg, hh, hnc, hm, hs, ht⟩
  · exact ⟨none, 0, rfl⟩
  · exact ⟨_, cap, rfl⟩
def wt (s : St) (k : Nat) : List Nat := (List.range k).filter fun i => (s.fw i).isSome
theorem wt_yes {s : St} {k : Nat} (h : (s.fw k).isSome = true) : wt s (k + 1) = wt s k ++ [k] := by
  unfold wt
  rw [List.range_succ, List.filter_append]
  simp [h]
theorem wt_no {s : St} {k : Nat} (h : s.fw k = none) : wt s (k + 1) = wt s k := by
  unfold wt
  rw [List.range_succ, List.filter_append]
  simp [h]
theorem wt_le (s : St) (k : Nat) : (wt s k).length ≤ k := by
  have := List.length_filter_le (fun i => (s.fw i).isSome) (List.range k)
  rw [List.length_range] at this
  exact this
theorem ints_append (xs ys : List Nat) : ints (xs ++ ys) = ints xs ++ ints ys := by simp [ints]
theorem ints_one (xs : List Nat) : ∀ u ∈ ints xs, u.oneCell' = true := by
  intro u hu
  simp only [ints, List.mem_map] at hu
  obtain ⟨x, _, rfl⟩ := hu
  rfl
set_option maxRecDepth 20000 in
set_option maxHeartbeats 2000000 in
theorem ref_waiting (S : List Nat) (v : Value) (s : St) (w : World) (hg : Good s) (h : RefAt w S v s) :
    Calls Try.prog 40 #[v] w fun e w' => ∃ v', e = .returned v' ∧ w'.ownsRow w.heap.size 3 1 v' s.waiting.length (ints s.waiting) ∧ Below w.heap.size w w' := by
  obtain ⟨v1, v2, us1, us2, rfl, h1, h2, h3, h4⟩ := h
  have hn1 := hg.2.1
  have hwt : s.waiting = wt s s.n := rfl
  rw [hwt]
  clear hwt
  obtain ⟨A1, c1, e1, _⟩ := h1
  obtain ⟨A2, c2, e2, _⟩ := id h2
  have hfw : ∀ i, i < s.n → ∃ A' c' m, us2 i = .slice A' m c' ∧ ((s.fw i = none ∧ m = 0) ∨ ((s.fw i).isSome = true ∧ m = 512)) := by
    intro i hi
    obtain ⟨A', cc, e', _⟩ := (h4 i hi).len
    refine ⟨A', cc, _, e', hg.fwl i⟩
  have hat : ∀ i, i < s.n → ∃ b off, A2 = some ⟨b, off, none⟩ ∧ b < w.heap.size ∧ w.cell? ⟨b, off + i, none⟩ = some (us2 i) := by
    intro i hi
    obtain ⟨b, off, c, e, hb, _, hc⟩ := h2.at_ hi
    rw [e2] at e
    injection e with ea
    exact ⟨b, off, ea, hb, hc⟩
  subst e1 e2
  have HFW := Lib.hid hfw; clear hfw
  have HAT := Lib.hid hat; clear hat
  clear h2 h3 h4 hg
  obtain ⟨i0, hi, hz0, hz1, hz2⟩ := info_parts Try.info3i
  have HI := Lib.hid hi; clear hi
  have HZ0 := Lib.hid hz0; clear hz0
  have HZ1 := Lib.hid hz1; clear hz1
  have HZ2 := Lib.hid hz2; clear hz2
  unfold refV
  obtain ⟨n, hn⟩ : ∃ n, n = s.n := ⟨_, rfl⟩
  rw [← hn] at hn1 HFW HAT ⊢
  clear hn
  generalize armedOf s.left = ar
  generalize s.dead = dd
  obtain ⟨w1, hw1⟩ : ∃ w1, w1 = w.alloc (.cells #[.slice A1 n c1, .slice A2 n c2, .int .i64 ar, .bool dd] 31) := ⟨_, rfl⟩
  have hbk : Blk w1 w.heap.size 31 #[.slice A1 n c1, .slice A2 n c2, .int .i64 ar, .bool dd] := by rw [hw1]; exact Blk.new _ _ _
  have hb1 : Below w.heap.size w w1 := by rw [hw1]; exact (Below.refl _ _).alloc (Nat.le_refl _) _
  have hs1 : w1.heap.size = w.heap.size + 1 := by rw [hw1]; simp
  have hown0 : (w1.alloc (.cells #[] 3)).ownsRow (w.heap.size + 1) 3 1 (.slice (some ⟨w.heap.size + 1, 0, none⟩) 0 0) 0 [] := by
    have := World.ownsRow_lit (base := w.heap.size + 1) (size := 1) (e := 3) w1 #[] 0 (by omega) (by unfold maxLen; omega) rfl
    rw [hs1] at this
    exact this
  have hb0 : Below (w.heap.size + 1) w1 (w1.alloc (.cells #[] 3)) := (Below.refl _ _).alloc (by omega) _
  have HK := Lib.hid hbk; clear hbk
  have HB1 := Lib.hid hb1; clear hb1
  have HS1 := Lib.hid hs1; clear hs1
  have HO0 := Lib.hid hown0; clear hown0
  have HB0 := Lib.hid hb0; clear hb0
  go_enter Try.func40, Try.ntmps40
  go_wp2
  rw [← hw1]
  have HW1 := Lib.hid hw1; clear hw1
  go_loopw [3, 4] (fun v i wr => ∃ k : Nat, k ≤ n ∧ i = .int .i64 k ∧ wr.ownsRow (w.heap.size + 1) 3 1 v (wt s k).length (ints (wt s k)) ∧ Below (w.heap.size + 1) w1 wr) (fun _ i _ => n - (intOf i).toNat)
  case atStart => exact ⟨0, Nat.zero_le _, rfl, HO0.out, HB0.out⟩
  case round =>
    obtain ⟨k, hk, rfl, hown, hbel⟩ := hrel
    obtain ⟨A3, c3, rfl⟩ := own_form hown
    have kb := HK.out.below hbel (by omega)
    have k1 := kb.cell 1
    have klt := kb.lt
    simp at k1
    clear kb
    have HO := Lib.hid hown; clear hown
    have HB := Lib.hid hbel; clear hbel
    have hwl := wt_le s k
    by_cases hlt : k < n
    · obtain ⟨A', c', m, e, hm⟩ := HFW.out k hlt
      obtain ⟨b, off, rfl, hb, hc⟩ := HAT.out k hlt
      rw [e] at hc
      have hc1 : wr.cell? ⟨b, off + k, none⟩ = some (.slice A' m c') := (HB.out.cell (p := ⟨b, off + k, none⟩) (Nat.lt_succ_of_lt hb)).trans ((HB1.out.cell (p := ⟨b, off + k, none⟩) hb).trans hc)
      clear hc e
      rcases hm with ⟨hf, rfl⟩ | ⟨hf, rfl⟩
      · have hstep := wt_no hf
        have HST := Lib.hid hstep; clear hstep hf
        go_wp2
        go_roundw
        case rel => exact ⟨k + 1, by omega, by go_num, by rw [HST.out]; exact HO.out, HB.out⟩
        case measure => simp [intOf]; omega
      · have hstep := wt_yes hf
        have HST := Lib.hid hstep; clear hstep hf
        have hlit : (wr.alloc (.cells #[.int .i64 (k : Nat)] 3)).heap[wr.heap.size]? = some (.cells #[.int .i64 (k : Nat)] 3 (0, 0)) := heap_alloc_new wr _
        have HLIT := Lib.hid hlit; clear hlit
        have hrd : Reads (wr.alloc (.cells #[.int .i64 (k : Nat)] 3)) (wr.heap.size + 1) 1 (some ⟨wr.heap.size, 0, none⟩) 1 (ints [k]) := by
          refine ⟨by simp [ints], fun _ => ⟨_, rfl, by simp, fun j u hu => ?_⟩⟩
          have hj : j = 0 := by
            have := (List.getElem?_eq_some_iff.1 hu).1
            simp [ints] at this
            omega
          subst hj
          simp [ints] at hu
          subst hu
          exact cell_of_row _ _ _ _ _ _ HLIT.out
        have HRD := Lib.hid hrd; clear hrd
        have hsz := HB.out.size
        have hs1 := HS1.out
        have hwn : wr.heap.size ≥ w.heap.size + 1 := by omega
        clear hs1 hsz
        go_wp2_with (at_builtin; go_loud (refine wpList_append_any _ rfl (.tmp 20) (.tmp 22) 54 rfl (w.heap.size + 1) 3 i0 (.int .i64 0) 1 8 Try.underlying54 HI.out HZ0.out HZ1.out HZ2.out rfl (by decide) (.slice A3 (wt s k).length c3) (wt s k).length (ints (wt s k)) rfl (HO.out.alloc _) (wr.heap.size + 1) (some ⟨wr.heap.size, 0, none⟩) 1 1 (ints [k]) rfl HRD.out (ints_one _) (by unfold maxLen; omega) (by omega) (by simp; omega) ?_; intro v2 w2 hown2 hg2 _))
        have hb2 : Below (w.heap.size + 1) w1 w2 := (HB.out.alloc (by omega) _).grown hg2 (by simp; omega) (fun q hq => (HO.out.lt q hq).1)
        clear hg2
        go_roundw
        case rel => exact ⟨k + 1, by omega, by go_num, by rw [HST.out, ints_append, List.length_append]; exact hown2, hb2⟩
        case measure => simp [intOf]; omega
    · obtain rfl : k = n := by omega
      go_wp2
      go_ret
      exact ⟨_, rfl, own_mono HO.out (by omega), HB1.out.trans (HB.out.mono (by omega))⟩
end Go.Proofs.Ytpmkacpdmjnbjaa.Dsk
