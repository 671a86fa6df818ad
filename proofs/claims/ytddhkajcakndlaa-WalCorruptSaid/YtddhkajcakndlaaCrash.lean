/- The contract of a disk's Crash (layer 3). -/
import Derived.Test.YtddhkajcakndlaaTear
namespace Go.Proofs.Ytddhkajcakndlaa.Dsk
open Go.RowKit Go.Maps Go.Proofs.Ytddhkajcakndlaa.Mem
set_option linter.unusedVariables false
set_option linter.unusedSimpArgs false
/-- a slice of tears -/
def TearsAt (w : World) (B : Nat) (v : Value) (l : List (Int × List Nat)) : Prop :=
  ∃ (A : Option Addr) (n c : Nat), v = .slice A n c ∧ l.length = n ∧ n ≤ 1000000 ∧ (0 < n → ∃ b off, A = some ⟨b, off, none⟩ ∧ b < B ∧
    ∀ i, i < n → ∃ k u xs, l[i]? = some (k, xs) ∧ w.cell? ⟨b, off + i * 2, none⟩ = some (.int .i64 k) ∧ w.cell? ⟨b, off + i * 2 + 1, none⟩ = some u ∧ Sl w B u xs ∧ (Lit.int .i64 k).wf = true)
theorem TearsAt.below {w w' : World} {B B' : Nat} {v : Value} {l : List (Int × List Nat)} (h : TearsAt w B v l) (hb : Below B' w w') (hB : B ≤ B') : TearsAt w' B v l := by
  obtain ⟨A, n, c, rfl, hl, hn, h⟩ := h
  refine ⟨A, n, c, rfl, hl, hn, fun h0 => ?_⟩
  obtain ⟨b, off, e, hbB, hc⟩ := h h0
  refine ⟨b, off, e, hbB, fun i hi => ?_⟩
  obtain ⟨k, u, xs, h1, h2, h3, h4, h5⟩ := hc i hi
  exact ⟨k, u, xs, h1, (hb.cell (p := ⟨b, off + i * 2, none⟩) (Nat.lt_of_lt_of_le hbB hB)).trans h2, (hb.cell (p := ⟨b, off + i * 2 + 1, none⟩) (Nat.lt_of_lt_of_le hbB hB)).trans h3, h4.below hb hB, h5⟩
theorem tears_nil (w : World) (B : Nat) : TearsAt w B (.slice none 0 0) [] := ⟨none, 0, 0, rfl, rfl, by omega, fun h => absurd h (by omega)⟩
theorem own_kept {w w' : World} {S : List Nat} {base : Nat} {e : TypeId} {size n : Nat} {v : Value} {xs : List Value} (h : w.ownsRow base e size v n xs) (k : KeptBut w w' S) (hS : ∀ x ∈ S, x < base) : w'.ownsRow base e size v n xs := by
  obtain ⟨h1, h2 | ⟨g, cap, cur, rfl, hg, hh, rest⟩⟩ := h
  · exact ⟨h1, .inl h2⟩
  · have hlt : g < w.heap.size := (Array.getElem?_eq_some_iff.1 hh).1
    exact ⟨h1, .inr ⟨g, cap, cur, rfl, hg, (k.block g hlt (fun hm => by have := hS g hm; omega)).trans hh, rest⟩⟩
theorem own_ints {w : World} {base n : Nat} {v : Value} {xs : List Nat} (h : w.ownsRow base 3 1 v n (ints xs)) (hn : xs.length = n) :
    ∃ A c, v = .slice A n c ∧ (0 < n → ∃ b, A = some ⟨b, 0, none⟩ ∧ base ≤ b ∧ b < w.heap.size ∧ ∀ i, i < n → w.cell? ⟨b, i, none⟩ = some (.int .i64 (xs.getD i 0 : Nat))) := by
  rcases h.2 with ⟨rfl, rfl⟩ | ⟨g, cap, cur, rfl, hg, hh, hnc, hm, hs, ht⟩
  · exact ⟨none, 0, rfl, fun h0 => absurd h0 (by omega)⟩
  · refine ⟨_, cap, rfl, fun _ => ⟨g, rfl, hg, (h.lt g rfl).2, fun i hi => ?_⟩⟩
    rw [h.cellAt i (by omega)]
    simp [ints, List.getElem?_eq_getElem (show i < xs.length by omega), List.getD]
theorem zip_at {ws : List Nat} {l : List (Int × List Nat)} {k : Nat} {t : Int × List Nat} (hk : k < ws.length) (ht : l[k]? = some t) : (ws.zip l)[k]? = some (ws.getD k 0, t) := by
  rw [List.getElem?_zip_eq_some]
  exact ⟨by simp [List.getD, List.getElem?_eq_getElem hk], ht⟩
theorem getD_mem {ws : List Nat} {k : Nat} (hk : k < ws.length) : ws.getD k 0 ∈ ws := by
  simp [List.getD, List.getElem?_eq_getElem hk]
theorem disk_crashed {w w1 : World} {g bs bw : Nat} {s : St} (h : DiskAt w g bs bw s) (h1 : SMap w1 bw (fun _ => none)) (g1 : w.grownBy w1 (some bw)) : DiskAt w1 g bs bw { s with fw := fun _ => none } := by
  obtain ⟨e1, e2, e3⟩ := h.ne
  obtain ⟨hb, hs, hw, hne, hn1, hn2, hl1, hl2, hr⟩ := h
  exact ⟨hb.grown g1 (by simp; omega), hs.kept g1 (by simp; omega), h1, hne, hn1, hn2, hl1, hl2, fun _ _ => rfl⟩
set_option maxRecDepth 20000 in
set_option maxHeartbeats 4000000 in
theorem crash_any (g bs bw B : Nat) (s : St) (v : Value) (l : List (Int × List Nat)) (w : World) (h : DiskAt w g bs bw s) (hv : TearsAt w B v l) (hB : ∀ x ∈ [g, bs, bw], B ≤ x) :
    Calls Try.prog 16 #[ptr g, v] w fun e w' => e = .returned (.tuple #[]) ∧ DiskAt w' g bs bw (s.crash l) ∧ KeptBut w w' [g, bs, bw] := by
  have c1 := isNone_no g bs bw s w h
  have c2 := waits_any g bs bw s w h
  have C1 := Lib.hid c1; clear c1
  have C2 := Lib.hid c2; clear c2
  have hlt := h.lt
  have hw1024 := h.2.2.2.2.2.1
  obtain ⟨A, n, c, rfl, hl, hn, hcell⟩ := hv
  have hws : s.waiting.length ≤ 1024 := by
    unfold St.waiting
    have := List.length_filter_le (fun i => (s.fw i).isSome) (List.range s.n)
    rw [List.length_range] at this
    omega
  obtain ⟨m, hm⟩ : ∃ m, m = s.waiting.length := ⟨_, rfl⟩
  rw [← hm] at hws C2
  have HH := Lib.hid h; clear h
  have HM := Lib.hid hm; clear hm
  have HC := Lib.hid hcell; clear hcell
  have HL := Lib.hid hl; clear hl
  have HB := Lib.hid hB; clear hB
  go_enter Try.func16, Try.ntmps16
  go_wp2_with (first
    | (go_at_call 35; refine (C1.out).mono ?_; rintro e w' ⟨rfl, rfl⟩)
    | (go_at_call 36; refine (C2.out).mono ?_; rintro e w1 ⟨v1, rfl, hrow, hb1⟩; obtain ⟨A1, c1, rfl, hc1⟩ := own_ints hrow HM.out.symm; have HROW := Lib.hid hrow; clear hrow; have HC1 := Lib.hid hc1; clear hc1; have HD1 := Lib.hid (HH.out.below hb1); have HB1 := Lib.hid hb1; clear hb1))
  obtain ⟨K, hK⟩ : ∃ K : Nat, K = min m n := ⟨_, rfl⟩
  have e : min (m : Int) (n : Int) = (K : Int) := by omega
  rw [e]
  have hKm : K ≤ m := by omega
  have hKn : K ≤ n := by omega
  have HKE := Lib.hid hK; clear hK e
  go_loopw [15] (fun i wr => ∃ k : Nat, k ≤ K ∧ i = .int .i64 k ∧ DiskAt wr g bs bw (s.tears ((s.waiting.zip l).take k)) ∧ KeptBut w1 wr [g, bs, bw]) (fun i _ => K - (intOf i).toNat)
  case atStart => exact ⟨0, Nat.zero_le _, rfl, HD1.out, KeptBut.refl _ _⟩
  case round =>
    obtain ⟨k, hk, rfl, hd, hkept⟩ := hrel
    have HD := Lib.hid hd; clear hd
    have HKP := Lib.hid hkept; clear hkept
    clear hlt
    by_cases hlt : k < K
    · have hkm : k < m := by omega
      have hkn : k < n := by omega
      obtain ⟨b1, rfl, hb1, hb2, hcell1⟩ := HC1.out (by omega)
      obtain ⟨b0, o0, rfl, hb0, hcell0⟩ := HC.out (by omega)
      obtain ⟨kd, u, xs, hlk, g0, g1, hsl, hwf⟩ := hcell0 k hkn
      have hbel : Below B w w1 := HB1.out.mono (by have := HB.out g (by simp); have := HH.out.1.lt; omega)
      have hbel2 : Below B w1 wr := HKP.out.below HB.out (by have := HB.out g (by simp); have := HD1.out.1.lt; omega)
      have g0' := (hbel2.cell (p := ⟨b0, o0 + k * 2, none⟩) hb0).trans ((hbel.cell (p := ⟨b0, o0 + k * 2, none⟩) hb0).trans g0)
      have g1' := (hbel2.cell (p := ⟨b0, o0 + k * 2 + 1, none⟩) hb0).trans ((hbel.cell (p := ⟨b0, o0 + k * 2 + 1, none⟩) hb0).trans g1)
      have g2 := (HKP.out.cell (p := ⟨b1, k, none⟩) hb2 (by have := HH.out.lt; simp; omega)).trans (hcell1 k hkm)
      have hsl2 : Hid (Sl wr wr.heap.size u xs) := ((hsl.below hbel (Nat.le_refl _)).below hbel2 (Nat.le_refl _)).more (by have := HB.out g (by simp); have := HD.out.1.lt; omega)
      have hz := Lib.hid (zip_at (ws := s.waiting) (by rw [← HM.out]; exact hkm) hlk)
      have hi := waiting_lt s _ (getD_mem (ws := s.waiting) (k := k) (by rw [← HM.out]; exact hkm))
      have hbw : b0 < wr.heap.size := by have := HB.out g (by simp); have := HD.out.1.lt; omega
      have hbw1 : b1 < wr.heap.size := Nat.lt_of_lt_of_le hb2 HKP.out.size
      generalize s.waiting.getD k 0 = i at *
      have t1 := tear_any g bs bw _ i kd u xs wr.drew HD.out.drew (by omega) hsl2.out.drew
      have T1 := Lib.hid t1; clear t1
      clear hcell0 hcell1 g0 g1 hbel hbel2 hsl hwf hlk
      go_wp2
      go_still_tail 9, (by kernel_rfl)
      change wpList _ _ _ _ _ wr.drew
      go_wp2_with (go_at_call 37; refine (T1.out).mono ?_; rintro e w2 ⟨rfl, hD2, hK2⟩; have HD2 := Lib.hid hD2; clear hD2; have HK2 := Lib.hid hK2; clear hK2)
      go_roundw
      case rel => exact ⟨k + 1, by omega, by go_num, by rw [tears_step s _ k _ hz.out]; exact HD2.out, (HKP.out.trans kept_drew).trans HK2.out⟩
      case measure => simp [intOf]; omega
    · have hkK : k = K := by omega
      subst hkK
      have hfull : (s.waiting.zip l).take k = s.waiting.zip l := List.take_of_length_le (by rw [List.length_zip, ← HM.out, HL.out, HKE.out]; exact Nat.le_refl _)
      rw [hfull] at HD
      clear hfull
      have k2 := HD.out.c2
      have hglt := HD.out.1.lt
      go_wp2_with (refine wpList_clear_sec _ rfl (.tmp 32) rfl bw (s.tears (s.waiting.zip l)).fw rfl HD.out.2.2.1 ?_; intro w4 hm5 hg5; have hD5 := disk_crashed HD.out hm5.out hg5; have k3 := hD5.c3; have k4 := hD5.c4; have f3 := hD5.1.frozen 3; have f4 := hD5.1.frozen 4; have hglt5 := hD5.1.lt; have HD5 := Lib.hid hD5; clear hD5; have HG5 := Lib.hid hg5; clear hg5 hm5)
      go_end0
      obtain ⟨e1, e2⟩ := tears_same (s.waiting.zip l) s
      refine ⟨rfl, ?_, ?_⟩
      · refine disk_set (s := { s.tears (s.waiting.zip l) with fw := fun _ => none, dead := false }) (disk_set HD5.out 4 _ rfl rfl rfl rfl ?_ ?_) 3 _ rfl rfl rfl rfl ?_ ?_
        · exact HD.out.2.2.2.2.2.2.1
        · exact HD.out.2.2.2.2.2.2.2.1
        · simp [St.crash]
        · simp [St.crash]
      · refine ((((kept_of_below HB1.out (Nat.le_refl _)).trans HKP.out).trans (kept_of_grown HG5.out (by simp))).trans (kept_of_grown (grown_set w4 ⟨g, 4, none⟩ _) (by simp))).trans (kept_of_grown (grown_set _ ⟨g, 3, none⟩ _) (by simp))
end Go.Proofs.Ytddhkajcakndlaa.Dsk
