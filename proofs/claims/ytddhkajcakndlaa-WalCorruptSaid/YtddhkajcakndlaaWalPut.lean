/- What a log writes (layer 8): the contracts of the wal's write and lay. -/
import Derived.Test.YtddhkajcakndlaaFlush
import Derived.Test.YtddhkajcakndlaaWalRecord
import Derived.Deep.RegionHeld3
namespace Go.Proofs.Ytddhkajcakndlaa.Wl
open Go.RowKit Go.Proofs.Ytddhkajcakndlaa.Mem Go.Proofs.Ytddhkajcakndlaa.Pg Go.Proofs.Ytddhkajcakndlaa.Rcd Go.Proofs.Ytddhkajcakndlaa.Slt
open Go.Proofs.Ytddhkajcakndlaa.Dsk (KeptBut SMap DiskAt St ptr kept_of_below kept_of_grown kept_drew)
open Go.Proofs.Ytddhkajcakndlaa.Plt (sl plV sl_le sl_pos)
set_option linter.unusedVariables false
set_option linter.unusedSimpArgs false
/-- a wal that is broken, or not -/
def Wn.brk (v : Wn) (e : Int) : Wn := { v with br := e != 0 }
theorem brk_0 (v : Wn) : v.brk 0 = { v with br := false } := rfl
theorem brk_n (v : Wn) {e : Int} (h : e ≠ 0) : v.brk e = { v with br := true } := by
  unfold Wn.brk
  rw [show (e != 0) = true from bne_iff_ne.2 h]
theorem kept_sub {w w' : World} {S T : List Nat} (h : KeptBut w w' S) (hs : ∀ g ∈ S, g ∈ T) : KeptBut w w' T := h.more hs
theorem bts_disk {w : World} {g bs bw : Nat} {s : St} (h : DiskAt w g bs bw s) {A : Option Addr} {n : Nat} {xs : List Nat} (hb : Bts w w.heap.size A n xs) : ∀ w1, w.grownBy w1 (some g) → Bts w1 w1.heap.size A n xs :=
  fun w1 hg => (bts_kept hb (kept_of_grown hg (List.mem_cons_self ..)) (odd_disk h) (Nat.le_refl _)).more hg.size
theorem writes_go {s : St} {i : Nat} {x : List Nat} {r : List (List Nat)} : writes s i (x :: r) = if (s.write (i : Int) x).2 = 0 then writes (s.write (i : Int) x).1 (i + 1) r else s.write (i : Int) x := rfl
theorem drop_at {α : Type} (l : List α) (j : Nat) (d : α) (h : j < l.length) : l.drop j = l.getD j d :: l.drop (j + 1) := by
  rw [List.drop_eq_getElem_cons h]
  simp [List.getD, List.getElem?_eq_getElem h]
set_option maxRecDepth 20000 in
set_option maxHeartbeats 4000000 in
theorem wwrite_any (x g bs bw k : Nat) (s : St) (v : Wn) (fr : Nat) (A : Option Addr) (n c : Nat) (l : List (List Nat)) (w : World) (hw : WalAt w x g k v) (hd : DiskAt w g bs bw s) (hl : Sls w w.heap.size (.slice A n c) l) (hn : n ≤ 1000) (hf : fr ≤ 2000) :
    Calls Try.prog 26 #[ptr x, .int .i64 (fr : Nat), .slice A n c] w fun e w' => e = .returned (.int .i64 (writes s fr l).2) ∧ WalAt w' x g k (v.brk (writes s fr l).2) ∧ DiskAt w' g bs bw (writes s fr l).1 ∧ KeptBut w w' [x, g, bs, bw] := by
  obtain ⟨hll, hnc, hcm⟩ := sls_len hl
  obtain ⟨n1, n2, n3⟩ := wal_ne hw hd
  have hne : x ∉ [g, bs, bw] := by simp [n1, n2, n3]
  have N1 := Lib.hid n1; clear n1
  have N2 := Lib.hid n2; clear n2
  have N3 := Lib.hid n3; clear n3
  have HNE := Lib.hid hne; clear hne
  have hodd := odd_both hw hd
  obtain ⟨R, hR⟩ : ∃ R, R = writes s fr l := ⟨_, rfl⟩
  rw [← hR]
  have HODD := Lib.hid hodd; clear hodd
  have HLL := Lib.hid hll; clear hll
  have HL := Lib.hid hl; clear hl
  have HW := Lib.hid hw; clear hw
  have HD := Lib.hid hd; clear hd
  have HR := Lib.hid hR; clear hR
  go_enter Try.func26, Try.ntmps26
  go_wp2
  go_loopw [13] (fun i wr => ∃ (j : Nat) (sj : St), j ≤ n ∧ i = .int .i64 j ∧ R = writes sj (fr + j) (l.drop j) ∧ WalAt wr x g k v ∧ DiskAt wr g bs bw sj ∧ KeptBut w wr [x, g, bs, bw]) (fun i _ => n - (intOf i).toNat)
  case atStart => exact ⟨0, s, Nat.zero_le _, rfl, HR.out, HW.out, HD.out, KeptBut.refl _ _⟩
  case round =>
    obtain ⟨j, sj, hj, rfl, hRj, hwr, hdr, hkr⟩ := hrel
    have c0 := hwr.c0
    have hx := hwr.lt
    have HWR := Lib.hid hwr; clear hwr
    have HKR := Lib.hid hkr; clear hkr
    by_cases hlt : j < n
    · have hls := sls_kept HL.out HKR.out HODD.out (Nat.le_refl _)
      obtain ⟨b, off, e, hb, hc⟩ := sls_at hls (by omega)
      subst e
      obtain ⟨u, hu, hus⟩ := hc j hlt
      obtain ⟨A1, n1, c1, rfl, hbt, _⟩ := id hus
      rw [drop_at l j [] (by rw [HLL.out]; exact hlt), writes_go] at hRj
      obtain ⟨y, hy⟩ : ∃ y, y = l.getD j [] := ⟨_, rfl⟩
      rw [← hy] at hbt hRj
      have e1 : ((fr + j : Nat) : Int) = (fr : Int) + (j : Int) := by omega
      rw [e1] at hRj
      have cw := Dsk.write_any g bs bw sj ((fr : Int) + (j : Int)) A1 n1 c1 y wr hdr hbt.1 hbt.2.1 (bts_disk hdr (hbt.more HKR.out.size))
      obtain ⟨r, hr⟩ : ∃ r, r = sj.write ((fr : Int) + (j : Int)) y := ⟨_, rfl⟩
      rw [← hr] at cw hRj
      obtain ⟨s', e'⟩ := r
      simp only at cw hRj
      clear hr hy e1 hus hbt hls hc hdr hb
      by_cases he : e' = 0
      · subst he
        rw [if_pos rfl] at hRj
        have HRJ := Lib.hid hRj; clear hRj
        have CW := Lib.hid cw; clear cw
        go_wp2_with (go_at_call 10; refine (CW.out).mono ?_; rintro e w2 ⟨rfl, hd2, hk2⟩; have HW2 := Lib.hid (HWR.out.kept hk2 HNE.out); have HD2 := Lib.hid hd2; have HK2 := Lib.hid (HKR.out.trans (hk2.more (fun y hy => List.mem_cons_of_mem _ hy))); clear hd2 hk2)
        go_roundw
        case rel => exact ⟨j + 1, s', by omega, by go_num, HRJ.out, HW2.out, HD2.out, HK2.out⟩
        case measure => simp [intOf]; omega
      · rw [if_neg he] at hRj
        have hne : (e' != 0) = true := bne_iff_ne.2 he
        have hbr := brk_n v he
        have HBR := Lib.hid hbr; clear hbr
        have HRJ := Lib.hid hRj; clear hRj
        have CW := Lib.hid cw; clear cw
        clear he
        go_wp2_with (go_at_call 10; refine (CW.out).mono ?_; rintro e w2 ⟨rfl, hd2, hk2⟩; have hw2 := HWR.out.kept hk2 HNE.out; have f5 := hw2.fz 7; have d5 := hw2.c7; have hx2 := hw2.lt; have HW2 := Lib.hid hw2; have HD2 := Lib.hid hd2; have HK2 := Lib.hid (HKR.out.trans (hk2.more (fun y hy => List.mem_cons_of_mem _ hy))); clear hd2 hk2 hw2)
        go_ret
        rw [HRJ.out, HBR.out]
        exact ⟨rfl, HW2.out.set_br true, DiskAt.set_far HD2.out _ N1.out N2.out N3.out, HK2.out.trans ((kept_set1 _).more (by simp))⟩
    · obtain rfl : j = n := by omega
      rw [List.drop_of_length_le (by rw [HLL.out]; exact Nat.le_refl _), writes_nil] at hRj
      have cf := Dsk.flush_any g bs bw sj wr hdr
      rw [← hRj] at cf
      obtain ⟨s', e'⟩ := R
      simp only at cf ⊢
      clear hRj hdr HR
      have CF := Lib.hid cf; clear cf
      by_cases he : e' = 0
      · subst he
        go_wp2_with (go_at_call 11; refine (CF.out).mono ?_; rintro e w2 ⟨rfl, hd2, hk2⟩; have hw2 := HWR.out.kept hk2 HNE.out; have f5 := hw2.fz 7; have d5 := hw2.c7; have hx2 := hw2.lt; have HW2 := Lib.hid hw2; have HD2 := Lib.hid hd2; have HK2 := Lib.hid (HKR.out.trans (hk2.more (fun y hy => List.mem_cons_of_mem _ hy))); clear hd2 hk2 hw2)
        go_ret
        exact ⟨rfl, HW2.out.set_br false, DiskAt.set_far HD2.out _ N1.out N2.out N3.out, HK2.out.trans ((kept_set1 _).more (by simp))⟩
      · have hne : (e' != 0) = true := bne_iff_ne.2 he
        have hbr := brk_n v he
        have HBR := Lib.hid hbr; clear hbr
        clear he
        go_wp2_with (go_at_call 11; refine (CF.out).mono ?_; rintro e w2 ⟨rfl, hd2, hk2⟩; have hw2 := HWR.out.kept hk2 HNE.out; have f5 := hw2.fz 7; have d5 := hw2.c7; have hx2 := hw2.lt; have HW2 := Lib.hid hw2; have HD2 := Lib.hid hd2; have HK2 := Lib.hid (HKR.out.trans (hk2.more (fun y hy => List.mem_cons_of_mem _ hy))); clear hd2 hk2 hw2)
        go_ret
        exact ⟨rfl, (by have h := HW2.out.set_br true; rw [← HBR.out] at h; exact h), DiskAt.set_far HD2.out _ N1.out N2.out N3.out, HK2.out.trans ((kept_set1 _).more (by simp))⟩
theorem size77 : (Try.prog.info? 52).map (·.size) = some 2 := by kernel_rfl
theorem size38 : (Try.prog.info? 40).map (·.size) = some 3 := by kernel_rfl
theorem range2 {w : World} {g : Nat} {t : TypeId} {a b : Value} (h : Blk w g t #[a, b]) : w.rangeAt g 0 [a, b] := by
  intro j v hv
  rw [Nat.zero_add, h.cell]
  simpa using hv
theorem range_plot {w : World} {x g k : Nat} {v : Wn} (h : WalAt w x g k v) : w.rangeAt x 1 [.int .i64 (sl k : Nat), .int .i64 (2 * (sl k : Nat)), .int .i64 (lg k : Nat)] := by
  intro j u hu
  rcases j with _ | _ | _ | j
  · rw [h.c1]; exact hu
  · rw [h.c2]; exact hu
  · rw [h.c3]; exact hu
  · simp at hu
theorem blk2c {w w1 : World} {B : Nat} {t : TypeId} {a b : Value} {g : Nat} (h : Blk w g t #[a, b]) (hb : Below w.heap.size w w1) : w1.cell? ⟨g, 0, none⟩ = some a ∧ w1.cell? ⟨g, 1, none⟩ = some b ∧ g < w1.heap.size := by
  have h1 := h.below hb h.lt
  exact ⟨h1.cell 0, h1.cell 1, h1.lt⟩
set_option maxRecDepth 20000 in
set_option maxHeartbeats 4000000 in
theorem lay_any (x g bs bw k : Nat) (s : St) (v : Wn) (gen : Int) (A : Option Addr) (n c : Nat) (b : List Nat) (w : World) (hw : WalAt w x g k v) (hd : DiskAt w g bs bw s) (hk1 : 6 ≤ k) (hk2 : k ≤ 1000) (hg0 : 0 ≤ gen) (hg1 : gen ≤ 2147483648)
    (hb : Sl w w.heap.size (.slice A n c) b) (hbn : b.length = n) (hok : errOf gen v.mark (sl k : Nat) b = 0) :
    Calls Try.prog 29 #[ptr x, .agg #[.int .i64 gen, .slice A n c]] w fun e w' => e = .returned (.int .i64 (writes s (slotAt (sl k) gen) (secL (bP gen v.mark) b)).2) ∧
      WalAt w' x g k (v.brk (writes s (slotAt (sl k) gen) (secL (bP gen v.mark) b)).2) ∧ DiskAt w' g bs bw (writes s (slotAt (sl k) gen) (secL (bP gen v.mark) b)).1 ∧ KeptBut w w' [x, g, bs, bw] := by
  have hsc : secs gen v.mark (sl k : Nat) b = secL (bP gen v.mark) b := by unfold secs; rw [if_pos hok]; rfl
  have hb0 := palloc (Below.refl w.heap.size w) (Obj.cells #[.int .i64 gen, .slice A n c] 52)
  have kb := Blk.new w 52 #[.int .i64 gen, .slice A n c]
  have se := fun (W : World) (hW : Below w.heap.size w W) => sectors_any gen v.mark (sl k : Nat) A n c b W (sl_up hb hW) hbn
  rw [hok, hsc] at se
  have sk := fun (W : World) => slot_k k gen W hk1 (by omega) hg0 (by omega)
  have hslt := slotAt_lt (sl := sl k) (g := gen) (j := 0) (sl_pos (by omega))
  have hs16 := sl_le k
  have hl16 : (secL (bP gen v.mark) b).length ≤ 16 := by rw [secL_len]; exact parts_le _
  obtain ⟨L, hL⟩ : ∃ L, L = secL (bP gen v.mark) b := ⟨_, rfl⟩
  rw [← hL] at se hl16 ⊢
  obtain ⟨f, hf⟩ : ∃ f, f = slotAt (sl k) gen := ⟨_, rfl⟩
  rw [← hf] at sk hslt ⊢
  obtain ⟨t, ht⟩ : ∃ t, t = f + sl k := ⟨_, rfl⟩
  rw [← ht] at sk
  have wr := fun (A1 : Option Addr) (n1 c1 : Nat) (W : World) (h1 : WalAt W x g k v) (h2 : DiskAt W g bs bw s) (h3 : Sls W W.heap.size (.slice A1 n1 c1) L) => wwrite_any x g bs bw k s v f A1 n1 c1 L W h1 h2 h3 (by have := (sls_len h3).1; omega) (by omega)
  obtain ⟨R, hR⟩ : ∃ R, R = writes s f L := ⟨_, rfl⟩
  rw [← hR] at wr ⊢
  have c1 := (hw.up hb0).c1
  have c2 := (hw.up hb0).c2
  have c3 := (hw.up hb0).c3
  have c5 := (hw.up hb0).c5
  have hx := (hw.up hb0).lt
  have k0 : (w.alloc (Obj.cells #[.int .i64 gen, .slice A n c] 52)).cell? ⟨w.heap.size, 0, none⟩ = some (.int .i64 gen) := kb.cell 0
  have k1 : (w.alloc (Obj.cells #[.int .i64 gen, .slice A n c] 52)).cell? ⟨w.heap.size, 1, none⟩ = some (.slice A n c) := kb.cell 1
  have hkb := kb.lt
  have HB0 := Lib.hid hb0; clear hb0
  have KB := Lib.hid kb; clear kb
  have HW := Lib.hid hw; clear hw
  have HD := Lib.hid hd; clear hd
  have SE := Lib.hid se; clear se
  have SK := Lib.hid sk; clear sk
  have WR := Lib.hid wr; clear wr
  clear hL hf ht hR hb hbn hok hsc hl16 hslt hs16
  go_enter Try.func29, Try.ntmps29
  go_wp2
  generalize w.alloc (Obj.cells #[.int .i64 gen, .slice A n c] 52) = w1 at *
  go_region_held3 (fun W => W.cell? ⟨w.heap.size, 0, none⟩ = some (.int .i64 gen) ∧ W.cell? ⟨w.heap.size, 1, none⟩ = some (.slice A n c) ∧ W.cell? ⟨x, 1, none⟩ = some (.int .i64 (sl k : Nat)) ∧ W.cell? ⟨x, 5, none⟩ = some (.int .i64 v.mark))
    (first
      | with_reducible exact ⟨k0, k1, c1, c5⟩
      | with_reducible exact ⟨e0, e1, e2, e3⟩
      | go_keep)
    (first
      | (go_at_call 52; refine (SE.out _ (by exact HB0.out.drew)).mono ?_; rintro e w2 ⟨v2, rfl, hs2, hb2⟩; obtain ⟨A2, n2, c2, rfl, _⟩ := id hs2; have hb2 : Below w1.heap.size w1 w2 := ⟨hb2.os, hb2.tape, hb2.output, hb2.size, hb2.block⟩; have HS2 := Lib.hid hs2; have HB2 := Lib.hid (HB0.out.trans (hb2.mono HB0.out.size)); have kb2 := KB.out.below hb2 hkb; have hw2 := HW.out.up HB2.out; have e0 := kb2.cell 0; have e1 := kb2.cell 1; have e2 := hw2.c1; have e3 := hw2.c5; have e4 := hw2.c2; have e5 := hw2.c3; have hx2 := hw2.lt; have hkb2 := kb2.lt; simp at e0 e1; have HW2 := Lib.hid hw2; have KB2 := Lib.hid kb2; clear hb2 hs2 hw2 kb2))
  go_wp2
  go_region_held3 (fun W => W.cell? ⟨w.heap.size, 0, none⟩ = some (.int .i64 gen) ∧ W.cell? ⟨x, 1, none⟩ = some (.int .i64 (sl k : Nat)) ∧ W.cell? ⟨x, 2, none⟩ = some (.int .i64 (2 * (sl k : Nat))) ∧ W.cell? ⟨x, 3, none⟩ = some (.int .i64 (lg k : Nat)))
    (first
      | with_reducible exact ⟨e0, e2, e4, e5⟩
      | with_reducible exact ⟨f0, f2, f4, f5⟩
      | go_keep)
    (first
      | (go_at_call 53; refine (SK.out _).mono ?_; rintro e w3 ⟨rfl, hb3⟩; have hb3 : Below w2.heap.size w2 w3 := ⟨hb3.os, hb3.tape, hb3.output, hb3.size, hb3.block⟩; have HS3 := Lib.hid (HS2.out.up hb3); have HB3 := Lib.hid (HB2.out.trans (hb3.mono HB2.out.size)); have kb3 := KB2.out.below hb3 hkb2; have hw3 := HW2.out.up hb3; have f0 := kb3.cell 0; have f2 := hw3.c1; have f4 := hw3.c2; have f5 := hw3.c3; simp at f0; have HW3 := Lib.hid hw3; clear hb3 hw3 kb3))
  go_wp2_with (go_at_call 26; refine (WR.out A2 n2 c2 _ HW3.out (HD.out.below HB3.out) HS3.out).mono ?_; rintro e w4 ⟨rfl, hw4, hd4, hk4⟩; have HW4 := Lib.hid hw4; have HD4 := Lib.hid hd4; have HK4 := Lib.hid ((kept_of_below (S := [x, g, bs, bw]) HB3.out (Nat.le_refl _)).trans hk4); clear hw4 hd4 hk4)
  go_ret
  exact ⟨rfl, HW4.out, HD4.out, HK4.out⟩
end Go.Proofs.Ytddhkajcakndlaa.Wl
