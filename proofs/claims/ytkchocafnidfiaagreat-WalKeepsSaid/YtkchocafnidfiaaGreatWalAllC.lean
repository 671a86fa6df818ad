/- WalAllC: the texts WalTold, WalOpenRow, WalHolds, WalHeld, WalMid, WalRow in one. (Printed by tools/mergeall.py.) -/
import Derived.Test.YtkchocafnidfiaaGreatDiskAll
import Derived.Test.YtkchocafnidfiaaGreatWalAllB
import Derived.BigQuiet
import Derived.Deep.RegionHeld3
/- What the check tells of a crash (layer 8): the contract of the law's Told. -/
namespace Go.Proofs.YtkchocafnidfiaaGreat.Wl
open Go.RowKit Go.Proofs.YtkchocafnidfiaaGreat.Mem Go.Proofs.YtkchocafnidfiaaGreat.Pg Go.Proofs.YtkchocafnidfiaaGreat.Rcd Go.Proofs.YtkchocafnidfiaaGreat.Slt
open Go.Proofs.YtkchocafnidfiaaGreat.Dsk (KeptBut SMap DiskAt St ptr kept_of_below kept_of_grown kept_drew TearsAt KeepRow)
set_option linter.unusedVariables false
set_option linter.unusedSimpArgs false
theorem crash_get (s : St) (l : List (Int × List Nat)) (i : Nat) : (s.crash l).get i = ((s.crash l).fs i).getD Dsk.noughts := rfl
theorem crash_n (s : St) (l : List (Int × List Nat)) : (s.crash l).n = s.n := (Dsk.tears_same (s.waiting.zip l) s).1
/-- nothing waits: whatever the tears are -/
theorem crashed_calm {s : St} (h : ∀ j, s.fw j = none) (l : List (Int × List Nat)) : Crashed s (s.crash l) := by
  refine ⟨crash_n s l, rfl, fun _ => rfl, fun i hi => ?_, fun i y hy => ?_⟩
  · rw [crash_get, Dsk.crash_no hi]
  · rw [h i] at hy; cases hy
theorem lost_get (s : St) (i : Nat) : (s.crash []).get i = (s.fs i).getD Dsk.noughts := by
  have e : (s.crash []).fs = s.fs := by unfold St.crash; simp [St.tears]
  rw [crash_get, e]
def allKept (s : St) : List (Int × List Nat) := List.replicate s.waiting.length (1, [])
theorem kept_get {s : St} {i : Nat} {x : List Nat} (hi : i < s.n) (h : s.fw i = some x) : (s.crash (allKept s)).get i = x := by
  have h1 := Dsk.wt_at (s := s) (k := i) (by rw [h]; rfl) hi
  have h2 := (List.getElem?_eq_some_iff.1 h1).1
  rw [crash_get, Dsk.crash_at (by rw [h]; rfl) hi (allKept s) (1, []) (by unfold allKept; rw [List.getElem?_replicate, if_pos h2]), Dsk.tear_one, h]
  rfl
/-- the check tells this sector -/
def TellsAt (s : St) (l : List (Int × List Nat)) (i : Nat) : Prop := got ((s.crash l).get i) = none ∨ (s.crash l).get i = (s.crash []).get i ∨ (s.crash l).get i = (s.crash (allKept s)).get i
theorem told_crashed {s : St} {l : List (Int × List Nat)} (hf : ∀ i, s.n ≤ i → s.fw i = none) (h : ∀ j, j < s.waiting.length → TellsAt s l (s.waiting.getD j 0)) : Crashed s (s.crash l) := by
  refine ⟨crash_n s l, rfl, fun _ => rfl, fun i hi => ?_, fun i y hy => ?_⟩
  · rw [crash_get, Dsk.crash_no hi]
  · have hi : i < s.n := Nat.lt_of_not_le fun hh => by rw [hf i hh] at hy; cases hy
    have h1 := Dsk.wt_at (s := s) (k := i) (by rw [hy]; rfl) hi
    have h2 := (List.getElem?_eq_some_iff.1 h1).1
    have h3 := h _ h2
    have e : s.waiting.getD (Dsk.wt s i).length 0 = i := by simp [List.getD, h1]
    rw [e] at h3
    unfold TellsAt at h3
    rw [lost_get, kept_get hi hy] at h3
    exact h3
def one : List Value := [.int .i64 1, .slice none 0 0]
def ones (n : Nat) : List Value := (List.replicate n one).flatten
theorem ones_succ (n : Nat) : ones (n + 1) = ones n ++ one := by
  unfold ones
  rw [List.replicate_succ', List.flatten_append]
  simp
theorem ones_len (n : Nat) : (ones n).length = 2 * n := by
  induction n with
  | zero => rfl
  | succ n ih => rw [ones_succ, List.length_append, ih]; unfold one; simp; omega
theorem ones_at (n : Nat) : ∀ i, i < n → (ones n)[2 * i]? = some (.int .i64 1) ∧ (ones n)[2 * i + 1]? = some (.slice none 0 0) := by
  induction n with
  | zero => intro i hi; omega
  | succ n ih =>
    intro i hi
    rw [ones_succ]
    by_cases h : i < n
    · rw [List.getElem?_append_left (by rw [ones_len]; omega), List.getElem?_append_left (by rw [ones_len]; omega)]
      exact ih i h
    · obtain rfl : i = n := by omega
      rw [List.getElem?_append_right (by rw [ones_len]; omega), List.getElem?_append_right (by rw [ones_len]; omega), ones_len]
      simp [one]
theorem own_keep {w : World} {base n : Nat} {v : Value} {S : List Nat} (h : OwnN w base 106 2 v n (ones n)) (hn : n ≤ 1000000) (hS : ∀ x ∈ S, x < base) : KeepRow w S v n := by
  rcases h.1.2 with ⟨rfl, h0⟩ | ⟨g, cap, cur, rfl, hg, hh, hnc, hm, hs, ht⟩
  · exact ⟨none, 0, by first | rfl | simp_all, hn, fun h1 => by first | omega | (simp_all)⟩
  · refine ⟨_, cap, rfl, hn, fun _ => ⟨g, 0, rfl, (h.1.lt g rfl).2, fun hm => by have := hS g hm; omega, fun i hi => ?_⟩⟩
    obtain ⟨a1, a2⟩ := ones_at n i hi
    have e1 := h.1.cellAt (i * 2) (by omega)
    have e2 := h.1.cellAt (i * 2 + 1) (by omega)
    rw [Nat.zero_add]
    rw [e1, e2, Nat.mul_comm i 2]
    exact ⟨a1, a2⟩
def zTr : Value := .agg #[.int .i64 0, .slice none 0 0]
theorem infoT : (Tryz.prog.info? 106).map (fun i => (i.zero, i.size, i.bytes)) = some (some zTr, 2, 32) := by kernel_rfl
theorem one_one : ∀ u ∈ one, u.oneCell' = true := by unfold one; simp [Value.oneCell']
theorem one_nob : ∀ u ∈ one, isBy u = false := by unfold one; simp [isBy]
theorem zTr_nob : ∀ u ∈ zTr.cells.toList, isBy u = false := by unfold zTr; simp [Value.cells, isBy]
theorem reads_one (w : World) (g : Nat) (hg : g = w.heap.size) : Reads (w.alloc (.cells #[.int .i64 1, .slice none 0 0] 106)) (w.heap.size + 1) 2 (some ⟨g, 0, none⟩) 1 one := by
  subst hg
  refine ⟨by simp [one], fun _ => ⟨_, rfl, Nat.lt_succ_self _, fun j u hu => ?_⟩⟩
  have hk := Blk.new w 106 #[.int .i64 1, .slice none 0 0]
  rw [add_plain, Nat.zero_add, hk.cell]
  simpa [one] using hu
/-- three disks, each made behind the one before -/
def Trio (w W : World) (g1 s1 b1 g2 s2 b2 g3 s3 b3 : Nat) : Prop := (∀ x ∈ [g1, s1, b1], w.heap.size ≤ x) ∧ (∀ x ∈ [g2, s2, b2], w.heap.size ≤ x) ∧ (∀ x ∈ [g3, s3, b3], w.heap.size ≤ x) ∧ (∀ x ∈ [g1, s1, b1], x ∉ [g2, s2, b2]) ∧ (∀ x ∈ [g1, s1, b1], x ∉ [g3, s3, b3]) ∧ (∀ x ∈ [g2, s2, b2], x ∉ [g3, s3, b3]) ∧ (∀ x ∈ [g1, s1, b1], x < W.heap.size) ∧ (∀ x ∈ [g2, s2, b2], x < W.heap.size) ∧ (∀ x ∈ [g3, s3, b3], x < W.heap.size)
theorem trio_of {w w1 w2 w3 : World} {g1 s1 b1 g2 s2 b2 g3 s3 b3 : Nat} {s : St} (h1 : ∀ x ∈ [g1, s1, b1], w.heap.size ≤ x) (h2 : ∀ x ∈ [g2, s2, b2], w1.heap.size ≤ x) (h3 : ∀ x ∈ [g3, s3, b3], w2.heap.size ≤ x)
    (d1 : DiskAt w1 g1 s1 b1 s) (d2 : DiskAt w2 g2 s2 b2 s) (d3 : DiskAt w3 g3 s3 b3 s) (l1 : w.heap.size ≤ w1.heap.size) (l2 : w1.heap.size ≤ w2.heap.size) (l3 : w2.heap.size ≤ w3.heap.size) : Trio w w3 g1 s1 b1 g2 s2 b2 g3 s3 b3 := by
  have := d1.lt
  have := d2.lt
  have := d3.lt
  simp only [List.mem_cons, List.not_mem_nil, or_false, forall_eq_or_imp, forall_eq, Trio] at *
  omega
theorem off_l {W W' : World} {g s1 b1 a b c : Nat} {s : St} (h : DiskAt W g s1 b1 s) (hk : KeptBut W W' [a, b, c]) (hne : ∀ x ∈ [g, s1, b1], x ∉ [a, b, c]) : DiskAt W' g s1 b1 s :=
  h.kept hk (hne _ (by simp)) (hne _ (by simp)) (hne _ (by simp))
theorem off_r {W W' : World} {g s1 b1 a b c : Nat} {s : St} (h : DiskAt W g s1 b1 s) (hk : KeptBut W W' [a, b, c]) (hne : ∀ x ∈ [a, b, c], x ∉ [g, s1, b1]) : DiskAt W' g s1 b1 s :=
  h.kept hk (fun hm => hne _ hm (by simp)) (fun hm => hne _ hm (by simp)) (fun hm => hne _ hm (by simp))
/-- what lies off all three disks -/
theorem off_cell {w W W' : World} {a b c : Nat} {m b4 : Nat} {ws : List Nat} (hk : KeptBut W W' [a, b, c]) (hb : b4 < W.heap.size) (hn : ∀ x ∈ [a, b, c], x < b4) (hc : ∀ i, i < m → W.cell? ⟨b4, i, none⟩ = some (.int .i64 (ws.getD i 0 : Nat))) : ∀ i, i < m → W'.cell? ⟨b4, i, none⟩ = some (.int .i64 (ws.getD i 0 : Nat)) :=
  fun i hi => (hk.cell (p := ⟨b4, i, none⟩) hb (fun hm => by have := hn _ hm; simp at this)).trans (hc i hi)
/-- the row of those that wait -/
def WaitRow (w : World) (lo : Nat) (A : Option Addr) (m : Nat) (ws : List Nat) : Prop := 0 < m → ∃ b, A = some ⟨b, 0, none⟩ ∧ lo ≤ b ∧ b < w.heap.size ∧ ∀ i, i < m → w.cell? ⟨b, i, none⟩ = some (.int .i64 (ws.getD i 0 : Nat))
theorem WaitRow.below {w w' : World} {lo m : Nat} {A : Option Addr} {ws : List Nat} (h : WaitRow w lo A m ws) (hb : Below w.heap.size w w') : WaitRow w' lo A m ws := fun h0 => by
  obtain ⟨b, e, h1, h2, h3⟩ := h h0
  exact ⟨b, e, h1, Nat.lt_of_lt_of_le h2 hb.size, fun i hi => (hb.cell (p := ⟨b, i, none⟩) h2).trans (h3 i hi)⟩
theorem WaitRow.kept {w w' : World} {lo m a c d : Nat} {A : Option Addr} {ws : List Nat} (h : WaitRow w lo A m ws) (hk : KeptBut w w' [a, c, d]) (hn : ∀ x ∈ [a, c, d], x < lo) : WaitRow w' lo A m ws := fun h0 => by
  obtain ⟨b, e, h1, h2, h3⟩ := h h0
  exact ⟨b, e, h1, Nat.lt_of_lt_of_le h2 hk.size, off_cell (w := w) hk h2 (fun x hx => Nat.lt_of_lt_of_le (hn x hx) h1) h3⟩
set_option maxRecDepth 20000 in
set_option maxHeartbeats 8000000 in
theorem told_any (g bs bw B : Nat) (s : St) (At : Option Addr) (nt ct : Nat) (l : List (Int × List Nat)) (w : World) (h : DiskAt w g bs bw s) (hv : TearsAt w B (.slice At nt ct) l) (hB : B ≤ w.heap.size) :
    Calls Tryz.prog 29 #[ptr g, .slice At nt ct] w fun e w' => ∃ t, e = .returned (.bool t) ∧ (t = true → Crashed s (s.crash l)) ∧ Below w.heap.size w w' := by
  have hf := h.2.2.2.2.2.2.2.2
  have hn1024 := h.2.2.2.2.2.1
  have hws : s.waiting.length ≤ 1024 := by
    unfold St.waiting
    have := List.length_filter_le (fun i => (s.fw i).isSome) (List.range s.n)
    rw [List.length_range] at this
    omega
  have hwl := Dsk.waiting_lt s
  have HF := Lib.hid (fun hh => told_crashed (l := l) hf hh); clear hf
  have CL := Lib.hid (fun (W : World) (hW : DiskAt W g bs bw s) => Dsk.clone_any g bs bw s W hW)
  have WT := Lib.hid (fun (W : World) (hW : DiskAt W g bs bw s) => Dsk.waits_any g bs bw s W hW)
  have CA := Lib.hid (fun (g' bs' bw' B' : Nat) (v : Value) (l' : List (Int × List Nat)) (W : World) (hW : DiskAt W g' bs' bw' s) (hT : TearsAt W B' v l') (hB' : ∀ x ∈ [g', bs', bw'], B' ≤ x) => Dsk.crash_any g' bs' bw' B' s v l' W hW hT hB')
  obtain ⟨ws, hwse⟩ : ∃ ws, ws = s.waiting := ⟨_, rfl⟩
  obtain ⟨m, hm⟩ : ∃ m, m = ws.length := ⟨_, rfl⟩
  have hak : allKept s = List.replicate m (1, []) := by unfold allKept; rw [hm, hwse]
  have CK := Lib.hid (fun (g' bs' bw' : Nat) (v : Value) (W : World) (hW : DiskAt W g' bs' bw' s) (hT : KeepRow W [g', bs', bw'] v m) => hak ▸ Dsk.crash_kept g' bs' bw' m s v W hW hT); clear hak
  rw [← hwse] at hws hwl HF WT
  rw [← hm] at hws HF WT
  have HM := Lib.hid hm; clear hm hwse
  have HW := Lib.hid hwl; clear hwl
  have HH := Lib.hid h; clear h
  have HV := Lib.hid hv; clear hv
  obtain ⟨i0, hi, hz0, hz1, hz2⟩ := info_parts infoT
  have HI := Lib.hid hi; clear hi
  have HZ0 := Lib.hid hz0; clear hz0
  have HZ1 := Lib.hid hz1; clear hz1
  have HZ2 := Lib.hid hz2; clear hz2
  go_enter Tryz.func29, Tryz.ntmps29
  go_wp2_with (first
    | (go_at_call 62; refine (CL.out _ (HH.out.below HB2.out)).mono ?_; rintro e w3 ⟨g3, bs3, bw3, rfl, hd3, hb3, hg3⟩; have HB3 := Lib.hid (HB2.out.trans (hb3.mono HB2.out.size)); have HTR := Lib.hid (trio_of HG1.out HG2.out hg3 HD1.out HD2.out hd3 HB1.out.size HL12.out hb3.size); have HD3 := Lib.hid hd3; have HD13 := Lib.hid (HD12.out.below hb3); have HD23 := Lib.hid (HD2.out.below hb3); clear hd3 hb3 hg3)
    | (go_at_call 62; refine (CL.out _ (HH.out.below HB1.out)).mono ?_; rintro e w2 ⟨g2, bs2, bw2, rfl, hd2, hb2, hg2⟩; have HL12 := Lib.hid hb2.size; have HB2 := Lib.hid (HB1.out.trans (hb2.mono HB1.out.size)); have HD2 := Lib.hid hd2; have HG2 := Lib.hid hg2; have HD12 := Lib.hid (HD1.out.below hb2); clear hd2 hb2 hg2)
    | (go_at_call 62; refine (CL.out _ HH.out).mono ?_; rintro e w1 ⟨g1, bs1, bw1, rfl, hd1, hb1, hg1⟩; have HB1 := Lib.hid hb1; have HD1 := Lib.hid hd1; have HG1 := Lib.hid hg1; clear hd1 hb1 hg1)
    | (go_at_call 30; refine (WT.out _ (HH.out.below HB3.out)).mono ?_; rintro e w4 ⟨v4, rfl, hrow, hb4⟩; obtain ⟨A4, c4, rfl, hc4⟩ := Dsk.own_ints hrow HM.out.symm; have HC4 := Lib.hid hc4; have HB4 := Lib.hid (HB3.out.trans (hb4.mono HB3.out.size)); have HD14 := Lib.hid (HD13.out.below hb4); have HD24 := Lib.hid (HD23.out.below hb4); have HD34 := Lib.hid (HD3.out.below hb4); have HS34 := Lib.hid hb4.size; clear hrow hc4 hb4))
  go_loopw [9, 10] (fun v i wr => ∃ k : Nat, k ≤ m ∧ i = .int .i64 k ∧ OwnN wr w4.heap.size 106 2 v k (ones k) ∧ Below w4.heap.size w4 wr) (fun _ i _ => m - (intOf i).toNat)
  case atStart => exact ⟨0, Nat.zero_le _, rfl, ownN_lit w4 _ _ 2 (Nat.le_refl _), palloc (Below.refl _ _) _⟩
  case round =>
    obtain ⟨k, hk, rfl, hrow, hbw⟩ := hrel
    have HB := Lib.hid hbw; clear hbw
    have HROW := Lib.hid hrow; clear hrow
    by_cases hlt : k < m
    · go_wp2_with (at_builtin; refine wpList_append_n _ rfl (.tmp 35) (.tmp 37) 44 rfl w4.heap.size 106 i0 zTr 2 32 Tryz.underlying44 HI.out HZ0.out HZ1.out HZ2.out rfl (by decide) zTr_nob u9 k (ones k) rfl ?own (wr.heap.size + 1) (some ⟨wr.heap.size, 0, none⟩) 1 1 one ?hx ?hr one_one one_nob ?h63 ?hby ?hbase ?_; (case own => exact HROW.out.below (palloc (Below.refl _ _) _)); (case hx => first | rfl | simp [Act.eval]); (case hr => exact reads_one _ _ rfl); (case h63 => (unfold maxLen; omega)); (case hby => omega); (case hbase => (have := HB.out.size; simp; omega)); intro v5 w5 hown5 hg5 _; have hbw := palloc (Below.refl wr.heap.size wr) (Obj.cells #[.int .i64 1, .slice none 0 0] 106); have HR5 := Lib.hid hown5; have HB5 := Lib.hid ((HB.out.trans (hbw.mono HB.out.size)).grown hg5 (HB.out.trans (hbw.mono HB.out.size)).size (fun q hq => (HROW.out.1.lt q hq).1)); clear hown5 hg5 hbw)
      go_roundw
      case rel => exact ⟨k + 1, by omega, by go_num, by rw [ones_succ]; exact HR5.out, HB5.out⟩
      case measure => simp [intOf]; omega
    · obtain rfl : k = m := by omega
      obtain ⟨t1, t2, t3, t4, t5, t6, t7, t8, t9⟩ := HTR.out
      have HR0 : Hid (WaitRow wr w3.heap.size A4 k ws) := Lib.hid (WaitRow.below HC4.out HB.out)
      have HK0 := Lib.hid (own_keep (S := [g1, bs1, bw1, g2, bs2, bw2, g3, bs3, bw3]) HROW.out (by omega) (fun x hx => by have := HS34.out; simp only [List.mem_cons, List.not_mem_nil, or_false, forall_eq_or_imp, forall_eq] at t7 t8 t9 hx; omega))
      have HB0 := Lib.hid (HB4.out.trans (HB.out.mono HB4.out.size))
      have HV0 := Lib.hid (HV.out.below HB0.out hB)
      have HE1 := Lib.hid (HD14.out.below HB.out)
      have HE2 := Lib.hid (HD24.out.below HB.out)
      have HE3 := Lib.hid (HD34.out.below HB.out)
      go_wp2_with (first
        | (go_at_call 19; refine (CA.out g1 bs1 bw1 B _ l _ HE1.out HV0.out (fun x hx => Nat.le_trans hB (t1 x hx))).mono ?_; rintro e w5 ⟨rfl, hd5, hk5⟩; have HE1' := Lib.hid hd5; have HE25 := Lib.hid (off_r HE2.out hk5 t4); have HE35 := Lib.hid (off_r HE3.out hk5 t5); have HR5 := Lib.hid (HR0.out.kept hk5 t7); have HK5 := Lib.hid (HK0.out.kept hk5 (by simp +contextual)); have HB5 := Lib.hid (kept_low HB0.out hk5 t1); clear HE1 hd5 hk5)
        | (go_at_call 19; refine (CA.out g2 bs2 bw2 0 _ [] _ HE25.out (Dsk.tears_nil _ 0) (fun x hx => Nat.zero_le _)).mono ?_; rintro e w6 ⟨rfl, hd6, hk6⟩; have HE26 := Lib.hid hd6; have HE16 := Lib.hid (off_l HE1'.out hk6 t4); have HE36 := Lib.hid (off_r HE35.out hk6 t6); have HR6 := Lib.hid (HR5.out.kept hk6 t8); have HK6 := Lib.hid (HK5.out.kept hk6 (by simp +contextual)); have HB6 := Lib.hid (kept_low HB5.out hk6 t2); clear HE25 hd6 hk6)
        | (go_at_call 19; refine (CK.out g3 bs3 bw3 _ _ HE36.out (HK6.out.less (by simp +contextual))).mono ?_; rintro e w7 ⟨rfl, hd7, hk7⟩; have HE37 := Lib.hid hd7; have HE17 := Lib.hid (off_l HE16.out hk7 t5); have HE27 := Lib.hid (off_l HE26.out hk7 t6); have HR7 := Lib.hid (HR6.out.kept hk7 t9); have HB7 := Lib.hid (kept_low HB6.out hk7 t3); clear HE36 hd7 hk7))
      clear t1 t2 t3 t4 t5 t6 t7 t8 t9
      go_loopw [11] (fun i wr => ∃ j : Nat, j ≤ k ∧ i = .int .i64 j ∧ Below w7.heap.size w7 wr ∧ ∀ q, q < j → TellsAt s l (ws.getD q 0)) (fun i _ => k - (intOf i).toNat)
      case atStart => exact ⟨0, Nat.zero_le _, rfl, Below.refl _ _, fun q hq => absurd hq (by omega)⟩
      case round =>
        obtain ⟨j, hj, rfl, hbw, hti⟩ := hrel
        have HBW := Lib.hid hbw; clear hbw
        have HTI := Lib.hid hti; clear hti
        by_cases hlt2 : j < k
        · obtain ⟨b4, e4, hlo, hb4z, hc4⟩ := HR7.out (by omega)
          subst e4
          have gW := (HBW.out.cell (p := ⟨b4, j, none⟩) hb4z).trans (hc4 j hlt2)
          have hbz := Nat.lt_of_lt_of_le hb4z HBW.out.size
          have hi2 := HW.out _ (Dsk.getD_mem (ws := ws) (k := j) (by rw [← HM.out]; exact hlt2))
          obtain ⟨i, hii⟩ : ∃ i, i = ws.getD j 0 := ⟨_, rfl⟩
          have HTL : Hid (got ((s.crash l).get i) = none ∨ (s.crash l).get i = (s.crash []).get i ∨ (s.crash l).get i = (s.crash (allKept s)).get i → TellsAt s l (ws.getD j 0)) := Lib.hid (fun hh => hii ▸ hh)
          rw [← hii] at gW hi2
          clear hii
          have RD1 := Lib.hid (fun (W : World) (hW : DiskAt W g1 bs1 bw1 (s.crash l)) => Dsk.read_ok g1 bs1 bw1 (s.crash l) i W hW rfl (by rw [crash_n]; exact hi2))
          have RD2 := Lib.hid (fun (W : World) (hW : DiskAt W g2 bs2 bw2 (s.crash [])) => Dsk.read_ok g2 bs2 bw2 (s.crash []) i W hW rfl (by rw [crash_n]; exact hi2))
          have RD3 := Lib.hid (fun (W : World) (hW : DiskAt W g3 bs3 bw3 (s.crash (allKept s))) => Dsk.read_ok g3 bs3 bw3 (s.crash (allKept s)) i W hW rfl (by rw [crash_n]; exact hi2))
          have hx0l : ((s.crash l).get i).length ≤ 1000 := by rw [(get_sec HE17.out i).1]; decide
          generalize (s.crash l).get i = x0 at RD1 HTL hx0l
          generalize (s.crash []).get i = x1 at RD2 HTL
          generalize (s.crash (allKept s)).get i = x2 at RD3 HTL
          clear hc4 hlo hb4z
          cases hg : got x0 with
          | none =>
            go_wp2_with (first
              | (go_at_call 63; refine (get_none _ x0 _ HS0c.out hx0l hg).mono ?_; rintro e w11 ⟨A11, n11, c11, rfl, hb11⟩; have HQ11 := Lib.hid (HQ10.out.trans (hb11.mono HQ10.out.size)); clear hb11)
              | (go_at_call 60; refine (RD3.out _ (HE37.out.below HQ9.out)).mono ?_; rintro e w10 ⟨v10, rfl, hs10, hb10⟩; obtain ⟨A10, n10, c10, rfl, _⟩ := id hs10; have HS2a := Lib.hid hs10; have HS1b := Lib.hid (sl_up HS1a.out hb10); have HS0c := Lib.hid (sl_up HS0b.out hb10); have HQ10 := Lib.hid (HQ9.out.trans (hb10.mono HQ9.out.size)); clear hs10 hb10)
              | (go_at_call 60; refine (RD2.out _ (HE27.out.below HQ8.out)).mono ?_; rintro e w9 ⟨v9, rfl, hs9, hb9⟩; obtain ⟨A9, n9, c9, rfl, _⟩ := id hs9; have HS1a := Lib.hid hs9; have HS0b := Lib.hid (sl_up HS0a.out hb9); have HQ9 := Lib.hid (HQ8.out.trans (hb9.mono HQ8.out.size)); have gW9 := (hb9.cell (p := ⟨b4, j, none⟩) hbz8).trans gW8; have hbz9 := Nat.lt_of_lt_of_le hbz8 hb9.size; clear hs9 hb9)
              | (go_at_call 60; refine (RD1.out _ (HE17.out.below HBW.out)).mono ?_; rintro e w8 ⟨v8, rfl, hs8, hb8⟩; obtain ⟨A8, n8, c8, rfl, _⟩ := id hs8; have HS0a := Lib.hid hs8; have HQ8 := Lib.hid (HBW.out.trans (hb8.mono HBW.out.size)); have gW8 := (hb8.cell (p := ⟨b4, j, none⟩) hbz).trans gW; have hbz8 := Nat.lt_of_lt_of_le hbz hb8.size; clear hs8 hb8))
            go_roundw
            case rel => exact ⟨j + 1, by omega, by go_num, (palloc HQ11.out _), fun q hq => by
              by_cases hq2 : q < j
              · exact HTI.out q hq2
              · obtain rfl : q = j := by omega
                exact HTL.out (.inl hg)⟩
            case measure => simp [intOf]; omega
          | some p =>
            by_cases h1 : x0 = x1
            · go_wp2_with (first
                | (go_at_call 63; refine (get_some _ x0 p _ HS0c.out hx0l hg).mono ?_; rintro e w11 ⟨A11, n11, c11, rfl, hbt11, hb11⟩; have HQ11 := Lib.hid (HQ10.out.trans (hb11.mono HQ10.out.size)); have hal := palloc hb11 (Obj.cells #[.int .i64 p.kind, .int .i64 p.gen, .int .i64 p.mark, .int .i64 p.index, .int .i64 p.part, .int .i64 p.parts, .slice A11 n11 c11] 93); have HQ12 := Lib.hid (HQ10.out.trans (hal.mono HQ10.out.size)); have HS0d := Lib.hid (HS0c.out.below hal (Nat.le_refl _)); have HS1d := Lib.hid (HS1b.out.below hal (Nat.le_refl _)); have HS2d := Lib.hid (HS2a.out.below hal (Nat.le_refl _)); clear hbt11 hb11 hal)
                | (go_at_call 60; refine (RD3.out _ (HE37.out.below HQ9.out)).mono ?_; rintro e w10 ⟨v10, rfl, hs10, hb10⟩; obtain ⟨A10, n10, c10, rfl, _⟩ := id hs10; have HS2a := Lib.hid hs10; have HS1b := Lib.hid (sl_up HS1a.out hb10); have HS0c := Lib.hid (sl_up HS0b.out hb10); have HQ10 := Lib.hid (HQ9.out.trans (hb10.mono HQ9.out.size)); clear hs10 hb10)
                | (go_at_call 60; refine (RD2.out _ (HE27.out.below HQ8.out)).mono ?_; rintro e w9 ⟨v9, rfl, hs9, hb9⟩; obtain ⟨A9, n9, c9, rfl, _⟩ := id hs9; have HS1a := Lib.hid hs9; have HS0b := Lib.hid (sl_up HS0a.out hb9); have HQ9 := Lib.hid (HQ8.out.trans (hb9.mono HQ8.out.size)); have gW9 := (hb9.cell (p := ⟨b4, j, none⟩) hbz8).trans gW8; have hbz9 := Nat.lt_of_lt_of_le hbz8 hb9.size; clear hs9 hb9)
                | (go_at_call 60; refine (RD1.out _ (HE17.out.below HBW.out)).mono ?_; rintro e w8 ⟨v8, rfl, hs8, hb8⟩; obtain ⟨A8, n8, c8, rfl, _⟩ := id hs8; have HS0a := Lib.hid hs8; have HQ8 := Lib.hid (HBW.out.trans (hb8.mono HBW.out.size)); have gW8 := (hb8.cell (p := ⟨b4, j, none⟩) hbz).trans gW; have hbz8 := Nat.lt_of_lt_of_le hbz hb8.size; clear hs8 hb8)
                | (go_at_call 21; refine (rsame_any A8 A9 n8 n9 c8 c9 _ _ x0 x1 _ (sl_bts HS0d.out) (sl_bts HS1d.out)).mono ?_; rintro e w13 ⟨rfl, m13, rfl⟩; rw [decide_eq_true h1]; have HQ13 := Lib.hid (below_drewN HQ12.out m13); have HF13 := Lib.hid (rfl : (0 : Nat) = 0)))
              go_roundw
              case rel => exact ⟨j + 1, by omega, by go_num, HQ13.out, fun q hq => by
                by_cases hq2 : q < j
                · exact HTI.out q hq2
                · obtain rfl : q = j := by omega
                  exact HTL.out (.inr (.inl h1))⟩
              case measure => simp [intOf]; omega
            · by_cases h2 : x0 = x2
              · go_wp2_with (first
                  | (have HF14 := HF13; go_at_call 21; refine (rsame_any A8 A10 n8 n10 c8 c10 _ _ x0 x2 _ ((sl_bts HS0d.out).drewN _) ((sl_bts HS2d.out).drewN _)).mono ?_; rintro e w14 ⟨rfl, m14, rfl⟩; rw [decide_eq_true h2]; have HQ14 := Lib.hid (below_drewN HQ12.out (m13 + m14)))
                  | (go_at_call 63; refine (get_some _ x0 p _ HS0c.out hx0l hg).mono ?_; rintro e w11 ⟨A11, n11, c11, rfl, hbt11, hb11⟩; have HQ11 := Lib.hid (HQ10.out.trans (hb11.mono HQ10.out.size)); have hal := palloc hb11 (Obj.cells #[.int .i64 p.kind, .int .i64 p.gen, .int .i64 p.mark, .int .i64 p.index, .int .i64 p.part, .int .i64 p.parts, .slice A11 n11 c11] 93); have HQ12 := Lib.hid (HQ10.out.trans (hal.mono HQ10.out.size)); have HS0d := Lib.hid (HS0c.out.below hal (Nat.le_refl _)); have HS1d := Lib.hid (HS1b.out.below hal (Nat.le_refl _)); have HS2d := Lib.hid (HS2a.out.below hal (Nat.le_refl _)); clear hbt11 hb11 hal)
                  | (go_at_call 60; refine (RD3.out _ (HE37.out.below HQ9.out)).mono ?_; rintro e w10 ⟨v10, rfl, hs10, hb10⟩; obtain ⟨A10, n10, c10, rfl, _⟩ := id hs10; have HS2a := Lib.hid hs10; have HS1b := Lib.hid (sl_up HS1a.out hb10); have HS0c := Lib.hid (sl_up HS0b.out hb10); have HQ10 := Lib.hid (HQ9.out.trans (hb10.mono HQ9.out.size)); clear hs10 hb10)
                  | (go_at_call 60; refine (RD2.out _ (HE27.out.below HQ8.out)).mono ?_; rintro e w9 ⟨v9, rfl, hs9, hb9⟩; obtain ⟨A9, n9, c9, rfl, _⟩ := id hs9; have HS1a := Lib.hid hs9; have HS0b := Lib.hid (sl_up HS0a.out hb9); have HQ9 := Lib.hid (HQ8.out.trans (hb9.mono HQ8.out.size)); have gW9 := (hb9.cell (p := ⟨b4, j, none⟩) hbz8).trans gW8; have hbz9 := Nat.lt_of_lt_of_le hbz8 hb9.size; clear hs9 hb9)
                  | (go_at_call 60; refine (RD1.out _ (HE17.out.below HBW.out)).mono ?_; rintro e w8 ⟨v8, rfl, hs8, hb8⟩; obtain ⟨A8, n8, c8, rfl, _⟩ := id hs8; have HS0a := Lib.hid hs8; have HQ8 := Lib.hid (HBW.out.trans (hb8.mono HBW.out.size)); have gW8 := (hb8.cell (p := ⟨b4, j, none⟩) hbz).trans gW; have hbz8 := Nat.lt_of_lt_of_le hbz hb8.size; clear hs8 hb8)
                  | (go_at_call 21; refine (rsame_any A8 A9 n8 n9 c8 c9 _ _ x0 x1 _ (sl_bts HS0d.out) (sl_bts HS1d.out)).mono ?_; rintro e w13 ⟨rfl, m13, rfl⟩; rw [decide_eq_false h1]; have HQ13 := Lib.hid (below_drewN HQ12.out m13); have HF13 := Lib.hid (rfl : (0 : Nat) = 0)))
                go_roundw
                case rel => exact ⟨j + 1, by omega, by go_num, HQ14.out, fun q hq => by
                  by_cases hq2 : q < j
                  · exact HTI.out q hq2
                  · obtain rfl : q = j := by omega
                    exact HTL.out (.inr (.inr h2))⟩
                case measure => simp [intOf]; omega
              · go_wp2_with (first
                  | (have HF14 := HF13; go_at_call 21; refine (rsame_any A8 A10 n8 n10 c8 c10 _ _ x0 x2 _ ((sl_bts HS0d.out).drewN _) ((sl_bts HS2d.out).drewN _)).mono ?_; rintro e w14 ⟨rfl, m14, rfl⟩; rw [decide_eq_false h2]; have HQ14 := Lib.hid (below_drewN HQ12.out (m13 + m14)))
                  | (go_at_call 63; refine (get_some _ x0 p _ HS0c.out hx0l hg).mono ?_; rintro e w11 ⟨A11, n11, c11, rfl, hbt11, hb11⟩; have HQ11 := Lib.hid (HQ10.out.trans (hb11.mono HQ10.out.size)); have hal := palloc hb11 (Obj.cells #[.int .i64 p.kind, .int .i64 p.gen, .int .i64 p.mark, .int .i64 p.index, .int .i64 p.part, .int .i64 p.parts, .slice A11 n11 c11] 93); have HQ12 := Lib.hid (HQ10.out.trans (hal.mono HQ10.out.size)); have HS0d := Lib.hid (HS0c.out.below hal (Nat.le_refl _)); have HS1d := Lib.hid (HS1b.out.below hal (Nat.le_refl _)); have HS2d := Lib.hid (HS2a.out.below hal (Nat.le_refl _)); clear hbt11 hb11 hal)
                  | (go_at_call 60; refine (RD3.out _ (HE37.out.below HQ9.out)).mono ?_; rintro e w10 ⟨v10, rfl, hs10, hb10⟩; obtain ⟨A10, n10, c10, rfl, _⟩ := id hs10; have HS2a := Lib.hid hs10; have HS1b := Lib.hid (sl_up HS1a.out hb10); have HS0c := Lib.hid (sl_up HS0b.out hb10); have HQ10 := Lib.hid (HQ9.out.trans (hb10.mono HQ9.out.size)); clear hs10 hb10)
                  | (go_at_call 60; refine (RD2.out _ (HE27.out.below HQ8.out)).mono ?_; rintro e w9 ⟨v9, rfl, hs9, hb9⟩; obtain ⟨A9, n9, c9, rfl, _⟩ := id hs9; have HS1a := Lib.hid hs9; have HS0b := Lib.hid (sl_up HS0a.out hb9); have HQ9 := Lib.hid (HQ8.out.trans (hb9.mono HQ8.out.size)); have gW9 := (hb9.cell (p := ⟨b4, j, none⟩) hbz8).trans gW8; have hbz9 := Nat.lt_of_lt_of_le hbz8 hb9.size; clear hs9 hb9)
                  | (go_at_call 60; refine (RD1.out _ (HE17.out.below HBW.out)).mono ?_; rintro e w8 ⟨v8, rfl, hs8, hb8⟩; obtain ⟨A8, n8, c8, rfl, _⟩ := id hs8; have HS0a := Lib.hid hs8; have HQ8 := Lib.hid (HBW.out.trans (hb8.mono HBW.out.size)); have gW8 := (hb8.cell (p := ⟨b4, j, none⟩) hbz).trans gW; have hbz8 := Nat.lt_of_lt_of_le hbz hb8.size; clear hs8 hb8)
                  | (go_at_call 21; refine (rsame_any A8 A9 n8 n9 c8 c9 _ _ x0 x1 _ (sl_bts HS0d.out) (sl_bts HS1d.out)).mono ?_; rintro e w13 ⟨rfl, m13, rfl⟩; rw [decide_eq_false h1]; have HQ13 := Lib.hid (below_drewN HQ12.out m13); have HF13 := Lib.hid (rfl : (0 : Nat) = 0)))
                go_ret
                exact ⟨false, rfl, (fun h => by cases h), HB7.out.trans ((HQ14.out).mono HB7.out.size)⟩
        · obtain rfl : j = k := by omega
          go_wp2
          go_ret
          exact ⟨true, rfl, fun _ => HF.out HTI.out, HB7.out.trans (HBW.out.mono HB7.out.size)⟩
end Go.Proofs.YtkchocafnidfiaaGreat.Wl
/- wal.records gives a row of its own (layer 8); so does wal.Open where there is a base. -/
namespace Go.Proofs.YtkchocafnidfiaaGreat.Wl
open Go.RowKit Go.Proofs.YtkchocafnidfiaaGreat.Mem Go.Proofs.YtkchocafnidfiaaGreat.Pg Go.Proofs.YtkchocafnidfiaaGreat.Rcd Go.Proofs.YtkchocafnidfiaaGreat.Slt
open Go.Proofs.YtkchocafnidfiaaGreat.Dsk (KeptBut SMap DiskAt St ptr kept_of_below kept_of_grown kept_drew IsSec NoneAt)
open Go.Proofs.YtkchocafnidfiaaGreat.Plt (sl plV sl_le sl_pos)
set_option linter.unusedVariables false
set_option linter.unusedSimpArgs false
theorem slRow_base {w : World} {base base' : Nat} {v : Value} {ss : List (List Nat)} (h : SlRow w base v ss) (hb : base' ≤ base) : SlRow w base' v ss := by
  obtain ⟨vs, h1, h2, h3⟩ := h
  exact ⟨vs, h1, ⟨own_mono h2.1 hb, h2.2⟩, h3⟩
/-- a row of slices stays as it is where its block is not written -/
theorem slRow_kept {w w' : World} {base : Nat} {v : Value} {ss : List (List Nat)} {S : List Nat} (h : SlRow w base v ss) (hk : KeptBut w w' S) (ho : Odd w S) (hne : ∀ x ∈ S, v.ownBlock ≠ some x) : SlRow w' base v ss := by
  obtain ⟨vs, h1, ⟨h2, h4⟩, h3⟩ := h
  refine ⟨vs, h1, ⟨?_, ?_⟩, fun i hi => (sl_kept (h3 i hi) hk ho (Nat.le_refl _)).more hk.size⟩
  · obtain ⟨a1, a2 | ⟨g, cap, cur, rfl, hg, hh, rest⟩⟩ := h2
    · exact ⟨a1, .inl a2⟩
    · have hlt : g < w.heap.size := (Array.getElem?_eq_some_iff.1 hh).1
      exact ⟨a1, .inr ⟨g, cap, cur, rfl, hg, (hk.block g hlt (fun hm => hne g hm rfl)).trans hh, rest⟩⟩
  · intro g hg i u hu
    have hlt := (h2.lt g hg).2
    exact h4 g hg i u (by rw [← hk.cell (p := ⟨g, i, none⟩) hlt (fun hm => hne g hm hg)]; exact hu)
theorem slRow_off {w : World} {x g bs bw k base : Nat} {v : Wn} {s : St} {z : Value} {ss : List (List Nat)} (h : SlRow w base z ss) (hw : WalAt w x g k v) (hd : DiskAt w g bs bw s) : ∀ y ∈ [x, g, bs, bw], z.ownBlock ≠ some y := by
  obtain ⟨vs, h1, ⟨h2, h4⟩, h3⟩ := h
  have a1 := own_blk_ne h2 hw (by decide)
  have a2 := own_blk_ne h2 hd.1 (by decide)
  have hm : ∀ (b : Nat) (f : Nat → Option (List Nat)), SMap w b f → z.ownBlock ≠ some b := by
    intro b f hb e
    rcases h2.2 with ⟨rfl, _⟩ | ⟨g', cap, cur, rfl, hg, hh, rest⟩
    · cases e
    · have e' : g' = b := by injection e
      exact Dsk.smap_ne_blk hb hh e'
  intro y hy
  simp only [List.mem_cons, List.not_mem_nil, or_false] at hy
  rcases hy with rfl | rfl | rfl | rfl
  · exact a1
  · exact a2
  · exact hm _ _ hd.2.1
  · exact hm _ _ hd.2.2.1
set_option maxRecDepth 20000 in
set_option maxHeartbeats 4000000 in
theorem records_row (A : Option Addr) (n c : Nat) (D : Nat → List Nat) (g : Int) (w : World) (h : Sls w w.heap.size (.slice A n c) (ofS D n)) (hn : n ≤ 1000) (hlen : ∀ s ∈ ofS D n, s.length ≤ 600) :
    Calls Tryz.prog 37 #[.slice A n c, .int .i64 g] w fun e w' => ∃ v', e = .returned (.tuple #[v', .int .i64 ((recsOf (ofLog (fun i => got (D i)) g) n).2 : Nat)]) ∧ SlRow w' w.heap.size v' (recsOf (ofLog (fun i => got (D i)) g) n).1 ∧ Below w.heap.size w w' := by
  have pg := wpages_any A n c (ofS D n) w h hn hlen
  have hmay := pagesOf_may (ofS D n)
  rw [pages_ofS] at pg hmay
  obtain ⟨hf, hfe⟩ : ∃ hf, hf = fun i => got (D i) := ⟨_, rfl⟩
  rw [← hfe] at pg hmay ⊢
  have hrl := run_len (f := hf) n 0
  have hRN := fun i hi hj => rec_none (h := hf) (g := g) (log := n) (i := i) hi hj
  have hRS := fun i p b m hi hp ha hj => rec_some (h := hf) (g := g) (log := n) (i := i) (p := p) (b := b) (n := m) hi hp ha hj
  have hRE := fun i hi => rec_end (h := hf) (g := g) (log := n) (i := i) hi
  have hRO := fun i p hi hp ha => rec_other (h := hf) (g := g) (log := n) (i := i) (p := p) hi hp ha
  obtain ⟨ps, hps⟩ : ∃ ps, ps = run hf n 0 := ⟨_, rfl⟩
  rw [← hps] at pg hmay hrl hRN hRS hRE hRO
  obtain ⟨F, hF⟩ : ∃ F, F = ofLog hf g := ⟨_, rfl⟩
  rw [← hF] at hRN hRS hRE hRO ⊢
  obtain ⟨T, hT⟩ : ∃ T, T = recsOf F n := ⟨_, rfl⟩
  rw [← hT]
  obtain ⟨hl6, hin⟩ := may_facts hmay
  obtain ⟨m, hm⟩ : ∃ m, m = ps.length := ⟨_, rfl⟩
  rw [← hm] at hrl hRN hRS hRE hRO
  have hm1 : m ≤ 1000 := by omega
  have PG := Lib.hid pg; clear pg
  have HM := Lib.hid hm; clear hm
  have HT := Lib.hid hT; clear hT
  have HRN := Lib.hid hRN; clear hRN
  have HRS := Lib.hid hRS; clear hRS
  have HRE := Lib.hid hRE; clear hRE
  have HRO := Lib.hid hRO; clear hRO
  have HL6 := Lib.hid hl6; clear hl6
  have HIN := Lib.hid hin; clear hin
  clear hps hF hfe h hlen hmay
  obtain ⟨i0, hi, hz0, hz1, hz2⟩ := info_parts info25
  have HI := Lib.hid hi; clear hi
  have HZ0 := Lib.hid hz0; clear hz0
  have HZ1 := Lib.hid hz1; clear hz1
  have HZ2 := Lib.hid hz2; clear hz2
  go_enter Tryz.func37, Tryz.ntmps37
  go_wp2_with (go_at_call 69; refine (PG.out).mono ?_; rintro e w1 ⟨v1, rfl, hrow, hb⟩; have hpg := pgRow_pgs hrow; obtain ⟨A1, n1, c1, rfl, _⟩ := id hpg; obtain rfl : n1 = m := (by have h1 := (pgs_len hpg).1; have := HM.out; omega); have HB1 := Lib.hid hb; have HP1 := Lib.hid hpg; clear hpg hrow hb)
  go_loopw [6, 7] (fun v i wr => ∃ (k : Nat) (fs : List (List Nat)) (fu : Nat), k ≤ n1 ∧ i = .int .i64 k ∧ T = (fs ++ (tail F n fu k).1, (tail F n fu k).2) ∧ n - k ≤ fu ∧ fs.length ≤ k ∧ SlRow wr w1.heap.size v fs ∧ Below w1.heap.size w1 wr) (fun _ i _ => n1 - (intOf i).toNat)
  case atStart => exact ⟨0, [], n, Nat.zero_le _, rfl, by rw [HT.out]; rfl, Nat.le_refl _, by simp, slRow_nil _ _, Below.refl _ _⟩
  case round =>
    obtain ⟨k, fs, fu, hk, rfl, hTT, hfu, hfl, hrow, hbw⟩ := hrel
    have HTT := Lib.hid hTT; clear hTT
    have HBW := Lib.hid hbw; clear hbw
    have HROW := Lib.hid hrow; clear hrow
    have HFU := Lib.hid hfu; clear hfu
    by_cases hlt : k < n1
    · obtain ⟨b, off, e, hb, hc⟩ := pgs_at HP1.out (by omega)
      subst e
      obtain ⟨hcut, hpd⟩ := pgs_drop HP1.out k hlt
      obtain ⟨vb, hr, hs⟩ := hc k hlt
      have hpk : ps[k]? = some (ps.getD k noP) := by
        have : k < ps.length := by rw [← HM.out]; exact hlt
        simp [List.getD, List.getElem?_eq_getElem this]
      obtain ⟨p, hp⟩ : ∃ p, p = ps.getD k noP := ⟨_, rfl⟩
      rw [← hp] at hr hs hpk
      obtain ⟨A2, n2, c2, rfl, _⟩ := id hs
      have hrw := rangeAt_below hr HBW.out hb
      have hld := load_row wr b (off + k * 7) p _ hrw
      have l0 := hrw 0 _ rfl
      have l1 := hrw 1 _ rfl
      have l2 := hrw 2 _ rfl
      have l3 := hrw 3 _ rfl
      have l4 := hrw 4 _ rfl
      have l5 := hrw 5 _ rfl
      have l6 := hrw 6 _ rfl
      simp only [Nat.add_zero] at l0
      have ia := isAt_any p A2 n2 c2 g k wr
      have HRW := Lib.hid hrw; clear hrw hr hs hc
      have HPK := Lib.hid hpk; clear hpk
      have HPD := Lib.hid hpd; clear hpd
      have ro := HRO.out k p hlt HPK.out
      have rs := fun b' m' => HRS.out k p b' m' hlt HPK.out
      have RO := Lib.hid ro; clear ro
      have RS := Lib.hid rs; clear rs
      clear hp
      have hfu1 : 1 ≤ fu := by have := HFU.out; omega
      cases ha : atB p g k with
      | false =>
        rw [ha] at ia
        have IA := Lib.hid ia; clear ia
        have e1 := tail_none (k := fu) (RO.out ha)
        have e2 := HTT.out
        rw [e1, List.append_nil] at e2
        have E2 := Lib.hid e2; clear e1 e2 ha
        go_wp2_with (go_at_call 70; refine (IA.out).mono ?_; rintro e w2 ⟨rfl, hb2⟩; have HB2 := Lib.hid (HB1.out.trans ((HBW.out.trans (hb2.mono HBW.out.size)).mono HB1.out.size)); have HR2 := Lib.hid (HROW.out.below hb2); clear hb2)
        go_ret2
        rw [E2.out]
        exact ⟨_, rfl, slRow_base HR2.out HB1.out.size, HB2.out⟩
      | true =>
        rw [ha] at ia
        have IA := Lib.hid ia; clear ia
        have jn := fun (W : World) (hW : Below w1.heap.size w1 W) => join_any (some ⟨b, off + k * 7, none⟩) (n1 - k) (c1 - k) (ps.drop k) W ((HPD.out.below hW (Nat.le_refl _)).more hW.size) (by omega) (fun q hq => HL6.out q (List.mem_of_mem_drop hq)) (fun q hq => HIN.out q (List.mem_of_mem_drop hq))
        obtain ⟨d1, hd1⟩ : ∃ d1, d1 = n1 - k := ⟨_, rfl⟩
        obtain ⟨d2, hd2⟩ : ∃ d2, d2 = c1 - k := ⟨_, rfl⟩
        rw [← hd1, ← hd2] at jn hcut
        cases hj : joined (ps.drop k) with
        | none =>
          have e0 := HRN.out k (Nat.le_of_lt hlt) hj
          have e1 := tail_none (k := fu) e0
          have e2 := HTT.out
          rw [e1, List.append_nil] at e2
          have E2 := Lib.hid e2; clear e0 e1 e2 ha
          rw [hj, jb_none hj] at jn
          have JN := Lib.hid jn; clear jn hj hd1 hd2
          go_wp2_with (first
            | (go_at_call 70; refine (IA.out).mono ?_; rintro e w2 ⟨rfl, hb2⟩; have HB2 := Lib.hid (HBW.out.trans (hb2.mono HBW.out.size)); have HR2 := Lib.hid (HROW.out.below hb2); clear hb2)
            | (go_at_call 71; refine (JN.out _ HB2.out).mono ?_; rintro e w3 ⟨v3, rfl, hs3, hb3⟩; have HB3 := Lib.hid (HB1.out.trans ((HB2.out.trans (hb3.mono HB2.out.size)).mono HB1.out.size)); have HR3 := Lib.hid (HR2.out.below hb3); obtain ⟨A3, n3, c3, rfl, _⟩ := id hs3; clear hb3 hs3))
          go_ret2
          rw [E2.out]
          exact ⟨_, rfl, slRow_base HR3.out HB1.out.size, HB3.out⟩
        | some y =>
          obtain ⟨bs, cnt⟩ := y
          obtain ⟨e0, hc1, hc2⟩ := RS.out bs cnt ha hj
          obtain ⟨fu', rfl⟩ : ∃ fu', fu = fu' + 1 := ⟨fu - 1, by omega⟩
          have e1 := tail_some (k := fu') e0
          have e2 := HTT.out
          rw [e1] at e2
          have e3 : T = (fs ++ [bs] ++ (tail F n fu' (k + cnt)).1, (tail F n fu' (k + cnt)).2) := by rw [e2, List.append_assoc]; rfl
          have E3 := Lib.hid e3; clear e0 e1 e2 e3 ha
          rw [hj, jb_some hj] at jn
          simp only [Option.isSome_some] at jn
          have JN := Lib.hid jn; clear jn hj hd1 hd2
          have hfs : fs.length ≤ 1000 := by omega
          go_wp2_with (first
            | (go_at_call 70; refine (IA.out).mono ?_; rintro e w2 ⟨rfl, hb2⟩; have HB2 := Lib.hid (HBW.out.trans (hb2.mono HBW.out.size)); have HR2 := Lib.hid (HROW.out.below hb2); clear hb2)
            | (go_at_call 71; refine (JN.out _ HB2.out).mono ?_; rintro e w3 ⟨v3, rfl, hs3, hb3⟩; have HB3 := Lib.hid (HB2.out.trans (hb3.mono HB2.out.size)); obtain ⟨vs, hvl, hown4, hvs⟩ := (HR2.out).below hb3; obtain ⟨A3, n3, c3, rfl, _⟩ := id hs3; have HS3 := Lib.hid hs3; have HVL := Lib.hid hvl; have HOW := Lib.hid hown4; have HVS := Lib.hid hvs; have hz3 := HB3.out.size; clear hb3 hs3 hvl hown4 hvs)
            | (at_builtin; refine wpList_append_n _ rfl (.tmp 37) (.tmp 39) 32 rfl w1.heap.size 31 i0 (.slice none 0 0) 1 24 Tryz.underlying32 HI.out HZ0.out HZ1.out HZ2.out rfl (by decide) zSl_nob u6 fs.length vs rfl ?own (w3.heap.size + 1) (some ⟨w3.heap.size, 0, none⟩) 1 1 [.slice A3 n3 c3] ?hx ?hr (by simp [Value.oneCell']) (by intro u hu; rw [List.mem_singleton.1 hu]; rfl) ?h63 ?hby ?hbase ?_; (case own => exact HOW.out.below (palloc (Below.refl _ _) _)); (case hx => first | rfl | simp [Act.eval]); (case hr => exact reads_slice _ _ _ rfl); (case h63 => (unfold maxLen; omega)); (case hby => omega); (case hbase => (simp; omega)); intro v5 w5 hown5 hg5 _; have hbw := palloc (Below.refl w3.heap.size w3) (Obj.cells #[.slice A3 n3 c3] 31); have HR5 := Lib.hid (slRow_push HVL.out HOW.out HVS.out HS3.out hbw hown5 hg5); have HB5 := Lib.hid ((HB3.out.trans (hbw.mono HB3.out.size)).grown hg5 (HB3.out.trans (hbw.mono HB3.out.size)).size (fun q hq => (HOW.out.1.lt q hq).1)); clear hown5 hg5 hbw))
          go_roundw
          case rel => exact ⟨k + cnt, fs ++ [bs], fu', hc2, by go_num, E3.out, by have := HFU.out; omega, by simp; omega, HR5.out, HB5.out⟩
          case measure => simp [intOf]; omega
    · obtain rfl : k = n1 := by omega
      have e1 := tail_none (k := fu) (HRE.out k rfl)
      have e2 := HTT.out
      rw [e1, List.append_nil] at e2
      have E2 := Lib.hid e2; clear e1 e2
      go_wp2
      go_ret2
      rw [E2.out]
      exact ⟨_, rfl, slRow_base HROW.out HB1.out.size, HB1.out.trans (HBW.out.mono HB1.out.size)⟩
/-- what an opening gives where there is a base -/
def RowOut (w : World) (g bs bw : Nat) (s : St) (y : Bs) (e : Ending) (w' : World) : Prop := ∃ (x : Nat) (A : Option Addr) (n c : Nat) (A2 : Option Addr) (n2 c2 : Nat), e = .returned (.tuple #[ptr x, .slice A n c, .slice A2 n2 c2, .int .i64 0]) ∧ y.2.length = n ∧ (recsS s y.1).1.length = n2 ∧
  Bts w' w'.heap.size A n y.2 ∧ SlRow w' w.heap.size (.slice A2 n2 c2) (recsS s y.1).1 ∧ DiskAt w' g bs bw s ∧ WalAt w' x g s.n ⟨y.1, openMark s, (recsS s y.1).2, false⟩ ∧ w.heap.size ≤ x ∧ KeptBut w w' [g, bs, bw]
theorem row_some {w w' : World} {g bs bw x n c : Nat} {s : St} {y : Bs} {A : Option Addr} {vr : Value} (hd : DiskAt w' g bs bw s) (hk : KeptBut w w' [g, bs, bw])
    (hb : Bts w' w'.heap.size A n y.2) (hr : SlRow w' w.heap.size vr (recsS s y.1).1) (hx : w.heap.size ≤ x) (hw : WalAt w' x g s.n ⟨y.1, openMark s, (recsS s y.1).2, false⟩) : RowOut w g bs bw s y (.returned (.tuple #[ptr x, .slice A n c, vr, .int .i64 0])) w' := by
  obtain ⟨A2, n2, c2, rfl, hl, _⟩ := id (slRow_sls hr)
  exact ⟨x, A, n, c, A2, n2, c2, rfl, hb.1, hl, hb, hr, hd, hw, hx, hk⟩
theorem row_drewN {w w' : World} {g bs bw : Nat} {s : St} {y : Bs} {e : Ending} (h : RowOut w g bs bw s y e w') (n : Nat) : RowOut w g bs bw s y e (w'.drewN n) := by
  obtain ⟨x, A, n', c, A2, n2, c2, h1, h2, h3, h4, h5, h6, h7, h8, h9⟩ := h
  have hk : Below w'.heap.size w' (w'.drewN n) := below_drewN (Below.refl _ _) n
  exact ⟨x, A, n', c, A2, n2, c2, h1, h2, h3, bts_up h4 hk, h5.below hk, h6.below hk, h7.up hk, h8, h9.trans (kept_of_below hk (Nat.le_refl _))⟩
set_option maxRecDepth 20000 in
set_option maxHeartbeats 8000000 in
theorem open_row (g bs bw : Nat) (s : St) (w : World) (h : DiskAt w g bs bw s) (hn : 6 ≤ s.n) (hn2 : s.n ≤ 1000) (hd : s.dead = false) (hm : ¬ 2147483648 < openMark s) (y : Bs) (hy : theBase s.get s.n = some y) :
    Calls Tryz.prog 10 #[ptr g] w (RowOut w g bs bw s y) := by
  have c := Dsk.size_any g bs bw s w h
  have mk := fun (W : World) => make_k s.n W hn (by omega)
  have rd := fun (W : World) (hW : Below w.heap.size w W) => wread_ok g bs bw s W (h.below hW) hd hn2
  have e0 : openP s = ⟨s, some ⟨y.1, openMark s, (recsS s y.1).2, false⟩, y.2, (recsS s y.1).1, 0⟩ := by unfold openP; rw [if_neg (by omega), if_neg (by rw [hd]; simp), if_neg hm, hy]
  have ma := fun (b : Nat) (W : World) (hS : Sls W W.heap.size (.slice (some ⟨b, 0, none⟩) s.n s.n) (ofS s.get s.n)) => mark_any _ s.n s.n _ W hS hn2 (get_600 h s.n)
  obtain ⟨hm0, hm1⟩ := mark_bounds (ofS s.get s.n)
  have hom : openMark s = markOf (ofS s.get s.n) + 1 := rfl
  rw [hom] at hm
  have hlk : lg s.n ≤ 1000 := by unfold lg; omega
  have ba := fun (b x : Nat) (W : World) (hW : Below w.heap.size w W) (hw : WalAt W x g s.n ⟨0, openMark s, 0, false⟩) (hS : Sls W W.heap.size (.slice (some ⟨b, 0, none⟩) s.n s.n) (ofS s.get s.n)) =>
    base_some (base_any x g bs bw s.n s ⟨0, openMark s, 0, false⟩ _ s.n W hw (h.below hW) rfl hn hn2 (by simp only; omega) (by simp only; omega) (by simp) hS (get_600 h s.n)) hy
  have lo := fun (b : Nat) (W : World) (hS : Sls W W.heap.size (.slice (some ⟨b, 0, none⟩) s.n s.n) (ofS s.get s.n)) => log_any s.n _ s.n s.get W hn hn2 hS
  have re := fun (b : Nat) (W : World) (hS : Sls W W.heap.size (.slice (some ⟨b, 0, none⟩) (lg s.n) (lg s.n)) (ofS (fun i => s.get (2 * sl s.n + i)) (lg s.n))) => records_row _ (lg s.n) (lg s.n) (fun i => s.get (2 * sl s.n + i)) y.1 W hS hlk (fun y hy => by
    obtain ⟨i, _, rfl⟩ := ofS_mem hy
    have := (get_sec h (2 * sl s.n + i)).1
    omega)
  rw [ofS_shift] at re
  have hTT : recsOf (logF s.get (2 * sl s.n) y.1) (lg s.n) = recsS s y.1 := rfl
  rw [hTT] at re
  obtain ⟨T, hT⟩ : ∃ T, T = recsS s y.1 := ⟨_, rfl⟩
  rw [← hT] at re e0
  have HO := Lib.hid (fun (w' : World) (x : Nat) (A : Option Addr) (n c : Nat) (vr : Value) (h1 : DiskAt w' g bs bw s) (h2 : KeptBut w w' [g, bs, bw]) (h3 : Bts w' w'.heap.size A n y.2) (h4 : SlRow w' w.heap.size vr T.1) (h5 : w.heap.size ≤ x) (h6 : WalAt w' x g s.n ⟨y.1, openMark s, T.2, false⟩) =>
    row_some (w := w) (w' := w') (g := g) (bs := bs) (bw := bw) (x := x) (n := n) (c := c) (s := s) (y := y) (A := A) (vr := vr) h1 h2 h3 (by rw [← hT]; exact h4) h5 (by rw [← hT]; exact h6))
  clear e0 hT hy
  obtain ⟨G, B⟩ := y
  simp only at ba re HO lo hTT
  rw [hom] at ba HO
  generalize markOf (ofS s.get s.n) = m at *
  have hodd := odd_disk h
  have hlt := h.lt
  have hdw := fun (W : World) (hW : Below w.heap.size w W) => h.below hW
  have hdm : decide (2147483648 < m + 1) = false := by simpa using hm
  generalize hL2 : ofS (fun i => s.get (2 * sl s.n + i)) (lg s.n) = L2 at *
  generalize ofS s.get s.n = L at *
  generalize s.n = k at *
  have C := Lib.hid c; clear c
  have MK := Lib.hid mk; clear mk
  have RD := Lib.hid rd; clear rd
  have MA := Lib.hid ma; clear ma
  have BA := Lib.hid ba; clear ba
  have LO := Lib.hid lo; clear lo
  have RE := Lib.hid re; clear re
  have HLT := Lib.hid hlt; clear hlt
  have HDW := Lib.hid hdw; clear hdw
  have HODD := Lib.hid hodd; clear hodd
  clear h hom hTT hn hn2 hd hm hL2 hlk
  go_enter Tryz.func10, Tryz.ntmps10
  go_wp2_with (first
    | (go_at_call 33; refine (C.out).mono ?_; rintro e w' ⟨rfl, rfl⟩)
    | (go_at_call 32; refine (MK.out _).mono ?_; rintro e w1 ⟨rfl, hb⟩; have HP1 := Lib.hid hb.size; have KP := Lib.hid (Blk.new w1 38 #[.int .i64 (sl k : Nat), .int .i64 (2 * (sl k : Nat)), .int .i64 (lg k : Nat)]); have HB := Lib.hid (palloc hb (plC k)); clear hb)
    | (go_at_call 34; refine (RD.out _ HB.out).mono ?_; rintro e w2 ⟨b0, rfl, hs, hb⟩; have KP2 := Lib.hid (KP.out.below hb KP.out.lt); have HS2 := Lib.hid hs; have HB2 := Lib.hid (HB.out.trans (hb.mono HB.out.size)); clear hb hs)
    | (go_at_call 35; refine (MA.out b0 _ HS2.out).mono ?_; rintro e w3 ⟨rfl, hb⟩; have kp3 := KP2.out.below hb KP2.out.lt; have p0 := kp3.cell 0; have p1 := kp3.cell 1; have p2 := kp3.cell 2; have p3 := kp3.lt; simp at p0 p1 p2; have HX := Lib.hid (Nat.le_trans HB2.out.size hb.size); have KP3 := Lib.hid (kp3.alloc (.cells (walCs g k ⟨0, m + 1, 0, false⟩) 75)); have HS3 := Lib.hid (HS2.out.up (palloc hb (.cells (walCs g k ⟨0, m + 1, 0, false⟩) 75))); have HB3 := Lib.hid (palloc (HB2.out.trans (hb.mono HB2.out.size)) (.cells (walCs g k ⟨0, m + 1, 0, false⟩) 75)); have HW3 := Lib.hid (Blk.new w3 75 (walCs g k ⟨0, m + 1, 0, false⟩)); clear hb kp3)
    | (go_at_call 36; refine (BA.out b0 _ _ HB3.out HW3.out HS3.out).mono ?_; rintro e w5 ⟨A5, n5, c5, rfl, ht, hb⟩; have hw5 := WalAt.up HW3.out hb; have c4 := hw5.c4; have f4 := hw5.fz 4; have hxl5 := hw5.lt; have HW5 := Lib.hid hw5; have KP5 := Lib.hid (KP3.out.below hb KP3.out.lt); have HS5 := Lib.hid (HS3.out.up hb); have HT5 := Lib.hid ht; have HD5 := Lib.hid (HDW.out _ (HB3.out.trans (hb.mono HB3.out.size))); have HK5 := Lib.hid (kept_of_below (S := [g, bs, bw]) (HB3.out.trans (hb.mono HB3.out.size)) (Nat.le_refl _)); clear hb ht hw5))
  generalize hxx : w3.heap.size = x at *
  have HXX := Lib.hid hxx; clear hxx
  clear p0 p1 p2 p3
  obtain ⟨l1, l2, l3⟩ := HLT.out
  have n1 : x ≠ g := by have := HX.out; omega
  have n2 : x ≠ bs := by have := HX.out; omega
  have n3 : x ≠ bw := by have := HX.out; omega
  have hxl := HW5.out.lt
  have hpx : w1.heap.size ≠ x := fun e => by
    have h1 := Blk.ne_ KP5.out HW5.out (by decide)
    exact h1 e
  have hks := kept_set1 (w := w5) (x := x) (i := 4) (.int .i64 G)
  have ha := palloc (Below.refl (w5.setCell ⟨x, 4, none⟩ (.int .i64 G)).heap.size (w5.setCell ⟨x, 4, none⟩ (.int .i64 G))) (.cells #[.int .i64 G, .slice A5 n5 c5] 77)
  have hsz : (w5.setCell ⟨x, 4, none⟩ (.int .i64 G)).heap.size = w5.heap.size := by simp
  have HW6 := Lib.hid ((HW5.out.set_gen G).up ha)
  have KP6 := Lib.hid ((KP5.out.far (p := ⟨x, 4, none⟩) hpx (.int .i64 G)).alloc (.cells #[.int .i64 G, .slice A5 n5 c5] 77))
  have kq6 := Blk.new (w5.setCell ⟨x, 4, none⟩ (.int .i64 G)) 77 #[.int .i64 G, .slice A5 n5 c5]
  rw [hsz] at kq6
  have KQ6 := Lib.hid kq6
  have HS6 := Lib.hid (((sls_kept HS5.out hks (odd_wal HW5.out) (Nat.le_refl _)).more hks.size).up ha)
  have HT6 := Lib.hid (bts_up ((bts_kept HT5.out hks (odd_wal HW5.out) (Nat.le_refl _)).more hks.size) ha)
  have HD6 := Lib.hid ((DiskAt.set_far (i := 4) HD5.out (.int .i64 G) n1 n2 n3).below ha)
  have HK6 := Lib.hid ((kept_above HK5.out (grown_set w5 ⟨x, 4, none⟩ (.int .i64 G)) (fun q hq => by cases hq; exact HX.out)).trans (kept_of_below ha (Nat.le_refl _)))
  have hqx : w5.heap.size ≠ x := by omega
  clear ha hks HW5 KP5 HS5 HT5 HD5 HK5 hxl f4 c4 hxl5 kq6 hsz
  generalize (w5.setCell ⟨x, 4, none⟩ (.int .i64 G)).alloc (.cells #[.int .i64 G, .slice A5 n5 c5] 77) = w6 at *
  generalize w5.heap.size = q at *
  generalize w1.heap.size = p at *
  have p0 := KP6.out.cell 0
  have p1 := KP6.out.cell 1
  have p2 := KP6.out.cell 2
  have q0 := KQ6.out.cell 0
  have q1 := KQ6.out.cell 1
  simp at p0 p1 p2 q0 q1
  have hpl := KP6.out.lt
  have hql := KQ6.out.lt
  go_region_held3 (fun W => W.cell? ⟨p, 0, none⟩ = some (.int .i64 (sl k : Nat)) ∧ W.cell? ⟨p, 1, none⟩ = some (.int .i64 (2 * (sl k : Nat))) ∧ W.cell? ⟨p, 2, none⟩ = some (.int .i64 (lg k : Nat)) ∧ W.cell? ⟨q, 0, none⟩ = some (.int .i64 G))
    (first
      | with_reducible exact ⟨p0, p1, p2, q0⟩
      | with_reducible exact ⟨r0, r1, r2, r3⟩
      | with_reducible exact ⟨t0, t1, t2, t3⟩
      | go_keep)
    (first
      | (go_at_call 38; refine (LO.out b0 _ (by exact HS6.out)).mono ?_; rintro e w7 ⟨b1, rfl, hs, hb⟩; have hb := undrew hb; have hb : Below w6.heap.size w6 w7 := hb; have kp := KP6.out.below hb hpl; have kq := KQ6.out.below hb hql; have r0 := kp.cell 0; have r1 := kp.cell 1; have r2 := kp.cell 2; have r3 := kq.cell 0; have r4 := kp.lt; have r5 := kq.lt; simp at r0 r1 r2 r3; have KP7 := Lib.hid kp; have KQ7 := Lib.hid kq; have HS7 := Lib.hid hs; have HB7 := Lib.hid hb; clear kp kq hs hb)
      | (go_at_call 37; refine (RE.out b1 _ (by exact HS7.out)).mono ?_; rintro e w8 ⟨v8, rfl, hs, hb⟩; have kp := KP7.out.below hb r4; have kq := KQ7.out.below hb r5; have t0 := kp.cell 0; have t1 := kp.cell 1; have t2 := kp.cell 2; have t3 := kq.cell 0; have t4 := kq.cell 1; have t5 := kq.lt; simp at t0 t1 t2 t3 t4; have HS8 := Lib.hid hs; have HB8 := Lib.hid (HB7.out.trans (hb.mono HB7.out.size)); clear kp kq hs hb))
  have hw8 := HW6.out.up HB8.out
  have c6 := hw8.c6
  have f6 := hw8.fz 6
  have hx8 := hw8.lt
  obtain ⟨A9, n9, c9, rfl, _⟩ := id (slRow_sls HS8.out)
  clear p0 p1 p2 q0 q1 hpl hql
  go_wp2
  go_quiet (fail)
  go_wp2
  have hks := kept_set1 (w := w8) (x := x) (i := 6) (.int .i64 (T.2 : Nat))
  have ho := HO.out (w8.setCell ⟨x, 6, none⟩ (.int .i64 (T.2 : Nat))) x A5 n5 c5 (.slice A9 n9 c9) (DiskAt.set_far (i := 6) (HD6.out.below HB8.out) (.int .i64 (T.2 : Nat)) n1 n2 n3)
    (kept_above (HK6.out.trans (kept_of_below HB8.out (Nat.le_refl _))) (grown_set w8 ⟨x, 6, none⟩ (.int .i64 (T.2 : Nat))) (fun q hq => by cases hq; exact HX.out))
    ((bts_kept (bts_up HT6.out HB8.out) hks (odd_wal hw8) (Nat.le_refl _)).more hks.size) (slRow_base (slRow_kept HS8.out hks (odd_wal hw8) (by intro y hy; obtain rfl := List.mem_singleton.1 hy; exact own_blk_ne HS8.out.choose_spec.2.1.1 hw8 (by decide))) (Nat.le_trans HK6.out.size HB7.out.size)) HX.out (hw8.set_next T.2)
  exact bodyPost_ret (v := .tuple #[ptr x, .slice A5 n5 c5, .slice A9 n9 c9, .int .i64 0]) (by simp [results, Tryz.results10, go_sem]) rfl (row_drewN ho _)
end Go.Proofs.YtkchocafnidfiaaGreat.Wl
/- What the law of crashes holds in memory (layer 8): a disk, its log, a base, a row of records and the act at hand; and what each call does to them. -/
namespace Go.Proofs.YtkchocafnidfiaaGreat.Wl
open Go.RowKit Go.Proofs.YtkchocafnidfiaaGreat.Mem Go.Proofs.YtkchocafnidfiaaGreat.Pg Go.Proofs.YtkchocafnidfiaaGreat.Rcd Go.Proofs.YtkchocafnidfiaaGreat.Slt
open Go.Proofs.YtkchocafnidfiaaGreat.Dsk (KeptBut SMap DiskAt St ptr kept_of_below kept_of_grown kept_drew TearsAt)
open Go.Proofs.YtkchocafnidfiaaGreat.Plt (sl plV sl_le sl_pos)
set_option linter.unusedVariables false
set_option linter.unusedSimpArgs false
def actCs (k n b : Int) (At : Option Addr) (nt ct : Nat) : Array Value := #[.int .i64 k, .int .i64 n, .int .u8 b, .slice At nt ct]
def KM (w wr : World) (g bs bw : Nat) (s : St) (x : Nat) (v : Wn) (A : Option Addr) (n : Nat) (base : List Nat) (z : Value) (recs : List (List Nat)) : Prop :=
  Below w.heap.size w wr ∧ DiskAt wr g bs bw s ∧ WalAt wr x g 30 v ∧ Bts wr wr.heap.size A n base ∧ SlRow wr w.heap.size z recs ∧ w.heap.size ≤ x
section
variable {w wr w' : World} {g bs bw x n : Nat} {s : St} {v : Wn} {A : Option Addr} {base : List Nat} {z : Value} {recs : List (List Nat)}
theorem KM.up (h : KM w wr g bs bw s x v A n base z recs) (hb : Below wr.heap.size wr w') : KM w w' g bs bw s x v A n base z recs := by
  obtain ⟨h1, h2, h3, h4, h5, h6⟩ := h
  exact ⟨h1.trans (hb.mono h1.size), h2.below hb, h3.up hb, bts_up h4 hb, h5.below hb, h6⟩
theorem KM.act {s' : St} {v' : Wn} (h : KM w wr g bs bw s x v A n base z recs) (hge : ∀ y ∈ [g, bs, bw], w.heap.size ≤ y) (hk : KeptBut wr w' [x, g, bs, bw]) (hd : DiskAt w' g bs bw s') (hw : WalAt w' x g 30 v') : KM w w' g bs bw s' x v' A n base z recs := by
  obtain ⟨h1, h2, h3, h4, h5, h6⟩ := h
  exact ⟨kept_low h1 hk (by intro y hy; simp at hy hge; omega), hd, hw, (bts_kept h4 hk (odd_both h3 h2) (Nat.le_refl _)).more hk.size, slRow_kept h5 hk (odd_both h3 h2) (slRow_off h5 h3 h2), h6⟩
end
/-- and the act at hand, in block y -/
def KY (w wr : World) (g bs bw : Nat) (s : St) (x : Nat) (v : Wn) (A : Option Addr) (n : Nat) (base : List Nat) (z : Value) (recs : List (List Nat)) (y : Nat) (cs : Array Value) : Prop :=
  KM w wr g bs bw s x v A n base z recs ∧ Blk wr y 46 cs
section
variable {w wr w' : World} {g bs bw x n y : Nat} {s : St} {v : Wn} {A : Option Addr} {base : List Nat} {z : Value} {recs : List (List Nat)} {cs : Array Value}
theorem KY.up (h : KY w wr g bs bw s x v A n base z recs y cs) (hb : Below wr.heap.size wr w') : KY w w' g bs bw s x v A n base z recs y cs := ⟨h.1.up hb, h.2.below hb h.2.lt⟩
theorem KY.act {s' : St} {v' : Wn} (h : KY w wr g bs bw s x v A n base z recs y cs) (hge : ∀ y ∈ [g, bs, bw], w.heap.size ≤ y) (hk : KeptBut wr w' [x, g, bs, bw]) (hd : DiskAt w' g bs bw s') (hw : WalAt w' x g 30 v') : KY w w' g bs bw s' x v' A n base z recs y cs := by
  refine ⟨h.1.act hge hk hd hw, hk.blk h.2 ?_⟩
  have a1 := Blk.ne_ h.2 h.1.2.2.1 (by decide)
  have a2 := Blk.ne_ h.2 h.1.2.1.1 (by decide)
  have a3 := Dsk.smap_ne_blk h.1.2.1.2.1 h.2
  have a4 := Dsk.smap_ne_blk h.1.2.1.2.2.1 h.2
  simp only [List.mem_cons, List.not_mem_nil, or_false]
  omega
theorem KY.low (h : KY w wr g bs bw s x v A n base z recs y cs) : Below w.heap.size w wr := h.1.1
theorem KY.cells {k m b : Int} {At : Option Addr} {nt ct : Nat} (h : KY w wr g bs bw s x v A n base z recs y (actCs k m b At nt ct)) :
    wr.cell? ⟨y, 0, none⟩ = some (.int .i64 k) ∧ wr.cell? ⟨y, 1, none⟩ = some (.int .i64 m) ∧ wr.cell? ⟨y, 2, none⟩ = some (.int .u8 b) ∧ wr.cell? ⟨y, 3, none⟩ = some (.slice At nt ct) ∧ y < wr.heap.size :=
  ⟨blk_c h.2 0 _ rfl, blk_c h.2 1 _ rfl, blk_c h.2 2 _ rfl, blk_c h.2 3 _ rfl, h.2.lt⟩
theorem KM.made (h : KM w wr g bs bw s x v A n base z recs) (cs : Array Value) : KY w (wr.alloc (.cells cs 46)) g bs bw s x v A n base z recs wr.heap.size cs :=
  ⟨h.up (palloc (Below.refl _ _) _), Blk.new wr _ cs⟩
variable (hge : ∀ y ∈ [g, bs, bw], w.heap.size ≤ y)
include hge
theorem ky_commit {n1 c1 : Nat} {A1 : Option Addr} {b : List Nat} (h : KY w wr g bs bw s x v A n base z recs y cs) (hs : s.n = 30) (hv : WnOk 30 v) (hb : Sl wr wr.heap.size (.slice A1 n1 c1) b) (hbn : b.length = n1) (hn : n1 ≤ 7808) :
    Calls Tryz.prog 15 #[ptr x, .slice A1 n1 c1] wr fun e w' => e = .returned (.int .i64 (commitP 30 s v b).2.2) ∧ KY w w' g bs bw (commitP 30 s v b).1 x (commitP 30 s v b).2.1 A n base z recs y cs := by
  refine (commit_any x g bs bw 30 s v A1 n1 c1 b wr h.1.2.2.1 h.1.2.1 (by omega) (by omega) hv hb hbn hn).mono ?_
  rintro e w' ⟨rfl, a1, a2, a3⟩
  exact ⟨rfl, h.act hge a3 a2 a1⟩
theorem ky_turn {n1 c1 : Nat} {A1 : Option Addr} {b : List Nat} (h : KY w wr g bs bw s x v A n base z recs y cs) (hs : s.n = 30) (hv : WnOk 30 v) (hb : Sl wr wr.heap.size (.slice A1 n1 c1) b) (hbn : b.length = n1) (hn : n1 ≤ 7808) :
    Calls Tryz.prog 17 #[ptr x, .slice A1 n1 c1] wr fun e w' => e = .returned (.int .i64 (turnP 30 s v b).2.2) ∧ KY w w' g bs bw (turnP 30 s v b).1 x (turnP 30 s v b).2.1 A n base z recs y cs := by
  refine (turn_any x g bs bw 30 s v A1 n1 c1 b wr h.1.2.2.1 h.1.2.1 (by omega) (by omega) hv hb hbn hn).mono ?_
  rintro e w' ⟨rfl, a1, a2, a3⟩
  exact ⟨rfl, h.act hge a3 a2 a1⟩
theorem ky_arm {k : Int} (h : KY w wr g bs bw s x v A n base z recs y cs) (h1 : -9223372036854775808 ≤ k) (h2 : k ≤ 9223372036854775807) :
    Calls Tryz.prog 18 #[ptr g, .int .i64 k] wr fun e w' => e = .returned (.tuple #[]) ∧ KY w w' g bs bw { s with left := k } x v A n base z recs y cs := by
  refine (Dsk.arm_any g bs bw s k wr h.1.2.1 h1 h2).mono ?_
  rintro e w' ⟨rfl, b1, b2⟩
  have hk : KeptBut wr w' [g] := kept_of_grown b2 (by simp)
  exact ⟨rfl, h.act hge (hk.more (by simp)) b1 (h.1.2.2.1.kept hk (by have := (wal_ne h.1.2.2.1 h.1.2.1).1; simpa using this))⟩
omit hge in
theorem ky_told {At : Option Addr} {nt ct : Nat} {l : List (Int × List Nat)} (h : KY w wr g bs bw s x v A n base z recs y cs) (hv : TearsAt w w.heap.size (.slice At nt ct) l) :
    Calls Tryz.prog 29 #[ptr g, .slice At nt ct] wr fun e w' => ∃ t, e = .returned (.bool t) ∧ (t = true → Crashed s (s.crash l)) ∧ KY w w' g bs bw s x v A n base z recs y cs := by
  refine (told_any g bs bw w.heap.size s At nt ct l wr h.1.2.1 (hv.below h.1.1 (Nat.le_refl _)) h.1.1.size).mono ?_
  rintro e w' ⟨t, rfl, h1, h2⟩
  exact ⟨t, rfl, h1, h.up h2⟩
theorem ky_crash {At : Option Addr} {nt ct : Nat} {l : List (Int × List Nat)} (h : KY w wr g bs bw s x v A n base z recs y cs) (hv : TearsAt w w.heap.size (.slice At nt ct) l) :
    Calls Tryz.prog 19 #[ptr g, .slice At nt ct] wr fun e w' => e = .returned (.tuple #[]) ∧ KY w w' g bs bw (s.crash l) x v A n base z recs y cs := by
  refine (Dsk.crash_any g bs bw w.heap.size s _ l wr h.1.2.1 (hv.below h.1.1 (Nat.le_refl _)) hge).mono ?_
  rintro e w' ⟨rfl, b1, b2⟩
  refine ⟨rfl, h.act hge (b2.more (by simp +contextual)) b1 (h.1.2.2.1.kept b2 ?_)⟩
  obtain ⟨n1, n2, n3⟩ := wal_ne h.1.2.2.1 h.1.2.1
  simp only [List.mem_cons, List.not_mem_nil, or_false]
  omega
/-- it is opened anew: the log, its base and its records, beside the old ones -/
def NewOut (w : World) (g bs bw : Nat) (s : St) (v' : Wn) (base' : List Nat) (recs' : List (List Nat)) (A : Option Addr) (n : Nat) (base : List Nat) (z : Value) (recs : List (List Nat)) (y : Nat) (cs : Array Value) (n' n2 : Nat) (e : Ending) (w' : World) : Prop :=
  ∃ (x' : Nat) (A' : Option Addr) (c' : Nat) (A2 : Option Addr) (c2 : Nat), e = .returned (.tuple #[ptr x', .slice A' n' c', .slice A2 n2 c2, .int .i64 0]) ∧
    Bts w' w'.heap.size A' n' base' ∧ SlRow w' w.heap.size (.slice A2 n2 c2) recs' ∧ KY w w' g bs bw s x' v' A n base z recs y cs
theorem ky_open {G mk : Int} {e : Nat} {base' : List Nat} {recs' : List (List Nat)} {n' n2 : Nat} (h : KY w wr g bs bw s x v A n base z recs y cs) (hs : s.n = 30) (hr : Ready s (sl 30) (lg 30) G mk e base' recs') (hm : openMark s ≤ 2147483648) (hn : n' = base'.length) (hn2 : n2 = recs'.length) :
    Calls Tryz.prog 10 #[ptr g] wr (NewOut w g bs bw s ⟨G, openMark s, e, false⟩ base' recs' A n base z recs y cs n' n2) := by
  have hb : theBase s.get s.n = some (G, base') := by rw [hs]; exact better_inv hr.inv
  have ht : recsS s G = (recs', e) := by unfold recsS; rw [hs]; exact hr.inv.log.tail_eq (k := lg 30) (Nat.le_refl _)
  refine (open_row g bs bw s wr h.1.2.1 (by omega) (by omega) hr.live (by omega) (G, base') hb).mono ?_
  rintro e' w' ⟨x', A', n1, c', A2, n3, c2, rfl, a1, a2, a3, a4, a5, a6, a7, a8⟩
  simp only [ht] at a2 a3 a4 a6 a1
  rw [hs] at a6
  subst a1 a2 hn hn2
  obtain ⟨h1, h2, h3, h4, h5, h6⟩ := h.1
  have hk : KeptBut wr w' [x, g, bs, bw] := a8.more (by simp +contextual)
  have ha := h.act hge hk a5 (h3.kept a8 (by obtain ⟨n1, n2, n3⟩ := wal_ne h3 h2; simp only [List.mem_cons, List.not_mem_nil, or_false]; omega))
  exact ⟨x', A', c', A2, c2, rfl, a3, slRow_base a4 h1.size, ⟨ha.1.1, a5, a6, ha.1.2.2.2.1, ha.1.2.2.2.2.1, Nat.le_trans h1.size a7⟩, ha.2⟩
end
end Go.Proofs.YtkchocafnidfiaaGreat.Wl
/- The law of crashes (layer 8): what holds before each act, and the steps of its memory. -/
namespace Go.Proofs.YtkchocafnidfiaaGreat.Wl
open Go.RowKit Go.Proofs.YtkchocafnidfiaaGreat.Mem Go.Proofs.YtkchocafnidfiaaGreat.Pg Go.Proofs.YtkchocafnidfiaaGreat.Rcd Go.Proofs.YtkchocafnidfiaaGreat.Slt
open Go.Proofs.YtkchocafnidfiaaGreat.Dsk (KeptBut SMap DiskAt St ptr kept_of_below kept_of_grown kept_drew TearsAt)
open Go.Proofs.YtkchocafnidfiaaGreat.Plt (sl plV sl_le sl_pos)
set_option linter.unusedVariables false
set_option linter.unusedSimpArgs false
structure KP (k : Nat) (s : St) (G mk : Int) (e : Nat) (base : List Nat) (recs : List (List Nat)) : Prop where
  n : s.n = 30
  m0 : 0 ≤ mk
  m1 : mk ≤ (k : Int) + 1
  ready : Ready s (sl 30) (lg 30) G mk e base recs
theorem KP.ok {k : Nat} {s : St} {G mk : Int} {e : Nat} {base : List Nat} {recs : List (List Nat)} (h : KP k s G mk e base recs) (hk : k ≤ 25) : WnOk 30 ⟨G, mk, e, false⟩ := by
  have := ready_gen h.ready
  have h0 := h.m0
  have h1 := h.m1
  exact ⟨by simp only; omega, by simp only; omega, h0, by simp only; omega, h.ready.inv.log.le⟩
theorem KP.few {k : Nat} {s : St} {G mk : Int} {e : Nat} {base : List Nat} {recs : List (List Nat)} (h : KP k s G mk e base recs) : recs.length ≤ 1000 := by
  have := h.ready.inv.log.le
  have h2 := laid_le h.ready.inv.log.laid (Nat.zero_le _)
  have h3 : lg 30 ≤ 30 := by unfold lg; omega
  omega
def Holds (w wr : World) (g bs bw k : Nat) (z5 z9 z10 : Value) : Prop := ∃ (x : Nat) (A : Option Addr) (n c : Nat) (s : St) (G mk : Int) (e : Nat) (base : List Nat) (recs : List (List Nat)), z5 = ptr x ∧ z9 = .slice A n c ∧ KM w wr g bs bw s x ⟨G, mk, e, false⟩ A n base z10 recs ∧ KP k s G mk e base recs
theorem fresh_km {w wr : World} {g bs bw : Nat} (hb : Below w.heap.size w wr) (hd : DiskAt wr g bs bw (Dsk.St.new 30)) (hge : ∀ y ∈ [g, bs, bw], w.heap.size ≤ y) :
    Calls Tryz.prog 10 #[ptr g] wr fun e w' => ∃ x A n c A2 n2 c2 s1, e = .returned (.tuple #[ptr x, .slice A n c, .slice A2 n2 c2, .int .i64 0]) ∧ KM w w' g bs bw s1 x ⟨1, 1, 0, false⟩ none 0 [] (.slice none 0 0) [] ∧ KP 0 s1 1 1 0 [] [] := by
  obtain ⟨s1, p1, p2, p3, p4⟩ := open_fresh 30 (by omega)
  refine (open_yes hd (by show 30 ≤ 1000; omega) p1).mono ?_
  rintro e w' ⟨x, A, n, c, A2, n2, c2, rfl, b1, b2, b3, b4, b5, b6, b7, b8⟩
  exact ⟨x, A, n, c, A2, n2, c2, s1, rfl, ⟨kept_low hb b8 hge, b5, b6, bts_nil _ _ _, slRow_nil _ _, Nat.le_trans hb.size b7⟩, ⟨p2, by omega, by omega, p4⟩⟩
theorem KM.fresh {w wr : World} {g bs bw x n : Nat} {s : St} {v : Wn} {A : Option Addr} {base : List Nat} {z : Value} {recs : List (List Nat)} (h : KM w wr g bs bw s x v A n base z recs) :
    KM w ((wr.alloc (.cells #[] 5)).alloc (.cells #[] 31)) g bs bw s x v (some ⟨wr.heap.size, 0, none⟩) 0 [] (.slice (some ⟨wr.heap.size + 1, 0, none⟩) 0 0) [] := by
  obtain ⟨h1, h2, h3, h4, h5, h6⟩ := h.up (palloc (palloc (Below.refl wr.heap.size wr) (.cells #[] 5)) (.cells #[] 31))
  exact ⟨h1, h2, h3, bts_nil _ _ _, slRow_lit _ _ _ (by simp) (h.up (palloc (Below.refl wr.heap.size wr) (.cells #[] 5))).1.size, h6⟩
section
variable {w wr w' : World} {g bs bw x n y : Nat} {s : St} {v : Wn} {A : Option Addr} {base : List Nat} {z : Value} {recs : List (List Nat)} {cs : Array Value}
theorem KY.rebase {A' : Option Addr} {n' : Nat} {base' : List Nat} (h : KY w wr g bs bw s x v A n base z recs y cs) (hb : Bts wr wr.heap.size A' n' base') : KY w wr g bs bw s x v A' n' base' z recs y cs :=
  ⟨⟨h.1.1, h.1.2.1, h.1.2.2.1, hb, h.1.2.2.2.2.1, h.1.2.2.2.2.2⟩, h.2⟩
theorem KY.rerow {z' : Value} {recs' : List (List Nat)} (h : KY w wr g bs bw s x v A n base z recs y cs) (hb : SlRow wr w.heap.size z' recs') : KY w wr g bs bw s x v A n base z' recs' y cs :=
  ⟨⟨h.1.1, h.1.2.1, h.1.2.2.1, h.1.2.2.2.1, hb, h.1.2.2.2.2.2⟩, h.2⟩
theorem KY.drewN (h : KY w wr g bs bw s x v A n base z recs y cs) (m : Nat) : KY w (wr.drewN m) g bs bw s x v A n base z recs y cs := h.up (below_drewN (Below.refl _ _) m)
theorem KY.bts (h : KY w wr g bs bw s x v A n base z recs y cs) : Bts wr wr.heap.size A n base := h.1.2.2.2.1
theorem KY.row (h : KY w wr g bs bw s x v A n base z recs y cs) : SlRow wr w.heap.size z recs := h.1.2.2.2.2.1
theorem KY.sls (h : KY w wr g bs bw s x v A n base z recs y cs) : Sls wr wr.heap.size z recs := slRow_sls h.row
theorem KY.emptied (h : KY w wr g bs bw s x v A n base z recs y cs) : KY w (wr.alloc (.cells #[] 31)) g bs bw s x v A n base (.slice (some ⟨wr.heap.size, 0, none⟩) 0 0) [] y cs :=
  KY.rerow (h.up (palloc (Below.refl _ _) _)) (slRow_lit _ _ _ rfl h.1.1.size)
theorem ky_push {w8 : World} {b : List Nat} {u v8 : Value} {vs : List Value} (h : KY w wr g bs bw s x v A n base z recs y cs) (hb : Sl wr wr.heap.size u b) (hvl : vs.length = recs.length) (hown : OwnN wr w.heap.size 31 1 z recs.length vs) (hvs : ∀ i, i < recs.length → Sl wr wr.heap.size (vs.getD i undef) (recs.getD i []))
    (hown8 : OwnN w8 w.heap.size 31 1 v8 (recs.length + 1) (vs ++ [u])) (hg8 : (wr.alloc (.cells #[u] 31)).grownBy w8 z.ownBlock) : KY w w8 g bs bw s x v A n base v8 (recs ++ [b]) y cs := by
  have hbw := palloc (Below.refl wr.heap.size wr) (Obj.cells #[u] 31)
  obtain ⟨⟨h1, h2, h3, h4, h5, h6⟩, h7⟩ := h.up hbw
  have hno := slRow_off h5 h3 h2
  have hoy := own_blk_ne (hown.below hbw).1 h7 (by decide)
  have n1 := hno x (by simp)
  have n2 := hno g (by simp)
  have n3 := hno bs (by simp)
  have n4 := hno bw (by simp)
  refine ⟨⟨h1.grown hg8 h1.size (fun q hq => (hown.1.lt q hq).1), ?_, Blk.grown h3 hg8 (fun e => n1 e.symm), (bts_by h4 hg8 (Nat.le_refl _) (hown.below hbw).2).more hg8.size, slRow_push hvl hown hvs hb hbw hown8 hg8, h6⟩, Blk.grown h7 hg8 (fun e => hoy e.symm)⟩
  obtain ⟨hb, hs, hw, rest⟩ := h2
  exact ⟨hb.grown hg8 (fun e => n2 e.symm), hs.kept hg8 (fun e => n3 e.symm), hw.kept hg8 (fun e => n4 e.symm), rest⟩
end
end Go.Proofs.YtkchocafnidfiaaGreat.Wl
/- The law of crashes (layer 8): what holds in the midst of a round, behind the act and ahead of the crash. -/
namespace Go.Proofs.YtkchocafnidfiaaGreat.Wl
open Go.RowKit Go.Proofs.YtkchocafnidfiaaGreat.Mem Go.Proofs.YtkchocafnidfiaaGreat.Pg Go.Proofs.YtkchocafnidfiaaGreat.Rcd Go.Proofs.YtkchocafnidfiaaGreat.Slt
open Go.Proofs.YtkchocafnidfiaaGreat.Dsk (KeptBut SMap DiskAt St ptr kept_of_below kept_of_grown kept_drew TearsAt)
open Go.Proofs.YtkchocafnidfiaaGreat.Plt (sl plV sl_le sl_pos)
set_option linter.unusedVariables false
set_option linter.unusedSimpArgs false
/-- what an act left: it is done, or refused, and the disk lives; or the disk died of it -/
def Left (k : Nat) (wh : Int) (L : List Nat) (s1 : St) (v1 : Wn) (base : List Nat) (recs : List (List Nat)) (td my : Bool) : Prop :=
  (td = false ∧ my = false ∧ ∃ (G mk : Int) (e : Nat), v1 = ⟨G, mk, e, false⟩ ∧ KP k s1 G mk e base recs) ∨
  (my = true ∧ (wh == 3) = false ∧ s1.dead = true ∧ ∀ s', Crashed s1 s' → openMark s' ≤ (k : Int) + 2 ∧
    ((∃ (G : Int) (e : Nat), Ready s' (sl 30) (lg 30) G (openMark s') e base recs) ∨ (td = true ∧ ∃ (G : Int) (e : Nat), Ready s' (sl 30) (lg 30) G (openMark s') e L []) ∨ (td = false ∧ ∃ (G : Int) (e : Nat), Ready s' (sl 30) (lg 30) G (openMark s') e base (recs ++ [L]))))
def Mid (w wx : World) (g bs bw x y k : Nat) (wh : Int) (cs : Array Value) (L : List Nat) (z9 z10 z13 z14 : Value) : Prop :=
  ∃ (s1 : St) (v1 : Wn) (A : Option Addr) (n c : Nat) (base : List Nat) (Az : Option Addr) (nz cz : Nat) (recs : List (List Nat)) (td my : Bool),
    z9 = .slice A n c ∧ z10 = .slice Az nz cz ∧ z13 = .bool td ∧ z14 = .bool my ∧ KY w wx g bs bw s1 x v1 A n base (.slice Az nz cz) recs y cs ∧ s1.n = 30 ∧ recs.length ≤ 1000 ∧ nz = recs.length ∧ Left k wh L s1 v1 base recs td my
section
variable {wh : Int} {w wx : World} {g bs bw x y k n c : Nat} {cs : Array Value} {L : List Nat} {s1 : St} {v1 : Wn} {A : Option Addr} {base : List Nat} {z : Value} {recs : List (List Nat)}
theorem mid_of {td my : Bool} (h : KY w wx g bs bw s1 x v1 A n base z recs y cs) (h1 : s1.n = 30) (h2 : recs.length ≤ 1000) (h3 : Left k wh L s1 v1 base recs td my) : Mid w wx g bs bw x y k wh cs L (.slice A n c) z (.bool td) (.bool my) := by
  obtain ⟨Az, nz, cz, rfl, hl, _⟩ := id (slRow_sls h.row)
  exact ⟨s1, v1, A, n, c, base, Az, nz, cz, recs, td, my, rfl, rfl, rfl, rfl, h, h1, h2, hl.symm, h3⟩
theorem mid_calm {G mk : Int} {e : Nat} (h : KY w wx g bs bw s1 x ⟨G, mk, e, false⟩ A n base z recs y cs) (hp : KP k s1 G mk e base recs) : Mid w wx g bs bw x y k wh cs L (.slice A n c) z (.bool false) (.bool false) :=
  mid_of h hp.n hp.few (.inl ⟨rfl, rfl, G, mk, e, rfl, hp⟩)
/-- the disk died at a commit -/
theorem mid_commit {s : St} {G mk : Int} {e e' : Nat} (h : KY w wx g bs bw s1 x v1 A n base z recs y cs) (hp : KP k s G mk e base recs) (hw3 : (wh == 3) = false) (hd : s1.dead = true) (hn : s1.n = s.n)
    (hq : ∀ s', Crashed s1 s' → (Ready s' (sl 30) (lg 30) G (openMark s') e base recs ∨ Ready s' (sl 30) (lg 30) G (openMark s') e' base (recs ++ [L])) ∧ openMark s' ≤ mk + 1) : Mid w wx g bs bw x y k wh cs L (.slice A n c) z (.bool false) (.bool true) := by
  refine mid_of h (hn.trans hp.n) hp.few (.inr ⟨rfl, hw3, hd, fun s' hs => ?_⟩)
  obtain ⟨h1, h2⟩ := hq s' hs
  have := hp.m1
  refine ⟨by omega, ?_⟩
  rcases h1 with h1 | h1
  · exact .inl ⟨_, _, h1⟩
  · exact .inr (.inr ⟨rfl, _, _, h1⟩)
/-- the disk died at a turn -/
theorem mid_turn {s : St} {G mk G' : Int} {e e' : Nat} (h : KY w wx g bs bw s1 x v1 A n base z recs y cs) (hp : KP k s G mk e base recs) (hw3 : (wh == 3) = false) (hd : s1.dead = true) (hn : s1.n = s.n)
    (hq : ∀ s', Crashed s1 s' → (Ready s' (sl 30) (lg 30) G (openMark s') e base recs ∨ Ready s' (sl 30) (lg 30) G' (openMark s') e' L []) ∧ openMark s' ≤ mk + 1) : Mid w wx g bs bw x y k wh cs L (.slice A n c) z (.bool true) (.bool true) := by
  refine mid_of h (hn.trans hp.n) hp.few (.inr ⟨rfl, hw3, hd, fun s' hs => ?_⟩)
  obtain ⟨h1, h2⟩ := hq s' hs
  have := hp.m1
  refine ⟨by omega, ?_⟩
  rcases h1 with h1 | h1
  · exact .inl ⟨_, _, h1⟩
  · exact .inr (.inl ⟨rfl, _, _, h1⟩)
theorem KP.next {s : St} {G mk : Int} {e : Nat} (h : KP k s G mk e base recs) : KP (k + 1) s G mk e base recs := ⟨h.n, h.m0, by have := h.m1; omega, h.ready⟩
end
end Go.Proofs.YtkchocafnidfiaaGreat.Wl
/- The law of crashes (layer 8): an append of slices of bytes onto a row of one's own, within a statement that draws its order. -/
namespace Go.Proofs.YtkchocafnidfiaaGreat.Wl
open Go.RowKit Go.Proofs.YtkchocafnidfiaaGreat.Mem Go.Proofs.YtkchocafnidfiaaGreat.Pg Go.Proofs.YtkchocafnidfiaaGreat.Rcd Go.Proofs.YtkchocafnidfiaaGreat.Slt
open Go.Proofs.YtkchocafnidfiaaGreat.Dsk (KeptBut SMap DiskAt St ptr kept_of_below kept_of_grown kept_drew TearsAt)
open Go.Proofs.YtkchocafnidfiaaGreat.Plt (sl plV sl_le sl_pos)
set_option linter.unusedVariables false
set_option linter.unusedSimpArgs false
theorem infoSl : (Tryz.prog.info? 31).map (fun i => (i.zero, i.size, i.bytes)) = some (some (.slice none 0 0), 1, 24) := by kernel_rfl
/-- onto a row of one's own, from any row -/
theorem step_row {ops : Array Oper} {o : Oper} {a : Act} {w : World} {K : Act → World → Prop} {Q : Exit → Act → World → Prop} {E : Prop} (hgd : Region.wanted o (yielded ops a.tmps) = true) (s x : Operand)
    (ho : o.op = .call { callee := .builtin .append, args := #[s, x], argTypes := #[32, 32] }) (base : Nat) (v : Value) (ss : List (List Nat)) (hs : a.eval s = v) (hrow : SlRow w base v ss)
    (A : Option Addr) (m c : Nat) (ts : List (List Nat)) (hx : a.eval x = .slice A m c) (hsrc : Sls w w.heap.size (.slice A m c) ts) (hn : ss.length + ts.length ≤ 3000) (hbase : base ≤ w.heap.size)
    (h : ∀ v' w', SlRow w' base v' (ss ++ ts) → w.grownBy w' v.ownBlock → K (a.put o.dst v') w') : if Region.wanted o (yielded ops a.tmps) = true then Oper.wp Tryz.prog o a w K Q else E := by
  obtain ⟨i0, hi, hz0, hz1, hz2⟩ := info_parts infoSl
  obtain ⟨hl, _, _⟩ := sls_len hsrc
  obtain ⟨us, src⟩ := slSrc_of hsrc
  obtain ⟨vs, hvl, hown, hvs⟩ := hrow
  rw [if_pos hgd]
  refine wp_append_n w s x 32 ho base 31 i0 (.slice none 0 0) 1 24 Tryz.underlying32 hi hz0 hz1 hz2 rfl (by decide) zSl_nob v ss.length vs hs hown w.heap.size A m c us hx src.reads src.ones src.nob (by unfold maxLen; omega) (by omega) hbase ?_
  intro v' w' h2 h3 _
  exact h v' w' (slRow_app hvl src.len hown.2 hvs (fun i hi => src.sl i hi) (by rw [src.num]; exact h2) h3) h3
theorem slRow_nob {w : World} {base : Nat} {v : Value} {ss : List (List Nat)} (h : SlRow w base v ss) : NoBy w v.ownBlock := by
  obtain ⟨vs, _, hown, _⟩ := h
  exact hown.2
theorem slRow_from {w : World} {base : Nat} {v : Value} {ss : List (List Nat)} (h : SlRow w base v ss) : ∀ q, v.ownBlock = some q → base ≤ q := by
  obtain ⟨vs, _, hown, _⟩ := h
  exact fun q hq => (hown.1.lt q hq).1
theorem slRow_form {w : World} {base : Nat} {v : Value} {ss : List (List Nat)} (h : SlRow w base v ss) : ∃ A c, v = .slice A ss.length c := by
  obtain ⟨A, n, c, rfl, hl, _⟩ := slRow_sls h
  exact ⟨A, c, by rw [hl]⟩
/-- one text, boxed as a row -/
theorem sls_one {w : World} {g : Nat} {u : Value} {xs : List Nat} (h : Blk w g 31 #[u]) (hs : Sl w w.heap.size u xs) : Sls w w.heap.size (.slice (some ⟨g, 0, none⟩) 1 1) [xs] := by
  refine ⟨_, 1, 1, rfl, rfl, Nat.le_refl _, by unfold maxLen; omega, fun _ => ⟨g, 0, rfl, h.lt, fun i hi => ?_⟩⟩
  obtain rfl : i = 0 := by omega
  exact ⟨u, by rw [h.cell]; rfl, hs⟩
theorem sl_grown {w w' : World} {u : Value} {xs : List Nat} {row : Option Nat} (h : Sl w w.heap.size u xs) (hg : w.grownBy w' row) (hn : NoBy w row) : Sl w' w'.heap.size u xs := (sl_by h hg (Nat.le_refl _) hn).more hg.size
theorem low_grown {w w1 w2 : World} {v : Value} {ss : List (List Nat)} (h : Below w.heap.size w w1) (hr : SlRow w1 w.heap.size v ss) (hg : w1.grownBy w2 v.ownBlock) : Below w.heap.size w w2 :=
  h.grown hg h.size (slRow_from hr)
theorem ky_S {w wr : World} {g bs bw x n y : Nat} {s : St} {v : Wn} {A : Option Addr} {base : List Nat} {z : Value} {recs : List (List Nat)} {k m b : Int} {At : Option Addr} {nt ct : Nat} (h : KY w wr g bs bw s x v A n base z recs y (actCs k m b At nt ct)) :
    wr.cell? ⟨y, 0, none⟩ = some (.int .i64 k) ∧ wr.cell? ⟨y, 1, none⟩ = some (.int .i64 m) ∧ wr.cell? ⟨y, 2, none⟩ = some (.int .u8 b) ∧ wr.cell? ⟨y, 3, none⟩ = some (.slice At nt ct) :=
  ⟨h.cells.1, h.cells.2.1, h.cells.2.2.1, h.cells.2.2.2.1⟩
end Go.Proofs.YtkchocafnidfiaaGreat.Wl
