/- A record is written (layer 8): the contract of the wal's Commit. -/
import Derived.Test.YtddhkajcakndlaaRecAll
import Derived.Test.YtddhkajcakndlaaWalActs
import Derived.Deep.RegionHeld3
namespace Go.Proofs.Ytddhkajcakndlaa.Wl
open Go.RowKit Go.Proofs.Ytddhkajcakndlaa.Mem Go.Proofs.Ytddhkajcakndlaa.Pg Go.Proofs.Ytddhkajcakndlaa.Rcd Go.Proofs.Ytddhkajcakndlaa.Slt
open Go.Proofs.Ytddhkajcakndlaa.Dsk (KeptBut SMap DiskAt St ptr kept_of_below kept_of_grown kept_drew)
open Go.Proofs.Ytddhkajcakndlaa.Plt (sl plV sl_le sl_pos)
set_option linter.unusedVariables false
set_option linter.unusedSimpArgs false
section
variable (x g bs bw k : Nat) (s : St) (v : Wn) (A : Option Addr) (n c : Nat) (b : List Nat) (w : World)
set_option maxHeartbeats 2000000 in
theorem commit_br (hw : WalAt w x g k v) (hd : DiskAt w g bs bw s) (hbr : v.br = true) : Calls Try.prog 7 #[ptr x, .slice A n c] w (ActOut w x g bs bw k (commitP k s v b)) := by
  have C := broken_any x g k v w hw
  rw [hbr] at C
  have C := Lib.hid C
  have ho : ActOut w x g bs bw k (commitP k s v b) (.returned (.int .i64 6)) w := by
    unfold commitP
    rw [if_pos hbr]
    exact ⟨rfl, hw, hd, KeptBut.refl _ _⟩
  have HO := Lib.hid ho; clear ho hw hd hbr
  go_enter Try.func7, Try.ntmps7
  go_wp2_with (go_at_call 15; refine (C.out).mono ?_; rintro e w' ⟨rfl, rfl⟩)
  go_ret
  exact HO.out
/-- the page that a record is split by, in memory -/
def PM (w : World) (gen mark : Int) (next : Nat) (s5 : Value) (wx : World) : Prop := ∃ y, s5 = .pointer (some ⟨y, 0, none⟩) ∧ Blk wx y 59 #[.int .i64 2, .int .i64 gen, .int .i64 mark, .int .i64 (next : Nat), .int .i64 0, .int .i64 0, .slice none 0 0] ∧ Below w.heap.size w wx
theorem pm_new {w w1 : World} {gen mark : Int} {next y : Nat} (hy : y = w1.heap.size) (hb : Below w.heap.size w w1) :
    PM w gen mark next (.pointer (some ⟨y, 0, none⟩)) (w1.alloc (.cells #[.int .i64 2, .int .i64 gen, .int .i64 mark, .int .i64 (next : Nat), .int .i64 0, .int .i64 0, .slice none 0 0] 59)) := by
  subst hy
  exact ⟨_, rfl, Blk.new _ _ _, palloc hb _⟩
set_option maxRecDepth 20000 in
set_option maxHeartbeats 4000000 in
theorem commit_full (hw : WalAt w x g k v) (hd : DiskAt w g bs bw s) (hk1 : 6 ≤ k) (hk2 : k ≤ 1000) (hv : WnOk k v) (hbr : v.br = false) (hb : Sl w w.heap.size (.slice A n c) b) (hbn : b.length = n) (hn : n ≤ 7808) (hp : lg k < v.next + parts n) :
    Calls Try.prog 7 #[ptr x, .slice A n c] w (ActOut w x g bs bw k (commitP k s v b)) := by
  obtain ⟨hg0, hg1, hm0, hm1, hnx⟩ := hv
  have hlk : lg k ≤ 1000 := by unfold lg; omega
  have ho : ∀ w' : World, Below w.heap.size w w' → ActOut w x g bs bw k (commitP k s v b) (.returned (.int .i64 4)) w' := fun w' hb' => by
    unfold commitP
    rw [if_neg (by rw [hbr]; simp), if_pos (by rw [hbn]; exact hp)]
    exact ⟨rfl, hw.up hb', hd.below hb', kept_of_below hb' (Nat.le_refl _)⟩
  have HO := Lib.hid ho; clear ho
  have C := broken_any x g k v w hw
  rw [hbr] at C
  have C := Lib.hid C
  have fr := fun (W : World) (hW : Below w.heap.size w W) => free_any x g k v W (hw.up hW) (by omega) (by omega)
  have FR := Lib.hid fr; clear fr
  have hfit := fits_ok (p := lP v.gen v.mark v.next) (b := b) (by unfold lP; simp) ⟨hg0, hg1⟩ ⟨hm0, hm1⟩ (by unfold lP; simp only; omega) (by omega)
  have sp := fun (W : World) (hW : Below w.heap.size w W) => split_any (lP v.gen v.mark v.next) (.slice none 0 0) A n c b W (sl_up hb hW) hbn (by unfold In64 lP; simp only; omega)
  rw [if_neg (by omega : ¬ 7808 < n), if_pos hfit, if_pos hfit] at sp
  have e0 : pgV (lP v.gen v.mark v.next) (.slice none 0 0) = .agg #[.int .i64 2, .int .i64 v.gen, .int .i64 v.mark, .int .i64 (v.next : Nat), .int .i64 0, .int .i64 0, .slice none 0 0] := rfl
  rw [e0] at sp
  have hpl := pages_length (lP v.gen v.mark v.next) b
  rw [hbn] at hpl
  have HPL := Lib.hid hpl; clear hpl
  have SP := Lib.hid sp; clear sp
  have c4 := hw.c4
  have c5 := hw.c5
  have c6 := hw.c6
  have hx := hw.lt
  clear e0 hw hd hb hbr hfit hbn
  generalize hps : pages (lP v.gen v.mark v.next) b = ps at *
  clear hps
  generalize parts n = m at *
  generalize lg k = l at *
  obtain ⟨gen, mark, next, br⟩ := v
  simp only at *
  have hd1 : decide ((l : Int) - (next : Int) < (m : Int)) = true := by simp; omega
  go_enter Try.func7, Try.ntmps7
  go_wp2_with (go_at_call 15; refine (C.out).mono ?_; rintro e w' ⟨rfl, rfl⟩)
  go_cut [5] from 14 to 26 (fun s5 wx => PM w gen mark next s5 wx)
  case first =>
    go_region_held3 (fun W => W.cell? ⟨x, 4, none⟩ = some (.int .i64 gen) ∧ W.cell? ⟨x, 5, none⟩ = some (.int .i64 mark) ∧ W.cell? ⟨x, 6, none⟩ = some (.int .i64 (next : Nat)))
      (first
        | with_reducible exact ⟨c4, c5, c6⟩
        | go_keep)
      (first | (fail))
    all_goals
      go_wp2_with fail
      go_meet
      case rel => first | exact pm_new rfl (Below.refl _ _).drew
  case rest =>
    obtain ⟨y, rfl, hy, hbw⟩ := hcut
    have HBW := Lib.hid hbw; clear hbw
    have y0 := hy.cell 0
    have y1 := hy.cell 1
    have y2 := hy.cell 2
    have y3 := hy.cell 3
    have y4 := hy.cell 4
    have y5 := hy.cell 5
    have y6 := hy.cell 6
    have hyl := hy.lt
    simp at y0 y1 y2 y3 y4 y5 y6
    clear hy c4 c5 c6 hx
    go_wp2_with (first
      | (go_at_call 24; refine (SP.out _ HBW.out).mono ?_; rintro e w2 ⟨v2, rfl, hp2, hb2⟩; obtain ⟨A2, n2, c2, rfl, _⟩ := id hp2; obtain rfl : n2 = m := (by have h1 := (pgs_len hp2).1; have := HPL.out; omega); have HB2 := Lib.hid (HBW.out.trans (hb2.mono HBW.out.size)); clear hp2 hb2)
      | (go_at_call 13; refine (FR.out _ HB2.out).mono ?_; rintro e w3 ⟨rfl, q, rfl⟩))
    go_ret
    exact HO.out _ (below_drewN HB2.out _)
set_option maxRecDepth 20000 in
set_option maxHeartbeats 8000000 in
theorem commit_goes (hw : WalAt w x g k v) (hd : DiskAt w g bs bw s) (hk1 : 6 ≤ k) (hk2 : k ≤ 1000) (hv : WnOk k v) (hbr : v.br = false) (hb : Sl w w.heap.size (.slice A n c) b) (hbn : b.length = n) (hn : n ≤ 7808) (hp : ¬ lg k < v.next + parts n) :
    Calls Try.prog 7 #[ptr x, .slice A n c] w (ActOut w x g bs bw k (commitP k s v b)) := by
  obtain ⟨hg0, hg1, hm0, hm1, hnx⟩ := hv
  have hlk : lg k ≤ 1000 := by unfold lg; omega
  have hpp := parts_pos hn
  have hp16 := parts_le n
  have C := broken_any x g k v w hw
  rw [hbr] at C
  have C := Lib.hid C
  have fr := fun (W : World) (hW : Below w.heap.size w W) => free_any x g k v W (hw.up hW) (by omega) (by omega)
  have FR := Lib.hid fr; clear fr
  have hfit := fits_ok (p := lP v.gen v.mark v.next) (b := b) (by unfold lP; simp) ⟨hg0, hg1⟩ ⟨hm0, hm1⟩ (by unfold lP; simp only; omega) (by omega)
  have sp := fun (W : World) (hW : Below w.heap.size w W) => split_any (lP v.gen v.mark v.next) (.slice none 0 0) A n c b W (sl_up hb hW) hbn (by unfold In64 lP; simp only; omega)
  rw [if_neg (by omega : ¬ 7808 < n), if_pos hfit, if_pos hfit] at sp
  have e0 : pgV (lP v.gen v.mark v.next) (.slice none 0 0) = .agg #[.int .i64 2, .int .i64 v.gen, .int .i64 v.mark, .int .i64 (v.next : Nat), .int .i64 0, .int .i64 0, .slice none 0 0] := rfl
  rw [e0] at sp
  have hpl := pages_length (lP v.gen v.mark v.next) b
  have hmay := fun i (hi : i < parts n) => fits_may (q := lP v.gen v.mark v.next) (b := b) (i := i) hfit (by rw [hbn]; exact hi)
  have hpg := fun i (hi : i < parts n) => pages_getD (lP v.gen v.mark v.next) b i (by rw [hbn]; exact hi)
  have hsl := secL_len (lP v.gen v.mark v.next) b
  have hsg := fun i (hi : i < parts n) => secL_get (lP v.gen v.mark v.next) b i (by rw [hbn]; exact hi)
  have at_ := fun (W : World) => at_k k v.next W hk1 (by omega) (by omega)
  rw [hbn] at hpl hmay hpg hsl hsg
  have e1 : commitP k s v b = ((writes s (2 * sl k + v.next) (secL (lP v.gen v.mark v.next) b)).1, (if (writes s (2 * sl k + v.next) (secL (lP v.gen v.mark v.next) b)).2 = 0 then ⟨v.gen, v.mark, v.next + parts n, false⟩ else ⟨v.gen, v.mark, v.next, true⟩), (writes s (2 * sl k + v.next) (secL (lP v.gen v.mark v.next) b)).2) := by
    unfold commitP
    rw [if_neg (by rw [hbr]; simp), if_neg (by rw [hbn]; exact hp), hbn]
  have hs16 := sl_le k
  obtain ⟨f, hf⟩ : ∃ f, f = 2 * sl k + v.next := ⟨_, rfl⟩
  have hf2 : f ≤ 2000 := by omega
  rw [← hf] at at_ e1
  obtain ⟨L, hL⟩ : ∃ L, L = secL (lP v.gen v.mark v.next) b := ⟨_, rfl⟩
  rw [← hL] at hsl hsg e1
  have wr := fun (A1 : Option Addr) (n1 c1 : Nat) (W : World) (hW : Below w.heap.size w W) (h3 : Sls W W.heap.size (.slice A1 n1 c1) L) => wwrite_any x g bs bw k s v f A1 n1 c1 L W (hw.up hW) (hd.below hW) h3 (by have := (sls_len h3).1; omega) hf2
  obtain ⟨R, hR⟩ : ∃ R, R = writes s f L := ⟨_, rfl⟩
  rw [← hR] at wr e1
  obtain ⟨s', e'⟩ := R
  simp only at wr e1
  have HO : Hid (∀ (w' : World) (v' : Wn), v' = (if e' = 0 then ⟨v.gen, v.mark, v.next + parts n, false⟩ else ⟨v.gen, v.mark, v.next, true⟩) → WalAt w' x g k v' → DiskAt w' g bs bw s' → KeptBut w w' [x, g, bs, bw] → ActOut w x g bs bw k (commitP k s v b) (.returned (.int .i64 e')) w') := Lib.hid (fun w' v' h1 h2 h3 h4 => by
    subst h1
    rw [e1]
    exact ⟨rfl, h2, h3, h4⟩)
  have hw0 := hw
  obtain ⟨n1, n2, n3⟩ := wal_ne hw hd
  have HWU := Lib.hid (fun (W : World) (hW : Below w.heap.size w W) => hw0.up hW)
  have HPL := Lib.hid hpl; clear hpl
  have HMAY := Lib.hid hmay; clear hmay
  have HPG := Lib.hid hpg; clear hpg
  have HSL := Lib.hid hsl; clear hsl
  have HSG := Lib.hid hsg; clear hsg
  have SP := Lib.hid sp; clear sp
  have AT := Lib.hid at_; clear at_
  have WR := Lib.hid wr; clear wr
  have c4 := hw.c4
  have c5 := hw.c5
  have c6 := hw.c6
  have hx := hw.lt
  obtain ⟨F, hF⟩ : ∃ F : Nat → List Nat, F = fun i => (nth (lP v.gen v.mark v.next) b (parts n) i).sector := ⟨_, rfl⟩
  have HF := Lib.hid hF; clear hF
  generalize hps : pages (lP v.gen v.mark v.next) b = ps at *
  clear e0 e1 hw hd hb hw0 hfit hbn hps hL hR hf hs16
  have hbr2 : ({ v with br := false } : Wn) = v := by obtain ⟨a, b', c', d⟩ := v; simp only at hbr; rw [hbr]
  have HBR2 := Lib.hid hbr2; clear hbr2 hbr
  generalize hmm : parts n = m at *
  have HMM := Lib.hid hmm; clear hmm
  have hd1 : decide ((lg k : Int) - (v.next : Int) < (m : Int)) = false := by simp; omega
  have hmk := fun (W : World) => make_slices m (by omega) W
  have hmp : 0 < m := by omega
  obtain ⟨gen, hgen⟩ : ∃ gen, gen = v.gen := ⟨_, rfl⟩
  obtain ⟨mark, hmark⟩ : ∃ mark, mark = v.mark := ⟨_, rfl⟩
  obtain ⟨next, hnext⟩ : ∃ next, next = v.next := ⟨_, rfl⟩
  rw [← hgen, ← hmark, ← hnext] at SP HMAY HPG HSG HF
  rw [← hgen] at c4
  rw [← hmark] at c5
  rw [← hnext] at c6 hd1 FR AT hnx hp
  have HGEN := Lib.hid hgen; clear hgen
  have HMARK := Lib.hid hmark; clear hmark
  have HNEXT := Lib.hid hnext; clear hnext
  go_enter Try.func7, Try.ntmps7
  go_wp2_with (go_at_call 15; refine (C.out).mono ?_; rintro e w' ⟨rfl, rfl⟩)
  go_cut [5] from 14 to 26 (fun s5 wx => PM w gen mark next s5 wx)
  case first =>
    go_region_held3 (fun W => W.cell? ⟨x, 4, none⟩ = some (.int .i64 gen) ∧ W.cell? ⟨x, 5, none⟩ = some (.int .i64 mark) ∧ W.cell? ⟨x, 6, none⟩ = some (.int .i64 (next : Nat)))
      (first
        | with_reducible exact ⟨c4, c5, c6⟩
        | go_keep)
      (first | (fail))
    all_goals
      go_wp2_with fail
      go_meet
      case rel => first | exact pm_new rfl (Below.refl _ _).drew
  case rest =>
    obtain ⟨y, rfl, hy, hbw⟩ := hcut
    have HBW := Lib.hid hbw; clear hbw
    have y0 := hy.cell 0
    have y1 := hy.cell 1
    have y2 := hy.cell 2
    have y3 := hy.cell 3
    have y4 := hy.cell 4
    have y5 := hy.cell 5
    have y6 := hy.cell 6
    have hyl := hy.lt
    simp at y0 y1 y2 y3 y4 y5 y6
    clear hy c4 c5 c6 hx
    go_wp2_with (first
      | (go_at_call 24; refine (SP.out _ HBW.out).mono ?_; rintro e w2 ⟨v2, rfl, hp2, hb2⟩; obtain ⟨A2, n2', c2, rfl, _⟩ := id hp2; obtain rfl : n2' = m := (by have h1 := (pgs_len hp2).1; have := HPL.out; omega); have HP2 := Lib.hid hp2; have HB2 := Lib.hid (HBW.out.trans (hb2.mono HBW.out.size)); clear hp2 hb2)
      | (go_at_call 13; refine (FR.out _ HB2.out).mono ?_; rintro e w3 ⟨rfl, q, hq⟩; have hb3 : Below w2.heap.size w2 w3 := (by rw [hq]; exact below_drewN (Below.refl _ _) q); have HP3 := Lib.hid ((HP2.out.below hb3 (Nat.le_refl _)).more hb3.size); have HB3 := Lib.hid (HB2.out.trans (hb3.mono HB2.out.size)); clear hq hb3))
    have hmd := made_new w3 n2' F
    have hbm := palloc (Below.refl w3.heap.size w3) (Obj.cells (List.replicate n2' (Value.slice none 0 0)).toArray 22)
    have HMD := Lib.hid hmd; clear hmd
    have HBM := Lib.hid hbm; clear hbm
    go_loopw [46] (fun i wr => ∃ j : Nat, j ≤ n2' ∧ i = .int .i64 j ∧ Made wr w3.heap.size n2' j F ∧ Below w3.heap.size w3 wr) (fun i _ => n2' - (intOf i).toNat)
    case atStart => exact ⟨0, Nat.zero_le _, rfl, HMD.out, HBM.out⟩
    case round =>
      obtain ⟨j, hj, rfl, hmd, hbw⟩ := hrel
      have HB := Lib.hid hbw; clear hbw
      have HMK := Lib.hid hmd; clear hmd
      by_cases hlt : j < n2'
      · obtain ⟨b0, off, rfl, hb, hc⟩ := pgs_at HP3.out (by omega)
        obtain ⟨v1, hr1, hs1⟩ := hc j hlt
        rw [HPG.out j hlt] at hr1 hs1
        have hmy := HMAY.out j hlt
        have hfk : F j = (nth (lP gen mark next) b n2' j).sector := by rw [HF.out]
        obtain ⟨q1, hq1⟩ : ∃ q, q = nth (lP gen mark next) b n2' j := ⟨_, rfl⟩
        rw [← hq1] at hr1 hs1 hmy hfk
        clear hq1 hc
        obtain ⟨A1, n1', c1, rfl, hbt1⟩ := hs1
        have HR1 := Lib.hid hr1; clear hr1
        have HFK := Lib.hid hfk; clear hfk
        have pu := put_ok q1 (.slice A1 n1' c1) (wr.alloc (.cells #[.int .i64 q1.kind, .int .i64 q1.gen, .int .i64 q1.mark, .int .i64 q1.index, .int .i64 q1.part, .int .i64 q1.parts, .slice A1 n1' c1] 59)) hmy ⟨A1, n1', c1, rfl, (hbt1.below (palloc HB.out _) (Nat.le_refl _)).more (palloc HB.out _).size⟩
        unfold pgV at pu
        have PU := Lib.hid pu; clear pu hbt1
        go_wp2_with (first
          | (refine wpList_load_mid rfl 59 (.tmp 49) rfl b0 (off + j * 7) rfl [.int .i64 q1.kind, .int .i64 q1.gen, .int .i64 q1.mark, .int .i64 q1.index, .int .i64 q1.part, .int .i64 q1.parts, .slice A1 n1' c1] _ (rangeAt_below HR1.out HB.out hb) Try.underlying59 rfl (by rw [size24]; rfl) ?_)
          | (go_at_call 25; refine (PU.out).mono ?_; rintro e w4 ⟨v4, rfl, hs4, hb4⟩; obtain ⟨A4, n4, c4', rfl, _⟩ := id hs4; have HS4 := Lib.hid hs4; have hbr := (palloc (Below.refl wr.heap.size wr) (Obj.cells #[.int .i64 q1.kind, .int .i64 q1.gen, .int .i64 q1.mark, .int .i64 q1.index, .int .i64 q1.part, .int .i64 q1.parts, .slice A1 n1' c1] 59)).trans (hb4.mono (by simp)); have HM4 := Lib.hid (HMK.out.below hbr); have HB4 := Lib.hid (HB.out.trans (hbr.mono HB.out.size)); obtain ⟨⟨uk, huk, huo⟩, hfk4, hg4⟩ := HM4.out.cell hlt; clear hbr hb4 hs4))
        go_roundw
        case rel => exact ⟨j + 1, by omega, by go_num, HM4.out.step hlt (by rw [HFK.out]; exact HS4.out), HB4.out.grown (grown_set w4 ⟨w3.heap.size, j, none⟩ _) HB4.out.size (fun q hq => by cases hq; exact Nat.le_refl _)⟩
        case measure => simp [intOf]; omega
      · obtain rfl : j = n2' := by omega
        have hsls := HMK.out.sls (ss := L) (by unfold maxLen; omega) HSL.out (fun i hi => by rw [HSG.out i hi, HF.out])
        have HSLS := Lib.hid hsls; clear hsls
        have HB5 := Lib.hid (HB3.out.trans (HB.out.mono HB3.out.size))
        have hw5 := HWU.out _ HB5.out
        have m1 := hw5.c1
        have m2 := hw5.c2
        have m3 := hw5.c3
        have m6 := hw5.c6
        rw [← HNEXT.out] at m6
        have hx5 := hw5.lt
        clear hw5
        go_wp2
        by_cases he : e' = 0
        · subst he
          simp only [if_pos] at HO
          go_region_held3 (fun W => W.cell? ⟨x, 1, none⟩ = some (.int .i64 (sl k : Nat)) ∧ W.cell? ⟨x, 2, none⟩ = some (.int .i64 (2 * (sl k : Nat))) ∧ W.cell? ⟨x, 3, none⟩ = some (.int .i64 (lg k : Nat)) ∧ W.cell? ⟨x, 6, none⟩ = some (.int .i64 (next : Nat)))
            (first
              | with_reducible exact ⟨m1, m2, m3, m6⟩
              | with_reducible exact ⟨r1, r2, r3, r6⟩
              | with_reducible exact ⟨t1, t2, t3, t6⟩
              | go_keep)
            (first
              | (go_at_call 27; refine (AT.out _).mono ?_; rintro e w6 ⟨rfl, hb⟩; have hb : Below wr.heap.size wr w6 := undrew hb; have HB6 := Lib.hid (HB5.out.trans (hb.mono HB5.out.size)); have hw6 := HWU.out _ HB6.out; have r1 := hw6.c1; have r2 := hw6.c2; have r3 := hw6.c3; have r6 := hw6.c6; rw [← HNEXT.out] at r6; have hx6 := hw6.lt; have HS6 := Lib.hid (HSLS.out.up hb); clear hb hw6)
              | (go_at_call 26; refine (WR.out _ _ _ _ (by exact HB6.out) (by exact HS6.out)).mono ?_; rintro e w7 ⟨rfl, hw7, hd7, hk7⟩; have t1 := hw7.c1; have t2 := hw7.c2; have t3 := hw7.c3; have t6 := hw7.c6; have hx7 := hw7.lt; have t7 := hw7.fz 6; have ev : (v.brk 0).next = next := HNEXT.out.symm; rw [ev] at t6; have HW7 := Lib.hid hw7; have HD7 := Lib.hid hd7; have HK7 := Lib.hid ((kept_of_below (S := [x, g, bs, bw]) HB6.out (Nat.le_refl _)).trans hk7); clear hw7 hd7 hk7 ev))
          go_wp2
          have hlen : ((next : Int) + (j : Int)) = ((next + j : Nat) : Int) := by omega
          go_ret
          have hv0 : v.brk 0 = v := HBR2.out
          have hw8 := HW7.out
          rw [hv0] at hw8
          have hd8 := DiskAt.set_far (i := 6) HD7.out (.int .i64 ((next : Int) + (j : Int))) n1 n2 n3
          have hk8 := HK7.out.trans ((kept_set1 (x := x) (i := 6) (.int .i64 ((next : Int) + (j : Int)))).more (fun y hy => by simp at hy; simp [hy]))
          have hw9 := hw8.set_next (v.next + j)
          have hbf : false = v.br := congrArg Wn.br HBR2.out
          have hv1 : ({ v with next := v.next + j } : Wn) = ⟨v.gen, v.mark, v.next + j, false⟩ := by rw [← hbf]
          rw [hv1, ← HNEXT.out, ← hlen] at hw9
          exact HO.out _ _ (by rw [← HNEXT.out]) hw9 hd8 hk8
        · have hne : (e' != 0) = true := bne_iff_ne.2 he
          simp only [if_neg he] at HO
          have hbv := brk_n v he
          have HBV := Lib.hid hbv; clear hbv he
          go_region_held3 (fun W => W.cell? ⟨x, 1, none⟩ = some (.int .i64 (sl k : Nat)) ∧ W.cell? ⟨x, 2, none⟩ = some (.int .i64 (2 * (sl k : Nat))) ∧ W.cell? ⟨x, 3, none⟩ = some (.int .i64 (lg k : Nat)) ∧ W.cell? ⟨x, 6, none⟩ = some (.int .i64 (next : Nat)))
            (first
              | with_reducible exact ⟨m1, m2, m3, m6⟩
              | with_reducible exact ⟨r1, r2, r3, r6⟩
              | with_reducible exact ⟨t1, t2, t3, t6⟩
              | go_keep)
            (first
              | (go_at_call 27; refine (AT.out _).mono ?_; rintro e w6 ⟨rfl, hb⟩; have hb : Below wr.heap.size wr w6 := undrew hb; have HB6 := Lib.hid (HB5.out.trans (hb.mono HB5.out.size)); have hw6 := HWU.out _ HB6.out; have r1 := hw6.c1; have r2 := hw6.c2; have r3 := hw6.c3; have r6 := hw6.c6; rw [← HNEXT.out] at r6; have hx6 := hw6.lt; have HS6 := Lib.hid (HSLS.out.up hb); clear hb hw6)
              | (go_at_call 26; refine (WR.out _ _ _ _ (by exact HB6.out) (by exact HS6.out)).mono ?_; rintro e w7 ⟨rfl, hw7, hd7, hk7⟩; have t1 := hw7.c1; have t2 := hw7.c2; have t3 := hw7.c3; have t6 := hw7.c6; have hx7 := hw7.lt; have t7 := hw7.fz 6; have ev : (v.brk e').next = next := HNEXT.out.symm; rw [ev] at t6; have HW7 := Lib.hid hw7; have HD7 := Lib.hid hd7; have HK7 := Lib.hid ((kept_of_below (S := [x, g, bs, bw]) HB6.out (Nat.le_refl _)).trans hk7); clear hw7 hd7 hk7 ev))
          go_wp2
          go_ret
          have hw8 := HW7.out
          rw [HBV.out] at hw8
          exact HO.out _ _ rfl hw8 HD7.out HK7.out
theorem commit_any (hw : WalAt w x g k v) (hd : DiskAt w g bs bw s) (hk1 : 6 ≤ k) (hk2 : k ≤ 1000) (hv : WnOk k v) (hb : Sl w w.heap.size (.slice A n c) b) (hbn : b.length = n) (hn : n ≤ 7808) :
    Calls Try.prog 7 #[ptr x, .slice A n c] w (ActOut w x g bs bw k (commitP k s v b)) := by
  cases hbr : v.br with
  | true => exact commit_br x g bs bw k s v A n c b w hw hd hbr
  | false =>
    by_cases hp : lg k < v.next + parts n
    · exact commit_full x g bs bw k s v A n c b w hw hd hk1 hk2 hv hbr hb hbn hn hp
    · exact commit_goes x g bs bw k s v A n c b w hw hd hk1 hk2 hv hbr hb hbn hn hp
end
end Go.Proofs.Ytddhkajcakndlaa.Wl
