/- What the code reads of a packet (layer 14): the contracts of packet.readWho, readHeard, readItems, readLsas. -/
import Derived.Test.YtpolpppnajfhdaaPkGet
import Derived.Test.YtpolpppnajfhdaaBasMem
import Derived.Test.YtpolpppnajfhdaaChgCheck
import Derived.Test.YtpolpppnajfhdaaLsaRead
import Derived.Test.YtpolpppnajfhdaaReader
namespace Go.Proofs.Ytpolpppnajfhdaa.Pkt
open Go.RowKit Go.Proofs.Ytpolpppnajfhdaa.Mem Go.Proofs.Ytpolpppnajfhdaa.Oct Go.Proofs.Ytpolpppnajfhdaa.Lsa Go.Proofs.Ytpolpppnajfhdaa.Bas
open Go.Proofs.Ytpolpppnajfhdaa.Chg (low1 low_low low2 blk_second)
set_option linter.unusedVariables false
set_option linter.unusedSimpArgs false
theorem info_heard : (Try.prog.info? 59).map (fun i => (i.zero, i.size, i.bytes)) = some (some (.agg #[.int .i64 0, .int .i64 0]), 2, 16) := by kernel_rfl
theorem info_item : (Try.prog.info? 64).map (fun i => (i.zero, i.size, i.bytes)) = some (some (.agg #[.int .i64 0, .int .i64 0]), 2, 16) := by kernel_rfl
theorem info_lsa : (Try.prog.info? 49).map (fun i => (i.zero, i.size, i.bytes)) = some (some (.agg #[.int .i64 0, .int .i64 0, .slice none 0 0]), 3, 40) := by kernel_rfl
theorem reads_two (w : World) (t : TypeId) (a b : Int) (g : Nat) (hg : g = w.heap.size) : Reads (w.alloc (.cells #[.int .i64 a, .int .i64 b] t)) (w.heap.size + 1) 2 (some ⟨g, 0, none⟩) 1 (lkCells [(a, b)]) := by
  subst hg
  refine ⟨rfl, fun _ => ⟨_, rfl, Nat.lt_succ_self _, fun j u hu => ?_⟩⟩
  have hk := Blk.new w t #[.int .i64 a, .int .i64 b]
  rw [add_plain, Nat.zero_add, hk.cell]
  simpa [lkCells] using hu
theorem reads_lsa14 (w : World) (a : La) (u : Value) (g : Nat) (hg : g = w.heap.size) : Reads (w.alloc (.cells #[.int .i64 a.o, .int .i64 a.s, u] 49)) (w.heap.size + 1) 3 (some ⟨g, 0, none⟩) 1 (rowL a u) := by
  subst hg
  refine ⟨rfl, fun _ => ⟨_, rfl, Nat.lt_succ_self _, fun j v hu => ?_⟩⟩
  have hk := Blk.new w 49 #[.int .i64 a.o, .int .i64 a.s, u]
  rw [add_plain, Nat.zero_add, hk.cell]
  simpa [rowL] using hu
theorem rowL_one14 (a : La) (A : Option Addr) (n c : Nat) : ∀ x ∈ rowL a (.slice A n c), x.oneCell' = true := rowL_one a _ rfl
theorem lks_own_t {w : World} {t : TypeId} {base n : Nat} {v : Value} {ls : List Lk} (h : w.ownsRow base t 2 v n (lkCells ls)) : Lks w w.heap.size v ls := by
  have hl : ls.length = n := by have := h.1; rw [lkCells_length] at this; omega
  rcases h.2 with ⟨rfl, h0⟩ | ⟨g, cap, cur, rfl, hg, hh, hnc, hm, hs, ht⟩
  · have : ls = [] := List.eq_nil_of_length_eq_zero (by omega)
    subst this
    exact lks_nil _ _
  · have hlt : g < w.heap.size := (h.lt g rfl).2
    refine ⟨_, n, cap, rfl, hl, hnc, hm, (fun e => by cases e), fun _ => ⟨g, 0, rfl, hlt, fun i hi => ?_⟩⟩
    have hc := lkCells_at ls i (by omega)
    have l2 := lkCells_length ls
    rw [Nat.zero_add, h.cellAt (i * 2) (by omega), h.cellAt (i * 2 + 1) (by omega)]
    exact hc
theorem own_gr14 {w w' : World} {base g n sz : Nat} {e : TypeId} {v : Value} {xs : List Value} (h : w.ownsRow base e sz v n xs) (hg : w.grownBy w' (some g)) (hlt : g < base) : w'.ownsRow base e sz v n xs :=
  h.kept hg (.inr (fun e => by have := (h.lt g e).1; omega))
theorem lkT_gr14 {w w' : World} {base g : Nat} {u : Value} {ls : List Lk} (h : LkT w base u ls) (hg : w.grownBy w' (some g)) (hlt : g < base) : LkT w' base u ls := by
  obtain ⟨n, h⟩ := h
  exact ⟨n, own_gr14 h hg hlt⟩
theorem ownL_gr14 {w w' : World} {base g : Nat} {v : Value} {l : List La} (h : OwnL w base v l) (hg : w.grownBy w' (some g)) (hlt : g < base) : OwnL w' base v l := by
  obtain ⟨us, h1, h2, h3⟩ := h
  exact ⟨us, h1, own_gr14 h2 hg hlt, fun i hi => lkT_gr14 (h3 i hi) hg hlt⟩
theorem ownL_more14 {w : World} {base base' : Nat} {v : Value} {l : List La} (h : OwnL w base v l) (hb : base' ≤ base) : OwnL w base' v l := by
  obtain ⟨us, h1, h2, h3⟩ := h
  exact ⟨us, h1, own_mono h2 hb, fun i hi => (h3 i hi).more hb⟩
set_option maxRecDepth 20000 in
set_option maxHeartbeats 4000000 in
theorem readWho_any (g : Nat) (st : St) (w : World) (h : Rdr w g st) :
    Calls Try.prog 55 #[ptr g] w fun e w' => e = .returned (.tuple #[.int .i64 ((rnum st 1).2 : Nat), .int .i64 ((rnum (rnum st 1).1 4).2 : Nat)]) ∧ Rdr w' g (rnum (rnum st 1).1 4).1 ∧ w.grownBy w' (some g) := by
  have n1 : (rnum st 1).2 < 256 := rnum_lt (st := st) (k := 1) (K := 1) rfl h.lt
  have n2 : (rnum (rnum st 1).1 4).2 < 4294967296 := rnum_small (k := 4) (K := 4) rfl (Chg.rnum_bytes h.lt)
  have r1 := rnum_any g st 1 w h
  generalize rnum st 1 = q at *
  obtain ⟨st1, N1⟩ := q
  simp only at n1 n2 r1 ⊢
  have r2 := fun W (hW : Rdr W g st1) => rnum_any g st1 4 W hW
  generalize rnum st1 4 = q at *
  obtain ⟨st2, N2⟩ := q
  simp only at n2 r2 ⊢
  have R1 := Lib.hid r1; clear r1
  have R2 := Lib.hid r2; clear r2 h
  go_enter Try.func55, Try.ntmps55
  go_wp2_with (first
    | (have HM1 := R1; go_at_call 54; refine (R1.out).mono ?_; rintro e w1 ⟨rfl, hr1, hg1⟩; have HR1 := Lib.hid hr1; have HG1 := Lib.hid hg1; clear hr1 hg1 HM1 R1)
    | (go_at_call 54; refine (R2.out _ HR1.out).mono ?_; rintro e w2 ⟨rfl, hr2, hg2⟩; have HR2 := Lib.hid hr2; have HG2 := Lib.hid (grown_trans HG1.out hg2); clear hr2 hg2))
  refine bodyPost_ret (v := .tuple #[.int .i64 (N1 : Nat), .int .i64 (N2 : Nat)]) ?_ rfl ⟨rfl, HR2.out, HG2.out⟩
  simp [results, Try.results55, go_sem]
set_option maxRecDepth 20000 in
set_option maxHeartbeats 8000000 in
theorem readHeard_any (g : Nat) (st : St) (w : World) (h : Rdr w g st) :
    Calls Try.prog 56 #[ptr g] w fun e w' => ∃ v n, e = .returned v ∧ w'.ownsRow w.heap.size 59 2 v n (lkCells (hdsC st).2) ∧ Rdr w' g (hdsC st).1 ∧ w.grownBy w' (some g) := by
  unfold hdsC mOf
  obtain ⟨i0, hi, hz0, hz1, hz2⟩ := info_parts info_heard
  have hgs := h.size
  have HI := Lib.hid hi; clear hi
  have HZ0 := Lib.hid hz0; clear hz0
  have HZ1 := Lib.hid hz1; clear hz1
  have HZ2 := Lib.hid hz2; clear hz2
  have nm : (rnum st 1).2 < 256 := rnum_lt (st := st) (k := 1) (K := 1) rfl h.lt
  have rm := rnum_any g st 1 w h
  generalize rnum st 1 = q at *
  obtain ⟨st, m⟩ := q
  simp only at nm rm ⊢
  have RM := Lib.hid rm; clear rm h
  go_enter Try.func56, Try.ntmps56
  go_wp2_with (go_at_call 54; refine (RM.out).mono ?_; rintro e w1 ⟨rfl, hr1, hg1⟩; have HR := Lib.hid hr1; have HG1 := Lib.hid hg1; clear hr1 hg1)
  clear RM
  go_loopw [3, 9] (fun z i wr => ∃ k : Nat, k ≤ m ∧ i = .int .i64 k ∧ wr.ownsRow w.heap.size 59 2 z k (lkCells (rlks st k).2) ∧ Rdr wr g (rlks st k).1 ∧ w.grownBy wr (some g)) (fun _ i _ => m - (intOf i).toNat)
  case atStart => exact ⟨0, Nat.zero_le _, rfl, World.ownsRow_nil _ _ _ _, HR.out, HG1.out⟩
  case round =>
    clear HR HG1
    obtain ⟨k, hk, rfl, hown, hr, hg⟩ := hrel
    by_cases hlt : k < m
    · have hx := hr.lt
      have hws := hg.size
      have hs : rlks st (k + 1) = rlk (rlks st k) := rfl
      generalize rlks st k = p at *
      obtain ⟨st0, l0⟩ := p
      simp only at hown hr hx
      simp only [rlk] at hs
      have rw_ := readWho_any g st0 wr hr
      generalize (rnum st0 1).2 = N1 at *
      generalize (rnum (rnum st0 1).1 4).2 = N2 at *
      generalize (rnum (rnum st0 1).1 4).1 = st2 at *
      have HS := Lib.hid hs; clear hs
      have RW := Lib.hid rw_; clear rw_
      have hl0 : (lkCells l0).length = k * 2 := hown.1
      have HG := Lib.hid hg; clear hg hx
      have HRR := Lib.hid hr; clear hr
      have HOW := Lib.hid hown; clear hown hl0
      obtain ⟨A5, c5, rfl⟩ := Lsa.own_form HOW.out
      go_wp2_with (first
        | (go_at_call 55; refine (RW.out).mono ?_; rintro e w2 ⟨rfl, hr2, hg2⟩; have HG2 := Lib.hid (grown_trans HG.out hg2); have HO2 := Lib.hid (own_gr14 HOW.out hg2 hgs); have HR2 := Lib.hid hr2; have hws2 := HG2.out.size; clear hr2 hg2)
        | (at_builtin; (refine wpList_append_any _ rfl (.tmp 16) (.tmp 20) 22 rfl w.heap.size 59 i0 (.agg #[.int .i64 0, .int .i64 0]) 2 16 Try.underlying22 HI.out HZ0.out HZ1.out HZ2.out rfl (by decide) (.slice A5 k c5) k (lkCells l0) rfl (HO2.out.alloc _) (w2.heap.size + 1) (some ⟨w2.heap.size, 0, none⟩) 1 1 (lkCells [((N1 : Nat), (N2 : Nat))]) rfl (reads_two w2 _ _ _ _ rfl) (lkCells_one' _) (by unfold maxLen; omega) (by omega) (by simp; omega) ?_; intro v3 w3 hown3 hg3 _)))
      have hg9 := grown_over (HG2.out) (grown_trans (World.grownBy_alloc w2 (Obj.cells #[.int .i64 (N1 : Nat), .int .i64 (N2 : Nat)] 59) _) hg3) (fun q hq => (HO2.out.lt q hq).1)
      have hr9 := (HR2.out.alloc (Obj.cells #[.int .i64 (N1 : Nat), .int .i64 (N2 : Nat)] 59)).grown hg3 (fun q hq => Nat.lt_of_lt_of_le hgs (HO2.out.lt q hq).1)
      rw [← lkCells_app] at hown3
      go_roundw
      case rel => exact ⟨k + 1, by omega, by go_num, by rw [HS.out]; exact hown3, by rw [HS.out]; exact hr9, hg9⟩
      case measure => simp [intOf]; omega
    · obtain rfl : k = m := by omega
      have HOW := Lib.hid hown; clear hown
      have HRR := Lib.hid hr; clear hr
      have HG := Lib.hid hg; clear hg
      go_wp2
      go_ret
      exact ⟨_, _, rfl, HOW.out, HRR.out, HG.out⟩
set_option maxRecDepth 20000 in
set_option maxHeartbeats 8000000 in
theorem readItems_any (g : Nat) (st : St) (w : World) (h : Rdr w g st) :
    Calls Try.prog 57 #[ptr g] w fun e w' => ∃ v n, e = .returned v ∧ w'.ownsRow w.heap.size 64 2 v n (lkCells (itsC st).2) ∧ Rdr w' g (itsC st).1 ∧ w.grownBy w' (some g) := by
  unfold itsC mOf
  obtain ⟨i0, hi, hz0, hz1, hz2⟩ := info_parts info_item
  have hgs := h.size
  have HI := Lib.hid hi; clear hi
  have HZ0 := Lib.hid hz0; clear hz0
  have HZ1 := Lib.hid hz1; clear hz1
  have HZ2 := Lib.hid hz2; clear hz2
  have nm : (rnum st 1).2 < 256 := rnum_lt (st := st) (k := 1) (K := 1) rfl h.lt
  have rm := rnum_any g st 1 w h
  generalize rnum st 1 = q at *
  obtain ⟨st, m⟩ := q
  simp only at nm rm ⊢
  have RM := Lib.hid rm; clear rm h
  go_enter Try.func57, Try.ntmps57
  go_wp2_with (go_at_call 54; refine (RM.out).mono ?_; rintro e w1 ⟨rfl, hr1, hg1⟩; have HR := Lib.hid hr1; have HG1 := Lib.hid hg1; clear hr1 hg1)
  clear RM
  go_loopw [3, 7] (fun z i wr => ∃ k : Nat, k ≤ m ∧ i = .int .i64 k ∧ wr.ownsRow w.heap.size 64 2 z k (lkCells (rits st k).2) ∧ Rdr wr g (rits st k).1 ∧ w.grownBy wr (some g)) (fun _ i _ => m - (intOf i).toNat)
  case atStart => exact ⟨0, Nat.zero_le _, rfl, World.ownsRow_nil _ _ _ _, HR.out, HG1.out⟩
  case round =>
    clear HR HG1
    obtain ⟨k, hk, rfl, hown, hr, hg⟩ := hrel
    by_cases hlt : k < m
    · have hx := hr.lt
      have hws := hg.size
      have hs : rits st (k + 1) = rit (rits st k) := rfl
      generalize rits st k = p at *
      obtain ⟨st0, l0⟩ := p
      simp only at hown hr hx
      simp only [rit] at hs
      have n1 := rnum_lt (st := st0) (k := 1) (K := 1) rfl hx
      have r1 := rnum_any g st0 1 wr hr
      have n2 : (rnum (rnum st0 1).1 8).2 < 18446744073709551616 := rnum_small (k := 8) (K := 8) rfl (Chg.rnum_bytes hx)
      generalize rnum st0 1 = q at *
      obtain ⟨st1, N1⟩ := q
      simp only at n1 n2 r1 hs
      have r2 := fun W (hW : Rdr W g st1) => rnum_any g st1 8 W hW
      generalize rnum st1 8 = q at *
      obtain ⟨st2, N2⟩ := q
      simp only at n2 r2 hs
      have hww := sgn_wrap n2
      obtain ⟨sN, hsN⟩ : ∃ sN, sN = sgn N2 := ⟨_, rfl⟩
      rw [← hsN] at hww hs
      clear hsN
      have HS := Lib.hid hs; clear hs
      have R1 := Lib.hid r1; clear r1
      have R2 := Lib.hid r2; clear r2
      have hl0 : (lkCells l0).length = k * 2 := hown.1
      have HG := Lib.hid hg; clear hg hx
      have HRR := Lib.hid hr; clear hr
      have HOW := Lib.hid hown; clear hown hl0
      obtain ⟨A5, c5, rfl⟩ := Lsa.own_form HOW.out
      go_wp2_with (first
        | (have HM0 := R1; go_at_call 54; refine (R1.out).mono ?_; rintro e w1 ⟨rfl, hr1, hg1⟩; have HG1 := Lib.hid (grown_trans HG.out hg1); have HO1 := Lib.hid (own_gr14 HOW.out hg1 hgs); have HR1 := Lib.hid hr1; clear hr1 hg1 HM0 R1)
        | (go_at_call 54; refine (R2.out _ HR1.out).mono ?_; rintro e w2 ⟨rfl, hr2, hg2⟩; have HG2 := Lib.hid (grown_trans HG1.out hg2); have HO2 := Lib.hid (own_gr14 HO1.out hg2 hgs); have HR2 := Lib.hid hr2; have hws2 := HG2.out.size; clear hr2 hg2)
        | (at_builtin; (refine wpList_append_any _ rfl (.tmp 9) (.tmp 17) 23 rfl w.heap.size 64 i0 (.agg #[.int .i64 0, .int .i64 0]) 2 16 Try.underlying23 HI.out HZ0.out HZ1.out HZ2.out rfl (by decide) (.slice A5 k c5) k (lkCells l0) rfl (HO2.out.alloc _) (w2.heap.size + 1) (some ⟨w2.heap.size, 0, none⟩) 1 1 (lkCells [((N1 : Nat), sN)]) rfl (reads_two w2 _ _ _ _ rfl) (lkCells_one' _) (by unfold maxLen; omega) (by omega) (by simp; omega) ?_; intro v3 w3 hown3 hg3 _)))
      have hg9 := grown_over (HG2.out) (grown_trans (World.grownBy_alloc w2 (Obj.cells #[.int .i64 (N1 : Nat), .int .i64 sN] 64) _) hg3) (fun q hq => (HO2.out.lt q hq).1)
      have hr9 := (HR2.out.alloc (Obj.cells #[.int .i64 (N1 : Nat), .int .i64 sN] 64)).grown hg3 (fun q hq => Nat.lt_of_lt_of_le hgs (HO2.out.lt q hq).1)
      rw [← lkCells_app] at hown3
      go_roundw
      case rel => exact ⟨k + 1, by omega, by go_num, by rw [HS.out]; exact hown3, by rw [HS.out]; exact hr9, hg9⟩
      case measure => simp [intOf]; omega
    · obtain rfl : k = m := by omega
      have HOW := Lib.hid hown; clear hown
      have HRR := Lib.hid hr; clear hr
      have HG := Lib.hid hg; clear hg
      go_wp2
      go_ret
      exact ⟨_, _, rfl, HOW.out, HRR.out, HG.out⟩
set_option maxRecDepth 20000 in
set_option maxHeartbeats 8000000 in
theorem readLsas_any (g : Nat) (st : St) (w : World) (h : Rdr w g st) :
    Calls Try.prog 58 #[ptr g] w fun e w' => ∃ v, e = .returned v ∧ OwnL w' w.heap.size v (lssC st).2 ∧ Rdr w' g (lssC st).1 ∧ w.grownBy w' (some g) := by
  unfold lssC mOf
  obtain ⟨i0, hi, hz0, hz1, hz2⟩ := info_parts info_lsa
  have hgs := h.size
  have HI := Lib.hid hi; clear hi
  have HZ0 := Lib.hid hz0; clear hz0
  have HZ1 := Lib.hid hz1; clear hz1
  have HZ2 := Lib.hid hz2; clear hz2
  have nm : (rnum st 1).2 < 256 := rnum_lt (st := st) (k := 1) (K := 1) rfl h.lt
  have rm := rnum_any g st 1 w h
  generalize rnum st 1 = q at *
  obtain ⟨st, m⟩ := q
  simp only at nm rm ⊢
  have RM := Lib.hid rm; clear rm h
  go_enter Try.func58, Try.ntmps58
  go_wp2_with (go_at_call 54; refine (RM.out).mono ?_; rintro e w1 ⟨rfl, hr1, hg1⟩; have HR := Lib.hid hr1; have HG1 := Lib.hid hg1; clear hr1 hg1)
  clear RM
  go_loopw [3, 9] (fun z i wr => ∃ k : Nat, k ≤ m ∧ i = .int .i64 k ∧ OwnL wr w.heap.size z (rdbs st k).2 ∧ Rdr wr g (rdbs st k).1 ∧ w.grownBy wr (some g)) (fun _ i _ => m - (intOf i).toNat)
  case atStart => exact ⟨0, Nat.zero_le _, rfl, ownL_nil _ _, HR.out, HG1.out⟩
  case round =>
    clear HR HG1
    obtain ⟨k, hk, rfl, hown, hr, hg⟩ := hrel
    by_cases hlt : k < m
    · have hws := hg.size
      have hlen := rdbs_len st k
      have hs : rdbs st (k + 1) = ((rAll (rdbs st k).1).1, (rdbs st k).2 ++ [laOf (rdbs st k).1]) := rfl
      generalize rdbs st k = q at *
      obtain ⟨st0, db⟩ := q
      simp only at hown hr hlen hs
      obtain ⟨a, hal⟩ : ∃ a, a = laOf st0 := ⟨_, rfl⟩
      rw [← hal] at hs
      have lr : Calls Try.prog 68 #[ptr g] wr (fun e w' => ∃ v, e = .returned (.tuple #[lsaV a.o a.s v, .bool (rOk st0)]) ∧ (∃ n, w'.ownsRow wr.heap.size 85 2 v n (lkCells a.ls)) ∧ Rdr w' g (rAll st0).1 ∧ wr.grownBy w' (some g)) := by
        rw [hal]
        exact lread_own g st0 wr hr
      generalize rOk st0 = ok at lr
      generalize (rAll st0).1 = st2 at *
      have LR := Lib.hid lr; clear lr hal hr
      have HS := Lib.hid hs; clear hs
      have HG := Lib.hid hg; clear hg
      have HLEN := Lib.hid hlen; clear hlen
      have HOW0 := Lib.hid hown
      obtain ⟨us, hus, how, hlk⟩ := hown
      obtain ⟨Ad, cd, rfl⟩ := Lsa.own_form how
      have HUS := Lib.hid hus; clear hus
      have HOW := Lib.hid how; clear how
      have HLK := Lib.hid hlk; clear hlk
      go_wp2_with (first
        | (go_at_call 68; refine (LR.out).mono ?_; rintro e w5 ⟨u5, rfl, ⟨nu, ho5⟩, hr5, hg5⟩; obtain ⟨Au, cu, rfl⟩ := Lsa.own_form ho5; have hs5 := hg5.size; have HG5 := Lib.hid (grown_trans HG.out hg5); have HO5 := Lib.hid ((own_gr14 HOW.out hg5 hgs).alloc (Obj.cells #[.int .i64 a.o, .int .i64 a.s, .slice Au nu cu] 49)); have HL5 := Lib.hid (fun i (hi : i < db.length) => LkT.below (lkT_gr14 (HLK.out i hi) hg5 hgs) (low1 (Below.refl w5.heap.size w5) (Obj.cells #[.int .i64 a.o, .int .i64 a.s, .slice Au nu cu] 49))); have HU5 := Lib.hid (LkT.below (⟨_, own_mono ho5 hws⟩ : LkT w5 w.heap.size (.slice Au nu cu) a.ls) (low1 (Below.refl w5.heap.size w5) (Obj.cells #[.int .i64 a.o, .int .i64 a.s, .slice Au nu cu] 49))); have HR5 := Lib.hid (hr5.alloc (Obj.cells #[.int .i64 a.o, .int .i64 a.s, .slice Au nu cu] 49)); clear ho5 hr5 hg5)
        | (at_builtin; (refine wpList_append_any _ rfl (.tmp 16) (.tmp 18) 24 rfl w.heap.size 49 i0 (.agg #[.int .i64 0, .int .i64 0, .slice none 0 0]) 3 40 Try.underlying24 HI.out HZ0.out HZ1.out HZ2.out rfl (by decide) (.slice Ad db.length cd) db.length (flatL db us) rfl (HO5.out.alloc _) ((w5.alloc (.cells #[.int .i64 a.o, .int .i64 a.s, .slice Au nu cu] 49)).heap.size + 1) (some ⟨w5.heap.size + 1, 0, none⟩) 1 1 (rowL a (.slice Au nu cu)) rfl (reads_lsa14 (w5.alloc (.cells #[.int .i64 a.o, .int .i64 a.s, .slice Au nu cu] 49)) a (.slice Au nu cu) _ (by simp)) (rowL_one14 a Au nu cu) (by have := HLEN.out; unfold maxLen; omega) (by have := HLEN.out; omega) (by simp; omega) ?_; intro v7 w7 hown7 hg7 _)))
      have hg8 : (w5.alloc (Obj.cells #[.int .i64 a.o, .int .i64 a.s, .slice Au nu cu] 49)).grownBy w7 (Value.slice Ad db.length cd).ownBlock := grown_trans (World.grownBy_alloc _ _ _) hg7
      have hl9 : OwnL w7 w.heap.size v7 (db ++ [a]) := ownL_push HUS.out HO5.out HL5.out HU5.out hown7 hg8
      have hg9 := grown_over HG5.out (grown_trans (World.grownBy_alloc w5 (Obj.cells #[.int .i64 a.o, .int .i64 a.s, .slice Au nu cu] 49) _) hg8) (fun q hq => (HO5.out.lt q hq).1)
      have hr9 := HR5.out.grown hg8 (fun q hq => Nat.lt_of_lt_of_le hgs (HO5.out.lt q hq).1)
      go_roundw
      case rel => exact ⟨k + 1, by omega, by go_num, by rw [HS.out]; exact hl9, by rw [HS.out]; exact hr9, hg9⟩
      case measure => simp [intOf]; omega
    · obtain rfl : k = m := by omega
      obtain ⟨A5, c5, rfl⟩ := hown.form
      have HOW := Lib.hid hown; clear hown
      have HRR := Lib.hid hr; clear hr
      have HG := Lib.hid hg; clear hg
      go_wp2
      go_ret
      exact ⟨_, rfl, HOW.out, HRR.out, HG.out⟩
end Go.Proofs.Ytpolpppnajfhdaa.Pkt
