/- The document's own answers of layer 11, that look: waymarkref11.Seq, Get, Epoch; waymarkref09.All; waymarkref11.Same, May. -/
import Derived.Test.YtcojimbnenibnaaBasMem
import Derived.Test.YtcojimbnenibnaaChgRefMay
import Derived.Test.YtcojimbnenibnaaLsaSame
import Derived.Deep.RegionHeld3
namespace Go.Proofs.Ytcojimbnenibnaa.Bas
open Go.RowKit Go.Proofs.Ytcojimbnenibnaa.Mem Go.Proofs.Ytcojimbnenibnaa.Oct Go.Proofs.Ytcojimbnenibnaa.Lsa Go.Proofs.Ytcojimbnenibnaa.Chg
set_option linter.unusedVariables false
set_option linter.unusedSimpArgs false
set_option maxRecDepth 20000 in
set_option maxHeartbeats 4000000 in
theorem rseq_any (A : Option Addr) (n c B : Nat) (db : List La) (o : Int) (w : World) (h : Las w B (.slice A n c) db) :
    Calls Try.prog 58 #[.slice A n c, .int .i64 o] w fun e w' => e = .returned (.int .i64 (seqOf db o)) ∧ ∃ m, w' = w.drewN m := by
  obtain ⟨hl, hnc, hcm, _⟩ := las_len h
  unfold maxLen at hcm
  have HL := Lib.hid hl; clear hl
  have HS := Lib.hid h; clear h
  obtain ⟨z, hz⟩ : ∃ z, z = seqOf db o := ⟨_, rfl⟩
  rw [← hz]
  have HZ := Lib.hid hz; clear hz
  go_enter Try.func58, Try.ntmps58
  go_wp2
  go_loopw [5] (fun i wr => (∃ k : Nat, k ≤ n ∧ i = .int .i64 k ∧ z = seqOf (db.drop k) o) ∧ ∃ m, wr = w.drewN m) (fun i _ => n - (intOf i).toNat)
  case atStart => exact ⟨⟨0, Nat.zero_le _, rfl, HZ.out⟩, 0, rfl⟩
  case round =>
    obtain ⟨⟨k, hk, rfl, hz⟩, m, rfl⟩ := hrel
    by_cases hlt : k < n
    · obtain ⟨b, off, rfl, hb, hc⟩ := las_at HS.out (by omega)
      obtain ⟨u, hr, _⟩ := hc k hlt
      have c0 := hr 0 _ rfl
      have c1 := hr 1 _ rfl
      rw [Nat.add_zero] at c0
      rw [seq_step db o k (by have := HL.out; omega)] at hz
      clear hc hr
      generalize db.getD k zeroL = y at *
      obtain ⟨yo, ys, yl⟩ := y
      simp only at c0 c1 hz
      by_cases e : yo = o
      · subst e
        rw [if_pos rfl] at hz
        have HZ2 := Lib.hid hz; clear hz
        go_wp2
        go_ret
        exact ⟨ret_int HZ2.out.symm, _, rfl⟩
      · rw [if_neg e] at hz
        have HZ2 := Lib.hid hz; clear hz
        have hb0 : (yo == o) = false := beq_false_of_ne e
        go_wp2
        go_roundw
        case rel => exact ⟨⟨k + 1, by omega, by go_num, HZ2.out⟩, _, rfl⟩
        case measure => simp [intOf]; omega
    · obtain rfl : k = n := by omega
      rw [List.drop_eq_nil_of_le (by have := HL.out; omega)] at hz
      have HZ2 := Lib.hid hz; clear hz
      go_wp2
      go_ret
      exact ⟨ret_int HZ2.out.symm, m, rfl⟩
set_option maxRecDepth 20000 in
set_option maxHeartbeats 4000000 in
theorem repoch_any (A : Option Addr) (n c B : Nat) (l : List (Int × Int)) (o : Int) (w : World) (h : Lks w B (.slice A n c) l) :
    Calls Try.prog 34 #[.slice A n c, .int .i64 o] w fun e w' => e = .returned (.int .i64 (epoch l o)) ∧ ∃ m, w' = w.drewN m := by
  obtain ⟨hl, hnc, hcm, _⟩ := lks_len h
  unfold maxLen at hcm
  have HL := Lib.hid hl; clear hl
  have HS := Lib.hid h; clear h
  obtain ⟨z, hz⟩ : ∃ z, z = epoch l o := ⟨_, rfl⟩
  rw [← hz]
  have HZ := Lib.hid hz; clear hz
  go_enter Try.func34, Try.ntmps34
  go_wp2
  go_loopw [5] (fun i wr => (∃ k : Nat, k ≤ n ∧ i = .int .i64 k ∧ z = epoch (l.drop k) o) ∧ ∃ m, wr = w.drewN m) (fun i _ => n - (intOf i).toNat)
  case atStart => exact ⟨⟨0, Nat.zero_le _, rfl, HZ.out⟩, 0, rfl⟩
  case round =>
    obtain ⟨⟨k, hk, rfl, hz⟩, m, rfl⟩ := hrel
    by_cases hlt : k < n
    · obtain ⟨b, off, rfl, hb, hc⟩ := lks_at HS.out (by omega)
      obtain ⟨c0, c1⟩ := hc k hlt
      rw [epoch_step l o k (by have := HL.out; omega)] at hz
      clear hc
      generalize l.getD k (0, 0) = y at *
      obtain ⟨yo, ys⟩ := y
      simp only at c0 c1 hz
      by_cases e : yo = o
      · subst e
        rw [if_pos rfl] at hz
        have HZ2 := Lib.hid hz; clear hz
        go_wp2
        go_ret
        exact ⟨ret_int HZ2.out.symm, _, rfl⟩
      · rw [if_neg e] at hz
        have HZ2 := Lib.hid hz; clear hz
        have hb0 : (yo == o) = false := beq_false_of_ne e
        go_wp2
        go_roundw
        case rel => exact ⟨⟨k + 1, by omega, by go_num, HZ2.out⟩, _, rfl⟩
        case measure => simp [intOf]; omega
    · obtain rfl : k = n := by omega
      rw [List.drop_eq_nil_of_le (by have := HL.out; omega)] at hz
      have HZ2 := Lib.hid hz; clear hz
      go_wp2
      go_ret
      exact ⟨ret_int HZ2.out.symm, m, rfl⟩
def GetOut (w : World) (db : List La) (o : Int) (e : Ending) (w' : World) : Prop := ∃ u, e = .returned (lsaV (getOf db o).o (getOf db o).s u) ∧ Lks w' w'.heap.size u (getOf db o).ls ∧ Below w.heap.size w w'
set_option maxRecDepth 20000 in
set_option maxHeartbeats 4000000 in
theorem rget_any (A : Option Addr) (n c : Nat) (db : List La) (o : Int) (w : World) (h : Las w w.heap.size (.slice A n c) db) :
    Calls Try.prog 32 #[.slice A n c, .int .i64 o] w (GetOut w db o) := by
  obtain ⟨hl, hnc, hcm, _⟩ := las_len h
  unfold maxLen at hcm
  have HL := Lib.hid hl; clear hl
  have HS := Lib.hid h; clear h
  obtain ⟨P1, hP1⟩ : ∃ P1, P1 = GetOut w db o := ⟨_, rfl⟩
  rw [← hP1]
  have HP1 := Lib.hid hP1; clear hP1
  obtain ⟨z, hz⟩ : ∃ z, z = getOf db o := ⟨_, rfl⟩
  have HZ := Lib.hid hz; clear hz
  have HB := Lib.hid (low1 (Below.refl w.heap.size w) (.cells #[.int .i64 0, .int .i64 0, .slice none 0 0] 50))
  have K0 := Lib.hid (Blk.new w 50 #[.int .i64 0, .int .i64 0, .slice none 0 0])
  go_enter Try.func32, Try.ntmps32
  go_wp2
  go_loopw [5] (fun i wr => ∃ k : Nat, k ≤ n ∧ i = .int .i64 k ∧ Hid (z = getOf (db.drop k) o) ∧ Hid (Blk wr w.heap.size 50 #[.int .i64 0, .int .i64 0, .slice none 0 0]) ∧ Hid (Below w.heap.size w wr)) (fun i _ => n - (intOf i).toNat)
  case atStart => exact ⟨0, Nat.zero_le _, rfl, HZ, K0, HB⟩
  case round =>
    clear HB K0
    obtain ⟨k, hk, rfl, HZ2, K0, HBW⟩ := hrel
    obtain ⟨x0, x1, x2, x3⟩ := blk_cells3 K0.out
    obtain ⟨f0, f1, f2⟩ := blk_fz3 K0.out
    by_cases hlt : k < n
    · obtain ⟨b, off, rfl, hb, hc⟩ := las_at HS.out (by omega)
      obtain ⟨u, hr, hk2⟩ := hc k hlt
      have c0 := (HBW.out.cell (p := ⟨b, off + k * 3 + 0, none⟩) hb).trans (hr 0 _ rfl)
      have c1 := (HBW.out.cell (p := ⟨b, off + k * 3 + 1, none⟩) hb).trans (hr 1 _ rfl)
      have c2_ := (HBW.out.cell (p := ⟨b, off + k * 3 + 2, none⟩) hb).trans (hr 2 _ rfl)
      rw [Nat.add_zero] at c0
      have hz := HZ2.out
      rw [get_step db o k (by have := HL.out; omega)] at hz
      clear hc hr
      generalize db.getD k zeroL = y at *
      obtain ⟨yo, ys, yl⟩ := y
      obtain ⟨Au, nu, cu, rfl, hq_⟩ := id hk2
      clear hq_
      simp only at c0 c1 c2_ hz hk2
      by_cases e : yo = o
      · subst e
        rw [if_pos rfl] at hz
        have hb2 := HBW.out.grown (upd3_grown wr w.heap.size (.int .i64 yo) (.int .i64 ys) (.slice Au nu cu)) HBW.out.size (fun q hq => by cases hq; exact Nat.le_refl _)
        have hfin : P1 (.returned (lsaV yo ys (.slice Au nu cu))) (upd3 wr w.heap.size (.int .i64 yo) (.int .i64 ys) (.slice Au nu cu)) := by
          rw [HP1.out]
          unfold GetOut
          rw [← HZ.out, hz]
          exact ⟨_, rfl, hk2.up hb2, hb2⟩
        have FIN := Lib.hid hfin
        clear hfin hb2 hz hk2
        go_wp2
        refine bodyPost_ret (v := lsaV yo ys (.slice Au nu cu)) ?_ rfl FIN.out
        simp [results, Try.results32, go_sem, x0, x1, x2]
      · rw [if_neg e] at hz
        have HZ3 := Lib.hid hz; clear hz hk2
        have hb0 : (yo == o) = false := beq_false_of_ne e
        go_wp2
        go_roundw
        case rel => exact ⟨k + 1, by omega, by go_num, HZ3, K0, HBW⟩
        case measure => simp [intOf]; omega
    · obtain rfl : k = n := by omega
      have hz := HZ2.out
      rw [List.drop_eq_nil_of_le (by have := HL.out; omega)] at hz
      have hb2 := HBW.out.grown (upd3_grown wr w.heap.size (.int .i64 0) (.int .i64 0) (.slice none 0 0)) HBW.out.size (fun q hq => by cases hq; exact Nat.le_refl _)
      have hfin : P1 (.returned (lsaV 0 0 (.slice none 0 0))) (upd3 wr w.heap.size (.int .i64 0) (.int .i64 0) (.slice none 0 0)) := by
        rw [HP1.out]
        unfold GetOut
        rw [← HZ.out, hz]
        exact ⟨_, rfl, lks_nil _ _, hb2⟩
      have FIN := Lib.hid hfin
      clear hfin hb2 hz
      go_wp2
      refine bodyPost_ret (v := lsaV 0 0 (.slice none 0 0)) ?_ rfl FIN.out
      simp [results, Try.results32, go_sem, x0, x1, x2]
theorem sameL_eq (a b : La) : sameL a b = sameB a.o a.s a.ls b.o b.s b.ls := rfl
set_option maxRecDepth 20000 in
set_option maxHeartbeats 8000000 in
theorem rall_db (A A' : Option Addr) (n n' c c' : Nat) (d e : List La) (w : World) (h : Las w w.heap.size (.slice A n c) d) (h' : Las w w.heap.size (.slice A' n' c') e) :
    Calls Try.prog 31 #[.slice A n c, .slice A' n' c'] w fun e_ w' => e_ = .returned (.bool (sameDb d e)) ∧ Below w.heap.size w w' := by
  obtain ⟨hl, hnc, hcm, _⟩ := las_len h
  obtain ⟨hl', hnc', hcm', _⟩ := las_len h'
  unfold maxLen at hcm hcm'
  by_cases hn : n = n'
  · subst hn
    have HL := Lib.hid hl; clear hl
    have HL' := Lib.hid hl'; clear hl'
    have HS := Lib.hid h; clear h
    have HS' := Lib.hid h'; clear h'
    obtain ⟨z, hz⟩ : ∃ z, z = sameDb d e := ⟨_, rfl⟩
    rw [← hz]
    have HZ := Lib.hid hz; clear hz
    have hbn : ((n : Int) != (n : Int)) = false := by simp
    go_enter Try.func31, Try.ntmps31
    go_wp2
    go_loopw [5] (fun i wr => ∃ k : Nat, k ≤ n ∧ i = .int .i64 k ∧ Hid (z = sameDb (d.drop k) (e.drop k)) ∧ Hid (Below w.heap.size w wr)) (fun i _ => n - (intOf i).toNat)
    case atStart => exact ⟨0, Nat.zero_le _, rfl, HZ, Lib.hid (Below.refl _ _)⟩
    case round =>
      obtain ⟨k, hk, rfl, HZ2, HBW⟩ := hrel
      by_cases hlt : k < n
      · obtain ⟨b, off, rfl, hb, hc⟩ := las_at HS.out (by omega)
        obtain ⟨b', off', rfl, hb', hc'⟩ := las_at HS'.out (by omega)
        obtain ⟨u, hr, hk2⟩ := hc k hlt
        obtain ⟨u', hr', hk2'⟩ := hc' k hlt
        have c0 := (HBW.out.cell (p := ⟨b, off + k * 3 + 0, none⟩) hb).trans (hr 0 _ rfl)
        have c1 := (HBW.out.cell (p := ⟨b, off + k * 3 + 1, none⟩) hb).trans (hr 1 _ rfl)
        have c2_ := (HBW.out.cell (p := ⟨b, off + k * 3 + 2, none⟩) hb).trans (hr 2 _ rfl)
        have d0 := (HBW.out.cell (p := ⟨b', off' + k * 3 + 0, none⟩) hb').trans (hr' 0 _ rfl)
        have d1 := (HBW.out.cell (p := ⟨b', off' + k * 3 + 1, none⟩) hb').trans (hr' 1 _ rfl)
        have d2 := (HBW.out.cell (p := ⟨b', off' + k * 3 + 2, none⟩) hb').trans (hr' 2 _ rfl)
        rw [Nat.add_zero] at c0 d0
        have hz := HZ2.out
        rw [sameDb_step d e k (by have := HL.out; omega) (by have := HL'.out; omega), sameL_eq] at hz
        clear hc hr hc' hr'
        generalize d.getD k zeroL = x at *
        generalize e.getD k zeroL = y at *
        obtain ⟨xo, xs, xl⟩ := x
        obtain ⟨yo, ys, yl⟩ := y
        simp only at c0 c1 c2_ d0 d1 d2 hz hk2 hk2'
        have hws := HBW.out.size
        have sm := rsame_lsa xo xs yo ys u u' xl yl wr.drew (hk2.below HBW.out (Nat.le_refl _) |>.more hws) (hk2'.below HBW.out (Nat.le_refl _) |>.more hws)
        have hbb : b < wr.heap.size := by omega
        have hbb' : b' < wr.heap.size := by omega
        clear hk2 hk2'
        cases hsb : sameB xo xs xl yo ys yl
        all_goals
          rw [hsb] at hz sm
          have SM := Lib.hid sm; clear sm
          have HZ3 := Lib.hid hz; clear hz
          go_wp2_with (fail)
          go_region_held3 (fun W => W.cell? ⟨b, off + k * 3, none⟩ = some (.int .i64 xo) ∧ W.cell? ⟨b, off + k * 3 + 1, none⟩ = some (.int .i64 xs) ∧ W.cell? ⟨b, off + k * 3 + 2, none⟩ = some u ∧ W.cell? ⟨b', off' + k * 3, none⟩ = some (.int .i64 yo) ∧ W.cell? ⟨b', off' + k * 3 + 1, none⟩ = some (.int .i64 ys) ∧ W.cell? ⟨b', off' + k * 3 + 2, none⟩ = some u')
            (first
              | with_reducible exact ⟨c0, c1, c2_, d0, d1, d2⟩
              | with_reducible exact ⟨e0, e1, e2, f0, f1, f2⟩
              | go_keep)
            (first | (go_at_call 33; refine (SM.out).mono ?_; rintro e w6 ⟨rfl, hb6⟩; have hb6 : Below wr.heap.size wr w6 := ⟨hb6.os, hb6.tape, hb6.output, hb6.size, hb6.block⟩; have e0 := (hb6.cell (p := ⟨b, off + k * 3, none⟩) hbb).trans c0; have e1 := (hb6.cell (p := ⟨b, off + k * 3 + 1, none⟩) hbb).trans c1; have e2 := (hb6.cell (p := ⟨b, off + k * 3 + 2, none⟩) hbb).trans c2_; have f0 := (hb6.cell (p := ⟨b', off' + k * 3, none⟩) hbb').trans d0; have f1 := (hb6.cell (p := ⟨b', off' + k * 3 + 1, none⟩) hbb').trans d1; have f2 := (hb6.cell (p := ⟨b', off' + k * 3 + 2, none⟩) hbb').trans d2; have HB6 := Lib.hid (low_low HBW.out hb6); clear hb6))
        · go_wp2
          go_ret
          exact ⟨ret_bool (by simp [HZ3.out]), HB6.out⟩
        · go_wp2
          go_roundw
          case rel => exact ⟨k + 1, by omega, by go_num, Lib.hid (by have := HZ3.out; rwa [Bool.true_and] at this), HB6⟩
          case measure => simp [intOf]; omega
      · obtain rfl : k = n := by omega
        have hz := HZ2.out
        rw [List.drop_eq_nil_of_le (by have := HL.out; omega), List.drop_eq_nil_of_le (by have := HL'.out; omega)] at hz
        have HZ3 := Lib.hid hz; clear hz
        go_wp2
        go_ret
        exact ⟨ret_bool (by simp [HZ3.out, sameDb]), HBW.out⟩
  · have hb : ((n : Int) != (n' : Int)) = true := by rw [bne_iff_ne]; omega
    have hd : sameDb d e = false := by
      rw [Bool.eq_false_iff]
      intro hh
      have := sameDb_iff.1 hh
      exact hn (by rw [← hl, ← hl', this])
    rw [hd]
    go_enter Try.func31, Try.ntmps31
    go_wp2
    go_ret
    exact ⟨rfl, Below.refl _ _⟩
end Go.Proofs.Ytcojimbnenibnaa.Bas
