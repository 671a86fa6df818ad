/- Which packets there may be (layer 14): the contract of the reference's May. -/
import Derived.Test.YtpolpppnajfhdaaPgBasMem
import Derived.Test.YtpolpppnajfhdaaPgLsaCheck
import Derived.Test.YtpolpppnajfhdaaPgPkItems
import Derived.Deep.Cut
import Derived.Deep.RegionHeld3
namespace Go.Proofs.Ytpolpppnajfhdaa.Pkt
open Go.RowKit Go.Proofs.Ytpolpppnajfhdaa.Mem Go.Proofs.Ytpolpppnajfhdaa.Lsa Go.Proofs.Ytpolpppnajfhdaa.Bas
set_option linter.unusedVariables false
set_option linter.unusedSimpArgs false
/-- a packet by value -/
abbrev pkV (p : Pk) (h i l : Value) : Value := .agg #[.int .i64 p.k, .int .i64 p.f, .int .i64 p.b, .int .i64 p.t, .int .i64 p.tb, .int .i64 p.e, .int .i64 p.te, h, i, l]
abbrev pkC (p : Pk) (h i l : Value) : Array Value := #[.int .i64 p.k, .int .i64 p.f, .int .i64 p.b, .int .i64 p.t, .int .i64 p.tb, .int .i64 p.e, .int .i64 p.te, h, i, l]
/-- its rows -/
def PkM (w : World) (B : Nat) (h i l : Value) (p : Pk) : Prop := Lks w B h p.hd ∧ Lks w B i p.it ∧ Las w B l p.ls
theorem PkM.up {w w' : World} {h i l : Value} {p : Pk} (k : PkM w w.heap.size h i l p) (hb : Below w.heap.size w w') : PkM w' w'.heap.size h i l p := ⟨k.1.up hb, k.2.1.up hb, k.2.2.up hb⟩
theorem ends_iff {p : Pk} : ends p = true ↔ (1 ≤ p.f ∧ p.f ≤ 64) ∧ (1 ≤ p.t ∧ p.t ≤ 64) ∧ p.f ≠ p.t ∧ (1 ≤ p.b ∧ p.b ≤ 1073741824) ∧ 0 ≤ p.tb ∧ p.tb ≤ 1073741824 := by simp [ends, Lsa.win]
theorem epOk_step14 (last : Int) (l : List Lk) (k : Nat) (h : k < l.length) : epOk last (l.drop k) = (epOne last (l.getD k (0, 0)) && epOk (l.getD k (0, 0)).1 (l.drop (k + 1))) := by
  rw [drop_at l (0, 0) k h, epOk]
theorem epOne_iff14 {last : Int} {x : Lk} : epOne last x = true ↔ (1 ≤ x.1 ∧ x.1 ≤ 64) ∧ (1 ≤ x.2 ∧ x.2 ≤ 1073741824) ∧ last < x.1 := by simp [epOne, Lsa.win]
theorem no_ends {p : Pk} (h : ends p = true → False) : mayP p = false := by
  cases hh : mayP p
  · rfl
  · exact (h (mayP_iff.1 hh).1).elim
theorem no_hd {p : Pk} (h : epOk 0 p.hd = false) : mayP p = false := by
  cases hh : mayP p
  · rfl
  · have := (mayP_iff.1 hh).2.1; rw [h] at this; cases this
theorem dbOk_at14 (db : List La) (k : Nat) (h : k < db.length) : dbOk (lastO db k) (db.drop k) = (laOk (db.getD k zeroL) && (decide (lastO db k < (db.getD k zeroL).o) && dbOk (lastO db (k + 1)) (db.drop (k + 1)))) := by
  rw [dbOk_step _ db k h]
  rfl
theorem no_ls {p : Pk} (h : dbOk 0 p.ls = false) : mayP p = false := by
  cases hh : mayP p
  · rfl
  · have := (mayP_iff.1 hh).2.2.1; rw [h] at this; cases this
theorem blk_cells10 {w : World} {g : Nat} {t : TypeId} {a0 a1 a2 a3 a4 a5 a6 a7 a8 a9 : Value} (h : Blk w g t #[a0, a1, a2, a3, a4, a5, a6, a7, a8, a9]) :
    w.cell? ⟨g, 0, none⟩ = some a0 ∧ w.cell? ⟨g, 1, none⟩ = some a1 ∧ w.cell? ⟨g, 2, none⟩ = some a2 ∧ w.cell? ⟨g, 3, none⟩ = some a3 ∧ w.cell? ⟨g, 4, none⟩ = some a4 ∧ w.cell? ⟨g, 5, none⟩ = some a5 ∧ w.cell? ⟨g, 6, none⟩ = some a6 ∧ w.cell? ⟨g, 7, none⟩ = some a7 ∧ w.cell? ⟨g, 8, none⟩ = some a8 ∧ w.cell? ⟨g, 9, none⟩ = some a9 ∧ g < w.heap.size :=
  ⟨by rw [h.cell]; rfl, by rw [h.cell]; rfl, by rw [h.cell]; rfl, by rw [h.cell]; rfl, by rw [h.cell]; rfl, by rw [h.cell]; rfl, by rw [h.cell]; rfl, by rw [h.cell]; rfl, by rw [h.cell]; rfl, by rw [h.cell]; rfl, h.lt⟩
set_option maxRecDepth 100000 in
set_option maxHeartbeats 8000000 in
theorem rmay_ends (p : Pk) (A1 A2 A3 : Option Addr) (n1 z1 n2 z2 n3 z3 : Nat) (w : World) (hno : ends p = false) :
    Calls Try.prog 10 #[pkV p (.slice A1 n1 z1) (.slice A2 n2 z2) (.slice A3 n3 z3)] w fun e w' => e = .returned (.bool (mayP p)) ∧ Below w.heap.size w w' := by
  have HE := Lib.hid (ends_iff (p := p))
  have HN := Lib.hid hno; clear hno
  go_enter Try.func10, Try.ntmps10
  go_upto_region 3 with fail
  all_goals first
    | (exfalso
       have h := HN.out
       rw [HE.out.2 (by first | omega | (rename_i hx; simp only [beq_iff_eq] at hx; omega))] at h
       cases h)
    | (go_wp2
       go_ret
       exact ⟨ret_bool (no_ends fun h => by have h2 := HN.out; rw [h] at h2; cases h2), palloc (Below.refl w.heap.size w) _ (Nat.le_refl _)⟩)
set_option maxRecDepth 100000 in
set_option maxHeartbeats 8000000 in
theorem rmay_go (p : Pk) (A1 A2 A3 : Option Addr) (n1 z1 n2 z2 n3 z3 : Nat) (w : World) (hen : ends p = true) (h : PkM w w.heap.size (.slice A1 n1 z1) (.slice A2 n2 z2) (.slice A3 n3 z3) p) :
    Calls Try.prog 10 #[pkV p (.slice A1 n1 z1) (.slice A2 n2 z2) (.slice A3 n3 z3)] w fun e w' => e = .returned (.bool (mayP p)) ∧ Below w.heap.size w w' := by
  obtain ⟨h1, h2, h3⟩ := h
  obtain ⟨hl1, hc1, hm1, _⟩ := lks_len h1
  obtain ⟨hl3, hc3, hm3, _⟩ := las_len h3
  unfold maxLen at hm1 hm3
  have H1 := Lib.hid h1; clear h1
  have H2 := Lib.hid h2; clear h2
  have H3 := Lib.hid h3; clear h3
  have HL1 := Lib.hid hl1; clear hl1
  have HL3 := Lib.hid hl3; clear hl3
  obtain ⟨⟨f1, f2⟩, ⟨t1, t2⟩, ft, ⟨b1, b2⟩, tb1, tb2⟩ := ends_iff.1 hen
  have HEN := Lib.hid hen; clear hen
  have e1 : decide (p.f < 1) = false := by simp; omega
  have e2 : decide (64 < p.f) = false := by simp; omega
  have e3 : decide (p.t < 1) = false := by simp; omega
  have e4 : decide (64 < p.t) = false := by simp; omega
  have e5 : (p.f == p.t) = false := beq_false_of_ne ft
  have e6 : decide (p.b < 1) = false := by simp; omega
  have e7 : decide (1073741824 < p.b) = false := by simp; omega
  have e8 : decide (p.tb < 0) = false := by simp; omega
  have e9 : decide (1073741824 < p.tb) = false := by simp; omega
  clear ft
  have HB0 := Lib.hid (palloc (Below.refl w.heap.size w) (.cells (pkC p (.slice A1 n1 z1) (.slice A2 n2 z2) (.slice A3 n3 z3)) 26) (Nat.le_refl _))
  have K0 := Lib.hid (Blk.new w 26 (pkC p (.slice A1 n1 z1) (.slice A2 n2 z2) (.slice A3 n3 z3)))
  go_enter Try.func10, Try.ntmps10
  go_wp2
  go_loopw [3] (fun i wr => ∃ (k : Nat), k ≤ n1 ∧ i = .int .i64 k ∧ epOk 0 p.hd = epOk (lastOf p.hd k) (p.hd.drop k) ∧ Blk wr w.heap.size 26 (pkC p (.slice A1 n1 z1) (.slice A2 n2 z2) (.slice A3 n3 z3)) ∧ Below w.heap.size w wr) (fun i _ => n1 - (intOf i).toNat)
  case atStart => exact ⟨0, Nat.zero_le _, rfl, rfl, K0.out, HB0.out⟩
  case round =>
    obtain ⟨k, hk, rfl, hok, hblk, hbw⟩ := hrel
    obtain ⟨p0, p1, p2, p3, p4, p5, p6, p7, p8, p9, pl⟩ := blk_cells10 hblk
    have HKB := Lib.hid hblk; clear hblk
    have HB := Lib.hid hbw; clear hbw
    by_cases hlt : k < n1
    · obtain ⟨b, off, rfl, hb, hc⟩ := lks_at H1.out (by omega)
      obtain ⟨c0, c1⟩ := hc k hlt
      have hbw := HB.out.size
      replace c0 := (HB.out.cell (p := ⟨b, off + k * 2, none⟩) hb).trans c0
      replace c1 := (HB.out.cell (p := ⟨b, off + k * 2 + 1, none⟩) hb).trans c1
      have cp : 0 < k → wr.cell? ⟨b, off + (k - 1) * 2, none⟩ = some (.int .i64 (lastOf p.hd k)) := fun h0 => by
        rw [lastOf, if_neg (by omega)]
        exact (HB.out.cell (p := ⟨b, off + (k - 1) * 2, none⟩) hb).trans (hc (k - 1) (by omega)).1
      have hst := epOk_step14 (lastOf p.hd k) p.hd k (by have := HL1.out; omega)
      have hsc := lastOf_succ p.hd k
      have hl0 : k = 0 → lastOf p.hd k = 0 := fun e => by subst e; rfl
      rw [hst] at hok
      clear hst hc
      generalize p.hd.getD k (0, 0) = x at *
      obtain ⟨t, u⟩ := x
      simp only at c0 c1 hok hsc
      generalize lastOf p.hd k = last at *
      have HI := Lib.hid (epOne_iff14 (last := last) (x := (t, u)))
      have HOK := Lib.hid hok; clear hok
      have HSC := Lib.hid hsc; clear hsc
      have HL0 := Lib.hid hl0; clear hl0
      have HKA := Lib.hid (HKB.out.alloc (.cells #[.int .i64 t, .int .i64 u] 59))
      have HBA := Lib.hid (palloc HB.out (.cells #[.int .i64 t, .int .i64 u] 59) hbw)
      have hbb : b < wr.heap.size := by omega
      simp only at HI
      rcases Nat.eq_zero_or_pos k with h0 | h0
      · have dk : decide ((0 : Int) < k) = false := by simp; omega
        have hl := HL0.out h0
        have dk2 : ¬ 0 < k := by omega
        have dk3 : decide (0 < k) = false := by simp; omega
        clear cp h0
        go_wp2
        refine wp_region_quiet_lit (by kernel_rfl) (by kernel_rfl) ?_
        repeat (any_goals (first | go_big_quiet_step (fail) | quiet_step (fail) | (refine wpQuiet_step (fun K hK => ?_); go_simp; split <;> (refine hK _ ?_; clear hK K))))
        all_goals (refine wpQuiet_nil ?_; intro _ hw'; obtain ⟨nq, hw''⟩ := hw'; subst hw'')
        all_goals go_wp2
        all_goals first
          | (go_ret; exact ⟨ret_bool (no_hd (HOK.out.trans (no_and (fun h => by have := HI.out.1 h; omega)))), below_drewN HBA.out _⟩)
          | skip
        go_roundw
        case rel => exact ⟨k + 1, by omega, by go_num, by rw [HOK.out, HI.out.2 (by omega), HSC.out, Bool.true_and], HKA.out.drewN _, below_drewN HBA.out _⟩
        case measure => simp [intOf]; omega
      · have dk : decide ((0 : Int) < k) = true := by simp; omega
        have dk3 : decide (0 < k) = true := by simp; omega
        have c2 := cp h0
        have i0 : (0 : Int) ≤ (k : Int) - 1 := by omega
        have i1 : ((k : Int) - 1).toNat = k - 1 := by omega
        have i2 : (k : Int) - 1 < (n1 : Int) := by omega
        have i3 : 1 ≤ k := by omega
        have i4 : k - 1 < n1 := by omega
        have i5 : k ≤ n1 := by omega
        have i6 : IntKind.i64.wrap ((k : Int) - 1) = (k : Int) - 1 := IntWalk.i64_in _ (by omega)
        clear cp
        go_wp2
        refine wp_region_quiet_lit (by kernel_rfl) (by kernel_rfl) ?_
        repeat (any_goals (first | go_big_quiet_step (fail) | quiet_step (fail) | (refine wpQuiet_step (fun K hK => ?_); go_simp; split <;> (refine hK _ ?_; clear hK K))))
        all_goals (refine wpQuiet_nil ?_; intro _ hw'; obtain ⟨nq, hw''⟩ := hw'; subst hw'')
        all_goals go_wp2
        all_goals first
          | (go_ret; exact ⟨ret_bool (no_hd (HOK.out.trans (no_and (fun h => by have := HI.out.1 h; omega)))), below_drewN HBA.out _⟩)
          | skip
        go_roundw
        case rel => exact ⟨k + 1, by omega, by go_num, by rw [HOK.out, HI.out.2 (by omega), HSC.out, Bool.true_and], HKA.out.drewN _, below_drewN HBA.out _⟩
        case measure => simp [intOf]; omega
    · obtain rfl : n1 = k := by omega
      have h1t : epOk 0 p.hd = true := hok.trans (by rw [List.drop_eq_nil_of_le (by have := HL1.out; omega)]; rfl)
      have HD1 := Lib.hid h1t; clear h1t hok K0 HB0
      go_wp2
      clear p0 p1 p2 p3 p4 p5 p6 p7 p8 p9 pl
      go_loopw [5] (fun i wr => ∃ (k : Nat), k ≤ n3 ∧ i = .int .i64 k ∧ Hid (dbOk 0 p.ls = dbOk (lastO p.ls k) (p.ls.drop k)) ∧ Hid (Blk wr w.heap.size 26 (pkC p (.slice A1 n1 z1) (.slice A2 n2 z2) (.slice A3 n3 z3))) ∧ Hid (Below w.heap.size w wr)) (fun i _ => n3 - (intOf i).toNat)
      case atStart => exact ⟨0, Nat.zero_le _, rfl, Lib.hid rfl, HKB, HB⟩
      case round =>
        clear HKB HB
        obtain ⟨k, hk, rfl, HOK, K0, HB⟩ := hrel
        obtain ⟨p0, p1, p2, p3, p4, p5, p6, p7, p8, p9, hgw⟩ := blk_cells10 K0.out
        have hws := HB.out.size
        by_cases hlt3 : k < n3
        · obtain ⟨b, off, rfl, hb, hc⟩ := las_at H3.out (by omega)
          obtain ⟨u, hr, hk2⟩ := hc k hlt3
          have hbw : b < wr.heap.size := by omega
          have c0 := (HB.out.cell (p := ⟨b, off + k * 3 + 0, none⟩) hb).trans (hr 0 _ rfl)
          have c1_ := (HB.out.cell (p := ⟨b, off + k * 3 + 1, none⟩) hb).trans (hr 1 _ rfl)
          have c2_ := (HB.out.cell (p := ⟨b, off + k * 3 + 2, none⟩) hb).trans (hr 2 _ rfl)
          rw [Nat.add_zero] at c0
          have cp : 0 < k → wr.cell? ⟨b, off + (k - 1) * 3, none⟩ = some (.int .i64 (lastO p.ls k)) := fun h0 => by
            obtain ⟨u', hr', _⟩ := hc (k - 1) (by omega)
            rw [lastO, if_neg (by omega)]
            exact (HB.out.cell (p := ⟨b, off + (k - 1) * 3 + 0, none⟩) hb).trans (hr' 0 _ rfl)
          have hok := HOK.out
          rw [dbOk_at14 p.ls k (by have := HL3.out; omega)] at hok
          have h00 : k = 0 → lastO p.ls k = 0 := fun e => by rw [lastO, if_pos e]
          clear hc hr p0 p1 p2 p3 p4 p5 p6 p7 p8
          generalize p.ls.getD k zeroL = y at *
          obtain ⟨yo, ys, yl⟩ := y
          obtain ⟨Au, nu, cu, rfl, hq_⟩ := id hk2
          clear hq_
          simp only at c0 c1_ c2_ hok hk2
          generalize lastO p.ls k = last at *
          have my := fun (W : World) (hW : Below wr.heap.size wr W) => may_any yo ys Au nu cu yl W ((hk2.below (HB.out.trans (hW.mono hws)) (Nat.le_refl _)).more (Nat.le_trans hws hW.size))
          have hlo : laOk ⟨yo, ys, yl⟩ = may yo ys yl := rfl
          rw [hlo] at hok
          clear hk2 hlo HOK
          have HL3b := Lib.hid hlt3
          cases hm : may yo ys yl
          · rw [hm] at my hok
            have MY := Lib.hid my; clear my
            have HOK2 := Lib.hid (show dbOk 0 p.ls = false from hok); clear hok h00 cp hm
            go_wp2_with (fail)
            refine wp_region_held_drew (S := fun W => W.cell? ⟨w.heap.size, 9, none⟩ = some (.slice (some ⟨b, off, none⟩) n3 z3) ∧ W.cell? ⟨b, off + k * 3, none⟩ = some (.int .i64 yo) ∧ W.cell? ⟨b, off + k * 3 + 1, none⟩ = some (.int .i64 ys) ∧ W.cell? ⟨b, off + k * 3 + 2, none⟩ = some (.slice Au nu cu)) (by kernel_rfl) ?_ (fun hHeld => ?_)
            · exact ⟨p9, c0, c1_, c2_⟩
            refine wpAnyH_take (i := 0) (oi := ⟨some 109, _, _, _, _, _⟩) (v := ?_) rfl (by kernel_rfl) (by kernel_rfl) (by kernel_rfl) (fun _ _ _ h => h) (Or.inl ⟨by rfl, ?_⟩) (by assumption) ?_
            rotate_left
            · (intro w hSw; (try dsimp only at hSw); go_simp; try with_reducible rfl)
            try simp only [Act.put, List.setIfInBounds_toArray, List.set_cons_zero, List.set_cons_succ]
            refine wpAnyH_take (i := 1) (oi := ⟨some 110, _, _, _, _, _⟩) (v := ?_) rfl (by kernel_rfl) (by kernel_rfl) (by kernel_rfl) (fun _ _ _ h => h) (Or.inl ⟨by rfl, ?_⟩) (by assumption) ?_
            rotate_left
            · (intro w hSw; (try dsimp only at hSw); go_simp; try with_reducible rfl)
            try simp only [Act.put, List.setIfInBounds_toArray, List.set_cons_zero, List.set_cons_succ]
            refine wpAnyH_take (i := 2) (oi := ⟨some 111, _, _, _, _, _⟩) (v := ?_) rfl (by kernel_rfl) (by kernel_rfl) (by kernel_rfl) (fun _ _ _ h => h) (Or.inl ⟨by rfl, ?_⟩) (by assumption) ?_
            rotate_left
            · (intro w hSw; (try dsimp only at hSw); go_simp; try with_reducible rfl)
            try simp only [Act.put, List.setIfInBounds_toArray, List.set_cons_zero, List.set_cons_succ]
            refine wpAnyH_take (i := 3) (oi := ⟨some 112, _, _, _, _, _⟩) (v := ?_) rfl (by kernel_rfl) (by kernel_rfl) (by kernel_rfl) (fun _ _ _ h => h) (Or.inl ⟨by rfl, ?_⟩) (by assumption) ?_
            rotate_left
            · (intro w hSw; (try dsimp only at hSw); go_simp; try with_reducible rfl)
            try simp only [Act.put, List.setIfInBounds_toArray, List.set_cons_zero, List.set_cons_succ]
            refine wpAnyH_take (i := 4) (oi := ⟨some 113, _, _, _, _, _⟩) (v := ?_) rfl (by kernel_rfl) (by kernel_rfl) (by kernel_rfl) (fun _ _ _ h => h) (Or.inl ⟨by rfl, ?_⟩) (by assumption) ?_
            rotate_left
            · (intro w hSw; (try dsimp only at hSw); go_simp; try with_reducible rfl)
            try simp only [Act.put, List.setIfInBounds_toArray, List.set_cons_zero, List.set_cons_succ]
            refine wpAnyH_ready (rs := [5]) (by kernel_rfl) (by simp) (AllReadyH.cons (o := ⟨some 114, _, _, _, _, _⟩) rfl (fun K hK => ?_) AllReadyH.nil)
            go_simp
            (go_at_call 26; (refine (MY.out _ (by first | with_reducible exact (Below.refl _ _).drew | with_reducible exact Below.refl _ _)).mono ?_); rintro e w5 ⟨rfl, hb5⟩; have hb5 : Below wr.heap.size wr w5 := ⟨hb5.os, hb5.tape, hb5.output, hb5.size, hb5.block⟩; have q9 := (hb5.cell (p := ⟨w.heap.size, 9, none⟩) hgw).trans p9; have q0 := (hb5.cell (p := ⟨b, off + k * 3, none⟩) hbw).trans c0; have q1 := (hb5.cell (p := ⟨b, off + k * 3 + 1, none⟩) hbw).trans c1_; have q2 := (hb5.cell (p := ⟨b, off + k * 3 + 2, none⟩) hbw).trans c2_; have HK5 := Lib.hid (K0.out.below hb5 hgw); have HB5 := Lib.hid (HB.out.trans (hb5.mono hws)); clear hb5)
            refine hK.out _ _ ?_ (fun hHeld => ?_)
            · exact ⟨q9, q0, q1, q2⟩
            clear hK K
            try simp only [Act.put, List.setIfInBounds_toArray, List.set_cons_zero, List.set_cons_succ]
            refine wpAnyH_take (i := 6) (oi := ⟨some 115, _, _, _, _, _⟩) (v := ?_) rfl (by kernel_rfl) (by kernel_rfl) (by kernel_rfl) (fun _ _ _ h => h) (Or.inl ⟨by rfl, ?_⟩) (by assumption) ?_
            rotate_left
            · (intro w hSw; (try dsimp only at hSw); go_simp; try with_reducible rfl)
            try simp only [Act.put, List.setIfInBounds_toArray, List.set_cons_zero, List.set_cons_succ]
            refine wpAnyH_take (i := 7) (oi := ⟨some 116, _, _, _, _, _⟩) (v := ?_) rfl (by kernel_rfl) (by kernel_rfl) (by kernel_rfl) (fun _ _ _ h => h) (Or.inl ⟨by rfl, ?_⟩) (by assumption) ?_
            rotate_left
            · (intro w hSw; (try dsimp only at hSw); go_simp; try with_reducible rfl)
            try simp only [Act.put, List.setIfInBounds_toArray, List.set_cons_zero, List.set_cons_succ]
            refine wpAnyH_take (i := 8) (oi := ⟨some 117, _, _, _, _, _⟩) (v := undef) rfl (by kernel_rfl) (by kernel_rfl) (by kernel_rfl) (fun _ _ _ h => h) (Or.inr ⟨by rfl, rfl⟩) (by assumption) ?_
            try simp only [Act.put, List.setIfInBounds_toArray, List.set_cons_zero, List.set_cons_succ]
            refine wpAnyH_take (i := 9) (oi := ⟨some 118, _, _, _, _, _⟩) (v := undef) rfl (by kernel_rfl) (by kernel_rfl) (by kernel_rfl) (fun _ _ _ h => h) (Or.inr ⟨by rfl, rfl⟩) (by assumption) ?_
            try simp only [Act.put, List.setIfInBounds_toArray, List.set_cons_zero, List.set_cons_succ]
            refine wpAnyH_take (i := 10) (oi := ⟨some 119, _, _, _, _, _⟩) (v := undef) rfl (by kernel_rfl) (by kernel_rfl) (by kernel_rfl) (fun _ _ _ h => h) (Or.inr ⟨by rfl, rfl⟩) (by assumption) ?_
            try simp only [Act.put, List.setIfInBounds_toArray, List.set_cons_zero, List.set_cons_succ]
            refine wpAnyH_take (i := 11) (oi := ⟨some 120, _, _, _, _, _⟩) (v := undef) rfl (by kernel_rfl) (by kernel_rfl) (by kernel_rfl) (fun _ _ _ h => h) (Or.inr ⟨by rfl, rfl⟩) (by assumption) ?_
            try simp only [Act.put, List.setIfInBounds_toArray, List.set_cons_zero, List.set_cons_succ]
            refine wpAnyH_take (i := 12) (oi := ⟨some 121, _, _, _, _, _⟩) (v := undef) rfl (by kernel_rfl) (by kernel_rfl) (by kernel_rfl) (fun _ _ _ h => h) (Or.inr ⟨by rfl, rfl⟩) (by assumption) ?_
            try simp only [Act.put, List.setIfInBounds_toArray, List.set_cons_zero, List.set_cons_succ]
            refine wpAnyH_take (i := 13) (oi := ⟨some 122, _, _, _, _, _⟩) (v := undef) rfl (by kernel_rfl) (by kernel_rfl) (by kernel_rfl) (fun _ _ _ h => h) (Or.inr ⟨by rfl, rfl⟩) (by assumption) ?_
            try simp only [Act.put, List.setIfInBounds_toArray, List.set_cons_zero, List.set_cons_succ]
            refine wpAnyH_take (i := 14) (oi := ⟨some 123, _, _, _, _, _⟩) (v := undef) rfl (by kernel_rfl) (by kernel_rfl) (by kernel_rfl) (fun _ _ _ h => h) (Or.inr ⟨by rfl, rfl⟩) (by assumption) ?_
            try simp only [Act.put, List.setIfInBounds_toArray, List.set_cons_zero, List.set_cons_succ]
            refine wpAnyH_take (i := 15) (oi := ⟨some 124, _, _, _, _, _⟩) (v := undef) rfl (by kernel_rfl) (by kernel_rfl) (by kernel_rfl) (fun _ _ _ h => h) (Or.inr ⟨by rfl, rfl⟩) (by assumption) ?_
            try simp only [Act.put, List.setIfInBounds_toArray, List.set_cons_zero, List.set_cons_succ]
            refine wpAnyH_take (i := 16) (oi := ⟨some 125, _, _, _, _, _⟩) (v := undef) rfl (by kernel_rfl) (by kernel_rfl) (by kernel_rfl) (fun _ _ _ h => h) (Or.inr ⟨by rfl, rfl⟩) (by assumption) ?_
            try simp only [Act.put, List.setIfInBounds_toArray, List.set_cons_zero, List.set_cons_succ]
            refine wpAnyH_take (i := 17) (oi := ⟨some 126, _, _, _, _, _⟩) (v := undef) rfl (by kernel_rfl) (by kernel_rfl) (by kernel_rfl) (fun _ _ _ h => h) (Or.inr ⟨by rfl, rfl⟩) (by assumption) ?_
            try simp only [Act.put, List.setIfInBounds_toArray, List.set_cons_zero, List.set_cons_succ]
            refine wpAnyH_take (i := 18) (oi := ⟨some 127, _, _, _, _, _⟩) (v := undef) rfl (by kernel_rfl) (by kernel_rfl) (by kernel_rfl) (fun _ _ _ h => h) (Or.inr ⟨by rfl, rfl⟩) (by assumption) ?_
            try simp only [Act.put, List.setIfInBounds_toArray, List.set_cons_zero, List.set_cons_succ]
            refine wpAnyH_take (i := 19) (oi := ⟨some 128, _, _, _, _, _⟩) (v := undef) rfl (by kernel_rfl) (by kernel_rfl) (by kernel_rfl) (fun _ _ _ h => h) (Or.inr ⟨by rfl, rfl⟩) (by assumption) ?_
            try simp only [Act.put, List.setIfInBounds_toArray, List.set_cons_zero, List.set_cons_succ]
            refine wpAnyH_take (i := 20) (oi := ⟨some 129, _, _, _, _, _⟩) (v := undef) rfl (by kernel_rfl) (by kernel_rfl) (by kernel_rfl) (fun _ _ _ h => h) (Or.inr ⟨by rfl, rfl⟩) (by assumption) ?_
            try simp only [Act.put, List.setIfInBounds_toArray, List.set_cons_zero, List.set_cons_succ]
            refine wpAnyH_take (i := 21) (oi := ⟨some 130, _, _, _, _, _⟩) (v := undef) rfl (by kernel_rfl) (by kernel_rfl) (by kernel_rfl) (fun _ _ _ h => h) (Or.inr ⟨by rfl, rfl⟩) (by assumption) ?_
            try simp only [Act.put, List.setIfInBounds_toArray, List.set_cons_zero, List.set_cons_succ]
            refine wpAnyH_take (i := 22) (oi := ⟨some 131, _, _, _, _, _⟩) (v := undef) rfl (by kernel_rfl) (by kernel_rfl) (by kernel_rfl) (fun _ _ _ h => h) (Or.inr ⟨by rfl, rfl⟩) (by assumption) ?_
            try simp only [Act.put, List.setIfInBounds_toArray, List.set_cons_zero, List.set_cons_succ]
            refine wpAnyH_take (i := 23) (oi := ⟨some 132, _, _, _, _, _⟩) (v := undef) rfl (by kernel_rfl) (by kernel_rfl) (by kernel_rfl) (fun _ _ _ h => h) (Or.inr ⟨by rfl, rfl⟩) (by assumption) ?_
            try simp only [Act.put, List.setIfInBounds_toArray, List.set_cons_zero, List.set_cons_succ]
            refine wpAnyH_take (i := 24) (oi := ⟨some 133, _, _, _, _, _⟩) (v := undef) rfl (by kernel_rfl) (by kernel_rfl) (by kernel_rfl) (fun _ _ _ h => h) (Or.inr ⟨by rfl, rfl⟩) (by assumption) ?_
            try simp only [Act.put, List.setIfInBounds_toArray, List.set_cons_zero, List.set_cons_succ]
            refine wpAnyH_take (i := 25) (oi := ⟨some 134, _, _, _, _, _⟩) (v := undef) rfl (by kernel_rfl) (by kernel_rfl) (by kernel_rfl) (fun _ _ _ h => h) (Or.inr ⟨by rfl, rfl⟩) (by assumption) ?_
            try simp only [Act.put, List.setIfInBounds_toArray, List.set_cons_zero, List.set_cons_succ]
            refine wpAnyH_take (i := 26) (oi := ⟨some 135, _, _, _, _, _⟩) (v := ?_) rfl (by kernel_rfl) (by kernel_rfl) (by kernel_rfl) (fun _ _ _ h => h) (Or.inl ⟨by rfl, ?_⟩) (by assumption) ?_
            rotate_left
            · (intro w hSw; (try dsimp only at hSw); go_simp; try with_reducible rfl)
            try simp only [Act.put, List.setIfInBounds_toArray, List.set_cons_zero, List.set_cons_succ]
            refine wpAnyH_done (by kernel_rfl) ?_ _
            go_wp2
            go_ret
            exact ⟨ret_bool (no_ls HOK2.out), by first | with_reducible exact HB5.out | exact HB5.out.drew⟩
          · have hyo := (may_iff.1 hm).1
            rw [hm] at my hok
            have MY := Lib.hid my; clear my
            rw [Bool.true_and] at hok
            have HOK := Lib.hid hok; clear hok hm
            rcases Nat.eq_zero_or_pos k with h0 | h0
            · have dk : decide ((0 : Int) < k) = false := by simp; omega
              have hl0 := h00 h0
              have dk2 : ¬ 0 < k := by omega
              have dk3 : decide (0 < k) = false := by simp; omega
              have HOK3 := Lib.hid (show dbOk 0 p.ls = dbOk (lastO p.ls (k + 1)) (p.ls.drop (k + 1)) by rw [HOK.out, decide_eq_true (show last < yo by omega), Bool.true_and])
              clear h00 cp hl0 h0
              go_wp2_with (fail)
              refine wp_region_held_drew (S := fun W => W.cell? ⟨w.heap.size, 9, none⟩ = some (.slice (some ⟨b, off, none⟩) n3 z3) ∧ W.cell? ⟨b, off + k * 3, none⟩ = some (.int .i64 yo) ∧ W.cell? ⟨b, off + k * 3 + 1, none⟩ = some (.int .i64 ys) ∧ W.cell? ⟨b, off + k * 3 + 2, none⟩ = some (.slice Au nu cu)) (by kernel_rfl) ?_ (fun hHeld => ?_)
              · exact ⟨p9, c0, c1_, c2_⟩
              refine wpAnyH_take (i := 0) (oi := ⟨some 109, _, _, _, _, _⟩) (v := ?_) rfl (by kernel_rfl) (by kernel_rfl) (by kernel_rfl) (fun _ _ _ h => h) (Or.inl ⟨by rfl, ?_⟩) (by assumption) ?_
              rotate_left
              · (intro w hSw; (try dsimp only at hSw); go_simp; try with_reducible rfl)
              try simp only [Act.put, List.setIfInBounds_toArray, List.set_cons_zero, List.set_cons_succ]
              refine wpAnyH_take (i := 1) (oi := ⟨some 110, _, _, _, _, _⟩) (v := ?_) rfl (by kernel_rfl) (by kernel_rfl) (by kernel_rfl) (fun _ _ _ h => h) (Or.inl ⟨by rfl, ?_⟩) (by assumption) ?_
              rotate_left
              · (intro w hSw; (try dsimp only at hSw); go_simp; try with_reducible rfl)
              try simp only [Act.put, List.setIfInBounds_toArray, List.set_cons_zero, List.set_cons_succ]
              refine wpAnyH_take (i := 2) (oi := ⟨some 111, _, _, _, _, _⟩) (v := ?_) rfl (by kernel_rfl) (by kernel_rfl) (by kernel_rfl) (fun _ _ _ h => h) (Or.inl ⟨by rfl, ?_⟩) (by assumption) ?_
              rotate_left
              · (intro w hSw; (try dsimp only at hSw); go_simp; try with_reducible rfl)
              try simp only [Act.put, List.setIfInBounds_toArray, List.set_cons_zero, List.set_cons_succ]
              refine wpAnyH_take (i := 3) (oi := ⟨some 112, _, _, _, _, _⟩) (v := ?_) rfl (by kernel_rfl) (by kernel_rfl) (by kernel_rfl) (fun _ _ _ h => h) (Or.inl ⟨by rfl, ?_⟩) (by assumption) ?_
              rotate_left
              · (intro w hSw; (try dsimp only at hSw); go_simp; try with_reducible rfl)
              try simp only [Act.put, List.setIfInBounds_toArray, List.set_cons_zero, List.set_cons_succ]
              refine wpAnyH_take (i := 4) (oi := ⟨some 113, _, _, _, _, _⟩) (v := ?_) rfl (by kernel_rfl) (by kernel_rfl) (by kernel_rfl) (fun _ _ _ h => h) (Or.inl ⟨by rfl, ?_⟩) (by assumption) ?_
              rotate_left
              · (intro w hSw; (try dsimp only at hSw); go_simp; try with_reducible rfl)
              try simp only [Act.put, List.setIfInBounds_toArray, List.set_cons_zero, List.set_cons_succ]
              refine wpAnyH_ready (rs := [5]) (by kernel_rfl) (by simp) (AllReadyH.cons (o := ⟨some 114, _, _, _, _, _⟩) rfl (fun K hK => ?_) AllReadyH.nil)
              go_simp
              (go_at_call 26; (refine (MY.out _ (by first | with_reducible exact (Below.refl _ _).drew | with_reducible exact Below.refl _ _)).mono ?_); rintro e w5 ⟨rfl, hb5⟩; have hb5 : Below wr.heap.size wr w5 := ⟨hb5.os, hb5.tape, hb5.output, hb5.size, hb5.block⟩; have q9 := (hb5.cell (p := ⟨w.heap.size, 9, none⟩) hgw).trans p9; have q0 := (hb5.cell (p := ⟨b, off + k * 3, none⟩) hbw).trans c0; have q1 := (hb5.cell (p := ⟨b, off + k * 3 + 1, none⟩) hbw).trans c1_; have q2 := (hb5.cell (p := ⟨b, off + k * 3 + 2, none⟩) hbw).trans c2_; have HK5 := Lib.hid (K0.out.below hb5 hgw); have HB5 := Lib.hid (HB.out.trans (hb5.mono hws)); clear hb5)
              refine hK.out _ _ ?_ (fun hHeld => ?_)
              · exact ⟨q9, q0, q1, q2⟩
              clear hK K
              try simp only [Act.put, List.setIfInBounds_toArray, List.set_cons_zero, List.set_cons_succ]
              refine wpAnyH_take (i := 6) (oi := ⟨some 115, _, _, _, _, _⟩) (v := ?_) rfl (by kernel_rfl) (by kernel_rfl) (by kernel_rfl) (fun _ _ _ h => h) (Or.inl ⟨by rfl, ?_⟩) (by assumption) ?_
              rotate_left
              · (intro w hSw; (try dsimp only at hSw); go_simp; try with_reducible rfl)
              try simp only [Act.put, List.setIfInBounds_toArray, List.set_cons_zero, List.set_cons_succ]
              refine wpAnyH_take (i := 7) (oi := ⟨some 116, _, _, _, _, _⟩) (v := ?_) rfl (by kernel_rfl) (by kernel_rfl) (by kernel_rfl) (fun _ _ _ h => h) (Or.inl ⟨by rfl, ?_⟩) (by assumption) ?_
              rotate_left
              · (intro w hSw; (try dsimp only at hSw); go_simp; try with_reducible rfl)
              try simp only [Act.put, List.setIfInBounds_toArray, List.set_cons_zero, List.set_cons_succ]
              refine wpAnyH_take (i := 8) (oi := ⟨some 117, _, _, _, _, _⟩) (v := ?_) rfl (by kernel_rfl) (by kernel_rfl) (by kernel_rfl) (fun _ _ _ h => h) (Or.inl ⟨by rfl, ?_⟩) (by assumption) ?_
              rotate_left
              · (intro w hSw; (try dsimp only at hSw); go_simp; try with_reducible rfl)
              try simp only [Act.put, List.setIfInBounds_toArray, List.set_cons_zero, List.set_cons_succ]
              refine wpAnyH_take (i := 9) (oi := ⟨some 118, _, _, _, _, _⟩) (v := ?_) rfl (by kernel_rfl) (by kernel_rfl) (by kernel_rfl) (fun _ _ _ h => h) (Or.inl ⟨by rfl, ?_⟩) (by assumption) ?_
              rotate_left
              · (intro w hSw; (try dsimp only at hSw); go_simp; try with_reducible rfl)
              try simp only [Act.put, List.setIfInBounds_toArray, List.set_cons_zero, List.set_cons_succ]
              refine wpAnyH_take (i := 10) (oi := ⟨some 119, _, _, _, _, _⟩) (v := ?_) rfl (by kernel_rfl) (by kernel_rfl) (by kernel_rfl) (fun _ _ _ h => h) (Or.inl ⟨by rfl, ?_⟩) (by assumption) ?_
              rotate_left
              · (intro w hSw; (try dsimp only at hSw); go_simp; try with_reducible rfl)
              try simp only [Act.put, List.setIfInBounds_toArray, List.set_cons_zero, List.set_cons_succ]
              refine wpAnyH_take (i := 11) (oi := ⟨some 120, _, _, _, _, _⟩) (v := undef) rfl (by kernel_rfl) (by kernel_rfl) (by kernel_rfl) (fun _ _ _ h => h) (Or.inr ⟨by rfl, rfl⟩) (by assumption) ?_
              try simp only [Act.put, List.setIfInBounds_toArray, List.set_cons_zero, List.set_cons_succ]
              refine wpAnyH_take (i := 12) (oi := ⟨some 121, _, _, _, _, _⟩) (v := undef) rfl (by kernel_rfl) (by kernel_rfl) (by kernel_rfl) (fun _ _ _ h => h) (Or.inr ⟨by rfl, rfl⟩) (by assumption) ?_
              try simp only [Act.put, List.setIfInBounds_toArray, List.set_cons_zero, List.set_cons_succ]
              refine wpAnyH_take (i := 13) (oi := ⟨some 122, _, _, _, _, _⟩) (v := undef) rfl (by kernel_rfl) (by kernel_rfl) (by kernel_rfl) (fun _ _ _ h => h) (Or.inr ⟨by rfl, rfl⟩) (by assumption) ?_
              try simp only [Act.put, List.setIfInBounds_toArray, List.set_cons_zero, List.set_cons_succ]
              refine wpAnyH_take (i := 14) (oi := ⟨some 123, _, _, _, _, _⟩) (v := undef) rfl (by kernel_rfl) (by kernel_rfl) (by kernel_rfl) (fun _ _ _ h => h) (Or.inr ⟨by rfl, rfl⟩) (by assumption) ?_
              try simp only [Act.put, List.setIfInBounds_toArray, List.set_cons_zero, List.set_cons_succ]
              refine wpAnyH_take (i := 15) (oi := ⟨some 124, _, _, _, _, _⟩) (v := undef) rfl (by kernel_rfl) (by kernel_rfl) (by kernel_rfl) (fun _ _ _ h => h) (Or.inr ⟨by rfl, rfl⟩) (by assumption) ?_
              try simp only [Act.put, List.setIfInBounds_toArray, List.set_cons_zero, List.set_cons_succ]
              refine wpAnyH_take (i := 16) (oi := ⟨some 125, _, _, _, _, _⟩) (v := undef) rfl (by kernel_rfl) (by kernel_rfl) (by kernel_rfl) (fun _ _ _ h => h) (Or.inr ⟨by rfl, rfl⟩) (by assumption) ?_
              try simp only [Act.put, List.setIfInBounds_toArray, List.set_cons_zero, List.set_cons_succ]
              refine wpAnyH_take (i := 17) (oi := ⟨some 126, _, _, _, _, _⟩) (v := undef) rfl (by kernel_rfl) (by kernel_rfl) (by kernel_rfl) (fun _ _ _ h => h) (Or.inr ⟨by rfl, rfl⟩) (by assumption) ?_
              try simp only [Act.put, List.setIfInBounds_toArray, List.set_cons_zero, List.set_cons_succ]
              refine wpAnyH_take (i := 18) (oi := ⟨some 127, _, _, _, _, _⟩) (v := undef) rfl (by kernel_rfl) (by kernel_rfl) (by kernel_rfl) (fun _ _ _ h => h) (Or.inr ⟨by rfl, rfl⟩) (by assumption) ?_
              try simp only [Act.put, List.setIfInBounds_toArray, List.set_cons_zero, List.set_cons_succ]
              refine wpAnyH_take (i := 19) (oi := ⟨some 128, _, _, _, _, _⟩) (v := undef) rfl (by kernel_rfl) (by kernel_rfl) (by kernel_rfl) (fun _ _ _ h => h) (Or.inr ⟨by rfl, rfl⟩) (by assumption) ?_
              try simp only [Act.put, List.setIfInBounds_toArray, List.set_cons_zero, List.set_cons_succ]
              refine wpAnyH_take (i := 20) (oi := ⟨some 129, _, _, _, _, _⟩) (v := undef) rfl (by kernel_rfl) (by kernel_rfl) (by kernel_rfl) (fun _ _ _ h => h) (Or.inr ⟨by rfl, rfl⟩) (by assumption) ?_
              try simp only [Act.put, List.setIfInBounds_toArray, List.set_cons_zero, List.set_cons_succ]
              refine wpAnyH_take (i := 21) (oi := ⟨some 130, _, _, _, _, _⟩) (v := undef) rfl (by kernel_rfl) (by kernel_rfl) (by kernel_rfl) (fun _ _ _ h => h) (Or.inr ⟨by rfl, rfl⟩) (by assumption) ?_
              try simp only [Act.put, List.setIfInBounds_toArray, List.set_cons_zero, List.set_cons_succ]
              refine wpAnyH_take (i := 22) (oi := ⟨some 131, _, _, _, _, _⟩) (v := undef) rfl (by kernel_rfl) (by kernel_rfl) (by kernel_rfl) (fun _ _ _ h => h) (Or.inr ⟨by rfl, rfl⟩) (by assumption) ?_
              try simp only [Act.put, List.setIfInBounds_toArray, List.set_cons_zero, List.set_cons_succ]
              refine wpAnyH_take (i := 23) (oi := ⟨some 132, _, _, _, _, _⟩) (v := undef) rfl (by kernel_rfl) (by kernel_rfl) (by kernel_rfl) (fun _ _ _ h => h) (Or.inr ⟨by rfl, rfl⟩) (by assumption) ?_
              try simp only [Act.put, List.setIfInBounds_toArray, List.set_cons_zero, List.set_cons_succ]
              refine wpAnyH_take (i := 24) (oi := ⟨some 133, _, _, _, _, _⟩) (v := undef) rfl (by kernel_rfl) (by kernel_rfl) (by kernel_rfl) (fun _ _ _ h => h) (Or.inr ⟨by rfl, rfl⟩) (by assumption) ?_
              try simp only [Act.put, List.setIfInBounds_toArray, List.set_cons_zero, List.set_cons_succ]
              refine wpAnyH_take (i := 25) (oi := ⟨some 134, _, _, _, _, _⟩) (v := ?_) rfl (by kernel_rfl) (by kernel_rfl) (by kernel_rfl) (fun _ _ _ h => h) (Or.inl ⟨by rfl, ?_⟩) (by assumption) ?_
              rotate_left
              · (intro w hSw; (try dsimp only at hSw); go_simp; try with_reducible rfl)
              try simp only [Act.put, List.setIfInBounds_toArray, List.set_cons_zero, List.set_cons_succ]
              refine wpAnyH_take (i := 26) (oi := ⟨some 135, _, _, _, _, _⟩) (v := ?_) rfl (by kernel_rfl) (by kernel_rfl) (by kernel_rfl) (fun _ _ _ h => h) (Or.inl ⟨by rfl, ?_⟩) (by assumption) ?_
              rotate_left
              · (intro w hSw; (try dsimp only at hSw); go_simp; try with_reducible rfl)
              try simp only [Act.put, List.setIfInBounds_toArray, List.set_cons_zero, List.set_cons_succ]
              refine wpAnyH_done (by kernel_rfl) ?_ _
              go_wp2
              go_roundw
              case rel => exact ⟨k + 1, by have := HL3b.out; omega, by go_num, HOK3, by first | exact HK5 | exact Lib.hid HK5.out.drew, by first | exact HB5 | exact Lib.hid HB5.out.drew⟩
              case measure => have := HL3b.out; simp [intOf]; omega
            · have dk : decide ((0 : Int) < k) = true := by simp; omega
              have dk3 : decide (0 < k) = true := by simp; omega
              have c3_ := cp h0
              have i0 : (0 : Int) ≤ (k : Int) - 1 := by omega
              have i1 : ((k : Int) - 1).toNat = k - 1 := by omega
              have i2 : (k : Int) - 1 < (n3 : Int) := by omega
              have i3 : 1 ≤ k := by omega
              have i7 : (1 : Int) ≤ (k : Int) := by omega
              have i4 : k - 1 < n3 := by omega
              have i5 : k ≤ n3 := by omega
              have i6 : IntKind.i64.wrap ((k : Int) - 1) = (k : Int) - 1 := IntWalk.i64_in _ (by omega)
              clear h00 cp
              cases hq : decide (yo ≤ last)
              · have HOK3 := Lib.hid (show dbOk 0 p.ls = dbOk (lastO p.ls (k + 1)) (p.ls.drop (k + 1)) by have hq2 := of_decide_eq_false hq; rw [HOK.out, decide_eq_true (show last < yo by omega), Bool.true_and])
                go_wp2_with (fail)
                refine wp_region_held_drew (S := fun W => W.cell? ⟨w.heap.size, 9, none⟩ = some (.slice (some ⟨b, off, none⟩) n3 z3) ∧ W.cell? ⟨b, off + k * 3, none⟩ = some (.int .i64 yo) ∧ W.cell? ⟨b, off + k * 3 + 1, none⟩ = some (.int .i64 ys) ∧ W.cell? ⟨b, off + k * 3 + 2, none⟩ = some (.slice Au nu cu) ∧ W.cell? ⟨b, off + (k - 1) * 3, none⟩ = some (.int .i64 last)) (by kernel_rfl) ?_ (fun hHeld => ?_)
                · exact ⟨p9, c0, c1_, c2_, c3_⟩
                refine wpAnyH_take (i := 0) (oi := ⟨some 109, _, _, _, _, _⟩) (v := ?_) rfl (by kernel_rfl) (by kernel_rfl) (by kernel_rfl) (fun _ _ _ h => h) (Or.inl ⟨by rfl, ?_⟩) (by assumption) ?_
                rotate_left
                · (intro w hSw; (try dsimp only at hSw); go_simp; try with_reducible rfl)
                try simp only [Act.put, List.setIfInBounds_toArray, List.set_cons_zero, List.set_cons_succ]
                refine wpAnyH_take (i := 1) (oi := ⟨some 110, _, _, _, _, _⟩) (v := ?_) rfl (by kernel_rfl) (by kernel_rfl) (by kernel_rfl) (fun _ _ _ h => h) (Or.inl ⟨by rfl, ?_⟩) (by assumption) ?_
                rotate_left
                · (intro w hSw; (try dsimp only at hSw); go_simp; try with_reducible rfl)
                try simp only [Act.put, List.setIfInBounds_toArray, List.set_cons_zero, List.set_cons_succ]
                refine wpAnyH_take (i := 2) (oi := ⟨some 111, _, _, _, _, _⟩) (v := ?_) rfl (by kernel_rfl) (by kernel_rfl) (by kernel_rfl) (fun _ _ _ h => h) (Or.inl ⟨by rfl, ?_⟩) (by assumption) ?_
                rotate_left
                · (intro w hSw; (try dsimp only at hSw); go_simp; try with_reducible rfl)
                try simp only [Act.put, List.setIfInBounds_toArray, List.set_cons_zero, List.set_cons_succ]
                refine wpAnyH_take (i := 3) (oi := ⟨some 112, _, _, _, _, _⟩) (v := ?_) rfl (by kernel_rfl) (by kernel_rfl) (by kernel_rfl) (fun _ _ _ h => h) (Or.inl ⟨by rfl, ?_⟩) (by assumption) ?_
                rotate_left
                · (intro w hSw; (try dsimp only at hSw); go_simp; try with_reducible rfl)
                try simp only [Act.put, List.setIfInBounds_toArray, List.set_cons_zero, List.set_cons_succ]
                refine wpAnyH_take (i := 4) (oi := ⟨some 113, _, _, _, _, _⟩) (v := ?_) rfl (by kernel_rfl) (by kernel_rfl) (by kernel_rfl) (fun _ _ _ h => h) (Or.inl ⟨by rfl, ?_⟩) (by assumption) ?_
                rotate_left
                · (intro w hSw; (try dsimp only at hSw); go_simp; try with_reducible rfl)
                try simp only [Act.put, List.setIfInBounds_toArray, List.set_cons_zero, List.set_cons_succ]
                refine wpAnyH_ready (rs := [5]) (by kernel_rfl) (by simp) (AllReadyH.cons (o := ⟨some 114, _, _, _, _, _⟩) rfl (fun K hK => ?_) AllReadyH.nil)
                go_simp
                (go_at_call 26; (refine (MY.out _ (by first | with_reducible exact (Below.refl _ _).drew | with_reducible exact Below.refl _ _)).mono ?_); rintro e w5 ⟨rfl, hb5⟩; have hb5 : Below wr.heap.size wr w5 := ⟨hb5.os, hb5.tape, hb5.output, hb5.size, hb5.block⟩; have q9 := (hb5.cell (p := ⟨w.heap.size, 9, none⟩) hgw).trans p9; have q0 := (hb5.cell (p := ⟨b, off + k * 3, none⟩) hbw).trans c0; have q1 := (hb5.cell (p := ⟨b, off + k * 3 + 1, none⟩) hbw).trans c1_; have q2 := (hb5.cell (p := ⟨b, off + k * 3 + 2, none⟩) hbw).trans c2_; have q3 := (hb5.cell (p := ⟨b, off + (k - 1) * 3, none⟩) hbw).trans c3_; have HK5 := Lib.hid (K0.out.below hb5 hgw); have HB5 := Lib.hid (HB.out.trans (hb5.mono hws)); clear hb5)
                refine hK.out _ _ ?_ (fun hHeld => ?_)
                · exact ⟨q9, q0, q1, q2, q3⟩
                clear hK K
                try simp only [Act.put, List.setIfInBounds_toArray, List.set_cons_zero, List.set_cons_succ]
                refine wpAnyH_take (i := 6) (oi := ⟨some 115, _, _, _, _, _⟩) (v := ?_) rfl (by kernel_rfl) (by kernel_rfl) (by kernel_rfl) (fun _ _ _ h => h) (Or.inl ⟨by rfl, ?_⟩) (by assumption) ?_
                rotate_left
                · (intro w hSw; (try dsimp only at hSw); go_simp; try with_reducible rfl)
                try simp only [Act.put, List.setIfInBounds_toArray, List.set_cons_zero, List.set_cons_succ]
                refine wpAnyH_take (i := 7) (oi := ⟨some 116, _, _, _, _, _⟩) (v := ?_) rfl (by kernel_rfl) (by kernel_rfl) (by kernel_rfl) (fun _ _ _ h => h) (Or.inl ⟨by rfl, ?_⟩) (by assumption) ?_
                rotate_left
                · (intro w hSw; (try dsimp only at hSw); go_simp; try with_reducible rfl)
                try simp only [Act.put, List.setIfInBounds_toArray, List.set_cons_zero, List.set_cons_succ]
                refine wpAnyH_take (i := 8) (oi := ⟨some 117, _, _, _, _, _⟩) (v := ?_) rfl (by kernel_rfl) (by kernel_rfl) (by kernel_rfl) (fun _ _ _ h => h) (Or.inl ⟨by rfl, ?_⟩) (by assumption) ?_
                rotate_left
                · (intro w hSw; (try dsimp only at hSw); go_simp; try with_reducible rfl)
                try simp only [Act.put, List.setIfInBounds_toArray, List.set_cons_zero, List.set_cons_succ]
                refine wpAnyH_take (i := 9) (oi := ⟨some 118, _, _, _, _, _⟩) (v := ?_) rfl (by kernel_rfl) (by kernel_rfl) (by kernel_rfl) (fun _ _ _ h => h) (Or.inl ⟨by rfl, ?_⟩) (by assumption) ?_
                rotate_left
                · (intro w hSw; (try dsimp only at hSw); go_simp; try with_reducible rfl)
                try simp only [Act.put, List.setIfInBounds_toArray, List.set_cons_zero, List.set_cons_succ]
                refine wpAnyH_take (i := 10) (oi := ⟨some 119, _, _, _, _, _⟩) (v := ?_) rfl (by kernel_rfl) (by kernel_rfl) (by kernel_rfl) (fun _ _ _ h => h) (Or.inl ⟨by rfl, ?_⟩) (by assumption) ?_
                rotate_left
                · (intro w hSw; (try dsimp only at hSw); go_simp; try with_reducible rfl)
                try simp only [Act.put, List.setIfInBounds_toArray, List.set_cons_zero, List.set_cons_succ]
                refine wpAnyH_take (i := 11) (oi := ⟨some 120, _, _, _, _, _⟩) (v := ?_) rfl (by kernel_rfl) (by kernel_rfl) (by kernel_rfl) (fun _ _ _ h => h) (Or.inl ⟨by rfl, ?_⟩) (by assumption) ?_
                rotate_left
                · (intro w hSw; (try dsimp only at hSw); go_simp; try with_reducible rfl)
                try simp only [Act.put, List.setIfInBounds_toArray, List.set_cons_zero, List.set_cons_succ]
                refine wpAnyH_take (i := 12) (oi := ⟨some 121, _, _, _, _, _⟩) (v := ?_) rfl (by kernel_rfl) (by kernel_rfl) (by kernel_rfl) (fun _ _ _ h => h) (Or.inl ⟨by rfl, ?_⟩) (by assumption) ?_
                rotate_left
                · (intro w hSw; (try dsimp only at hSw); go_simp; try with_reducible rfl)
                try simp only [Act.put, List.setIfInBounds_toArray, List.set_cons_zero, List.set_cons_succ]
                refine wpAnyH_take (i := 13) (oi := ⟨some 122, _, _, _, _, _⟩) (v := ?_) rfl (by kernel_rfl) (by kernel_rfl) (by kernel_rfl) (fun _ _ _ h => h) (Or.inl ⟨by rfl, ?_⟩) (by assumption) ?_
                rotate_left
                · (intro w hSw; (try dsimp only at hSw); go_simp; try with_reducible rfl)
                try simp only [Act.put, List.setIfInBounds_toArray, List.set_cons_zero, List.set_cons_succ]
                refine wpAnyH_take (i := 14) (oi := ⟨some 123, _, _, _, _, _⟩) (v := ?_) rfl (by kernel_rfl) (by kernel_rfl) (by kernel_rfl) (fun _ _ _ h => h) (Or.inl ⟨by rfl, ?_⟩) (by assumption) ?_
                rotate_left
                · (intro w hSw; (try dsimp only at hSw); go_simp; try with_reducible rfl)
                try simp only [Act.put, List.setIfInBounds_toArray, List.set_cons_zero, List.set_cons_succ]
                refine wpAnyH_take (i := 15) (oi := ⟨some 124, _, _, _, _, _⟩) (v := ?_) rfl (by kernel_rfl) (by kernel_rfl) (by kernel_rfl) (fun _ _ _ h => h) (Or.inl ⟨by rfl, ?_⟩) (by assumption) ?_
                rotate_left
                · (intro w hSw; (try dsimp only at hSw); go_simp; try with_reducible rfl)
                try simp only [Act.put, List.setIfInBounds_toArray, List.set_cons_zero, List.set_cons_succ]
                refine wpAnyH_take (i := 16) (oi := ⟨some 125, _, _, _, _, _⟩) (v := ?_) rfl (by kernel_rfl) (by kernel_rfl) (by kernel_rfl) (fun _ _ _ h => h) (Or.inl ⟨by rfl, ?_⟩) (by assumption) ?_
                rotate_left
                · (intro w hSw; (try dsimp only at hSw); go_simp; try with_reducible rfl)
                try simp only [Act.put, List.setIfInBounds_toArray, List.set_cons_zero, List.set_cons_succ]
                refine wpAnyH_take (i := 17) (oi := ⟨some 126, _, _, _, _, _⟩) (v := ?_) rfl (by kernel_rfl) (by kernel_rfl) (by kernel_rfl) (fun _ _ _ h => h) (Or.inl ⟨by rfl, ?_⟩) (by assumption) ?_
                rotate_left
                · (intro w hSw; (try dsimp only at hSw); go_simp; try with_reducible rfl)
                try simp only [Act.put, List.setIfInBounds_toArray, List.set_cons_zero, List.set_cons_succ]
                refine wpAnyH_take (i := 18) (oi := ⟨some 127, _, _, _, _, _⟩) (v := ?_) rfl (by kernel_rfl) (by kernel_rfl) (by kernel_rfl) (fun _ _ _ h => h) (Or.inl ⟨by rfl, ?_⟩) (by assumption) ?_
                rotate_left
                · (intro w hSw; (try dsimp only at hSw); go_simp; try with_reducible rfl)
                try simp only [Act.put, List.setIfInBounds_toArray, List.set_cons_zero, List.set_cons_succ]
                refine wpAnyH_take (i := 19) (oi := ⟨some 128, _, _, _, _, _⟩) (v := ?_) rfl (by kernel_rfl) (by kernel_rfl) (by kernel_rfl) (fun _ _ _ h => h) (Or.inl ⟨by rfl, ?_⟩) (by assumption) ?_
                rotate_left
                · (intro w hSw; (try dsimp only at hSw); go_simp; try with_reducible rfl)
                try simp only [Act.put, List.setIfInBounds_toArray, List.set_cons_zero, List.set_cons_succ]
                refine wpAnyH_take (i := 20) (oi := ⟨some 129, _, _, _, _, _⟩) (v := ?_) rfl (by kernel_rfl) (by kernel_rfl) (by kernel_rfl) (fun _ _ _ h => h) (Or.inl ⟨by rfl, ?_⟩) (by assumption) ?_
                rotate_left
                · (intro w hSw; (try dsimp only at hSw); go_simp; try with_reducible rfl)
                try simp only [Act.put, List.setIfInBounds_toArray, List.set_cons_zero, List.set_cons_succ]
                refine wpAnyH_take (i := 21) (oi := ⟨some 130, _, _, _, _, _⟩) (v := ?_) rfl (by kernel_rfl) (by kernel_rfl) (by kernel_rfl) (fun _ _ _ h => h) (Or.inl ⟨by rfl, ?_⟩) (by assumption) ?_
                rotate_left
                · (intro w hSw; (try dsimp only at hSw); go_simp; try with_reducible rfl)
                try simp only [Act.put, List.setIfInBounds_toArray, List.set_cons_zero, List.set_cons_succ]
                refine wpAnyH_take (i := 22) (oi := ⟨some 131, _, _, _, _, _⟩) (v := ?_) rfl (by kernel_rfl) (by kernel_rfl) (by kernel_rfl) (fun _ _ _ h => h) (Or.inl ⟨by rfl, ?_⟩) (by assumption) ?_
                rotate_left
                · (intro w hSw; (try dsimp only at hSw); go_simp; try with_reducible rfl)
                try simp only [Act.put, List.setIfInBounds_toArray, List.set_cons_zero, List.set_cons_succ]
                refine wpAnyH_take (i := 23) (oi := ⟨some 132, _, _, _, _, _⟩) (v := ?_) rfl (by kernel_rfl) (by kernel_rfl) (by kernel_rfl) (fun _ _ _ h => h) (Or.inl ⟨by rfl, ?_⟩) (by assumption) ?_
                rotate_left
                · (intro w hSw; (try dsimp only at hSw); go_simp; try with_reducible rfl)
                try simp only [Act.put, List.setIfInBounds_toArray, List.set_cons_zero, List.set_cons_succ]
                refine wpAnyH_take (i := 24) (oi := ⟨some 133, _, _, _, _, _⟩) (v := ?_) rfl (by kernel_rfl) (by kernel_rfl) (by kernel_rfl) (fun _ _ _ h => h) (Or.inl ⟨by rfl, ?_⟩) (by assumption) ?_
                rotate_left
                · (intro w hSw; (try dsimp only at hSw); go_simp; try with_reducible rfl)
                try simp only [Act.put, List.setIfInBounds_toArray, List.set_cons_zero, List.set_cons_succ]
                refine wpAnyH_take (i := 25) (oi := ⟨some 134, _, _, _, _, _⟩) (v := ?_) rfl (by kernel_rfl) (by kernel_rfl) (by kernel_rfl) (fun _ _ _ h => h) (Or.inl ⟨by rfl, ?_⟩) (by assumption) ?_
                rotate_left
                · (intro w hSw; (try dsimp only at hSw); go_simp; try with_reducible rfl)
                try simp only [Act.put, List.setIfInBounds_toArray, List.set_cons_zero, List.set_cons_succ]
                refine wpAnyH_take (i := 26) (oi := ⟨some 135, _, _, _, _, _⟩) (v := ?_) rfl (by kernel_rfl) (by kernel_rfl) (by kernel_rfl) (fun _ _ _ h => h) (Or.inl ⟨by rfl, ?_⟩) (by assumption) ?_
                rotate_left
                · (intro w hSw; (try dsimp only at hSw); go_simp; try with_reducible rfl)
                try simp only [Act.put, List.setIfInBounds_toArray, List.set_cons_zero, List.set_cons_succ]
                refine wpAnyH_done (by kernel_rfl) ?_ _
                go_wp2
                go_roundw
                case rel => exact ⟨k + 1, by have := HL3b.out; omega, by go_num, HOK3, by first | exact HK5 | exact Lib.hid HK5.out.drew, by first | exact HB5 | exact Lib.hid HB5.out.drew⟩
                case measure => have := HL3b.out; simp [intOf]; omega
              · have HOK2 := Lib.hid (show dbOk 0 p.ls = false by have hq2 := of_decide_eq_true hq; rw [HOK.out, decide_eq_false (show ¬ last < yo by omega), Bool.false_and])
                go_wp2_with (fail)
                refine wp_region_held_drew (S := fun W => W.cell? ⟨w.heap.size, 9, none⟩ = some (.slice (some ⟨b, off, none⟩) n3 z3) ∧ W.cell? ⟨b, off + k * 3, none⟩ = some (.int .i64 yo) ∧ W.cell? ⟨b, off + k * 3 + 1, none⟩ = some (.int .i64 ys) ∧ W.cell? ⟨b, off + k * 3 + 2, none⟩ = some (.slice Au nu cu) ∧ W.cell? ⟨b, off + (k - 1) * 3, none⟩ = some (.int .i64 last)) (by kernel_rfl) ?_ (fun hHeld => ?_)
                · exact ⟨p9, c0, c1_, c2_, c3_⟩
                refine wpAnyH_take (i := 0) (oi := ⟨some 109, _, _, _, _, _⟩) (v := ?_) rfl (by kernel_rfl) (by kernel_rfl) (by kernel_rfl) (fun _ _ _ h => h) (Or.inl ⟨by rfl, ?_⟩) (by assumption) ?_
                rotate_left
                · (intro w hSw; (try dsimp only at hSw); go_simp; try with_reducible rfl)
                try simp only [Act.put, List.setIfInBounds_toArray, List.set_cons_zero, List.set_cons_succ]
                refine wpAnyH_take (i := 1) (oi := ⟨some 110, _, _, _, _, _⟩) (v := ?_) rfl (by kernel_rfl) (by kernel_rfl) (by kernel_rfl) (fun _ _ _ h => h) (Or.inl ⟨by rfl, ?_⟩) (by assumption) ?_
                rotate_left
                · (intro w hSw; (try dsimp only at hSw); go_simp; try with_reducible rfl)
                try simp only [Act.put, List.setIfInBounds_toArray, List.set_cons_zero, List.set_cons_succ]
                refine wpAnyH_take (i := 2) (oi := ⟨some 111, _, _, _, _, _⟩) (v := ?_) rfl (by kernel_rfl) (by kernel_rfl) (by kernel_rfl) (fun _ _ _ h => h) (Or.inl ⟨by rfl, ?_⟩) (by assumption) ?_
                rotate_left
                · (intro w hSw; (try dsimp only at hSw); go_simp; try with_reducible rfl)
                try simp only [Act.put, List.setIfInBounds_toArray, List.set_cons_zero, List.set_cons_succ]
                refine wpAnyH_take (i := 3) (oi := ⟨some 112, _, _, _, _, _⟩) (v := ?_) rfl (by kernel_rfl) (by kernel_rfl) (by kernel_rfl) (fun _ _ _ h => h) (Or.inl ⟨by rfl, ?_⟩) (by assumption) ?_
                rotate_left
                · (intro w hSw; (try dsimp only at hSw); go_simp; try with_reducible rfl)
                try simp only [Act.put, List.setIfInBounds_toArray, List.set_cons_zero, List.set_cons_succ]
                refine wpAnyH_take (i := 4) (oi := ⟨some 113, _, _, _, _, _⟩) (v := ?_) rfl (by kernel_rfl) (by kernel_rfl) (by kernel_rfl) (fun _ _ _ h => h) (Or.inl ⟨by rfl, ?_⟩) (by assumption) ?_
                rotate_left
                · (intro w hSw; (try dsimp only at hSw); go_simp; try with_reducible rfl)
                try simp only [Act.put, List.setIfInBounds_toArray, List.set_cons_zero, List.set_cons_succ]
                refine wpAnyH_ready (rs := [5]) (by kernel_rfl) (by simp) (AllReadyH.cons (o := ⟨some 114, _, _, _, _, _⟩) rfl (fun K hK => ?_) AllReadyH.nil)
                go_simp
                (go_at_call 26; (refine (MY.out _ (by first | with_reducible exact (Below.refl _ _).drew | with_reducible exact Below.refl _ _)).mono ?_); rintro e w5 ⟨rfl, hb5⟩; have hb5 : Below wr.heap.size wr w5 := ⟨hb5.os, hb5.tape, hb5.output, hb5.size, hb5.block⟩; have q9 := (hb5.cell (p := ⟨w.heap.size, 9, none⟩) hgw).trans p9; have q0 := (hb5.cell (p := ⟨b, off + k * 3, none⟩) hbw).trans c0; have q1 := (hb5.cell (p := ⟨b, off + k * 3 + 1, none⟩) hbw).trans c1_; have q2 := (hb5.cell (p := ⟨b, off + k * 3 + 2, none⟩) hbw).trans c2_; have q3 := (hb5.cell (p := ⟨b, off + (k - 1) * 3, none⟩) hbw).trans c3_; have HK5 := Lib.hid (K0.out.below hb5 hgw); have HB5 := Lib.hid (HB.out.trans (hb5.mono hws)); clear hb5)
                refine hK.out _ _ ?_ (fun hHeld => ?_)
                · exact ⟨q9, q0, q1, q2, q3⟩
                clear hK K
                try simp only [Act.put, List.setIfInBounds_toArray, List.set_cons_zero, List.set_cons_succ]
                refine wpAnyH_take (i := 6) (oi := ⟨some 115, _, _, _, _, _⟩) (v := ?_) rfl (by kernel_rfl) (by kernel_rfl) (by kernel_rfl) (fun _ _ _ h => h) (Or.inl ⟨by rfl, ?_⟩) (by assumption) ?_
                rotate_left
                · (intro w hSw; (try dsimp only at hSw); go_simp; try with_reducible rfl)
                try simp only [Act.put, List.setIfInBounds_toArray, List.set_cons_zero, List.set_cons_succ]
                refine wpAnyH_take (i := 7) (oi := ⟨some 116, _, _, _, _, _⟩) (v := ?_) rfl (by kernel_rfl) (by kernel_rfl) (by kernel_rfl) (fun _ _ _ h => h) (Or.inl ⟨by rfl, ?_⟩) (by assumption) ?_
                rotate_left
                · (intro w hSw; (try dsimp only at hSw); go_simp; try with_reducible rfl)
                try simp only [Act.put, List.setIfInBounds_toArray, List.set_cons_zero, List.set_cons_succ]
                refine wpAnyH_take (i := 8) (oi := ⟨some 117, _, _, _, _, _⟩) (v := ?_) rfl (by kernel_rfl) (by kernel_rfl) (by kernel_rfl) (fun _ _ _ h => h) (Or.inl ⟨by rfl, ?_⟩) (by assumption) ?_
                rotate_left
                · (intro w hSw; (try dsimp only at hSw); go_simp; try with_reducible rfl)
                try simp only [Act.put, List.setIfInBounds_toArray, List.set_cons_zero, List.set_cons_succ]
                refine wpAnyH_take (i := 9) (oi := ⟨some 118, _, _, _, _, _⟩) (v := ?_) rfl (by kernel_rfl) (by kernel_rfl) (by kernel_rfl) (fun _ _ _ h => h) (Or.inl ⟨by rfl, ?_⟩) (by assumption) ?_
                rotate_left
                · (intro w hSw; (try dsimp only at hSw); go_simp; try with_reducible rfl)
                try simp only [Act.put, List.setIfInBounds_toArray, List.set_cons_zero, List.set_cons_succ]
                refine wpAnyH_take (i := 10) (oi := ⟨some 119, _, _, _, _, _⟩) (v := ?_) rfl (by kernel_rfl) (by kernel_rfl) (by kernel_rfl) (fun _ _ _ h => h) (Or.inl ⟨by rfl, ?_⟩) (by assumption) ?_
                rotate_left
                · (intro w hSw; (try dsimp only at hSw); go_simp; try with_reducible rfl)
                try simp only [Act.put, List.setIfInBounds_toArray, List.set_cons_zero, List.set_cons_succ]
                refine wpAnyH_take (i := 11) (oi := ⟨some 120, _, _, _, _, _⟩) (v := ?_) rfl (by kernel_rfl) (by kernel_rfl) (by kernel_rfl) (fun _ _ _ h => h) (Or.inl ⟨by rfl, ?_⟩) (by assumption) ?_
                rotate_left
                · (intro w hSw; (try dsimp only at hSw); go_simp; try with_reducible rfl)
                try simp only [Act.put, List.setIfInBounds_toArray, List.set_cons_zero, List.set_cons_succ]
                refine wpAnyH_take (i := 12) (oi := ⟨some 121, _, _, _, _, _⟩) (v := ?_) rfl (by kernel_rfl) (by kernel_rfl) (by kernel_rfl) (fun _ _ _ h => h) (Or.inl ⟨by rfl, ?_⟩) (by assumption) ?_
                rotate_left
                · (intro w hSw; (try dsimp only at hSw); go_simp; try with_reducible rfl)
                try simp only [Act.put, List.setIfInBounds_toArray, List.set_cons_zero, List.set_cons_succ]
                refine wpAnyH_take (i := 13) (oi := ⟨some 122, _, _, _, _, _⟩) (v := ?_) rfl (by kernel_rfl) (by kernel_rfl) (by kernel_rfl) (fun _ _ _ h => h) (Or.inl ⟨by rfl, ?_⟩) (by assumption) ?_
                rotate_left
                · (intro w hSw; (try dsimp only at hSw); go_simp; try with_reducible rfl)
                try simp only [Act.put, List.setIfInBounds_toArray, List.set_cons_zero, List.set_cons_succ]
                refine wpAnyH_take (i := 14) (oi := ⟨some 123, _, _, _, _, _⟩) (v := ?_) rfl (by kernel_rfl) (by kernel_rfl) (by kernel_rfl) (fun _ _ _ h => h) (Or.inl ⟨by rfl, ?_⟩) (by assumption) ?_
                rotate_left
                · (intro w hSw; (try dsimp only at hSw); go_simp; try with_reducible rfl)
                try simp only [Act.put, List.setIfInBounds_toArray, List.set_cons_zero, List.set_cons_succ]
                refine wpAnyH_take (i := 15) (oi := ⟨some 124, _, _, _, _, _⟩) (v := ?_) rfl (by kernel_rfl) (by kernel_rfl) (by kernel_rfl) (fun _ _ _ h => h) (Or.inl ⟨by rfl, ?_⟩) (by assumption) ?_
                rotate_left
                · (intro w hSw; (try dsimp only at hSw); go_simp; try with_reducible rfl)
                try simp only [Act.put, List.setIfInBounds_toArray, List.set_cons_zero, List.set_cons_succ]
                refine wpAnyH_take (i := 16) (oi := ⟨some 125, _, _, _, _, _⟩) (v := ?_) rfl (by kernel_rfl) (by kernel_rfl) (by kernel_rfl) (fun _ _ _ h => h) (Or.inl ⟨by rfl, ?_⟩) (by assumption) ?_
                rotate_left
                · (intro w hSw; (try dsimp only at hSw); go_simp; try with_reducible rfl)
                try simp only [Act.put, List.setIfInBounds_toArray, List.set_cons_zero, List.set_cons_succ]
                refine wpAnyH_take (i := 17) (oi := ⟨some 126, _, _, _, _, _⟩) (v := ?_) rfl (by kernel_rfl) (by kernel_rfl) (by kernel_rfl) (fun _ _ _ h => h) (Or.inl ⟨by rfl, ?_⟩) (by assumption) ?_
                rotate_left
                · (intro w hSw; (try dsimp only at hSw); go_simp; try with_reducible rfl)
                try simp only [Act.put, List.setIfInBounds_toArray, List.set_cons_zero, List.set_cons_succ]
                refine wpAnyH_take (i := 18) (oi := ⟨some 127, _, _, _, _, _⟩) (v := ?_) rfl (by kernel_rfl) (by kernel_rfl) (by kernel_rfl) (fun _ _ _ h => h) (Or.inl ⟨by rfl, ?_⟩) (by assumption) ?_
                rotate_left
                · (intro w hSw; (try dsimp only at hSw); go_simp; try with_reducible rfl)
                try simp only [Act.put, List.setIfInBounds_toArray, List.set_cons_zero, List.set_cons_succ]
                refine wpAnyH_take (i := 19) (oi := ⟨some 128, _, _, _, _, _⟩) (v := ?_) rfl (by kernel_rfl) (by kernel_rfl) (by kernel_rfl) (fun _ _ _ h => h) (Or.inl ⟨by rfl, ?_⟩) (by assumption) ?_
                rotate_left
                · (intro w hSw; (try dsimp only at hSw); go_simp; try with_reducible rfl)
                try simp only [Act.put, List.setIfInBounds_toArray, List.set_cons_zero, List.set_cons_succ]
                refine wpAnyH_take (i := 20) (oi := ⟨some 129, _, _, _, _, _⟩) (v := ?_) rfl (by kernel_rfl) (by kernel_rfl) (by kernel_rfl) (fun _ _ _ h => h) (Or.inl ⟨by rfl, ?_⟩) (by assumption) ?_
                rotate_left
                · (intro w hSw; (try dsimp only at hSw); go_simp; try with_reducible rfl)
                try simp only [Act.put, List.setIfInBounds_toArray, List.set_cons_zero, List.set_cons_succ]
                refine wpAnyH_take (i := 21) (oi := ⟨some 130, _, _, _, _, _⟩) (v := ?_) rfl (by kernel_rfl) (by kernel_rfl) (by kernel_rfl) (fun _ _ _ h => h) (Or.inl ⟨by rfl, ?_⟩) (by assumption) ?_
                rotate_left
                · (intro w hSw; (try dsimp only at hSw); go_simp; try with_reducible rfl)
                try simp only [Act.put, List.setIfInBounds_toArray, List.set_cons_zero, List.set_cons_succ]
                refine wpAnyH_take (i := 22) (oi := ⟨some 131, _, _, _, _, _⟩) (v := ?_) rfl (by kernel_rfl) (by kernel_rfl) (by kernel_rfl) (fun _ _ _ h => h) (Or.inl ⟨by rfl, ?_⟩) (by assumption) ?_
                rotate_left
                · (intro w hSw; (try dsimp only at hSw); go_simp; try with_reducible rfl)
                try simp only [Act.put, List.setIfInBounds_toArray, List.set_cons_zero, List.set_cons_succ]
                refine wpAnyH_take (i := 23) (oi := ⟨some 132, _, _, _, _, _⟩) (v := ?_) rfl (by kernel_rfl) (by kernel_rfl) (by kernel_rfl) (fun _ _ _ h => h) (Or.inl ⟨by rfl, ?_⟩) (by assumption) ?_
                rotate_left
                · (intro w hSw; (try dsimp only at hSw); go_simp; try with_reducible rfl)
                try simp only [Act.put, List.setIfInBounds_toArray, List.set_cons_zero, List.set_cons_succ]
                refine wpAnyH_take (i := 24) (oi := ⟨some 133, _, _, _, _, _⟩) (v := ?_) rfl (by kernel_rfl) (by kernel_rfl) (by kernel_rfl) (fun _ _ _ h => h) (Or.inl ⟨by rfl, ?_⟩) (by assumption) ?_
                rotate_left
                · (intro w hSw; (try dsimp only at hSw); go_simp; try with_reducible rfl)
                try simp only [Act.put, List.setIfInBounds_toArray, List.set_cons_zero, List.set_cons_succ]
                refine wpAnyH_take (i := 25) (oi := ⟨some 134, _, _, _, _, _⟩) (v := ?_) rfl (by kernel_rfl) (by kernel_rfl) (by kernel_rfl) (fun _ _ _ h => h) (Or.inl ⟨by rfl, ?_⟩) (by assumption) ?_
                rotate_left
                · (intro w hSw; (try dsimp only at hSw); go_simp; try with_reducible rfl)
                try simp only [Act.put, List.setIfInBounds_toArray, List.set_cons_zero, List.set_cons_succ]
                refine wpAnyH_take (i := 26) (oi := ⟨some 135, _, _, _, _, _⟩) (v := ?_) rfl (by kernel_rfl) (by kernel_rfl) (by kernel_rfl) (fun _ _ _ h => h) (Or.inl ⟨by rfl, ?_⟩) (by assumption) ?_
                rotate_left
                · (intro w hSw; (try dsimp only at hSw); go_simp; try with_reducible rfl)
                try simp only [Act.put, List.setIfInBounds_toArray, List.set_cons_zero, List.set_cons_succ]
                refine wpAnyH_done (by kernel_rfl) ?_ _
                go_wp2
                go_ret
                exact ⟨ret_bool (no_ls HOK2.out), by first | with_reducible exact HB5.out | exact HB5.out.drew⟩
        · obtain rfl : n3 = k := by omega
          have h3t : dbOk 0 p.ls = true := HOK.out.trans (by rw [List.drop_eq_nil_of_le (by have := HL3.out; omega)]; rfl)
          have HD3 := Lib.hid h3t; clear h3t HOK
          have RI := Lib.hid (fun (W : World) (hW : Below w.heap.size w W) => ritems_any A2 n2 z2 p.it W (H2.out.up hW))
          have hl2 := (lks_len H2.out).1
          have HL2 := Lib.hid hl2; clear hl2
          have hmr : itOk 0 p.it = true → mayP p = (epochs p && kindOk p) := fun e => by unfold mayP; rw [HEN.out, HD1.out, HD3.out, e]; simp only [Bool.true_and]
          have HMR := Lib.hid hmr; clear hmr
          have hmn : itOk 0 p.it = false → mayP p = false := fun e => by unfold mayP; rw [HEN.out, HD1.out, HD3.out, e]; rfl
          have HMN := Lib.hid hmn; clear hmn
          cases hit : itOk 0 p.it
          · rw [hit] at RI
            have HM := Lib.hid (HMN.out hit); clear hit
            go_wp2_with (go_at_call 27; refine (RI.out _ HB.out).mono ?_; rintro e w6 ⟨rfl, m6, rfl⟩)
            go_ret
            exact ⟨ret_bool HM.out, below_drewN HB.out _⟩
          · rw [hit] at RI
            have HM := Lib.hid (HMR.out hit); clear hit
            have hkc : p.k = 1 ∨ p.k = 2 ∨ p.k = 3 ∨ p.k = 4 ∨ p.k = 5 ∨ (p.k ≠ 1 ∧ p.k ≠ 2 ∧ p.k ≠ 3 ∧ p.k ≠ 4 ∧ p.k ≠ 5) := by omega
            clear H1 H3 HEN HD1 HD3 HMR HMN
            rcases hkc with hkc | hkc | hkc | hkc | hkc | hkc
            · have HK := Lib.hid hkc; clear hkc
              have b1 : (p.k == 1) = true := by rw [HK.out]; rfl
              have b2 : (p.k == 2) = false := beq_false_of_ne (by have := HK.out; omega)
              have b3 : (p.k == 3) = false := beq_false_of_ne (by have := HK.out; omega)
              have b4 : (p.k == 4) = false := beq_false_of_ne (by have := HK.out; omega)
              have b5 : (p.k == 5) = false := beq_false_of_ne (by have := HK.out; omega)
              go_wp2_with (go_at_call 27; refine (RI.out _ HB.out).mono ?_; rintro e w6 ⟨rfl, m6, rfl⟩)
              go_quiet (fail)
              go_wp2
              go_quiet (fail)
              go_wp2
              all_goals (go_ret; exact ⟨ret_bool (HM.out.trans (by rw [Bool.eq_iff_iff]; simp [epochs, hasE, kindOk, Lsa.win, b1, b2, b3, b4, b5, HL1.out, HL2.out, HL3.out] <;> omega)), by with_reducible repeat (first | exact HB.out | refine below_drewN ?_ _)⟩)
            · have HK := Lib.hid hkc; clear hkc
              have b1 : (p.k == 1) = false := beq_false_of_ne (by have := HK.out; omega)
              have b2 : (p.k == 2) = true := by rw [HK.out]; rfl
              have b3 : (p.k == 3) = false := beq_false_of_ne (by have := HK.out; omega)
              have b4 : (p.k == 4) = false := beq_false_of_ne (by have := HK.out; omega)
              have b5 : (p.k == 5) = false := beq_false_of_ne (by have := HK.out; omega)
              go_wp2_with (go_at_call 27; refine (RI.out _ HB.out).mono ?_; rintro e w6 ⟨rfl, m6, rfl⟩)
              go_quiet (fail)
              go_wp2
              go_quiet (fail)
              go_wp2
              all_goals (go_ret; exact ⟨ret_bool (HM.out.trans (by rw [Bool.eq_iff_iff]; simp [epochs, hasE, kindOk, Lsa.win, b1, b2, b3, b4, b5, HL1.out, HL2.out, HL3.out] <;> omega)), by with_reducible repeat (first | exact HB.out | refine below_drewN ?_ _)⟩)
            · have HK := Lib.hid hkc; clear hkc
              have b1 : (p.k == 1) = false := beq_false_of_ne (by have := HK.out; omega)
              have b2 : (p.k == 2) = false := beq_false_of_ne (by have := HK.out; omega)
              have b3 : (p.k == 3) = true := by rw [HK.out]; rfl
              have b4 : (p.k == 4) = false := beq_false_of_ne (by have := HK.out; omega)
              have b5 : (p.k == 5) = false := beq_false_of_ne (by have := HK.out; omega)
              go_wp2_with (go_at_call 27; refine (RI.out _ HB.out).mono ?_; rintro e w6 ⟨rfl, m6, rfl⟩)
              go_quiet (fail)
              go_wp2
              go_quiet (fail)
              go_wp2
              all_goals (go_ret; exact ⟨ret_bool (HM.out.trans (by rw [Bool.eq_iff_iff]; simp [epochs, hasE, kindOk, Lsa.win, b1, b2, b3, b4, b5, HL1.out, HL2.out, HL3.out] <;> omega)), by with_reducible repeat (first | exact HB.out | refine below_drewN ?_ _)⟩)
            · have HK := Lib.hid hkc; clear hkc
              have b1 : (p.k == 1) = false := beq_false_of_ne (by have := HK.out; omega)
              have b2 : (p.k == 2) = false := beq_false_of_ne (by have := HK.out; omega)
              have b3 : (p.k == 3) = false := beq_false_of_ne (by have := HK.out; omega)
              have b4 : (p.k == 4) = true := by rw [HK.out]; rfl
              have b5 : (p.k == 5) = false := beq_false_of_ne (by have := HK.out; omega)
              go_wp2_with (go_at_call 27; refine (RI.out _ HB.out).mono ?_; rintro e w6 ⟨rfl, m6, rfl⟩)
              go_quiet (fail)
              go_wp2
              go_quiet (fail)
              go_wp2
              all_goals (go_ret; exact ⟨ret_bool (HM.out.trans (by rw [Bool.eq_iff_iff]; simp [epochs, hasE, kindOk, Lsa.win, b1, b2, b3, b4, b5, HL1.out, HL2.out, HL3.out] <;> omega)), by with_reducible repeat (first | exact HB.out | refine below_drewN ?_ _)⟩)
            · have HK := Lib.hid hkc; clear hkc
              have b1 : (p.k == 1) = false := beq_false_of_ne (by have := HK.out; omega)
              have b2 : (p.k == 2) = false := beq_false_of_ne (by have := HK.out; omega)
              have b3 : (p.k == 3) = false := beq_false_of_ne (by have := HK.out; omega)
              have b4 : (p.k == 4) = false := beq_false_of_ne (by have := HK.out; omega)
              have b5 : (p.k == 5) = true := by rw [HK.out]; rfl
              go_wp2_with (go_at_call 27; refine (RI.out _ HB.out).mono ?_; rintro e w6 ⟨rfl, m6, rfl⟩)
              go_quiet (fail)
              go_wp2
              go_quiet (fail)
              go_wp2
              all_goals (go_ret; exact ⟨ret_bool (HM.out.trans (by rw [Bool.eq_iff_iff]; simp [epochs, hasE, kindOk, Lsa.win, b1, b2, b3, b4, b5, HL1.out, HL2.out, HL3.out] <;> omega)), by with_reducible repeat (first | exact HB.out | refine below_drewN ?_ _)⟩)
            · have HK := Lib.hid hkc; clear hkc
              have b1 : (p.k == 1) = false := beq_false_of_ne (by have := HK.out; omega)
              have b2 : (p.k == 2) = false := beq_false_of_ne (by have := HK.out; omega)
              have b3 : (p.k == 3) = false := beq_false_of_ne (by have := HK.out; omega)
              have b4 : (p.k == 4) = false := beq_false_of_ne (by have := HK.out; omega)
              have b5 : (p.k == 5) = false := beq_false_of_ne (by have := HK.out; omega)
              go_wp2_with (go_at_call 27; refine (RI.out _ HB.out).mono ?_; rintro e w6 ⟨rfl, m6, rfl⟩)
              go_quiet (fail)
              go_wp2
              go_quiet (fail)
              go_wp2
              all_goals (go_ret; exact ⟨ret_bool (HM.out.trans (by rw [Bool.eq_iff_iff]; simp [epochs, hasE, kindOk, Lsa.win, b1, b2, b3, b4, b5, HL1.out, HL2.out, HL3.out] <;> omega)), by with_reducible repeat (first | exact HB.out | refine below_drewN ?_ _)⟩)
/-- May answers what the document says -/
theorem rmay_pk (p : Pk) (A1 A2 A3 : Option Addr) (n1 z1 n2 z2 n3 z3 : Nat) (w : World) (h : PkM w w.heap.size (.slice A1 n1 z1) (.slice A2 n2 z2) (.slice A3 n3 z3) p) :
    Calls Try.prog 10 #[pkV p (.slice A1 n1 z1) (.slice A2 n2 z2) (.slice A3 n3 z3)] w fun e w' => e = .returned (.bool (mayP p)) ∧ Below w.heap.size w w' := by
  cases he : ends p
  · exact rmay_ends p A1 A2 A3 n1 z1 n2 z2 n3 z3 w he
  · exact rmay_go p A1 A2 A3 n1 z1 n2 z2 n3 z3 w he h
end Go.Proofs.Ytpolpppnajfhdaa.Pkt
