/- The document's own answers of layer 11, that look: waymarkref11.Seq, Get, Epoch; waymarkref09.All; waymarkref11.Same, May. -/
import Derived.Test.YtpolpppnajfhdaaPgBasMem
import Derived.Test.YtpolpppnajfhdaaPgChgRefMay
import Derived.Test.YtpolpppnajfhdaaPgLsaSame
import Derived.Deep.RegionHeld3
namespace Go.Proofs.Ytpolpppnajfhdaa.Bas
open Go.RowKit Go.Proofs.Ytpolpppnajfhdaa.Mem Go.Proofs.Ytpolpppnajfhdaa.Oct Go.Proofs.Ytpolpppnajfhdaa.Lsa Go.Proofs.Ytpolpppnajfhdaa.Chg
set_option linter.unusedVariables false
set_option linter.unusedSimpArgs false
theorem sameL_eq (a b : La) : sameL a b = sameB a.o a.s a.ls b.o b.s b.ls := rfl
set_option maxRecDepth 20000 in
set_option maxHeartbeats 8000000 in
theorem rall_db (A A' : Option Addr) (n n' c c' : Nat) (d e : List La) (w : World) (h : Las w w.heap.size (.slice A n c) d) (h' : Las w w.heap.size (.slice A' n' c') e) :
    Calls Try.prog 32 #[.slice A n c, .slice A' n' c'] w fun e_ w' => e_ = .returned (.bool (sameDb d e)) ∧ Below w.heap.size w w' := by
  obtain ⟨hl, hnc, hcm, _⟩ := las_len h
  obtain ⟨hl', hnc', hcm', _⟩ := las_len h'
  unfold maxLen at hcm hcm'
  by_cases hn : n = n'
  · subst hn
    have HL := Lib.hid hl; clear hl
    have HL' := Lib.hid hl'; clear hl'
    have HS := Lib.hid h; clear h
    have HS' := Lib.hid h'; clear h'
    obtain ⟨z, hz⟩ : ∃ z, z = sameDb d e := ⟨_, rfl⟩
    rw [← hz]
    have HZ := Lib.hid hz; clear hz
    have hbn : ((n : Int) != (n : Int)) = false := by simp
    go_enter Try.func32, Try.ntmps32
    go_wp2
    go_loopw [5] (fun i wr => ∃ k : Nat, k ≤ n ∧ i = .int .i64 k ∧ Hid (z = sameDb (d.drop k) (e.drop k)) ∧ Hid (Below w.heap.size w wr)) (fun i _ => n - (intOf i).toNat)
    case atStart => exact ⟨0, Nat.zero_le _, rfl, HZ, Lib.hid (Below.refl _ _)⟩
    case round =>
      obtain ⟨k, hk, rfl, HZ2, HBW⟩ := hrel
      by_cases hlt : k < n
      · obtain ⟨b, off, rfl, hb, hc⟩ := las_at HS.out (by omega)
        obtain ⟨b', off', rfl, hb', hc'⟩ := las_at HS'.out (by omega)
        obtain ⟨u, hr, hk2⟩ := hc k hlt
        obtain ⟨u', hr', hk2'⟩ := hc' k hlt
        have c0 := (HBW.out.cell (p := ⟨b, off + k * 3 + 0, none⟩) hb).trans (hr 0 _ rfl)
        have c1 := (HBW.out.cell (p := ⟨b, off + k * 3 + 1, none⟩) hb).trans (hr 1 _ rfl)
        have c2_ := (HBW.out.cell (p := ⟨b, off + k * 3 + 2, none⟩) hb).trans (hr 2 _ rfl)
        have d0 := (HBW.out.cell (p := ⟨b', off' + k * 3 + 0, none⟩) hb').trans (hr' 0 _ rfl)
        have d1 := (HBW.out.cell (p := ⟨b', off' + k * 3 + 1, none⟩) hb').trans (hr' 1 _ rfl)
        have d2 := (HBW.out.cell (p := ⟨b', off' + k * 3 + 2, none⟩) hb').trans (hr' 2 _ rfl)
        rw [Nat.add_zero] at c0 d0
        have hz := HZ2.out
        rw [sameDb_step d e k (by have := HL.out; omega) (by have := HL'.out; omega), sameL_eq] at hz
        clear hc hr hc' hr'
        generalize d.getD k zeroL = x at *
        generalize e.getD k zeroL = y at *
        obtain ⟨xo, xs, xl⟩ := x
        obtain ⟨yo, ys, yl⟩ := y
        simp only at c0 c1 c2_ d0 d1 d2 hz hk2 hk2'
        have hws := HBW.out.size
        have sm := rsame_lsa xo xs yo ys u u' xl yl wr.drew (hk2.below HBW.out (Nat.le_refl _) |>.more hws) (hk2'.below HBW.out (Nat.le_refl _) |>.more hws)
        have hbb : b < wr.heap.size := by omega
        have hbb' : b' < wr.heap.size := by omega
        clear hk2 hk2'
        cases hsb : sameB xo xs xl yo ys yl
        all_goals
          rw [hsb] at hz sm
          have SM := Lib.hid sm; clear sm
          have HZ3 := Lib.hid hz; clear hz
          go_wp2_with (fail)
          go_region_held3 (fun W => W.cell? ⟨b, off + k * 3, none⟩ = some (.int .i64 xo) ∧ W.cell? ⟨b, off + k * 3 + 1, none⟩ = some (.int .i64 xs) ∧ W.cell? ⟨b, off + k * 3 + 2, none⟩ = some u ∧ W.cell? ⟨b', off' + k * 3, none⟩ = some (.int .i64 yo) ∧ W.cell? ⟨b', off' + k * 3 + 1, none⟩ = some (.int .i64 ys) ∧ W.cell? ⟨b', off' + k * 3 + 2, none⟩ = some u')
            (first
              | with_reducible exact ⟨c0, c1, c2_, d0, d1, d2⟩
              | with_reducible exact ⟨e0, e1, e2, f0, f1, f2⟩
              | go_keep)
            (first | (go_at_call 52; refine (SM.out).mono ?_; rintro e w6 ⟨rfl, hb6⟩; have hb6 : Below wr.heap.size wr w6 := ⟨hb6.os, hb6.tape, hb6.output, hb6.size, hb6.block⟩; have e0 := (hb6.cell (p := ⟨b, off + k * 3, none⟩) hbb).trans c0; have e1 := (hb6.cell (p := ⟨b, off + k * 3 + 1, none⟩) hbb).trans c1; have e2 := (hb6.cell (p := ⟨b, off + k * 3 + 2, none⟩) hbb).trans c2_; have f0 := (hb6.cell (p := ⟨b', off' + k * 3, none⟩) hbb').trans d0; have f1 := (hb6.cell (p := ⟨b', off' + k * 3 + 1, none⟩) hbb').trans d1; have f2 := (hb6.cell (p := ⟨b', off' + k * 3 + 2, none⟩) hbb').trans d2; have HB6 := Lib.hid (low_low HBW.out hb6); clear hb6))
        · go_wp2
          go_ret
          exact ⟨ret_bool (by simp [HZ3.out]), HB6.out⟩
        · go_wp2
          go_roundw
          case rel => exact ⟨k + 1, by omega, by go_num, Lib.hid (by have := HZ3.out; rwa [Bool.true_and] at this), HB6⟩
          case measure => simp [intOf]; omega
      · obtain rfl : k = n := by omega
        have hz := HZ2.out
        rw [List.drop_eq_nil_of_le (by have := HL.out; omega), List.drop_eq_nil_of_le (by have := HL'.out; omega)] at hz
        have HZ3 := Lib.hid hz; clear hz
        go_wp2
        go_ret
        exact ⟨ret_bool (by simp [HZ3.out, sameDb]), HBW.out⟩
  · have hb : ((n : Int) != (n' : Int)) = true := by rw [bne_iff_ne]; omega
    have hd : sameDb d e = false := by
      rw [Bool.eq_false_iff]
      intro hh
      have := sameDb_iff.1 hh
      exact hn (by rw [← hl, ← hl', this])
    rw [hd]
    go_enter Try.func32, Try.ntmps32
    go_wp2
    go_ret
    exact ⟨rfl, Below.refl _ _⟩
end Go.Proofs.Ytpolpppnajfhdaa.Bas
