/- Which Lsas there may be (layer 9): the contracts of lsa.isWithin, lsa.Check and the reference's May. -/
import Derived.Test.YtpolpppnajfhdaaPgLsaMem
import Derived.BigQuiet
import Derived.Deep.QuietTactic
namespace Go.Proofs.Ytpolpppnajfhdaa.Lsa
open Go.RowKit Go.Proofs.Ytpolpppnajfhdaa.Mem Go.Proofs.Ytpolpppnajfhdaa.Oct
set_option linter.unusedVariables false
set_option linter.unusedSimpArgs false
set_option maxHeartbeats 400000 in
theorem within_any (n hi : Int) (w : World) :
    Calls Try.prog 69 #[.int .i64 n, .int .i64 hi] w fun e w' => e = .returned (.bool (win n hi)) ∧ w = w' := by
  unfold win
  cases h1 : decide (1 ≤ n)
  · go_enter Try.func69, Try.ntmps69
    go_wp2
    go_ret
    exact ⟨rfl, rfl⟩
  · go_enter Try.func69, Try.ntmps69
    go_wp2
    go_ret
    exact ⟨ret_bool (by simp), rfl⟩
def errI (b : Bool) : Int := if b then 0 else 1
theorem errI_t : errI true = 0 := rfl
theorem errI_f : errI false = 1 := rfl
theorem blk_cells3 {w : World} {g : Nat} {t : TypeId} {a b c : Value} (h : Blk w g t #[a, b, c]) : w.cell? ⟨g, 0, none⟩ = some a ∧ w.cell? ⟨g, 1, none⟩ = some b ∧ w.cell? ⟨g, 2, none⟩ = some c ∧ g < w.heap.size :=
  ⟨by rw [h.cell]; rfl, by rw [h.cell]; rfl, by rw [h.cell]; rfl, h.lt⟩
theorem palloc {B : Nat} {w wr : World} (h : Below B w wr) (o : Obj) (hB : B ≤ wr.heap.size) : Below B w (wr.alloc o) := h.alloc hB o
set_option maxRecDepth 20000 in
set_option maxHeartbeats 4000000 in
theorem check_any (o s : Int) (A : Option Addr) (n c : Nat) (ls : List Lk) (w : World) (h : Lks w w.heap.size (.slice A n c) ls) :
    Calls Try.prog 63 #[lsaV o s (.slice A n c)] w fun e w' => e = .returned (.int .i64 (errI (may o s ls))) ∧ Below w.heap.size w w' := by
  obtain ⟨hl, hnc, hcm, _⟩ := lks_len h
  unfold maxLen at hcm
  have hle : decide (n ≤ 16) = decide (ls.length ≤ 16) := by rw [hl]
  have hgt : decide ((16 : Int) < n) = !decide (ls.length ≤ 16) := by rw [hl, ← decide_not]; exact decide_eq_decide.2 (by omega)
  have HL := Lib.hid hl; clear hl
  have hbel : Below w.heap.size w (w.alloc (.cells #[.int .i64 o, .int .i64 s, .slice A n c] 49)) := palloc (Below.refl _ _) _ (Nat.le_refl _)
  have HBEL := Lib.hid hbel; clear hbel
  have HS := Lib.hid h; clear h
  clear hle
  unfold may
  cases h1 : win o 64
  · go_enter Try.func63, Try.ntmps63
    go_wp2_with (go_at_call 69; refine (within_any _ _ _).mono ?_; rintro e w' ⟨rfl, rfl⟩)
    go_ret
    exact ⟨rfl, HBEL.out⟩
  cases h2 : win s 4611686018427387904
  · go_enter Try.func63, Try.ntmps63
    go_wp2_with (go_at_call 69; refine (within_any _ _ _).mono ?_; rintro e w' ⟨rfl, rfl⟩)
    go_ret
    exact ⟨rfl, HBEL.out⟩
  cases h3 : decide (ls.length ≤ 16)
  · rw [h3] at hgt
    simp only [Bool.not_false] at hgt
    go_enter Try.func63, Try.ntmps63
    go_wp2_with (go_at_call 69; refine (within_any _ _ _).mono ?_; rintro e w' ⟨rfl, rfl⟩)
    go_ret
    exact ⟨rfl, HBEL.out⟩
  rw [h3] at hgt
  simp only [Bool.not_true] at hgt
  simp only [Bool.true_and]
  clear h3
  go_enter Try.func63, Try.ntmps63
  go_wp2_with (go_at_call 69; refine (within_any _ _ _).mono ?_; rintro e w' ⟨rfl, rfl⟩)
  go_loopw [3, 25] (fun z i wr => ∃ (k : Nat) (last : Int), k ≤ n ∧ i = .int .i64 k ∧ z = .int .i64 last ∧ linksOk o 0 ls = linksOk o last (ls.drop k) ∧ Blk wr w.heap.size 49 #[.int .i64 o, .int .i64 s, .slice A n c] ∧ Below w.heap.size w wr) (fun _ i _ => n - (intOf i).toNat)
  case atStart => exact ⟨0, 0, Nat.zero_le _, rfl, rfl, rfl, Blk.new _ _ _, HBEL.out⟩
  case round =>
    obtain ⟨k, last, hk, rfl, rfl, hok, hblk, hbw⟩ := hrel
    obtain ⟨d0, d1, d2, hlt0⟩ := blk_cells3 hblk
    have hws := hbw.size
    have HBK := Lib.hid hblk; clear hblk
    have HB := Lib.hid hbw; clear hbw
    by_cases hlt : k < n
    · obtain ⟨b, off, rfl, hb, hc⟩ := lks_at HS.out (by omega)
      obtain ⟨c0, c1⟩ := hc k hlt
      replace c0 := (HB.out.cell (p := ⟨b, off + k * 2, none⟩) hb).trans c0
      replace c1 := (HB.out.cell (p := ⟨b, off + k * 2 + 1, none⟩) hb).trans c1
      have hst := linksOk_step o last ls k (by have := HL.out; omega)
      rw [hst] at hok
      clear hst hc
      generalize ls.getD k (0, 0) = x at *
      obtain ⟨t, u⟩ := x
      simp only at c0 c1 hok
      have hb2 := palloc HB.out (.cells #[.int .i64 t, .int .i64 u] 85) hws
      have HB2 := Lib.hid hb2; clear hb2
      have HBK2 := Lib.hid (HBK.out.alloc (.cells #[.int .i64 t, .int .i64 u] 85))
      have HOK := Lib.hid hok; clear hok
      cases q1 : win t 64
      · have HOK2 := Lib.hid (show linksOk o 0 ls = false by rw [HOK.out]; simp [lkOk, *])
        go_wp2_with (go_at_call 69; refine (within_any _ _ _).mono ?_; rintro e w' ⟨rfl, rfl⟩)
        go_ret
        exact ⟨ret_int (by rw [HOK2.out, errI_f]), HB2.out⟩
      cases q2 : decide (t ≤ last)
      case true => 
        have HOK2 := Lib.hid (show linksOk o 0 ls = false by rw [HOK.out]; simp [lkOk, *])
        go_wp2_with (go_at_call 69; refine (within_any _ _ _).mono ?_; rintro e w' ⟨rfl, rfl⟩)
        go_ret
        exact ⟨ret_int (by rw [HOK2.out, errI_f]), HB2.out⟩
      cases q3 : (t == o)
      case true => 
        have HOK2 := Lib.hid (show linksOk o 0 ls = false by rw [HOK.out]; simp [lkOk, *])
        go_wp2_with (go_at_call 69; refine (within_any _ _ _).mono ?_; rintro e w' ⟨rfl, rfl⟩)
        go_ret
        exact ⟨ret_int (by rw [HOK2.out, errI_f]), HB2.out⟩
      cases q4 : win u 1073741824
      · have HOK2 := Lib.hid (show linksOk o 0 ls = false by rw [HOK.out]; simp [lkOk, *])
        go_wp2_with (go_at_call 69; refine (within_any _ _ _).mono ?_; rintro e w' ⟨rfl, rfl⟩)
        go_ret
        exact ⟨ret_int (by rw [HOK2.out, errI_f]), HB2.out⟩
      have HOK2 := Lib.hid (show linksOk o 0 ls = linksOk o t (ls.drop (k + 1)) by rw [HOK.out]; simp [lkOk, *])
      go_wp2_with (go_at_call 69; refine (within_any _ _ _).mono ?_; rintro e w' ⟨rfl, rfl⟩)
      go_roundw
      case rel => exact ⟨k + 1, t, by omega, by go_num, rfl, HOK2.out, HBK2.out, HB2.out⟩
      case measure => simp [intOf]; omega
    · obtain rfl : k = n := by omega
      have hnil : ls.drop k = [] := List.drop_eq_nil_of_le (by have := HL.out; omega)
      rw [hnil] at hok
      have HOK := Lib.hid hok; clear hok
      go_wp2
      go_ret
      exact ⟨ret_int (by rw [HOK.out]; rfl), HB.out⟩
/-- the reference's test of one link -/
def badLk (o last : Int) (k : Nat) (x : Lk) : Bool := decide (x.1 < 1) || (decide (64 < x.1) || ((x.1 == o) || (decide (x.2 < 1) || (decide (1073741824 < x.2) || (decide (0 < k) && decide (x.1 ≤ last))))))
theorem bad_ok (o : Int) (ls : List Lk) (k : Nat) (x : Lk) : lkOk o (lastOf ls k) x = !badLk o (lastOf ls k) k x := by
  rw [Bool.eq_iff_iff, lkOk_iff]
  by_cases hk : k = 0
  · subst hk
    simp [badLk, lastOf]
    omega
  · have : 0 < k := by omega
    simp [badLk, this]
    omega
theorem may_eq (o s : Int) (ls : List Lk) : may o s ls = (linksOk o 0 ls && (decide (1 ≤ o) && (decide (o ≤ 64) && (decide (1 ≤ s) && (decide (s ≤ 4611686018427387904) && decide (ls.length ≤ 16)))))) := by
  rw [Bool.eq_iff_iff, may_iff]
  by_cases hq : linksOk o 0 ls = true
  · simp [hq]
    omega
  · simp [hq]
set_option maxRecDepth 20000 in
set_option maxHeartbeats 8000000 in
theorem may_any (o s : Int) (A : Option Addr) (n c : Nat) (ls : List Lk) (w : World) (h : Lks w w.heap.size (.slice A n c) ls) :
    Calls Try.prog 26 #[lsaV o s (.slice A n c)] w fun e w' => e = .returned (.bool (may o s ls)) ∧ Below w.heap.size w w' := by
  obtain ⟨hl, hnc, hcm, _⟩ := lks_len h
  unfold maxLen at hcm
  rw [may_eq]
  have hle : decide ((n : Int) ≤ 16) = decide (ls.length ≤ 16) := by rw [hl]; exact decide_eq_decide.2 (by omega)
  have HL := Lib.hid hl; clear hl
  have hbel : Below w.heap.size w (w.alloc (.cells #[.int .i64 o, .int .i64 s, .slice A n c] 49)) := palloc (Below.refl _ _) _ (Nat.le_refl _)
  have HBEL := Lib.hid hbel; clear hbel
  have HS := Lib.hid h; clear h
  have HLE := Lib.hid hle; clear hle
  go_enter Try.func26, Try.ntmps26
  go_wp2
  go_loopw [3] (fun i wr => ∃ (k : Nat), k ≤ n ∧ i = .int .i64 k ∧ linksOk o 0 ls = linksOk o (lastOf ls k) (ls.drop k) ∧ Blk wr w.heap.size 49 #[.int .i64 o, .int .i64 s, .slice A n c] ∧ Below w.heap.size w wr) (fun i _ => n - (intOf i).toNat)
  case atStart => exact ⟨0, Nat.zero_le _, rfl, rfl, Blk.new _ _ _, HBEL.out⟩
  case round =>
    obtain ⟨k, hk, rfl, hok, hblk, hbw⟩ := hrel
    obtain ⟨d0, d1, d2, hlt0⟩ := blk_cells3 hblk
    have hws := hbw.size
    have HBK := Lib.hid hblk; clear hblk
    have HB := Lib.hid hbw; clear hbw
    by_cases hlt : k < n
    · obtain ⟨b, off, rfl, hb, hc⟩ := lks_at HS.out (by omega)
      obtain ⟨c0, c1⟩ := hc k hlt
      replace c0 := (HB.out.cell (p := ⟨b, off + k * 2, none⟩) hb).trans c0
      replace c1 := (HB.out.cell (p := ⟨b, off + k * 2 + 1, none⟩) hb).trans c1
      have cp : 0 < k → wr.cell? ⟨b, off + (k - 1) * 2, none⟩ = some (.int .i64 (lastOf ls k)) := fun h0 => by
        rw [lastOf, if_neg (by omega)]
        exact (HB.out.cell (p := ⟨b, off + (k - 1) * 2, none⟩) hb).trans (hc (k - 1) (by omega)).1
      have hst := linksOk_step o (lastOf ls k) ls k (by have := HL.out; omega)
      have hsc := lastOf_succ ls k
      rw [hst, bad_ok] at hok
      clear hst hc
      generalize ls.getD k (0, 0) = x at *
      obtain ⟨t, u⟩ := x
      simp only at c0 c1 hok hsc
      generalize lastOf ls k = last at *
      have hb2 := palloc HB.out (.cells #[.int .i64 t, .int .i64 u] 85) hws
      have HB2 := Lib.hid hb2; clear hb2
      have HBK2 := Lib.hid (HBK.out.alloc (.cells #[.int .i64 t, .int .i64 u] 85))
      have HOK := Lib.hid hok; clear hok
      have HSC := Lib.hid hsc; clear hsc
      have hbb : b ≠ wr.heap.size := by omega
      cases q1 : decide (t < 1)
      case true =>
        have HOK2 := Lib.hid (show linksOk o 0 ls = false by rw [HOK.out]; simp [badLk, *])
        go_wp2
        go_quiet (fail)
        go_wp2
        go_ret
        exact ⟨ret_bool (by rw [HOK2.out]; rfl), below_drewN HB2.out _⟩
      cases q2 : decide (64 < t)
      case true =>
        have HOK2 := Lib.hid (show linksOk o 0 ls = false by rw [HOK.out]; simp [badLk, *])
        go_wp2
        go_quiet (fail)
        go_wp2
        go_ret
        exact ⟨ret_bool (by rw [HOK2.out]; rfl), below_drewN HB2.out _⟩
      cases q3 : (t == o)
      case true =>
        have HOK2 := Lib.hid (show linksOk o 0 ls = false by rw [HOK.out]; simp [badLk, *])
        go_wp2
        go_quiet (fail)
        go_wp2
        go_ret
        exact ⟨ret_bool (by rw [HOK2.out]; rfl), below_drewN HB2.out _⟩
      cases q4 : decide (u < 1)
      case true =>
        have HOK2 := Lib.hid (show linksOk o 0 ls = false by rw [HOK.out]; simp [badLk, *])
        go_wp2
        go_quiet (fail)
        go_wp2
        go_ret
        exact ⟨ret_bool (by rw [HOK2.out]; rfl), below_drewN HB2.out _⟩
      cases q5 : decide (1073741824 < u)
      case true =>
        have HOK2 := Lib.hid (show linksOk o 0 ls = false by rw [HOK.out]; simp [badLk, *])
        go_wp2
        go_quiet (fail)
        go_wp2
        go_ret
        exact ⟨ret_bool (by rw [HOK2.out]; rfl), below_drewN HB2.out _⟩
      by_cases h0 : 0 < k
      · have g0 : decide (0 < k) = true := by simpa using h0
        have g1 : decide ((0 : Int) < (k : Int)) = true := by simpa using h0
        have e1 : ((k : Int) - 1).toNat = k - 1 := by omega
        have e2 : (0 : Int) ≤ (k : Int) - 1 := by omega
        have e3 : IntKind.i64.wrap ((k : Int) - 1) = (k : Int) - 1 := IntWalk.i64_in _ (by omega)
        have e4 : (k : Int) - 1 < (n : Int) := by omega
        have e5 : (1 : Int) ≤ (k : Int) := by omega
        have e6 : 1 ≤ k := h0
        have e7 : (k : Int) ≤ (n : Int) := by omega
        have e8 : ¬ n < k := by omega
        replace cp := (World.cell?_alloc_lt wr (Obj.cells #[.int .i64 t, .int .i64 u] 85) ⟨b, off + (k - 1) * 2, none⟩ (show b < wr.heap.size by omega)).trans (cp h0)
        cases q6 : decide (t ≤ last)
        · have HOK2 := Lib.hid (show linksOk o 0 ls = linksOk o (lastOf ls (k + 1)) (ls.drop (k + 1)) by rw [HSC.out, HOK.out]; simp [badLk, *])
          go_wp2
          go_quiet (fail)
          go_wp2
          go_roundw
          case rel => exact ⟨k + 1, by omega, by go_num, HOK2.out, HBK2.out.drewN _, below_drewN HB2.out _⟩
          case measure => simp [intOf]; omega
        · have HOK2 := Lib.hid (show linksOk o 0 ls = false by rw [HOK.out]; simp [badLk, *])
          go_wp2
          go_quiet (fail)
          go_wp2
          go_ret
          exact ⟨ret_bool (by rw [HOK2.out]; rfl), below_drewN HB2.out _⟩
      · have g0 : decide (0 < k) = false := by simpa using h0
        have g1 : decide ((0 : Int) < (k : Int)) = false := by simpa using h0
        clear cp
        have HOK2 := Lib.hid (show linksOk o 0 ls = linksOk o (lastOf ls (k + 1)) (ls.drop (k + 1)) by rw [HSC.out, HOK.out]; simp [badLk, *])
        go_wp2
        go_quiet (fail)
        go_wp2
        go_roundw
        case rel => exact ⟨k + 1, by omega, by go_num, HOK2.out, HBK2.out.drewN _, below_drewN HB2.out _⟩
        case measure => simp [intOf]; omega
    · obtain rfl : k = n := by omega
      have hnil : ls.drop k = [] := List.drop_eq_nil_of_le (by have := HL.out; omega)
      have hokt : linksOk o 0 ls = true := by rw [hok, hnil]; rfl
      clear hok hnil
      have HOK := Lib.hid hokt; clear hokt
      cases q1 : decide (1 ≤ o)
      · go_wp2
        go_ret
        exact ⟨ret_bool (by simp [HOK.out, HLE.out, *]), HB.out⟩
      cases q2 : decide (o ≤ 64)
      · go_wp2
        go_ret
        exact ⟨ret_bool (by simp [HOK.out, HLE.out, *]), HB.out⟩
      cases q3 : decide (1 ≤ s)
      · go_wp2
        go_ret
        exact ⟨ret_bool (by simp [HOK.out, HLE.out, *]), HB.out⟩
      cases q4 : decide (s ≤ 4611686018427387904)
      · go_wp2
        go_ret
        exact ⟨ret_bool (by simp [HOK.out, HLE.out, *]), HB.out⟩
      go_wp2
      go_ret
      exact ⟨ret_bool (by simp [HOK.out, HLE.out, *]), HB.out⟩
end Go.Proofs.Ytpolpppnajfhdaa.Lsa
