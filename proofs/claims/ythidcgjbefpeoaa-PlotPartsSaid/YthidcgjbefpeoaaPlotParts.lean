/- PlotParts: for every number of sectors and every generation the law returns true and its arguments read as before: each sector belongs to one. No condition. -/
import Derived.Test.YthidcgjbefpeoaaPlotMay
import Derived.Test.YthidcgjbefpeoaaOpen
import Derived.Deep.OwnRows
import Derived.WalkKit
import Derived.ProofKit
import Derived.OpenShut
import Derived.ShutString
import Derived.ChangeOld
import Derived.Below
namespace Go.Proofs.Ythidcgjbefpeoaa.plotParts
open Go.Proofs.Ythidcgjbefpeoaa.Mem Go.Proofs.Ythidcgjbefpeoaa.Plt
open Go.ChangeShapes Go.WideShapes Go.ChangeAt Go.RowKit
set_option linter.unusedVariables false
set_option linter.unusedSimpArgs false
theorem own : ownKnob Try.prog.godebug = none := by kernel_rfl
theorem laidOut : laidOutB Try.prog = true := by kernel_rfl
/-- a row of numbers, told by a function of the place -/
def ints (n : Nat) (F : Nat → Int) : Array Value := ((List.range n).map fun j => Value.int .i64 (F j)).toArray
theorem ints_get {n i : Nat} (F : Nat → Int) (h : i < n) : (ints n F)[i]? = some (.int .i64 (F i)) := by simp [ints, h]
theorem ints_same {n : Nat} {F F' : Nat → Int} (h : ∀ j, j < n → F j = F' j) : ints n F = ints n F' := by
  unfold ints
  congr 1
  exact List.map_congr_left fun j hj => by rw [h j (List.mem_range.1 hj)]
theorem ints_set {n i : Nat} {v : Int} {F F' : Nat → Int} (hi : F' i = v) (ho : ∀ j, j < n → j ≠ i → F' j = F j) : (ints n F).setIfInBounds i (.int .i64 v) = ints n F' := by
  apply Array.ext
  · simp [ints]
  · intro j h1 h2
    have hj : j < n := by simpa [ints] using h2
    by_cases e : i = j
    · subst e
      simp [ints, hi]
    · rw [Array.getElem_setIfInBounds_ne (by simpa [ints] using hj) e]
      simp [ints, ho j hj (Ne.symm e)]
theorem made_ints (n : Nat) : madeCells #[Value.int .i64 0] n = ints n (fun _ => 0) := by
  apply Array.ext
  · simp [madeCells, ints]
  · intro i h1 h2
    simp [madeCells, ints, Nat.mod_one]
theorem info_int : (Try.prog.info? 3).map (fun i => (i.zero, i.size, i.bytes)) = some (some (.int .i64 0), 1, 8) := by kernel_rfl
theorem make_ints (n : Nat) (hn : n ≤ 1024) (w : World) : (Instr.makeSlice 35 (.int .i64 (n : Nat)) (.int .i64 (n : Nat))).run Try.prog w = .ok (.slice (some ⟨w.heap.size, 0, none⟩) n n) (w.alloc (.cells (ints n fun _ => 0) 3)) := by
  have := run_make_row' (P := Try.prog) 35 3 (.int .i64 0) 8 Try.underlying35 info_int rfl .i64 .i64 n (by omega) (by omega) w
  rw [made_ints] at this
  exact this
/-- one, from a place on, up to another -/
def cnt (a b j : Nat) : Int := if a ≤ j ∧ j < b then 1 else 0
theorem cnt_in {a b j : Nat} (h : a ≤ j) (h2 : j < b) : cnt a b j = 1 := by unfold cnt; rw [if_pos ⟨h, h2⟩]
theorem cnt_out {a b j : Nat} (h : ¬ (a ≤ j ∧ j < b)) : cnt a b j = 0 := by unfold cnt; rw [if_neg h]
theorem cnt_next {a i j : Nat} (h : j ≠ i) : cnt a (i + 1) j = cnt a i j := by
  unfold cnt
  have : (a ≤ j ∧ j < i + 1) ↔ (a ≤ j ∧ j < i) := by omega
  simp only [this]
theorem cnt_none (a j : Nat) : cnt a a j = 0 := cnt_out (by omega)
/-- each place is once in three rows that follow each other -/
theorem cnt_all {s n a b c d : Nat} (h : a = 0 ∧ b = s ∧ c = s ∧ d = 2 * s ∨ a = s ∧ b = 2 * s ∧ c = 0 ∧ d = s) (j : Nat) (hj : j < n) : cnt a b j + cnt c d j + cnt (2 * s) n j = 1 := by
  unfold cnt
  rcases h with ⟨rfl, rfl, rfl, rfl⟩ | ⟨rfl, rfl, rfl, rfl⟩ <;> split <;> split <;> split <;> omega
/-- the law's memory: how often each sector was met, and the plot -/
structure St (w wr : World) (gp gh k s : Nat) (F : Nat → Int) : Prop where
  row : Blk wr gh 3 (ints k F)
  plot : Blk wr gp 23 #[.int .i64 s, .int .i64 (2 * (s : Int)), .int .i64 ((k : Int) - 2 * s)]
  below : Below w.heap.size w wr
  own : w.heap.size ≤ gh
theorem St.call {w wr w2 : World} {gp gh k s : Nat} {F : Nat → Int} (h : St w wr gp gh k s F) (hb : Below wr.heap.size wr w2) : St w w2 gp gh k s F :=
  ⟨h.row.below hb h.row.lt, h.plot.below hb h.plot.lt, h.below.trans (hb.mono h.below.size), h.own⟩
theorem St.step {w wr : World} {gp gh k s i : Nat} {v : Int} {F F' : Nat → Int} (h : St w wr gp gh k s F) (hi : F' i = v) (ho : ∀ j, j < k → j ≠ i → F' j = F j) : St w (wr.setCell ⟨gh, i, none⟩ (.int .i64 v)) gp gh k s F' := by
  refine ⟨?_, h.plot.far (p := ⟨gh, i, none⟩) (h.plot.ne_ h.row (by decide)) _, h.below.setCell h.own _, h.own⟩
  have := h.row.set_ i (.int .i64 v)
  rwa [ints_set hi ho] at this
theorem St.same {w wr : World} {gp gh k s : Nat} {F F' : Nat → Int} (h : St w wr gp gh k s F) (he : ∀ j, j < k → F j = F' j) : St w wr gp gh k s F' :=
  ⟨by rw [← ints_same he]; exact h.row, h.plot, h.below, h.own⟩
theorem St.at_ {w wr : World} {gp gh k s i : Nat} {v : Int} {F : Nat → Int} (h : St w wr gp gh k s F) (hi : i < k) (hv : F i = v) : wr.cell? ⟨gh, i, none⟩ = some (.int .i64 v) := by
  rw [h.row.cell i, ints_get F hi, hv]
/-- where the slots of a generation and of the next one are -/
theorem slots_of {k : Nat} {gen : Int} (h6 : 6 ≤ k) (h2 : k ≤ 1024) (h0 : 0 ≤ gen) : ∃ a b c d : Nat, (a = 0 ∧ b = sl k ∧ c = sl k ∧ d = 2 * sl k ∨ a = sl k ∧ b = 2 * sl k ∧ c = 0 ∧ d = sl k) ∧
    fromI (sl k : Nat) (2 * (sl k : Nat)) ((k : Int) - 2 * (sl k : Nat)) gen = a ∧ toI (sl k : Nat) (2 * (sl k : Nat)) ((k : Int) - 2 * (sl k : Nat)) gen = b ∧
    fromI (sl k : Nat) (2 * (sl k : Nat)) ((k : Int) - 2 * (sl k : Nat)) (gen + 1) = c ∧ toI (sl k : Nat) (2 * (sl k : Nat)) ((k : Int) - 2 * (sl k : Nat)) (gen + 1) = d := by
  have hm := may_mk k h6 h2
  have hc : ∀ g : Int, 0 ≤ g → ¬ (g < 0 ∨ may (sl k : Nat) (2 * (sl k : Nat)) ((k : Int) - 2 * (sl k : Nat)) = false) := fun g hg => by rw [hm]; simp; omega
  unfold fromI toI
  rw [if_neg (hc _ h0), if_neg (hc _ h0), if_neg (hc _ (by omega)), if_neg (hc _ (by omega))]
  have he : gen % 2 = 0 ∧ (gen + 1) % 2 = 1 ∨ gen % 2 = 1 ∧ (gen + 1) % 2 = 0 := by omega
  rcases he with ⟨e1, e2⟩ | ⟨e1, e2⟩
  · exact ⟨0, sl k, sl k, 2 * sl k, .inl ⟨rfl, rfl, rfl, rfl⟩, by rw [e1]; omega, by rw [e1]; omega, by rw [e2]; omega, by rw [e2]; omega⟩
  · exact ⟨sl k, 2 * sl k, 0, sl k, .inr ⟨rfl, rfl, rfl, rfl⟩, by rw [e1]; omega, by rw [e1]; omega, by rw [e2]; omega, by rw [e2]; omega⟩
set_option maxHeartbeats 1000000 in
theorem walk_low (n gen : Int) (w : World) (h : n < 6) :
    Calls Try.prog 4 #[.int .i64 n, .int .i64 gen] w fun e w' => e = .returned (.bool true) ∧ Below w.heap.size w w' := by
  have h0 : decide (n < 6) = true := by simpa using h
  have mk := fun (W : World) => make_no n W (by omega)
  have MK := Lib.hid mk; clear mk
  go_enter Try.func4, Try.ntmps4
  go_wp2_with (first
    | (go_at_call 5; refine (MK.out _).mono ?_; rintro e w1 ⟨rfl, hb1⟩)
    | (go_at_call 10; refine (awake6_any _).mono ?_; rintro e w2 ⟨rfl, hb2⟩))
  go_ret
  exact ⟨rfl, (hb1.alloc hb1.size _).trans (hb2.mono (Nat.le_trans hb1.size (by simp)))⟩
set_option maxHeartbeats 1000000 in
theorem walk_high (n gen : Int) (w : World) (h : 1024 < n) :
    Calls Try.prog 4 #[.int .i64 n, .int .i64 gen] w fun e w' => e = .returned (.bool true) ∧ Below w.heap.size w w' := by
  have h0 : decide (n < 6) = false := by simp; omega
  have h1 : decide (1024 < n) = true := by simpa using h
  have mk := fun (W : World) => make_no n W (by omega)
  have MK := Lib.hid mk; clear mk
  go_enter Try.func4, Try.ntmps4
  go_wp2_with (first
    | (go_at_call 5; refine (MK.out _).mono ?_; rintro e w1 ⟨rfl, hb1⟩)
    | (go_at_call 10; refine (awake6_any _).mono ?_; rintro e w2 ⟨rfl, hb2⟩))
  go_ret
  exact ⟨rfl, (hb1.alloc hb1.size _).trans (hb2.mono (Nat.le_trans hb1.size (by simp)))⟩
set_option maxHeartbeats 1000000 in
theorem walk_neg (n gen : Int) (w : World) (h6 : 6 ≤ n) (hk : n ≤ 1024) (h : gen < 0) :
    Calls Try.prog 4 #[.int .i64 n, .int .i64 gen] w fun e w' => e = .returned (.bool true) ∧ Below w.heap.size w w' := by
  have h0 : decide (n < 6) = false := by simp; omega
  have h1 : decide (1024 < n) = false := by simp; omega
  have h2 : decide (gen < 0) = true := by simpa using h
  obtain ⟨x, y, z, mk⟩ : ∃ x y z : Int, ∀ W, Calls Try.prog 5 #[.int .i64 n] W fun e w' => e = .returned (.tuple #[plV x y z, .int .i64 0]) ∧ Below W.heap.size W w' := by
    obtain ⟨k, rfl⟩ : ∃ k : Nat, n = k := ⟨n.toNat, by omega⟩
    exact ⟨_, _, _, fun W => make_yes k W (by omega) (by omega)⟩
  have MK := Lib.hid mk; clear mk
  go_enter Try.func4, Try.ntmps4
  go_wp2_with (first
    | (go_at_call 5; refine (MK.out _).mono ?_; rintro e w1 ⟨rfl, hb1⟩)
    | (go_at_call 10; refine (awake6_any _).mono ?_; rintro e w2 ⟨rfl, hb2⟩))
  go_ret
  exact ⟨rfl, (hb1.alloc hb1.size _).trans (hb2.mono (Nat.le_trans hb1.size (by simp)))⟩
set_option maxHeartbeats 1000000 in
theorem walk_far (n gen : Int) (w : World) (h6 : 6 ≤ n) (hk : n ≤ 1024) (h : 1099511627776 ≤ gen) :
    Calls Try.prog 4 #[.int .i64 n, .int .i64 gen] w fun e w' => e = .returned (.bool true) ∧ Below w.heap.size w w' := by
  have h0 : decide (n < 6) = false := by simp; omega
  have h1 : decide (1024 < n) = false := by simp; omega
  have h2 : decide (gen < 0) = false := by simp; omega
  have h3 : decide (1099511627776 ≤ gen) = true := by simpa using h
  obtain ⟨x, y, z, mk⟩ : ∃ x y z : Int, ∀ W, Calls Try.prog 5 #[.int .i64 n] W fun e w' => e = .returned (.tuple #[plV x y z, .int .i64 0]) ∧ Below W.heap.size W w' := by
    obtain ⟨k, rfl⟩ : ∃ k : Nat, n = k := ⟨n.toNat, by omega⟩
    exact ⟨_, _, _, fun W => make_yes k W (by omega) (by omega)⟩
  have MK := Lib.hid mk; clear mk
  go_enter Try.func4, Try.ntmps4
  go_wp2_with (first
    | (go_at_call 5; refine (MK.out _).mono ?_; rintro e w1 ⟨rfl, hb1⟩)
    | (go_at_call 10; refine (awake6_any _).mono ?_; rintro e w2 ⟨rfl, hb2⟩))
  go_ret
  exact ⟨rfl, (hb1.alloc hb1.size _).trans (hb2.mono (Nat.le_trans hb1.size (by simp)))⟩
set_option maxHeartbeats 8000000 in
theorem walk_in (k : Nat) (gen : Int) (w : World) (h6 : 6 ≤ k) (hk : k ≤ 1024) (hg0 : 0 ≤ gen) (hg1 : gen < 1099511627776) :
    Calls Try.prog 4 #[.int .i64 k, .int .i64 gen] w fun e w' => e = .returned (.bool true) ∧ Below w.heap.size w w' := by
  have d0 : decide ((k : Int) < 6) = false := by simp; omega
  have d1 : decide (1024 < (k : Int)) = false := by simp; omega
  have d2 : decide (gen < 0) = false := by simp; omega
  have d3 : decide (1099511627776 ≤ gen) = false := by simp; omega
  have mk := fun (W : World) => make_yes k W h6 hk
  have hs := sl_le k
  have hs1 := sl_pos (k := k) (by omega)
  obtain ⟨a, b, c, d, habcd, e1, e2, e3, e4⟩ := slots_of h6 hk hg0
  have st := fun (g : Int) (hg : g ≤ 9223372036854775807) (V : World) => slot_any (sl k : Nat) (2 * (sl k : Nat)) ((k : Int) - 2 * (sl k : Nat)) g V hg
  have st1 := st gen (by omega)
  have st2 := st (gen + 1) (by omega)
  rw [e1, e2] at st1
  rw [e3, e4] at st2
  have at_ : ∀ (i : Nat) (V : World), Calls Try.prog 8 #[plV (sl k : Nat) (2 * (sl k : Nat)) ((k : Int) - 2 * (sl k : Nat)), .int .i64 i] V fun e w' => e = .returned (.int .i64 (if i < k - 2 * sl k then ((2 * sl k + i : Nat) : Int) else -1)) ∧ Below V.heap.size V w' := by
    intro i V
    have h := at_any (sl k : Nat) (2 * (sl k : Nat)) ((k : Int) - 2 * (sl k : Nat)) i V
    have hm := may_mk k h6 hk
    have e : atI (sl k : Nat) (2 * (sl k : Nat)) ((k : Int) - 2 * (sl k : Nat)) i = (if i < k - 2 * sl k then ((2 * sl k + i : Nat) : Int) else -1) := by
      unfold atI
      by_cases hi : i < k - 2 * sl k
      · rw [if_pos hi, if_neg (by rw [hm]; simp; omega)]; omega
      · rw [if_neg hi, if_pos (by right; left; omega)]
    rwa [e] at h
  clear st e1 e2 e3 e4
  have hmk := make_ints k hk
  generalize sl k = s at *
  have b1 : a < b ∧ b ≤ k ∧ c < d ∧ d ≤ k := by omega
  have q0 : decide ((a : Int) < 0) = false := by simp
  have q1 : decide ((k : Int) < b) = false := by simp; omega
  have q2 : decide ((c : Int) < 0) = false := by simp
  have q3 : decide ((k : Int) < d) = false := by simp; omega
  have q4 : ((b : Int) - a != (d : Int) - c) = false := by simp; omega
  have q6 : decide (k < b) = false := by simp; omega
  have q7 : decide (k < d) = false := by simp; omega
  have q8 : decide (b ≤ a) = false := by simp; omega
  have q5 : decide ((b : Int) ≤ a) = false := by simp; omega
  have HC := Lib.hid (cnt_all (n := k) habcd)
  have HABCD := Lib.hid habcd; clear habcd
  have MK := Lib.hid mk; clear mk
  have ST1 := Lib.hid st1; clear st1
  have ST2 := Lib.hid st2; clear st2
  have AT := Lib.hid at_; clear at_
  go_enter Try.func4, Try.ntmps4
  go_wp2_with (first
    | (go_at_call 5; refine (MK.out _).mono ?_; rintro e w1 ⟨rfl, hb⟩; have HB1 := Lib.hid hb; clear hb)
    | (go_at_call 7; first
      | (have zz := F1; refine (ST2.out _).mono ?_; rintro e w3 ⟨rfl, hb⟩; have KP3 := Lib.hid (KP2.out.below hb KP2.out.lt); have HB3 := Lib.hid (HB2.out.trans (hb.mono HB2.out.size)); clear g0 g1 g2 hb)
      | (refine (ST1.out _).mono ?_; rintro e w2 ⟨rfl, hb⟩; have F1 := Lib.hid trivial; have KP2 := Lib.hid ((Blk.new w1 23 #[.int .i64 s, .int .i64 (2 * (s : Int)), .int .i64 ((k : Int) - 2 * s)]).below hb (by simp)); have HB2 := Lib.hid ((HB1.out.alloc HB1.out.size _).trans (hb.mono (Nat.le_trans HB1.out.size (by simp)))); obtain ⟨g0, g1, g2, hz⟩ := cells3 hb; clear hb)))
  have hS0 : St w (w3.alloc (.cells (ints k fun _ => 0) 3)) w1.heap.size w3.heap.size k s (fun j => cnt a a j) :=
    (St.mk (F := fun _ => 0) (Blk.new w3 _ _) (KP3.out.alloc _) (HB3.out.alloc HB3.out.size _) HB3.out.size).same fun j hj => (cnt_none a j).symm
  have HS0 := Lib.hid hS0; clear hS0 hmk KP3 KP2 HB3 HB2 HB1
  generalize w3.alloc (.cells (ints k fun _ => 0) 3) = wa at *
  generalize w1.heap.size = gp at *
  generalize w3.heap.size = gh at *
  go_loopw [12] (fun i wr => (∃ n : Nat, a ≤ n ∧ n ≤ b ∧ i = .int .i64 n ∧ St w wr gp gh k s (fun j => cnt a n j))) (fun i _ => b - (intOf i).toNat)
  case atStart => exact ⟨a, Nat.le_refl _, by omega, rfl, HS0.out⟩
  case round =>
    obtain ⟨n, hn, hn2, rfl, hst⟩ := hrel
    by_cases hlt : n < b
    · have hnk : n < k := by omega
      have hc := hst.at_ hnk (v := 0) (cnt_out (by omega))
      have hf := hst.row.frozen n
      have HST := Lib.hid hst; clear hst
      go_wp2
      go_roundw
      case rel => exact ⟨n + 1, by omega, by omega, by go_num, HST.out.step (cnt_in hn (by omega)) (fun j _ hj => cnt_next hj)⟩
      case measure => simp [intOf]; omega
    · obtain rfl : b = n := by omega
      have HST := Lib.hid hst; clear hst
      go_wp2
      have hS1 : St w wr gp gh k s (fun j => cnt a b j + cnt c c j) := HST.out.same fun j hj => by rw [cnt_none]; omega
      have HS1 := Lib.hid hS1; clear hS1 HST HS0
      go_loopw [13] (fun i wr => (∃ n : Nat, c ≤ n ∧ n ≤ d ∧ i = .int .i64 n ∧ St w wr gp gh k s (fun j => cnt a b j + cnt c n j))) (fun i _ => d - (intOf i).toNat)
      case atStart => exact ⟨c, Nat.le_refl _, by omega, rfl, HS1.out⟩
      case round =>
        obtain ⟨n, hn, hn2, rfl, hst⟩ := hrel
        by_cases hlt : n < d
        · have hnk : n < k := by omega
          have e0 : cnt a b n = 0 := cnt_out (by have := HABCD.out; omega)
          have hc := hst.at_ hnk (v := 0) (by rw [e0, cnt_out (by omega)]; rfl)
          have hf := hst.row.frozen n
          have E0 := Lib.hid e0; clear e0
          have HST := Lib.hid hst; clear hst
          go_wp2
          go_roundw
          case rel => exact ⟨n + 1, by omega, by omega, by go_num, HST.out.step (by rw [E0.out, cnt_in hn (by omega)]; rfl) (fun j _ hj => by rw [cnt_next hj])⟩
          case measure => simp [intOf]; omega
        · obtain rfl : d = n := by omega
          have HST := Lib.hid hst; clear hst
          go_wp2
          have hS2 : St w wr gp gh k s (fun j => cnt a b j + cnt c d j + cnt (2 * s) (min (2 * s + 0) k) j) := HST.out.same fun j hj => by rw [show min (2 * s + 0) k = 2 * s by omega, cnt_none]; omega
          have HS2 := Lib.hid hS2; clear hS2 HST HS1
          go_loopw [14] (fun i wr => (∃ n : Nat, n ≤ k ∧ i = .int .i64 n ∧ St w wr gp gh k s (fun j => cnt a b j + cnt c d j + cnt (2 * s) (min (2 * s + n) k) j))) (fun i _ => k - (intOf i).toNat)
          case atStart => exact ⟨0, by omega, rfl, HS2.out⟩
          case round =>
            obtain ⟨n, hn, rfl, hst⟩ := hrel
            by_cases hlt : n < k
            · have g0 := hst.plot.cell 0; have g1 := hst.plot.cell 1; have g2 := hst.plot.cell 2
              simp at g0 g1 g2
              have at1 := AT.out n
              have HST := Lib.hid hst; clear hst
              by_cases hin : n < k - 2 * s
              · rw [if_pos hin] at at1
                obtain ⟨m, hm⟩ : ∃ m, m = 2 * s + n := ⟨_, rfl⟩
                rw [← hm] at at1
                have AT1 := Lib.hid at1; clear at1
                have hmk : m < k := by omega
                have m0 : decide ((k : Int) ≤ m) = false := by simp; omega
                have HM := Lib.hid hm; clear hm
                go_wp2_with (go_at_call 8; refine (AT1.out _).mono ?_; rintro e w4 ⟨rfl, hb⟩; have hst2 := HST.out.call hb; have hc := hst2.at_ hmk (v := 0) (by have := HM.out; have h1 := HABCD.out; rw [cnt_out (by omega), cnt_out (by omega), cnt_out (by omega)]; rfl); have hf := hst2.row.frozen m; have HST2 := Lib.hid hst2; clear hst2 hb g0 g1 g2)
                go_roundw
                case rel => exact ⟨n + 1, by omega, by go_num, HST2.out.step (by have := HM.out; have h1 := HABCD.out; rw [cnt_out (by omega), cnt_out (by omega), cnt_in (by omega) (by omega)]; rfl) (fun j _ hj => by have := HM.out; rw [show min (2 * s + (n + 1)) k = m + 1 by omega, cnt_next hj, show min (2 * s + n) k = m by omega])⟩
                case measure => simp [intOf]; omega
              · rw [if_neg hin] at at1
                have AT1 := Lib.hid at1; clear at1
                have m0 : decide ((k : Int) ≤ -1) = false := by simp; omega
                go_wp2_with (go_at_call 8; refine (AT1.out _).mono ?_; rintro e w4 ⟨rfl, hb⟩; have HST2 := Lib.hid (HST.out.call hb); clear hb g0 g1 g2)
                go_roundw
                case rel => exact ⟨n + 1, by omega, by go_num, HST2.out.same fun j _ => by rw [show min (2 * s + (n + 1)) k = min (2 * s + n) k by omega]⟩
                case measure => simp [intOf]; omega
            · obtain rfl : k = n := by omega
              have HST := Lib.hid hst; clear hst
              go_wp2
              have hS3 : St w wr gp gh k s (fun _ => 1) := HST.out.same fun j hj => by rw [show min (2 * s + k) k = k by omega]; exact HC.out j hj
              have HS3 := Lib.hid hS3; clear hS3 HST HS2
              go_loopw [16] (fun i wr => (∃ n : Nat, n ≤ k ∧ i = .int .i64 n ∧ St w wr gp gh k s (fun _ => 1))) (fun i _ => k - (intOf i).toNat)
              case atStart => exact ⟨0, by omega, rfl, HS3.out⟩
              case round =>
                obtain ⟨n, hn, rfl, hst⟩ := hrel
                by_cases hlt : n < k
                · have hc := hst.at_ hlt (v := 1) rfl
                  have HST := Lib.hid hst; clear hst
                  go_wp2
                  go_roundw
                  case rel => exact ⟨n + 1, by omega, by go_num, HST.out⟩
                  case measure => simp [intOf]; omega
                · obtain rfl : k = n := by omega
                  have HST := Lib.hid hst; clear hst
                  go_wp2_with (go_at_call 10; refine (awake6_any _).mono ?_; rintro e w9 ⟨rfl, hb9⟩)
                  go_ret
                  exact ⟨rfl, HST.out.below.trans (hb9.mono HST.out.below.size)⟩
theorem walk (a0 a1 : Int) (w : World) (w0 : (Lit.int .i64 a0).wf = true) (w1 : (Lit.int .i64 a1).wf = true) :
    Calls Try.prog 4 #[.int .i64 a0, .int .i64 a1] w fun e w' => e = .returned (.bool true) ∧ Below w.heap.size w w' := by
  rcases Int.lt_or_le a0 6 with h | h
  · exact walk_low a0 a1 w h
  · rcases Int.lt_or_le 1024 a0 with h2 | h2
    · exact walk_high a0 a1 w h2
    · rcases Int.lt_or_le a1 0 with h3 | h3
      · exact walk_neg a0 a1 w h h2 h3
      · rcases Int.lt_or_le a1 1099511627776 with h4 | h4
        · obtain ⟨k, rfl⟩ : ∃ k : Nat, a0 = k := ⟨a0.toNat, by omega⟩
          exact walk_in k a1 w (by omega) (by omega) h3 h4
        · exact walk_far a0 a1 w h h2 h4
/-! the step from the walk to the row -/
set_option maxRecDepth 100000 in
theorem lifted (os : Os) (started : os.Started) (H : Type) (enc : TypeId × Value → H) :
    ReturnsInHanded {} Try.checked os 4 .any (Rows.plotPartsSpec.pre6 enc Try.prog Try.f4 Rows.plotPartsRow.domain false) (Rows.plotPartsSpec.post enc Try.prog Try.f4 false true false false) := by
  refine returnsInHanded_of_change (C := Try.checked) own started (by kernel_rfl) Try.func4
    (ChangeSpec.witness6 (enc := enc) (C := Try.checked) false ⟨#[], #[.int .i64 0, .int .i64 0], []⟩ 8 (by kernel_rfl) (by kernel_rfl) (by kernel_rfl) (by kernel_rfl)) ?_
  intro W base args ds gs before hval0 hW hcnd _
  have hval : ∀ (j : Nat) t v, Try.f4.params[j]? = some t → args[j]? = some v → Value.okWide Try.prog W .any base t v := hval0
  have hW' := hW
  obtain ⟨p, q, hA0, hV, rfl, hfz, hnd⟩ := hW
  have hA : DataW.TrodAll enc Try.prog W 0 (fun _ => true) true Try.f4.params.toList args.toList ds p := hA0
  rw [Try.params4] at hA hval
  obtain ⟨v0, vs0, d0, ds0, p0, q0, hargs, rfl, rfl, h0, r0⟩ := trodAll_cons hA
  obtain ⟨v1, vs1, d1, ds1, p1, q1, rfl, rfl, rfl, h1, r1⟩ := trodAll_cons r0
  obtain ⟨rfl, rfl, rfl⟩ := trodAll_nil r1
  obtain rfl : args = #[v0, v1] := by cases args; simp_all
  obtain ⟨rfl, rfl⟩ := trodVars_none hV
  obtain ⟨a0, rfl, rfl, rfl, w0⟩ := open_int Try.underlying3 (hval 0 3 v0 rfl rfl) h0
  obtain ⟨a1, rfl, rfl, rfl, w1⟩ := open_int Try.underlying3 (hval 1 3 v1 rfl rfl) h1
  clear hA0 hval0
  refine (walk a0 a1 W w0 w1).mono fun e W' ⟨he, bel⟩ => ?_
  subst he
  exact ⟨_, rfl, _, _, _, [], _, [], hW', trodAll_mk1 (shut_bool Try.underlying4 _), (trodAll_cons_mk (shut_int Try.underlying3 w0) (trodAll_cons_mk (shut_int Try.underlying3 w1) trodAll_mk0)), rfl, bel.frame _, fun h => by cases h⟩

theorem over : Rows.plotPartsRow.holds Try.pinned (OpenSpec.ofChange Rows.plotPartsSpec) :=
  OpenClaim.holds_of_wide 4 Try.f4 rfl rfl rfl rfl rfl rfl rfl ⟨rfl, rfl, rfl, rfl, rfl⟩ rfl rfl rfl rfl rfl (by kernel_rfl) Try.func4 (by kernel_rfl)
    (of_decide_eq_true (by kernel_rfl)) (by unfold Func.isWrapper; first | (rw [if_pos (by decide +kernel)]; kernel_rfl) | (rw [if_neg (by decide +kernel)]; exact ⟨rfl, rfl⟩))
    (fun os started H enc _ => lifted os started H enc)

/-- the statement -/
theorem proved : Rows.PlotPartsSaid := over
end Go.Proofs.Ythidcgjbefpeoaa.plotParts
