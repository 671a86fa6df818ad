/- The reference's Get (layer 4): the page whose sector any bytes are. -/
import Derived.Test.YtkidjlmjjfgknaaPageRef
import Derived.Test.YtkidjlmjjfgknaaPageGet
import Derived.Test.YtkidjlmjjfgknaaSame
import Derived.Deep.RegionHeld3
import Derived.Deep.CutRange
import Derived.Deep.QuietTactic
import Derived.BigQuiet
namespace Go.Proofs.Ytkidjlmjjfgknaa.Pg
open Go.RowKit Go.Proofs.Ytkidjlmjjfgknaa.Mem Go.Proofs.Ytkidjlmjjfgknaa.Oct
set_option linter.unusedVariables false
set_option linter.unusedSimpArgs false
theorem num_four_of {xs : List Nat} (h : 4 ≤ xs.length) : num (xs.take 4) = xs.getD 0 0 * 16777216 + xs.getD 1 0 * 65536 + xs.getD 2 0 * 256 + xs.getD 3 0 := by
  rw [num_take_succ xs 3 (by omega), num_take_succ xs 2 (by omega), num_take_succ xs 1 (by omega), num_take_succ xs 0 (by omega)]
  simp [num]
  omega
set_option maxRecDepth 20000 in
set_option maxHeartbeats 4000000 in
theorem number_any (A : Option Addr) (n c B : Nat) (xs : List Nat) (w : World) (h : Bts w B A n xs) (h4 : 4 ≤ n) :
    Calls Try.prog 31 #[.slice A n c] w fun e w' => e = .returned (.int .i64 (num (xs.take 4) : Nat)) ∧ ∃ m, w' = w.drewN m := by
  have hl := h.1
  rw [num_four_of (by omega)]
  have q0 := getD_lt h.2.1 0
  have q1 := getD_lt h.2.1 1
  have q2 := getD_lt h.2.1 2
  have q3 := getD_lt h.2.1 3
  obtain ⟨b, off, rfl, hb, hc⟩ := h.2.2.2 (by omega)
  have c0 := hc 0 (by omega)
  have c1 := hc 1 (by omega)
  have c2 := hc 2 (by omega)
  have c3 := hc 3 (by omega)
  rw [Nat.add_zero] at c0
  clear hc hl h
  generalize xs.getD 0 0 = x0 at *
  generalize xs.getD 1 0 = x1 at *
  generalize xs.getD 2 0 = x2 at *
  generalize xs.getD 3 0 = x3 at *
  go_enter Try.func31, Try.ntmps31
  go_wp2
  go_quiet (fail)
  go_wp2
  go_ret
  exact ⟨ret_int (by omega), _, rfl⟩
theorem count_two {xs : List Nat} (h : 20 ≤ xs.length) : count xs = xs.getD 18 0 * 256 + xs.getD 19 0 := by
  unfold count
  rw [num_take_succ (xs.drop 18) 1 (by rw [List.length_drop]; omega), num_take_succ (xs.drop 18) 0 (by rw [List.length_drop]; omega)]
  simp [num, List.getD]
theorem balloc {w w' : World} (h : Below w.heap.size w w') (o : Obj) : Below w.heap.size w (w'.alloc o) := h.alloc h.size o
theorem bdrew {w w' : World} (h : Below w.heap.size w w') : Below w.heap.size w w'.drew := h.drew
theorem bts_drop {w : World} {B n b off : Nat} {xs : List Nat} (h : Bts w B (some ⟨b, off, none⟩) n xs) (i : Nat) (hi : i < n) : Bts w B (some ⟨b, off + i, none⟩) (n - i) (xs.drop i) := by
  obtain ⟨h1, h2, h3, h4⟩ := h
  refine ⟨by rw [List.length_drop]; omega, drop_lt h2 i, by omega, fun _ => ?_⟩
  obtain ⟨b', off', e, hb, hc⟩ := h4 (by omega)
  injection e with e
  injection e with e1 e2 _
  subst e1 e2
  refine ⟨b, off + i, rfl, hb, fun j hj => ?_⟩
  have := hc (i + j) (by omega)
  rw [← Nat.add_assoc] at this
  rw [this]
  simp [List.getD]
theorem lit0 (W : World) (base g : Nat) (h : g = W.heap.size) (hB : base ≤ W.heap.size) : (W.alloc (.cells #[] 5)).ownsRow base 5 1 (.slice (some ⟨g, 0, none⟩) 0 0) 0 [] := by
  subst h
  exact World.ownsRow_lit W #[] 0 hB (by unfold maxLen; omega) rfl
theorem own_al {w : World} {base n : Nat} {v : Value} {xs : List Value} (h : w.ownsRow base 5 1 v n xs) (o : Obj) : (w.alloc o).ownsRow base 5 1 v n xs := h.alloc o
theorem own_dr {w : World} {base n : Nat} {v : Value} {xs : List Value} (h : w.ownsRow base 5 1 v n xs) : w.drew.ownsRow base 5 1 v n xs := h.drew
theorem own_drN {w : World} {base n : Nat} {v : Value} {xs : List Value} (h : w.ownsRow base 5 1 v n xs) (m : Nat) : (w.drewN m).ownsRow base 5 1 v n xs := h
theorem blk_dr {w : World} {g : Nat} {t : TypeId} {cs : Array Value} (h : Blk w g t cs) : Blk w.drew g t cs := h
theorem blk_drN {w : World} {g : Nat} {t : TypeId} {cs : Array Value} (h : Blk w g t cs) (m : Nat) : Blk (w.drewN m) g t cs := h
theorem blk_al {w : World} {g : Nat} {t : TypeId} {cs : Array Value} (h : Blk w g t cs) (o : Obj) : Blk (w.alloc o) g t cs := h.alloc o
theorem blk_nw (W : World) (g : Nat) (t : TypeId) (cs : Array Value) (h : g = W.heap.size) : Blk (W.alloc (.cells cs t)) g t cs := by
  subst h
  exact Blk.new W t cs
theorem set7_keep {w : World} {g b o : Nat} {a c d e f h i : Value} (hb : b < w.heap.size) (hn : b ≠ g) : (((((((w.setCell ⟨g, 0, none⟩ a).setCell ⟨g, 1, none⟩ c).setCell ⟨g, 2, none⟩ d).setCell ⟨g, 3, none⟩ e).setCell ⟨g, 4, none⟩ f).setCell ⟨g, 5, none⟩ h).setCell ⟨g, 6, none⟩ i).cell? ⟨b, o, none⟩ = w.cell? ⟨b, o, none⟩ := World.cell?_of_block ((set7_grown w g a c d e f h i).block b hb (by simpa using hn))
theorem kt_intro {W w5 : World} {row : Option Nat} {g : Nat} {t : TypeId} {cs : Array Value} {G : Prop} (hg : W.grownBy w5 row) (h : Blk W g t cs) (hne : some g ≠ row) (k : Blk w5 g t cs → G) : G := k (h.grown hg hne)
theorem below_of {w W w5 : World} {row : Option Nat} (hg : W.grownBy w5 row) (h : Below w.heap.size w W) : Below w.heap.size w W := h
theorem slice_lo {b off n c i : Nat} (hi : i ≤ n) (hnc : n ≤ c) (hc : i < c) (W : World) : (Instr.slice 25 (.slice (some ⟨b, off, none⟩) n c) (some (.int .i64 (i : Nat))) none none).run Try.prog W = .ok (.slice (some ⟨b, off + i, none⟩) (n - i) (c - i)) W := by
  rw [run_slice_l W _ (some ⟨b, off, none⟩) n c under22 .i64 i (by omega) (by omega), size1]
  simp only [Result.andThen, Int.toNat_natCast, sliced, Nat.mul_one, add_plain, Option.map_some]
  rw [if_neg (by omega)]
theorem slice_mid {b off n c i k : Nat} (hik : i ≤ k) (hk : k ≤ n) (hnc : n ≤ c) (hc : i < c) (W : World) : (Instr.slice 25 (.slice (some ⟨b, off, none⟩) n c) (some (.int .i64 (i : Nat))) (some (.int .i64 (k : Nat))) none).run Try.prog W = .ok (.slice (some ⟨b, off + i, none⟩) (k - i) (c - i)) W := by
  rw [run_slice_lh W _ (some ⟨b, off, none⟩) n c under22 .i64 .i64 i k (by omega) (by omega) (by omega), size1]
  simp only [Result.andThen, Int.toNat_natCast, sliced, Nat.mul_one, add_plain, Option.map_some]
  rw [if_neg (by omega)]
theorem sb_grownU {W W' : World} {m g : Nat} {v : Value} {ys : List Nat} (h : Sb W W.heap.size v ys) (hn : NoU8 W g) (hg : (W.drewN m).grownBy W' (some g)) : Sb W' W'.heap.size v ys := by
  obtain ⟨A, k, c, e, hb⟩ := h
  have hb2 : Bts (W.drewN m) W.heap.size A k ys := hb
  exact ⟨A, k, c, e, (bts_grownU hb2 hn hg).more hg.size⟩
theorem one_at {xs : List Nat} {i : Nat} (h : i < xs.length) : num ((xs.drop i).take 1) = xs.getD i 0 := by
  rw [num_take_succ (xs.drop i) 0 (by rw [List.length_drop]; omega)]
  simp [num, List.getD]
def RR (w : World) (base : Nat) (x3 g4 g8 g12 x16 x17 : Nat) (xs : List Nat) (cn : Nat) (s : Value) (wx : World) : Prop :=
  ∃ (g : Nat) (A5 : Option Addr) (c5 : Nat), s = .pointer (some ⟨g, 0, none⟩) ∧ Blk wx g 43 #[.int .i64 (x3 : Nat), .int .i64 (g4 : Nat), .int .i64 (g8 : Nat), .int .i64 (g12 : Nat), .int .i64 (x16 : Nat), .int .i64 (x17 : Nat), .slice A5 cn c5] ∧
    wx.ownsRow base 5 1 (.slice A5 cn c5) cn (vals ((xs.drop 20).take cn)) ∧ Blk wx w.heap.size 43 #[.int .i64 0, .int .i64 0, .int .i64 0, .int .i64 0, .int .i64 0, .int .i64 0, .slice none 0 0] ∧ Below w.heap.size w wx ∧ w.heap.size < g
theorem set7_blk {W : World} {g : Nat} {a b c d e f h : Value} (k : Blk W g 43 #[.int .i64 0, .int .i64 0, .int .i64 0, .int .i64 0, .int .i64 0, .int .i64 0, .slice none 0 0]) : Blk (((((((W.setCell ⟨g, 0, none⟩ a).setCell ⟨g, 1, none⟩ b).setCell ⟨g, 2, none⟩ c).setCell ⟨g, 3, none⟩ d).setCell ⟨g, 4, none⟩ e).setCell ⟨g, 5, none⟩ f).setCell ⟨g, 6, none⟩ h) g 43 #[a, b, c, d, e, f, h] := by
  have h9 := ((((((k.set_ 0 a).set_ 1 b).set_ 2 c).set_ 3 d).set_ 4 e).set_ 5 f).set_ 6 h
  simpa using h9
theorem rr_set {w W : World} {base g x3 g4 g8 g12 x16 x17 cn c5 : Nat} {A5 : Option Addr} {xs : List Nat} (k : Blk W g 43 #[.int .i64 0, .int .i64 0, .int .i64 0, .int .i64 0, .int .i64 0, .int .i64 0, .slice none 0 0]) (ho : W.ownsRow base 5 1 (.slice A5 cn c5) cn (vals ((xs.drop 20).take cn)))
    (hp : Blk W w.heap.size 43 #[.int .i64 0, .int .i64 0, .int .i64 0, .int .i64 0, .int .i64 0, .int .i64 0, .slice none 0 0]) (hb : Below w.heap.size w W) (hg : w.heap.size < g) :
    RR w base x3 g4 g8 g12 x16 x17 xs cn (.pointer (some ⟨g, 0, none⟩)) (((((((W.setCell ⟨g, 0, none⟩ (.int .i64 (x3 : Nat))).setCell ⟨g, 1, none⟩ (.int .i64 (g4 : Nat))).setCell ⟨g, 2, none⟩ (.int .i64 (g8 : Nat))).setCell ⟨g, 3, none⟩ (.int .i64 (g12 : Nat))).setCell ⟨g, 4, none⟩ (.int .i64 (x16 : Nat))).setCell ⟨g, 5, none⟩ (.int .i64 (x17 : Nat))).setCell ⟨g, 6, none⟩ (.slice A5 cn c5)) :=
  have hgr := set7_grown W g (.int .i64 (x3 : Nat)) (.int .i64 (g4 : Nat)) (.int .i64 (g8 : Nat)) (.int .i64 (g12 : Nat)) (.int .i64 (x16 : Nat)) (.int .i64 (x17 : Nat)) (.slice A5 cn c5)
  ⟨g, A5, c5, rfl, set7_blk k, ho.kept hgr (.inr (own_blk_ne ho k (by decide))), hp.grown hgr (by simp; omega), hb.grown hgr hb.size (fun q hq => by cases hq; omega), hg⟩
theorem rr_new {w W : World} {base x3 g4 g8 g12 x16 x17 cn c5 g : Nat} {A5 : Option Addr} {xs : List Nat} (ho : W.ownsRow base 5 1 (.slice A5 cn c5) cn (vals ((xs.drop 20).take cn)))
    (hp : Blk W w.heap.size 43 #[.int .i64 0, .int .i64 0, .int .i64 0, .int .i64 0, .int .i64 0, .int .i64 0, .slice none 0 0]) (hb : Below w.heap.size w W) (hg : g = W.heap.size) :
    RR w base x3 g4 g8 g12 x16 x17 xs cn (.pointer (some ⟨g, 0, none⟩)) (W.alloc (.cells #[.int .i64 (x3 : Nat), .int .i64 (g4 : Nat), .int .i64 (g8 : Nat), .int .i64 (g12 : Nat), .int .i64 (x16 : Nat), .int .i64 (x17 : Nat), .slice A5 cn c5] 43)) := by
  subst hg
  exact ⟨W.heap.size, A5, c5, rfl, Blk.new W _ _, ho.alloc _, hp.alloc _, hb.alloc hb.size _, hp.lt⟩
set_option maxRecDepth 20000 in
set_option maxHeartbeats 32000000 in
theorem rget_in (A : Option Addr) (n c : Nat) (xs : List Nat) (w : World) (h : Bts w w.heap.size A n xs) (hnc : n ≤ c) (hcm : c ≤ maxLen) (hn1 : n ≤ 512) (hn2 : 512 ≤ n) (hcn : count xs ≤ 488) :
    Calls Try.prog 18 #[.slice A n c] w fun e w' => ∃ v', e = .returned (.tuple #[v', .bool (got xs).isSome]) ∧ PgAt w' w'.heap.size v' ((got xs).getD zeroP) ∧ Below w.heap.size w w' := by
  have hl := h.1
  have hd : ((n : Int) != 512) = false := by rw [show n = 512 by omega]; rfl
  have hcc := count_two (xs := xs) (by omega)
  have hdec : decode xs = ⟨(xs.getD 3 0 : Nat), (num ((xs.drop 4).take 4) : Nat), (num ((xs.drop 8).take 4) : Nat), (num ((xs.drop 12).take 4) : Nat), (xs.getD 16 0 : Nat), (xs.getD 17 0 : Nat), (xs.drop 20).take (count xs)⟩ := by
    unfold decode count
    rw [one_at (by omega), one_at (by omega), one_at (by omega)]
  have hgot := got_place (b := xs) (by omega) hcn
  rw [hdec] at hgot
  clear hdec
  generalize count xs = cn at *
  have y3 := getD_lt h.2.1 3
  have y16 := getD_lt h.2.1 16
  have y17 := getD_lt h.2.1 17
  have y18 := getD_lt h.2.1 18
  have y19 := getD_lt h.2.1 19
  have hH := h
  obtain ⟨b, off, rfl, hb, hc⟩ := h.2.2.2 (by omega)
  have h4 := bts_drop hH 4 (by omega)
  have h8 := bts_drop hH 8 (by omega)
  have h12 := bts_drop hH 12 (by omega)
  have hb0 := (Below.refl w.heap.size w).alloc (Nat.le_refl _) (Obj.cells #[.int .i64 0, .int .i64 0, .int .i64 0, .int .i64 0, .int .i64 0, .int .i64 0, .slice none 0 0] 43)
  have hcc' := fun i (hi : i < n) => (hb0.cell (p := ⟨b, off + i, none⟩) hb).trans (hc i hi)
  have c3 := hcc' 3 (by omega)
  have c16 := hcc' 16 (by omega)
  have c17 := hcc' 17 (by omega)
  have c18 := hcc' 18 (by omega)
  have c19 := hcc' 19 (by omega)
  have kw3 := hc 3 (by omega)
  have kw16 := hc 16 (by omega)
  have kw17 := hc 17 (by omega)
  clear hc hcc' h
  generalize xs.getD 3 0 = x3 at *
  generalize xs.getD 16 0 = x16 at *
  generalize xs.getD 17 0 = x17 at *
  generalize xs.getD 18 0 = x18 at *
  generalize xs.getD 19 0 = x19 at *
  have hcv : (x18 : Int) * 256 + (x19 : Int) = (cn : Int) := by omega
  have hdc : decide (488 < (cn : Int)) = false := by simp; omega
  have n4 := fun (W : World) (hW : Below w.heap.size w W) => number_any (some ⟨b, off + 4, none⟩) (n - 4) (c - 4) _ (xs.drop 4) W (h4.below hW (Nat.le_refl _)) (by omega)
  have n8 := fun (W : World) (hW : Below w.heap.size w W) => number_any (some ⟨b, off + 8, none⟩) (n - 8) (c - 8) _ (xs.drop 8) W (h8.below hW (Nat.le_refl _)) (by omega)
  have n12 := fun (W : World) (hW : Below w.heap.size w W) => number_any (some ⟨b, off + 12, none⟩) (n - 12) (c - 12) _ (xs.drop 12) W (h12.below hW (Nat.le_refl _)) (by omega)
  have l4 : num ((xs.drop 4).take 4) < 4294967296 := by
    have h1 := num_lt ((xs.drop 4).take 4) (take_lt (drop_lt hH.2.1 4) 4)
    rw [show ((xs.drop 4).take 4).length = 4 by simp; omega] at h1
    exact h1
  have l8 : num ((xs.drop 8).take 4) < 4294967296 := by
    have h1 := num_lt ((xs.drop 8).take 4) (take_lt (drop_lt hH.2.1 8) 4)
    rw [show ((xs.drop 8).take 4).length = 4 by simp; omega] at h1
    exact h1
  have l12 : num ((xs.drop 12).take 4) < 4294967296 := by
    have h1 := num_lt ((xs.drop 12).take 4) (take_lt (drop_lt hH.2.1 12) 4)
    rw [show ((xs.drop 12).take 4).length = 4 by simp; omega] at h1
    exact h1
  generalize num ((xs.drop 4).take 4) = g4 at *
  generalize num ((xs.drop 8).take 4) = g8 at *
  generalize num ((xs.drop 12).take 4) = g12 at *
  have h20 : Bts w w.heap.size (some ⟨b, off + 20, none⟩) cn ((xs.drop 20).take cn) := (bts_drop hH 20 (by omega)).take (by omega)
  have H20 := Lib.hid h20; clear h20
  have KP0 := Lib.hid (Blk.new w 43 #[.int .i64 0, .int .i64 0, .int .i64 0, .int .i64 0, .int .i64 0, .int .i64 0, .slice none 0 0])
  obtain ⟨i1, hi, hz0, hz1, hz2⟩ := info_parts Try.info5
  have HJ := Lib.hid hi; clear hi
  have HY0 := Lib.hid hz0; clear hz0
  have HY1 := Lib.hid hz1; clear hz1
  have HY2 := Lib.hid hz2; clear hz2
  have N4 := Lib.hid n4; clear n4
  have N8 := Lib.hid n8; clear n8
  have N12 := Lib.hid n12; clear n12
  have HB0 := Lib.hid hb0; clear hb0
  have HCC := Lib.hid hcc; clear hcc
  have HGOT := Lib.hid hgot; clear hgot
  obtain ⟨gb, hgb⟩ : ∃ gb, gb = (got xs).isSome := ⟨_, rfl⟩
  obtain ⟨gp, hgp⟩ : ∃ gp, gp = (got xs).getD zeroP := ⟨_, rfl⟩
  rw [← hgb, ← hgp]
  have HGB := Lib.hid hgb; clear hgb
  have HGP := Lib.hid hgp; clear hgp
  go_enter Try.func18, Try.ntmps18
  go_wp2
  go_quiet (fail)
  go_wp2
  generalize hw1 : World.drewN (w.alloc (Obj.cells #[.int .i64 0, .int .i64 0, .int .i64 0, .int .i64 0, .int .i64 0, .int .i64 0, .slice none 0 0] 43)) _ = w1
  have HB1 := Lib.hid (show Below w.heap.size w w1 by rw [← hw1]; exact below_drewN HB0.out _)
  have k3 : w1.cell? ⟨b, off + 3, none⟩ = some (.int .u8 (x3 : Nat)) := by rw [← hw1]; exact c3
  have k16 : w1.cell? ⟨b, off + 16, none⟩ = some (.int .u8 (x16 : Nat)) := by rw [← hw1]; exact c16
  have k17 : w1.cell? ⟨b, off + 17, none⟩ = some (.int .u8 (x17 : Nat)) := by rw [← hw1]; exact c17
  have KP1 := Lib.hid (show Blk w1 w.heap.size 43 #[.int .i64 0, .int .i64 0, .int .i64 0, .int .i64 0, .int .i64 0, .int .i64 0, .slice none 0 0] by rw [← hw1]; exact KP0.out)
  have hw1s : w.heap.size < w1.heap.size := KP1.out.lt
  have hsub : 20 + cn - 20 = cn := by omega
  have hq1 : b ≠ w1.heap.size := by omega
  have hq2 : b ≠ w1.heap.size + 1 := by omega
  have b3 : 3 < n := by omega
  have b16 : 16 < n := by omega
  have b17 : 17 < n := by omega
  have b4 : 4 ≤ n := by omega
  have b8 : 8 ≤ n := by omega
  have b12 : 12 ≤ n := by omega
  have b20 : 20 + cn ≤ c := by omega
  have b21 : 20 ≤ 20 + cn := by omega
  have sl4 : ∀ W, (Instr.slice 25 (.slice (some ⟨b, off, none⟩) n c) (some (.int .i64 4)) none none).run Try.prog W = .ok (.slice (some ⟨b, off + 4, none⟩) (n - 4) (c - 4)) W := fun W => slice_lo (i := 4) (by omega) hnc (by omega) W
  have sl8 : ∀ W, (Instr.slice 25 (.slice (some ⟨b, off, none⟩) n c) (some (.int .i64 8)) none none).run Try.prog W = .ok (.slice (some ⟨b, off + 8, none⟩) (n - 8) (c - 8)) W := fun W => slice_lo (i := 8) (by omega) hnc (by omega) W
  have sl12 : ∀ W, (Instr.slice 25 (.slice (some ⟨b, off, none⟩) n c) (some (.int .i64 12)) none none).run Try.prog W = .ok (.slice (some ⟨b, off + 12, none⟩) (n - 12) (c - 12)) W := fun W => slice_lo (i := 12) (by omega) hnc (by omega) W
  have sl20 : ∀ W, (Instr.slice 25 (.slice (some ⟨b, off, none⟩) n c) (some (.int .i64 20)) (some (.int .i64 (20 + (cn : Int)))) none).run Try.prog W = .ok (.slice (some ⟨b, off + 20, none⟩) cn (c - 20)) W := fun W => by
    have h9 := slice_mid (b := b) (off := off) (n := n) (c := c) (i := 20) (k := 20 + cn) (by omega) (by omega) hnc (by omega) W
    rw [show 20 + cn - 20 = cn by omega] at h9
    exact h9
  have wr20 : IntKind.i64.wrap (20 + (cn : Int)) = 20 + cn := by rw [IntKind.wrap_i64]; omega
  have j3 : (3 : Int) < (n : Int) := by omega
  have wx3 : IntKind.i64.wrap ((x3 : Nat) : Int) = x3 := by rw [IntKind.wrap_i64]; omega
  have wx16 : IntKind.i64.wrap ((x16 : Nat) : Int) = x16 := by rw [IntKind.wrap_i64]; omega
  have wx17 : IntKind.i64.wrap ((x17 : Nat) : Int) = x17 := by rw [IntKind.wrap_i64]; omega
  have j16 : (16 : Int) < (n : Int) := by omega
  have j17 : (17 : Int) < (n : Int) := by omega
  clear hw1 c3 c16 c17 c18 c19
  go_cut [5] from 23 to 50 (fun s5 wx => RR w w1.heap.size x3 g4 g8 g12 x16 x17 xs cn s5 wx)
  case first =>
    go_region_held3 (fun W => W.cell? ⟨b, off + 3, none⟩ = some (.int .u8 (x3 : Nat)) ∧ W.cell? ⟨b, off + 16, none⟩ = some (.int .u8 (x16 : Nat)) ∧ W.cell? ⟨b, off + 17, none⟩ = some (.int .u8 (x17 : Nat)))
      (first
        | with_reducible exact ⟨k3, k16, k17⟩
        | with_reducible exact ⟨m3, m16, m17⟩
        | with_reducible exact ⟨(set7_keep hb5 hq1).trans m3, (set7_keep hb5 hq1).trans m16, (set7_keep hb5 hq1).trans m17⟩
        | with_reducible exact ⟨(set7_keep hb5 hq2).trans m3, (set7_keep hb5 hq2).trans m16, (set7_keep hb5 hq2).trans m17⟩
        | go_keep)
      (first
        | (go_at_call 31; first
          | (with_reducible refine (N4.out _ (by first | exact HB1.out | exact bdrew HB1.out | (repeat (first | exact HB1.out | refine below_drewN ?_ _ | refine bdrew ?_ | refine balloc ?_ _)))).mono ?_; rintro e w' ⟨rfl, m, rfl⟩)
          | (with_reducible refine (N8.out _ (by first | exact HB1.out | exact bdrew HB1.out | (repeat (first | exact HB1.out | refine below_drewN ?_ _ | refine bdrew ?_ | refine balloc ?_ _)))).mono ?_; rintro e w' ⟨rfl, m, rfl⟩)
          | (with_reducible refine (N12.out _ (by first | exact HB1.out | exact bdrew HB1.out | (repeat (first | exact HB1.out | refine below_drewN ?_ _ | refine bdrew ?_ | refine balloc ?_ _)))).mono ?_; rintro e w' ⟨rfl, m, rfl⟩))
        | (refine step_append_any _ rfl (.tmp 44) (.tmp 48) 25 rfl w1.heap.size 5 i1 (.int .u8 0) 1 1 Try.underlying25 HJ.out HY0.out HY1.out HY2.out rfl (by decide) (.slice (some ⟨_, 0, none⟩) 0 0) 0 [] rfl ?own w.heap.size (some ⟨b, off + 20, none⟩) cn (c - 20) (vals ((xs.drop 20).take cn)) ?hx (Bts.reads (Bts.below H20.out ?bw (Nat.le_refl _))) (vals_one _) ?h63 ?hby ?hbase ?_; (case own => with_reducible repeat (first | exact lit0 _ _ _ (by simp <;> omega) (by simp <;> omega) | refine own_drN ?_ _ | refine own_dr ?_ | refine own_al ?_ _)); (case bw => with_reducible repeat (first | exact HB1.out | refine below_drewN ?_ _ | refine bdrew ?_ | refine balloc ?_ _)); (case hx => first | rfl | (show Value.slice _ _ _ = _; rw [hsub])); (case h63 => unfold maxLen; omega); (case hby => omega); (case hbase => (simp <;> omega)); intro v5 w5 hown5 hg5 _; (first | (refine kt_intro hg5 ?kk ?ne (g := w1.heap.size) (t := 43) (cs := #[.int .i64 0, .int .i64 0, .int .i64 0, .int .i64 0, .int .i64 0, .int .i64 0, .slice none 0 0]) ?_; (case ne => (first | (simp only [Value.ownBlock, ne_eq, Option.some.injEq]; omega) | (simp [Value.ownBlock]; done) | (simp [Value.ownBlock]; omega))); (case kk => ((repeat (first | (with_reducible refine blk_nw _ _ _ _ ?_; first | (simp; done) | (simp; omega)) | with_reducible refine blk_al ?_ _ | with_reducible refine blk_dr ?_ | with_reducible refine blk_drN ?_ _)); done)); intro kt5; have KT5 := Lib.hid kt5; clear kt5; have t_0 := KT5.out.cell 0; have t_1 := KT5.out.cell 1; have t_2 := KT5.out.cell 2; have t_3 := KT5.out.cell 3; have t_4 := KT5.out.cell 4; have t_5 := KT5.out.cell 5; have t_6 := KT5.out.cell 6; simp at t_0 t_1 t_2 t_3 t_4 t_5 t_6; have tf_0 := KT5.out.frozen 0; have tf_1 := KT5.out.frozen 1; have tf_2 := KT5.out.frozen 2; have tf_3 := KT5.out.frozen 3; have tf_4 := KT5.out.frozen 4; have tf_5 := KT5.out.frozen 5; have tf_6 := KT5.out.frozen 6; have t_l := KT5.out.lt) | (refine kt_intro hg5 ?kk ?ne (g := w1.heap.size + 1) (t := 43) (cs := #[.int .i64 0, .int .i64 0, .int .i64 0, .int .i64 0, .int .i64 0, .int .i64 0, .slice none 0 0]) ?_; (case ne => (first | (simp only [Value.ownBlock, ne_eq, Option.some.injEq]; omega) | (simp [Value.ownBlock]; done) | (simp [Value.ownBlock]; omega))); (case kk => ((repeat (first | (with_reducible refine blk_nw _ _ _ _ ?_; first | (simp; done) | (simp; omega)) | with_reducible refine blk_al ?_ _ | with_reducible refine blk_dr ?_ | with_reducible refine blk_drN ?_ _)); done)); intro kt5; have KT5 := Lib.hid kt5; clear kt5; have t_0 := KT5.out.cell 0; have t_1 := KT5.out.cell 1; have t_2 := KT5.out.cell 2; have t_3 := KT5.out.cell 3; have t_4 := KT5.out.cell 4; have t_5 := KT5.out.cell 5; have t_6 := KT5.out.cell 6; simp at t_0 t_1 t_2 t_3 t_4 t_5 t_6; have tf_0 := KT5.out.frozen 0; have tf_1 := KT5.out.frozen 1; have tf_2 := KT5.out.frozen 2; have tf_3 := KT5.out.frozen 3; have tf_4 := KT5.out.frozen 4; have tf_5 := KT5.out.frozen 5; have tf_6 := KT5.out.frozen 6; have t_l := KT5.out.lt) | skip); rw [Nat.zero_add, List.nil_append] at hown5; obtain ⟨A5, c5, rfl⟩ := own_form hown5; have hbw := below_of hg5 (w := w) (by with_reducible repeat (first | exact HB1.out | refine below_drewN ?_ _ | refine bdrew ?_ | refine balloc ?_ _)); have HB5 := Lib.hid (hbw.grown hg5 hbw.size (fun q hq => by simp [Value.ownBlock] at hq; omega)); have kp5 : Blk w5 w.heap.size 43 #[.int .i64 0, .int .i64 0, .int .i64 0, .int .i64 0, .int .i64 0, .int .i64 0, .slice none 0 0] := (Blk.grown (by with_reducible repeat (first | exact KP1.out | refine blk_drN ?_ _ | refine blk_dr ?_ | refine blk_al ?_ _)) hg5 (by simp [Value.ownBlock]; omega)); have KP5 := Lib.hid kp5; clear kp5; have OW5 := Lib.hid hown5; have m3 := (HB5.out.cell (p := ⟨b, off + 3, none⟩) hb).trans kw3; have m16 := (HB5.out.cell (p := ⟨b, off + 16, none⟩) hb).trans kw16; have m17 := (HB5.out.cell (p := ⟨b, off + 17, none⟩) hb).trans kw17; have hb5 := Nat.lt_of_lt_of_le hb HB5.out.size; clear hown5 hg5 hbw))
    all_goals
      go_wp2_with fail
      go_meet
      case rel =>
        first
          | (with_reducible refine rr_new OW5.out KP5.out HB5.out ?_; rfl)
          | (with_reducible refine rr_set KT5.out OW5.out KP5.out HB5.out ?_; omega)
  case rest =>
    obtain ⟨g, A5, c5, rfl, hblk, hown, hkp, hbel, hgg⟩ := hcut
    have hx20 : ∀ x ∈ (xs.drop 20).take cn, x < 256 := fun x hx => hH.2.1 x (List.mem_of_mem_drop (List.mem_of_mem_take hx))
    have hsl := sl_own hown hx20 (by omega)
    have HSL := Lib.hid hsl; clear hsl hown hx20
    have KQ := Lib.hid hblk; clear hblk
    have KP := Lib.hid hkp; clear hkp
    have HB := Lib.hid hbel; clear hbel
    have hzl := KQ.out.lt
    have hpl := KP.out.lt
    have z_0 := KQ.out.cell 0
    have z_1 := KQ.out.cell 1
    have z_2 := KQ.out.cell 2
    have z_3 := KQ.out.cell 3
    have z_4 := KQ.out.cell 4
    have z_5 := KQ.out.cell 5
    have z_6 := KQ.out.cell 6
    simp at z_0 z_1 z_2 z_3 z_4 z_5 z_6
    clear k3 k16 k17 sl4 sl8 sl12 sl20 wr20 N4 N8 N12 H20 HB0 KP0 KP1 HB1 HCC
    have HH := Lib.hid hH; clear hH
    cases hm : (P.mk (x3 : Nat) (g4 : Nat) (g8 : Nat) (g12 : Nat) (x16 : Nat) (x17 : Nat) ((xs.drop 20).take cn)).may
    · have hn : got xs = none := by rw [HGOT.out, hm, if_neg (by simp)]
      have o1 : gb = false := by rw [HGB.out, hn]; rfl
      have o2 : gp = zeroP := by rw [HGP.out, hn]; rfl
      have O1 := Lib.hid o1; clear o1
      have O2 := Lib.hid o2; clear o2 hn
      go_wp2_with (first
        | (go_at_call 32; refine (may_any ⟨(x3 : Nat), (g4 : Nat), (g8 : Nat), (g12 : Nat), (x16 : Nat), (x17 : Nat), (xs.drop 20).take cn⟩ (.slice A5 cn c5) _ (sb_of HSL.out)).mono ?_; rintro e w3 ⟨rfl, hb3⟩; rw [hm]; have HB3 := Lib.hid (HB.out.trans (hb3.mono HB.out.size)); have KP3 := Lib.hid (KP.out.below hb3 hpl); have hp3 := KP3.out.lt; have KQ3 := Lib.hid (KQ.out.below hb3 hzl); have hz3 := KQ3.out.lt; have HSL3 := Lib.hid ((HSL.out.below hb3 (Nat.le_refl _)).more hb3.size); have a_0 := KP3.out.cell 0; have a_1 := KP3.out.cell 1; have a_2 := KP3.out.cell 2; have a_3 := KP3.out.cell 3; have a_4 := KP3.out.cell 4; have a_5 := KP3.out.cell 5; have a_6 := KP3.out.cell 6; simp at a_0 a_1 a_2 a_3 a_4 a_5 a_6; have f_0 := KP3.out.frozen 0; have f_1 := KP3.out.frozen 1; have f_2 := KP3.out.frozen 2; have f_3 := KP3.out.frozen 3; have f_4 := KP3.out.frozen 4; have f_5 := KP3.out.frozen 5; have f_6 := KP3.out.frozen 6; clear hb3))
      have o1 := O1.out
      have o2 := O2.out
      have hgr := set7_grown w3 w.heap.size (.int .i64 0) (.int .i64 0) (.int .i64 0) (.int .i64 0) (.int .i64 0) (.int .i64 0) (.slice none 0 0)
      rw [o1, o2]
      refine bodyPost_ret (v := .tuple #[.agg #[.int .i64 0, .int .i64 0, .int .i64 0, .int .i64 0, .int .i64 0, .int .i64 0, .slice none 0 0], .bool false]) ?_ rfl ⟨_, rfl, ⟨.slice none 0 0, rfl, sb_of (sl_nil _ _)⟩, ?_⟩
      · simp [results, Try.results18, go_sem, a_0, a_1, a_2, a_3, a_4, a_5, a_6, hp3]
      · exact HB3.out.grown hgr HB3.out.size (fun q hq => by cases hq; exact Nat.le_refl _)
    · cases hs : decide ((P.mk (x3 : Nat) (g4 : Nat) (g8 : Nat) (g12 : Nat) (x16 : Nat) (x17 : Nat) ((xs.drop 20).take cn)).sector = xs)
      · have hn : got xs = none := by rw [HGOT.out, if_neg (fun h => absurd (decide_eq_true h.2) (by rw [hs]; simp))]
        have o1 : gb = false := by rw [HGB.out, hn]; rfl
        have o2 : gp = zeroP := by rw [HGP.out, hn]; rfl
        have O1 := Lib.hid o1; clear o1
        have O2 := Lib.hid o2; clear o2 hn
        go_wp2_with (first
          | (go_at_call 32; refine (may_any ⟨(x3 : Nat), (g4 : Nat), (g8 : Nat), (g12 : Nat), (x16 : Nat), (x17 : Nat), (xs.drop 20).take cn⟩ (.slice A5 cn c5) _ (sb_of HSL.out)).mono ?_; rintro e w3 ⟨rfl, hb3⟩; rw [hm]; have HB3 := Lib.hid (HB.out.trans (hb3.mono HB.out.size)); have KP3 := Lib.hid (KP.out.below hb3 hpl); have hp3 := KP3.out.lt; have KQ3 := Lib.hid (KQ.out.below hb3 hzl); have hz3 := KQ3.out.lt; have HSL3 := Lib.hid ((HSL.out.below hb3 (Nat.le_refl _)).more hb3.size); have y_0 := KQ3.out.cell 0; have y_1 := KQ3.out.cell 1; have y_2 := KQ3.out.cell 2; have y_3 := KQ3.out.cell 3; have y_4 := KQ3.out.cell 4; have y_5 := KQ3.out.cell 5; have y_6 := KQ3.out.cell 6; simp at y_0 y_1 y_2 y_3 y_4 y_5 y_6; clear hb3)
          | (go_at_call 30; refine (ref_put ⟨(x3 : Nat), (g4 : Nat), (g8 : Nat), (g12 : Nat), (x16 : Nat), (x17 : Nat), (xs.drop 20).take cn⟩ (.slice A5 cn c5) _ ((may_iff _).1 hm) HSL3.out).mono ?_; rintro e w4 ⟨v4, rfl, hs4, hb4⟩; obtain ⟨A6, n6, c6, rfl, hbt6, _⟩ := hs4; have HS6 := Lib.hid hbt6; have HB4 := Lib.hid (HB3.out.trans (hb4.mono HB3.out.size)); have KP4 := Lib.hid (KP3.out.below hb4 hp3); have hp4 := KP4.out.lt; have KQ4 := Lib.hid (KQ3.out.below hb4 hz3); have hz4 := KQ4.out.lt; have HSL4 := Lib.hid ((HSL3.out.below hb4 (Nat.le_refl _)).more hb4.size); have a_0 := KP4.out.cell 0; have a_1 := KP4.out.cell 1; have a_2 := KP4.out.cell 2; have a_3 := KP4.out.cell 3; have a_4 := KP4.out.cell 4; have a_5 := KP4.out.cell 5; have a_6 := KP4.out.cell 6; simp at a_0 a_1 a_2 a_3 a_4 a_5 a_6; have f_0 := KP4.out.frozen 0; have f_1 := KP4.out.frozen 1; have f_2 := KP4.out.frozen 2; have f_3 := KP4.out.frozen 3; have f_4 := KP4.out.frozen 4; have f_5 := KP4.out.frozen 5; have f_6 := KP4.out.frozen 6; have y_0 := KQ4.out.cell 0; have y_1 := KQ4.out.cell 1; have y_2 := KQ4.out.cell 2; have y_3 := KQ4.out.cell 3; have y_4 := KQ4.out.cell 4; have y_5 := KQ4.out.cell 5; have y_6 := KQ4.out.cell 6; simp at y_0 y_1 y_2 y_3 y_4 y_5 y_6; clear hb4 hbt6)
          | (go_at_call 17; refine (rsame_any A6 (some ⟨b, off, none⟩) n6 n c6 c _ _ (P.mk (x3 : Nat) (g4 : Nat) (g8 : Nat) (g12 : Nat) (x16 : Nat) (x17 : Nat) ((xs.drop 20).take cn)).sector xs _ HS6.out (HH.out.below HB4.out (Nat.le_refl _))).mono ?_; rintro e w5 ⟨rfl, m5, rfl⟩; rw [hs]))
        have o1 := O1.out
        have o2 := O2.out
        have hgr := set7_grown (World.drewN w4 m5) w.heap.size (.int .i64 0) (.int .i64 0) (.int .i64 0) (.int .i64 0) (.int .i64 0) (.int .i64 0) (.slice none 0 0)
        rw [o1, o2]
        refine bodyPost_ret (v := .tuple #[.agg #[.int .i64 0, .int .i64 0, .int .i64 0, .int .i64 0, .int .i64 0, .int .i64 0, .slice none 0 0], .bool false]) ?_ rfl ⟨_, rfl, ⟨.slice none 0 0, rfl, sb_of (sl_nil _ _)⟩, ?_⟩
        · simp [results, Try.results18, go_sem, a_0, a_1, a_2, a_3, a_4, a_5, a_6, hp4]
        · exact (below_drewN HB4.out m5).grown hgr (below_drewN HB4.out m5).size (fun q hq => by cases hq; exact Nat.le_refl _)
      · have hn : got xs = some (P.mk (x3 : Nat) (g4 : Nat) (g8 : Nat) (g12 : Nat) (x16 : Nat) (x17 : Nat) ((xs.drop 20).take cn)) := by rw [HGOT.out, if_pos ⟨hm, of_decide_eq_true hs⟩]
        have o1 : gb = true := by rw [HGB.out, hn]; rfl
        have o2 : gp = (P.mk (x3 : Nat) (g4 : Nat) (g8 : Nat) (g12 : Nat) (x16 : Nat) (x17 : Nat) ((xs.drop 20).take cn)) := by rw [HGP.out, hn]; rfl
        have O1 := Lib.hid o1; clear o1
        have O2 := Lib.hid o2; clear o2 hn
        go_wp2_with (first
          | (go_at_call 32; refine (may_any ⟨(x3 : Nat), (g4 : Nat), (g8 : Nat), (g12 : Nat), (x16 : Nat), (x17 : Nat), (xs.drop 20).take cn⟩ (.slice A5 cn c5) _ (sb_of HSL.out)).mono ?_; rintro e w3 ⟨rfl, hb3⟩; rw [hm]; have HB3 := Lib.hid (HB.out.trans (hb3.mono HB.out.size)); have KP3 := Lib.hid (KP.out.below hb3 hpl); have hp3 := KP3.out.lt; have KQ3 := Lib.hid (KQ.out.below hb3 hzl); have hz3 := KQ3.out.lt; have HSL3 := Lib.hid ((HSL.out.below hb3 (Nat.le_refl _)).more hb3.size); have y_0 := KQ3.out.cell 0; have y_1 := KQ3.out.cell 1; have y_2 := KQ3.out.cell 2; have y_3 := KQ3.out.cell 3; have y_4 := KQ3.out.cell 4; have y_5 := KQ3.out.cell 5; have y_6 := KQ3.out.cell 6; simp at y_0 y_1 y_2 y_3 y_4 y_5 y_6; clear hb3)
          | (go_at_call 30; refine (ref_put ⟨(x3 : Nat), (g4 : Nat), (g8 : Nat), (g12 : Nat), (x16 : Nat), (x17 : Nat), (xs.drop 20).take cn⟩ (.slice A5 cn c5) _ ((may_iff _).1 hm) HSL3.out).mono ?_; rintro e w4 ⟨v4, rfl, hs4, hb4⟩; obtain ⟨A6, n6, c6, rfl, hbt6, _⟩ := hs4; have HS6 := Lib.hid hbt6; have HB4 := Lib.hid (HB3.out.trans (hb4.mono HB3.out.size)); have KP4 := Lib.hid (KP3.out.below hb4 hp3); have hp4 := KP4.out.lt; have KQ4 := Lib.hid (KQ3.out.below hb4 hz3); have hz4 := KQ4.out.lt; have HSL4 := Lib.hid ((HSL3.out.below hb4 (Nat.le_refl _)).more hb4.size); have a_0 := KP4.out.cell 0; have a_1 := KP4.out.cell 1; have a_2 := KP4.out.cell 2; have a_3 := KP4.out.cell 3; have a_4 := KP4.out.cell 4; have a_5 := KP4.out.cell 5; have a_6 := KP4.out.cell 6; simp at a_0 a_1 a_2 a_3 a_4 a_5 a_6; have f_0 := KP4.out.frozen 0; have f_1 := KP4.out.frozen 1; have f_2 := KP4.out.frozen 2; have f_3 := KP4.out.frozen 3; have f_4 := KP4.out.frozen 4; have f_5 := KP4.out.frozen 5; have f_6 := KP4.out.frozen 6; have y_0 := KQ4.out.cell 0; have y_1 := KQ4.out.cell 1; have y_2 := KQ4.out.cell 2; have y_3 := KQ4.out.cell 3; have y_4 := KQ4.out.cell 4; have y_5 := KQ4.out.cell 5; have y_6 := KQ4.out.cell 6; simp at y_0 y_1 y_2 y_3 y_4 y_5 y_6; clear hb4 hbt6)
          | (go_at_call 17; refine (rsame_any A6 (some ⟨b, off, none⟩) n6 n c6 c _ _ (P.mk (x3 : Nat) (g4 : Nat) (g8 : Nat) (g12 : Nat) (x16 : Nat) (x17 : Nat) ((xs.drop 20).take cn)).sector xs _ HS6.out (HH.out.below HB4.out (Nat.le_refl _))).mono ?_; rintro e w5 ⟨rfl, m5, rfl⟩; rw [hs]))
        have hgr := set7_grown (World.drewN w4 m5) w.heap.size (.int .i64 (x3 : Nat)) (.int .i64 (g4 : Nat)) (.int .i64 (g8 : Nat)) (.int .i64 (g12 : Nat)) (.int .i64 (x16 : Nat)) (.int .i64 (x17 : Nat)) (.slice A5 cn c5)
        rw [O1.out, O2.out]
        refine bodyPost_ret (v := .tuple #[.agg #[.int .i64 (x3 : Nat), .int .i64 (g4 : Nat), .int .i64 (g8 : Nat), .int .i64 (g12 : Nat), .int .i64 (x16 : Nat), .int .i64 (x17 : Nat), .slice A5 cn c5], .bool true]) ?_ rfl ⟨_, rfl, ⟨.slice A5 cn c5, rfl, sb_grownU (sb_of HSL4.out) (noU8_blk KP4.out) hgr⟩, ?_⟩
        · simp [results, Try.results18, go_sem, a_0, a_1, a_2, a_3, a_4, a_5, a_6, hp4]
        · exact (below_drewN HB4.out m5).grown hgr (below_drewN HB4.out m5).size (fun q hq => by cases hq; exact Nat.le_refl _)
end Go.Proofs.Ytkidjlmjjfgknaa.Pg
