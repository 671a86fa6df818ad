/- The reference's log (layer 8): what it is in memory, whether a sector is blank, and what it writes. -/
import Derived.Test.YtnenbocjfekmfaaGreatDiskAll
import Derived.Test.YtnenbocjfekmfaaGreatWalAllB
import Derived.Deep.RegionHeld3
namespace Go.Proofs.YtnenbocjfekmfaaGreat.Wl
open Go.RowKit Go.Proofs.YtnenbocjfekmfaaGreat.Mem Go.Proofs.YtnenbocjfekmfaaGreat.Pg Go.Proofs.YtnenbocjfekmfaaGreat.Rcd Go.Proofs.YtnenbocjfekmfaaGreat.Slt
open Go.Proofs.YtnenbocjfekmfaaGreat.Dsk (KeptBut SMap DiskAt St kept_of_below kept_of_grown kept_drew RefAt RowS SlS Good refV armedOf)
open Go.Proofs.YtnenbocjfekmfaaGreat.Plt (sl plV sl_le sl_pos)
set_option linter.unusedVariables false
set_option linter.unusedSimpArgs false
/-- a row of noughts alone? -/
theorem blank_step {xs : List Nat} {k : Nat} (h : k < xs.length) : ((xs.drop k).all fun x => decide (x = 0)) = (decide (xs.getD k 0 = 0) && ((xs.drop (k + 1)).all fun x => decide (x = 0))) := by
  rw [drop_at xs k 0 h, List.all_cons]
set_option maxHeartbeats 2000000 in
theorem rblank_any (A : Option Addr) (n c : Nat) (xs : List Nat) (w : World) (h : Bts w w.heap.size A n xs) :
    Calls Tryz.prog 44 #[.slice A n c] w fun e w' => e = .returned (.bool (xs.all fun x => decide (x = 0))) ∧ w = w' := by
  obtain ⟨z, hz⟩ : ∃ z, z = (xs.all fun x => decide (x = 0)) := ⟨_, rfl⟩
  rw [← hz]
  have hl := h.1
  have hn := h.2.2.1
  have H := Lib.hid h; clear h
  have HZ := Lib.hid hz; clear hz
  have HL := Lib.hid hl; clear hl
  go_enter Tryz.func44, Tryz.ntmps44
  go_wp2
  go_loopw [3] (fun i wr => w = wr ∧ ∃ k : Nat, k ≤ n ∧ i = .int .i64 k ∧ z = ((xs.drop k).all fun x => decide (x = 0))) (fun i _ => n - (intOf i).toNat)
  case atStart => exact ⟨rfl, 0, Nat.zero_le _, rfl, HZ.out⟩
  case round =>
    obtain ⟨rfl, k, hk, rfl, hz⟩ := hrel
    by_cases hlt : k < n
    · obtain ⟨b, off, rfl, hb, hc⟩ := H.out.2.2.2 (by omega)
      have c0 := hc k hlt
      have hxl := getD_lt H.out.2.1 k
      rw [blank_step (by have := HL.out; omega)] at hz
      generalize xs.getD k 0 = q at *
      clear hc
      by_cases hq : q = 0
      · subst hq
        have HZ2 := Lib.hid hz; clear hz
        go_wp2
        go_roundw
        case rel => exact ⟨by trivial, k + 1, by omega, by go_num, by rw [HZ2.out]; simp⟩
        case measure => simp [intOf]; omega
      · have hb1 : ((q : Int) != 0) = true := by rw [bne_iff_ne]; omega
        rw [decide_eq_false hq] at hz
        have HZ2 := Lib.hid hz; clear hz
        go_wp2
        go_ret
        exact ⟨ret_bool (by rw [HZ2.out]; rfl), rfl⟩
    · obtain rfl : k = n := by omega
      rw [List.drop_eq_nil_of_le (by have := HL.out; omega)] at hz
      have HZ2 := Lib.hid hz; clear hz
      go_wp2
      go_ret
      exact ⟨ret_bool (by rw [HZ2.out]; rfl), rfl⟩
/-- the reference's log, by value -/
abbrev rwA (v1 v2 : Value) (ar : Int) (dd : Bool) (p0 p1 p2 g m nx : Int) (br is_ : Bool) : Array Value :=
  #[v1, v2, .int .i64 ar, .bool dd, .int .i64 p0, .int .i64 p1, .int .i64 p2, .int .i64 g, .int .i64 m, .int .i64 nx, .bool br, .bool is_]
def RWal (w : World) (S : List Nat) (val : Value) (s : St) (p0 p1 p2 g m nx : Int) (br is_ : Bool) : Prop :=
  ∃ v1 v2, val = .agg (rwA v1 v2 (armedOf s.left) s.dead p0 p1 p2 g m nx br is_) ∧ RefAt w S (refV v1 v2 s) s
theorem refAt_two {w : World} {S : List Nat} {v : Value} {s : St} (h : RefAt w S v s) : ∃ A1 c1 A2 c2, v = refV (.slice A1 s.n c1) (.slice A2 s.n c2) s := by
  obtain ⟨v1, v2, us1, us2, rfl, h1, h2, _⟩ := h
  obtain ⟨A1, c1, rfl, _⟩ := id h1
  obtain ⟨A2, c2, rfl, _⟩ := id h2
  exact ⟨A1, c1, A2, c2, rfl⟩
/-- twelve cells written -/
abbrev set12 (w : World) (g : Nat) (a0 a1 a2 a3 a4 a5 a6 a7 a8 a9 a10 a11 : Value) : World := ((((((((((((w).setCell ⟨g, 0, none⟩ a0).setCell ⟨g, 1, none⟩ a1).setCell ⟨g, 2, none⟩ a2).setCell ⟨g, 3, none⟩ a3).setCell ⟨g, 4, none⟩ a4).setCell ⟨g, 5, none⟩ a5).setCell ⟨g, 6, none⟩ a6).setCell ⟨g, 7, none⟩ a7).setCell ⟨g, 8, none⟩ a8).setCell ⟨g, 9, none⟩ a9).setCell ⟨g, 10, none⟩ a10).setCell ⟨g, 11, none⟩ a11
theorem set12_kept {w : World} {g : Nat} {a0 a1 a2 a3 a4 a5 a6 a7 a8 a9 a10 a11 : Value} {S : List Nat} (h : g ∈ S) : KeptBut w (set12 w g a0 a1 a2 a3 a4 a5 a6 a7 a8 a9 a10 a11) S := ((((((((((((KeptBut.refl _ _).trans (Dsk.kept_set _ _ h)).trans (Dsk.kept_set _ _ h)).trans (Dsk.kept_set _ _ h)).trans (Dsk.kept_set _ _ h)).trans (Dsk.kept_set _ _ h)).trans (Dsk.kept_set _ _ h)).trans (Dsk.kept_set _ _ h)).trans (Dsk.kept_set _ _ h)).trans (Dsk.kept_set _ _ h)).trans (Dsk.kept_set _ _ h)).trans (Dsk.kept_set _ _ h)).trans (Dsk.kept_set _ _ h)
theorem set12_below {B : Nat} {w w1 : World} {g : Nat} {a0 a1 a2 a3 a4 a5 a6 a7 a8 a9 a10 a11 : Value} (h : Below B w w1) (hg : B ≤ g) : Below B w (set12 w1 g a0 a1 a2 a3 a4 a5 a6 a7 a8 a9 a10 a11) := ((((((((((((h.setCell hg _).setCell hg _).setCell hg _).setCell hg _).setCell hg _).setCell hg _).setCell hg _).setCell hg _).setCell hg _).setCell hg _).setCell hg _).setCell hg _)
end Go.Proofs.YtnenbocjfekmfaaGreat.Wl
