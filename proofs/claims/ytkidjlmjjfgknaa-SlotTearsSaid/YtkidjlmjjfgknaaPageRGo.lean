/- The reference's Get (layer 4) at bytes that can be no sector. -/
import Derived.Test.YtkidjlmjjfgknaaPageRGet
namespace Go.Proofs.Ytkidjlmjjfgknaa.Pg
open Go.RowKit Go.Proofs.Ytkidjlmjjfgknaa.Mem Go.Proofs.Ytkidjlmjjfgknaa.Oct
set_option linter.unusedVariables false
set_option linter.unusedSimpArgs false
set_option maxRecDepth 20000 in
set_option maxHeartbeats 4000000 in
theorem rget_len (A : Option Addr) (n c : Nat) (xs : List Nat) (w : World) (h : Bts w w.heap.size A n xs) (hn : n ≠ 512) :
    Calls Try.prog 18 #[.slice A n c] w fun e w' => ∃ v', e = .returned (.tuple #[v', .bool (got xs).isSome]) ∧ PgAt w' w'.heap.size v' ((got xs).getD zeroP) ∧ Below w.heap.size w w' := by
  have hl := h.1
  have hgot : got xs = none := got_not (fun h => hn (by omega))
  rw [hgot]
  have hd : ((n : Int) != 512) = true := by rw [bne_iff_ne]; omega
  have KP := Lib.hid (Blk.new w 43 #[.int .i64 0, .int .i64 0, .int .i64 0, .int .i64 0, .int .i64 0, .int .i64 0, .slice none 0 0])
  have HB := Lib.hid ((Below.refl w.heap.size w).alloc (Nat.le_refl _) (Obj.cells #[.int .i64 0, .int .i64 0, .int .i64 0, .int .i64 0, .int .i64 0, .int .i64 0, .slice none 0 0] 43))
  clear hl hgot h
  go_enter Try.func18, Try.ntmps18
  go_wp2
  refine bodyPost_ret (v := .tuple #[.agg #[.int .i64 0, .int .i64 0, .int .i64 0, .int .i64 0, .int .i64 0, .int .i64 0, .slice none 0 0], .bool false]) ?_ rfl ⟨_, rfl, ⟨.slice none 0 0, rfl, sb_of (sl_nil _ _)⟩, ?_⟩
  · simp [results, Try.results18, go_sem]
  · exact HB.out
set_option maxRecDepth 20000 in
set_option maxHeartbeats 4000000 in
theorem rget_count (A : Option Addr) (n c : Nat) (xs : List Nat) (w : World) (h : Bts w w.heap.size A n xs) (hn1 : n ≤ 512) (hn2 : 512 ≤ n) (hcn : 488 < count xs) :
    Calls Try.prog 18 #[.slice A n c] w fun e w' => ∃ v', e = .returned (.tuple #[v', .bool (got xs).isSome]) ∧ PgAt w' w'.heap.size v' ((got xs).getD zeroP) ∧ Below w.heap.size w w' := by
  have hl := h.1
  have hgot : got xs = none := got_not (fun h => by omega)
  rw [hgot]
  have hd : ((n : Int) != 512) = false := by rw [show n = 512 by omega]; rfl
  have hcc := count_two (xs := xs) (by omega)
  generalize count xs = cn at *
  have y18 := getD_lt h.2.1 18
  have y19 := getD_lt h.2.1 19
  obtain ⟨b, off, rfl, hb, hc⟩ := h.2.2.2 (by omega)
  have hb0 := (Below.refl w.heap.size w).alloc (Nat.le_refl _) (Obj.cells #[.int .i64 0, .int .i64 0, .int .i64 0, .int .i64 0, .int .i64 0, .int .i64 0, .slice none 0 0] 43)
  have c18 := (hb0.cell (p := ⟨b, off + 18, none⟩) hb).trans (hc 18 (by omega))
  have c19 := (hb0.cell (p := ⟨b, off + 19, none⟩) hb).trans (hc 19 (by omega))
  clear hc h
  generalize xs.getD 18 0 = x18 at *
  generalize xs.getD 19 0 = x19 at *
  have hcv : (x18 : Int) * 256 + (x19 : Int) = (cn : Int) := by omega
  have hdc : decide (488 < (cn : Int)) = true := by simp; omega
  have HB := Lib.hid hb0; clear hb0
  have HCC := Lib.hid hcc; clear hcc
  clear hgot
  go_enter Try.func18, Try.ntmps18
  go_wp2
  go_quiet (fail)
  go_wp2
  refine bodyPost_ret (v := .tuple #[.agg #[.int .i64 0, .int .i64 0, .int .i64 0, .int .i64 0, .int .i64 0, .int .i64 0, .slice none 0 0], .bool false]) ?_ rfl ⟨_, rfl, ⟨.slice none 0 0, rfl, sb_of (sl_nil _ _)⟩, ?_⟩
  · simp [results, Try.results18, go_sem]
  · exact (below_drewN HB.out _).grown (set7_grown _ w.heap.size _ _ _ _ _ _ _) (below_drewN HB.out _).size (fun q hq => by cases hq; exact Nat.le_refl _)
end Go.Proofs.Ytkidjlmjjfgknaa.Pg
