/- The reference's log (layer 8): it turns. -/
import Derived.Test.YtnenbocjfekmfaaGreatSlotAll
import Derived.Test.YtnenbocjfekmfaaGreatWalRefWrite
namespace Go.Proofs.YtnenbocjfekmfaaGreat.Wl
open Go.RowKit Go.Proofs.YtnenbocjfekmfaaGreat.Mem Go.Proofs.YtnenbocjfekmfaaGreat.Pg Go.Proofs.YtnenbocjfekmfaaGreat.Rcd Go.Proofs.YtnenbocjfekmfaaGreat.Slt
open Go.Proofs.YtnenbocjfekmfaaGreat.Dsk (KeptBut SMap DiskAt St kept_of_below kept_of_grown kept_drew RefAt RowS SlS Good refV armedOf)
open Go.Proofs.YtnenbocjfekmfaaGreat.Plt (sl plV sl_le sl_pos)
set_option linter.unusedVariables false
set_option linter.unusedSimpArgs false
section
variable (S : List Nat) (A1 A2 : Option Addr) (c1 c2 : Nat) (s : St) (k : Nat) (v : Wn) (p2 : Int) (A : Option Addr) (n c : Nat) (w : World)
abbrev StayR (w : World) (S : List Nat) (s : St) (k : Nat) (p2 : Int) (v : Wn) (is_ : Bool) (err : Int) (e : Ending) (w' : World) : Prop :=
  ∃ val', e = .returned (.tuple #[val', .int .i64 err]) ∧ RWal w' S val' s (sl k : Nat) (2 * (sl k : Nat)) p2 v.gen v.mark (v.next : Nat) v.br is_ ∧ Below w.heap.size w w'
abbrev rvA (A1 A2 : Option Addr) (c1 c2 : Nat) (s : St) (k : Nat) (p2 : Int) (v : Wn) (is_ : Bool) : Value := .agg (rwA (.slice A1 s.n c1) (.slice A2 s.n c2) (armedOf s.left) s.dead (sl k : Nat) (2 * (sl k : Nat)) p2 v.gen v.mark (v.next : Nat) v.br is_)
theorem stayR {o o' : Obj} {br is_ : Bool} {err : Int} (hbr : v.br = br) (hr : RefAt w S (refV (.slice A1 s.n c1) (.slice A2 s.n c2) s) s) : StayR w S s k p2 v is_ err (.returned (.tuple #[.agg (rwA (.slice A1 s.n c1) (.slice A2 s.n c2) (armedOf s.left) s.dead (sl k : Nat) (2 * (sl k : Nat)) p2 v.gen v.mark (v.next : Nat) br is_), .int .i64 err])) ((w.alloc o).alloc o') := by
  subst hbr
  exact ⟨_, rfl, ⟨_, _, rfl, hr.below (palloc (palloc (Below.refl _ _) _) _)⟩, palloc (palloc (Below.refl _ _) _) _⟩
set_option maxRecDepth 20000 in
set_option maxHeartbeats 4000000 in
theorem rturn_not (hr : RefAt w S (refV (.slice A1 s.n c1) (.slice A2 s.n c2) s) s) : Calls Tryz.prog 16 #[rvA A1 A2 c1 c2 s k p2 v false, .slice A n c] w (StayR w S s k p2 v false 6) := by
  have HO := fun (o o' : Obj) => stayR S A1 A2 c1 c2 s k v p2 w (o := o) (o' := o') (is_ := false) (err := 6) rfl hr
  have HO := Lib.hid HO; clear hr
  go_enter Tryz.func16, Tryz.ntmps16
  go_wp2
  refine bodyPost_ret (v := .tuple #[rvA A1 A2 c1 c2 s k p2 v false, .int .i64 6]) ?_ rfl ?_
  · simp [results, Tryz.results16, go_sem]
  · exact HO.out _ _
set_option maxRecDepth 20000 in
set_option maxHeartbeats 4000000 in
theorem rturn_br (hr : RefAt w S (refV (.slice A1 s.n c1) (.slice A2 s.n c2) s) s) (hbr : v.br = true) : Calls Tryz.prog 16 #[rvA A1 A2 c1 c2 s k p2 v true, .slice A n c] w (StayR w S s k p2 v true 6) := by
  have HO := fun (o o' : Obj) => stayR S A1 A2 c1 c2 s k v p2 w (o := o) (o' := o') (is_ := true) (err := 6) hbr hr
  have HO := Lib.hid HO; clear hr
  unfold rvA
  rw [hbr]
  clear hbr
  go_enter Tryz.func16, Tryz.ntmps16
  go_wp2
  refine bodyPost_ret (v := .tuple #[.agg (rwA (.slice A1 s.n c1) (.slice A2 s.n c2) (armedOf s.left) s.dead (sl k : Nat) (2 * (sl k : Nat)) p2 v.gen v.mark (v.next : Nat) true true), .int .i64 6]) ?_ rfl ?_
  · simp [results, Tryz.results16, go_sem]
  · exact HO.out _ _
set_option maxRecDepth 20000 in
set_option maxHeartbeats 4000000 in
theorem rturn_big (hr : RefAt w S (refV (.slice A1 s.n c1) (.slice A2 s.n c2) s) s) (hbr : v.br = false) (hn : n ≤ 7808) (hp : sl k < parts n) : Calls Tryz.prog 16 #[rvA A1 A2 c1 c2 s k p2 v true, .slice A n c] w (StayR w S s k p2 v true 5) := by
  have HO := fun (o o' : Obj) => stayR S A1 A2 c1 c2 s k v p2 w (o := o) (o' := o') (is_ := true) (err := 5) hbr hr
  have HO := Lib.hid HO; clear hr
  have p := fun (W : World) => rparts_any (n : Int) W
  rw [partsI_nat] at p
  have P := Lib.hid p; clear p
  unfold rvA
  rw [hbr]
  clear hbr
  have h1 := parts_pos hn
  generalize parts n = m at *
  generalize sl k = l at *
  have hd1 : ((m : Int) == 0) = false := by rw [beq_eq_false_iff_ne]; omega
  have hd2 : decide (l < m) = true := by simpa using hp
  go_enter Tryz.func16, Tryz.ntmps16
  go_wp2_with (go_at_call 45; refine (P.out _).mono ?_; rintro e w' ⟨rfl, rfl⟩)
  refine bodyPost_ret (v := .tuple #[.agg (rwA (.slice A1 s.n c1) (.slice A2 s.n c2) (armedOf s.left) s.dead (l : Nat) (2 * (l : Nat)) p2 v.gen v.mark (v.next : Nat) false true), .int .i64 5]) ?_ rfl ?_
  · simp [results, Tryz.results16, go_sem]
  · exact HO.out _ _
set_option maxRecDepth 20000 in
set_option maxHeartbeats 4000000 in
theorem rturn_full (hr : RefAt w S (refV (.slice A1 s.n c1) (.slice A2 s.n c2) s) s) (hbr : v.br = false) (hn : n ≤ 7808) (hp : ¬ sl k < parts n) (hg : v.gen = 2147483648) : Calls Tryz.prog 16 #[rvA A1 A2 c1 c2 s k p2 v true, .slice A n c] w (StayR w S s k p2 v true 4) := by
  have HO := fun (o o' : Obj) => stayR S A1 A2 c1 c2 s k v p2 w (o := o) (o' := o') (is_ := true) (err := 4) hbr hr
  rw [hg] at HO
  have HO := Lib.hid HO; clear hr
  have p := fun (W : World) => rparts_any (n : Int) W
  rw [partsI_nat] at p
  have P := Lib.hid p; clear p
  unfold rvA
  rw [hbr, hg]
  clear hbr hg
  have h1 := parts_pos hn
  generalize parts n = m at *
  generalize sl k = l at *
  have hd1 : ((m : Int) == 0) = false := by rw [beq_eq_false_iff_ne]; omega
  have hd2 : decide (l < m) = false := by simpa using hp
  go_enter Tryz.func16, Tryz.ntmps16
  go_wp2_with (go_at_call 45; refine (P.out _).mono ?_; rintro e w' ⟨rfl, rfl⟩)
  refine bodyPost_ret (v := .tuple #[.agg (rwA (.slice A1 s.n c1) (.slice A2 s.n c2) (armedOf s.left) s.dead (l : Nat) (2 * (l : Nat)) p2 2147483648 v.mark (v.next : Nat) false true), .int .i64 4]) ?_ rfl ?_
  · simp [results, Tryz.results16, go_sem]
  · exact HO.out _ _
end
end Go.Proofs.YtnenbocjfekmfaaGreat.Wl
