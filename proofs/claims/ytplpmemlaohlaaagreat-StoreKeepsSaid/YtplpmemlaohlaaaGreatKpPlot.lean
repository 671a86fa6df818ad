/- How a disk is parted (layer 6): the contracts of Make and of the reference's. -/
import Derived.Test.YtplpmemlaohlaaaGreatKpMem
import Derived.BigQuiet
import Derived.Deep.QuietTactic
import Derived.Deep.RegionHeld3
import Derived.Lib.Hide
import Derived.WalkKit
import Derived.WalkSpells
namespace Go.Proofs.YtplpmemlaohlaaaGreat.Plt
open Go.RowKit Mem
set_option linter.unusedVariables false
set_option linter.unusedSimpArgs false
def sl (k:Nat):Nat:=if 16<k / 4 then 16 else k / 4
theorem sl_16 {k:Nat} (h:16<k / 4):sl k=16:=by unfold sl;rw [if_pos h]
theorem sl_4 {k:Nat} (h:¬ 16<k / 4):sl k=k / 4:=by unfold sl;rw [if_neg h]
theorem sl_le (k:Nat):sl k≤16∧4*sl k≤k:=by unfold sl;split <;> omega
theorem sl_pos {k:Nat} (h:4≤k):1≤sl k:=by unfold sl;split <;> omega
abbrev plV (s f l:Int):Value:=.agg #[.int .i64 s,.int .i64 f,.int .i64 l]
set_option maxHeartbeats 1000000 in
theorem make_no (n:Int) (w:World) (h:n<6∨1024<n) :
  Calls Tryz.prog 67 #[.int .i64 n] w fun e w'=>e=.returned (.tuple #[plV 0 0 0,.int .i64 1])∧Below w.heap.size w w':=by
 rcases h with h | h
 ·have h0:decide (n<6)=true:=by simpa using h
  go_enter Tryz.func67,Tryz.ntmps67
  go_wp2
  exact bodyPost_ret (v:=.tuple #[plV 0 0 0,.int .i64 1]) (by simp [results,Tryz.results67,go_sem]) rfl ⟨rfl,(Below.refl _ _).alloc (Nat.le_refl _) _⟩
 ·have h0:decide (n<6)=false:=by simp;omega
  have h1:decide (1024<n)=true:=by simpa using h
  go_enter Tryz.func67,Tryz.ntmps67
  go_wp2
  exact bodyPost_ret (v:=.tuple #[plV 0 0 0,.int .i64 1]) (by simp [results,Tryz.results67,go_sem]) rfl ⟨rfl,(Below.refl _ _).alloc (Nat.le_refl _) _⟩
set_option maxHeartbeats 1000000 in
theorem make_yes (k:Nat) (w:World) (h:6≤k) (h2:k≤1024) :
  Calls Tryz.prog 67 #[.int .i64 k] w fun e w'=>e=.returned (.tuple #[plV (sl k:Nat) (2*(sl k:Nat)) ((k:Int) - 2*(sl k:Nat)),.int .i64 0])∧Below w.heap.size w w':=by
 have h0:decide ((k:Int)<6)=false:=by simp;omega
 have h1:decide (1024<(k:Int))=false:=by simp;omega
 by_cases h3:16<k / 4
 ·rw [sl_16 h3]
  have h4:16<(k:Int) / 4:=by omega
  go_enter Tryz.func67,Tryz.ntmps67
  go_wp2
  all_goals first
   | omega
   | exact bodyPost_ret (v:=.tuple #[plV 16 32 ((k:Int) - 32),.int .i64 0]) (by simp [results,Tryz.results67,go_sem]) rfl ⟨rfl,(Below.refl _ _).alloc (Nat.le_refl _) _⟩
 ·rw [sl_4 h3]
  have h4:(k:Int) / 4≤16:=by omega
  go_enter Tryz.func67,Tryz.ntmps67
  go_wp2
  all_goals first
   | omega
   | exact bodyPost_ret (v:=.tuple #[plV ((k:Int) / 4) (2*((k:Int) / 4)) ((k:Int) - 2*((k:Int) / 4)),.int .i64 0]) (by simp [results,Tryz.results67,go_sem]) rfl ⟨rfl,(Below.refl _ _).alloc (Nat.le_refl _) _⟩
end Go.Proofs.YtplpmemlaohlaaaGreat.Plt
