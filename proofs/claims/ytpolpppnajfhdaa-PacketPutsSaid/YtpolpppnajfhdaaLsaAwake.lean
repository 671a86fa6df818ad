/- The laws' own little example of layer 9: it is awake; and how many links an Lsa has. -/
import Derived.Test.YtpolpppnajfhdaaLsaPut
namespace Go.Proofs.Ytpolpppnajfhdaa.Lsa
open Go.RowKit Go.Proofs.Ytpolpppnajfhdaa.Mem Go.Proofs.Ytpolpppnajfhdaa.Oct
set_option linter.unusedVariables false
set_option linter.unusedSimpArgs false
theorem light_any (o s : Int) (A : Option Addr) (n c : Nat) (w : World) (t : Bool) (h : decide ((n : Int) ≤ 40) = t) :
    Calls Try.prog 17 #[lsaV o s (.slice A n c)] w fun e w' => e = .returned (.bool t) ∧ Below w.heap.size w w' := by
  subst h
  go_enter Try.func17, Try.ntmps17
  go_wp2
  go_ret
  exact ⟨rfl, up1 (Below.refl _ _) _⟩
end Go.Proofs.Ytpolpppnajfhdaa.Lsa
