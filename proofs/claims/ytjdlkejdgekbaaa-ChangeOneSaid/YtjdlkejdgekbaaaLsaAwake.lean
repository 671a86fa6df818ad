/- The laws' own little example of layer 9: it is awake; and how many links an Lsa has. -/
import Derived.Test.YtjdlkejdgekbaaaLsaPut
namespace Go.Proofs.Ytjdlkejdgekbaaa.Lsa
open Go.RowKit Go.Proofs.Ytjdlkejdgekbaaa.Mem Go.Proofs.Ytjdlkejdgekbaaa.Oct
set_option linter.unusedVariables false
set_option linter.unusedSimpArgs false
theorem light_any (o s : Int) (A : Option Addr) (n c : Nat) (w : World) (t : Bool) (h : decide ((n : Int) ≤ 40) = t) :
    Calls Try.prog 51 #[lsaV o s (.slice A n c)] w fun e w' => e = .returned (.bool t) ∧ Below w.heap.size w w' := by
  subst h
  go_enter Try.func51, Try.ntmps51
  go_wp2
  go_ret
  exact ⟨rfl, up1 (Below.refl _ _) _⟩
end Go.Proofs.Ytjdlkejdgekbaaa.Lsa
