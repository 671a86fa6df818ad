/- The laws' own little example of layer 9: it is awake; and how many links an Lsa has. -/
import Derived.Test.YtplpmemlaohlaaaGreatKpLsaPut
namespace Go.Proofs.YtplpmemlaohlaaaGreat.Lsa
open Go.RowKit Mem Oct
set_option linter.unusedVariables false
set_option linter.unusedSimpArgs false
theorem light_any (o s:Int) (A:Option Addr) (n c:Nat) (w:World) (t:Bool) (h:decide ((n:Int)≤40)=t) :
  Calls Tryz.prog 66 #[lsaV o s (.slice A n c)] w fun e w'=>e=.returned (.bool t)∧Below w.heap.size w w':=by
 subst h
 go_enter Tryz.func66,Tryz.ntmps66
 go_wp2
 go_ret
 exact ⟨rfl,up1 (Below.refl _ _) _⟩
end Go.Proofs.YtplpmemlaohlaaaGreat.Lsa
