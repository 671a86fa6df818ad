/-
  No cell of these rows narrows 'for every input' (looked for: loops, veiled, ifaces, maps, wideKeys, modest, calm, conditions, laid).
  DERIVED. THE GIVEN ROWS OF THIS SEAT. 4 by the template 'for every input the law returns true; each argument reads behind the call as it read before'; 0 by the template 'total and deterministic' (their statements: YtjdlkejdgekbaaaTotals.lean).
  GIVEN WITH THE SEED: the statements are not yours to turn. If you find one false, say at which input.
  Laid BY PROGRAM, IN A SANDBOX (cutbox-rows.mjs): the forced cells as the released guide's own fill.sh prints them over the translation ee5c7bd15630c4ca… (all of the seat's roots in one cut). By AI agents, Wed Nov 11 2026. No macro, syntax, notation, axiom, sorry.
-/
import Derived.Test.YtjdlkejdgekbaaaChecked
import GoSem.Claim
import GoSem.ClaimJoined
import GoSem.ClaimMapViews
import Derived.JoinedTies
import Derived.KernelRfl
namespace Go.Proofs.Ytjdlkejdgekbaaa
/- THE CELL 'sum', in the pinned program and in every row, IS THE sha256 OF THE DUMP (.gsa) THAT YtjdlkejdgekbaaaProg.lean LOADS. Nothing in Lean hashes anything: it is a label: what it is worth is what the hold of that sum in a sandbox is worth. -/
noncomputable def Try.pinned : Pinned := { name := "ytjdlkejdgekbaaa", sum := "ee5c7bd15630c4cac8135ec6829e7f861d04b8dc949f58b2d958e3117b686865", checked := Try.checked }
namespace Rows
def none {H : Type} : Left H := { results := [], args := [] }

/-- 'waymarklaw08.WalCorrupt': WHATEVER THE INPUT: true; the input reads as it did. -/
def walCorruptSpec : ChangeSpec := { name := "walCorrupt", fn := fun _ => fun
  | [d1, d2] => { results := [.lit (.bool true)], args := [d1, d2] }
  | _ => none }
def walCorruptRow : OpenClaim := { program := "ytjdlkejdgekbaaa", sum := "ee5c7bd15630c4cac8135ec6829e7f861d04b8dc949f58b2d958e3117b686865", func := "waymark/waymarklaw08.WalCorrupt", spec := "walCorrupt", unfollowed := true, recurses := true, apart := false }
def WalCorruptSaid : Prop := walCorruptRow.holds Try.pinned (OpenSpec.ofChange walCorruptSpec)

/-- ITS FALSE NEIGHBOUR: 'it returns false'. Refute it at one input. -/
def walCorruptWrong : ChangeSpec := { name := "walCorrupt", fn := fun _ => fun
  | [d1, d2] => { results := [.lit (.bool false)], args := [d1, d2] }
  | _ => none }
def WalCorruptWrongFalsely : Prop := walCorruptRow.holds Try.pinned (OpenSpec.ofChange walCorruptWrong)

/-- 'waymarklaw10.ChangePuts': WHATEVER THE INPUT: true; the input reads as it did. -/
def changePutsSpec : ChangeSpec := { name := "changePuts", fn := fun _ => fun
  | [d1, d2, d3] => { results := [.lit (.bool true)], args := [d1, d2, d3] }
  | _ => none }
def changePutsRow : OpenClaim := { program := "ytjdlkejdgekbaaa", sum := "ee5c7bd15630c4cac8135ec6829e7f861d04b8dc949f58b2d958e3117b686865", func := "waymark/waymarklaw10.ChangePuts", spec := "changePuts", apart := false }
def ChangePutsSaid : Prop := changePutsRow.holds Try.pinned (OpenSpec.ofChange changePutsSpec)

/-- ITS FALSE NEIGHBOUR: 'it returns false'. Refute it at one input. -/
def changePutsWrong : ChangeSpec := { name := "changePuts", fn := fun _ => fun
  | [d1, d2, d3] => { results := [.lit (.bool false)], args := [d1, d2, d3] }
  | _ => none }
def ChangePutsWrongFalsely : Prop := changePutsRow.holds Try.pinned (OpenSpec.ofChange changePutsWrong)

/-- 'waymarklaw10.ChangeGets': WHATEVER THE INPUT: true; the input reads as it did. -/
def changeGetsSpec : ChangeSpec := { name := "changeGets", fn := fun _ => fun
  | [d] => { results := [.lit (.bool true)], args := [d] }
  | _ => none }
def changeGetsRow : OpenClaim := { program := "ytjdlkejdgekbaaa", sum := "ee5c7bd15630c4cac8135ec6829e7f861d04b8dc949f58b2d958e3117b686865", func := "waymark/waymarklaw10.ChangeGets", spec := "changeGets", apart := false }
def ChangeGetsSaid : Prop := changeGetsRow.holds Try.pinned (OpenSpec.ofChange changeGetsSpec)

/-- ITS FALSE NEIGHBOUR: 'it returns false'. Refute it at one input. -/
def changeGetsWrong : ChangeSpec := { name := "changeGets", fn := fun _ => fun
  | [d] => { results := [.lit (.bool false)], args := [d] }
  | _ => none }
def ChangeGetsWrongFalsely : Prop := changeGetsRow.holds Try.pinned (OpenSpec.ofChange changeGetsWrong)

/-- 'waymarklaw10.ChangeOne': WHATEVER THE INPUT: true; the input reads as it did. -/
def changeOneSpec : ChangeSpec := { name := "changeOne", fn := fun _ => fun
  | [d] => { results := [.lit (.bool true)], args := [d] }
  | _ => none }
def changeOneRow : OpenClaim := { program := "ytjdlkejdgekbaaa", sum := "ee5c7bd15630c4cac8135ec6829e7f861d04b8dc949f58b2d958e3117b686865", func := "waymark/waymarklaw10.ChangeOne", spec := "changeOne", apart := false }
def ChangeOneSaid : Prop := changeOneRow.holds Try.pinned (OpenSpec.ofChange changeOneSpec)

/-- ITS FALSE NEIGHBOUR: 'it returns false'. Refute it at one input. -/
def changeOneWrong : ChangeSpec := { name := "changeOne", fn := fun _ => fun
  | [d] => { results := [.lit (.bool false)], args := [d] }
  | _ => none }
def ChangeOneWrongFalsely : Prop := changeOneRow.holds Try.pinned (OpenSpec.ofChange changeOneWrong)

/- THE SECOND FORM. 'bulk': how many values and letters a reading holds, each counted each time it is reached (what is shared counts as often as it is met; a slice's spare places count too). A statement '..UptoSaid' is the law's where the arguments, and the package variables that the reading takes, are together of bulk at most 1048576: NARROWER than '..Said'. Prove '..Said' where nothing that the law and all that it calls make is longer than what came in: it says more and counts as full. Else prove '..UptoSaid'. A law counts once. -/
mutual
def uptoBulk {H : Type} : DataW H → Nat
  | .lit (.string bytes) => bytes.length + 1
  | .lit _ => 1
  | .nil => 1
  | .ptr d => uptoBulk d + 1
  | .slice elems spare => uptoBulkAll elems + uptoBulkAll spare + 1
  | .agg parts => uptoBulkAll parts + 1
  | .iface _ d => uptoBulk d + 1
  | .map entries => uptoBulkEntries entries + 1
  | .held _ => 1
def uptoBulkAll {H : Type} : List (DataW H) → Nat
  | [] => 0
  | d :: r => uptoBulk d + uptoBulkAll r
def uptoBulkEntries {H : Type} : List (Lit × DataW H) → Nat
  | [] => 0
  | x :: r => uptoBulkEntry x + uptoBulkEntries r
def uptoBulkEntry {H : Type} : Lit × DataW H → Nat
  | (.string bytes, d) => bytes.length + uptoBulk d + 1
  | (_, d) => uptoBulk d + 1
 end
def uptoSmall : (H : Type) → List (DataW H) → Bool := fun _ ds => decide (uptoBulkAll ds ≤ 1048576)
def OpenSpec.upto (s : _root_.Go.ChangeSpec) : _root_.Go.OpenSpec := { _root_.Go.OpenSpec.ofChange s with cond := some uptoSmall }

/-- 'waymarklaw08.WalCorrupt', WHERE WHAT IT READS IS OF BULK AT MOST 1048576: true; the input reads as it did. -/
def walCorruptUptoRow : OpenClaim := { program := "ytjdlkejdgekbaaa", sum := "ee5c7bd15630c4cac8135ec6829e7f861d04b8dc949f58b2d958e3117b686865", func := "waymark/waymarklaw08.WalCorrupt", spec := "walCorrupt", unfollowed := true, recurses := true, apart := false, narrowed := true }
def WalCorruptUptoSaid : Prop := walCorruptUptoRow.holds Try.pinned (OpenSpec.upto walCorruptSpec)

/-- 'waymarklaw10.ChangePuts', WHERE WHAT IT READS IS OF BULK AT MOST 1048576: true; the input reads as it did. -/
def changePutsUptoRow : OpenClaim := { program := "ytjdlkejdgekbaaa", sum := "ee5c7bd15630c4cac8135ec6829e7f861d04b8dc949f58b2d958e3117b686865", func := "waymark/waymarklaw10.ChangePuts", spec := "changePuts", apart := false, narrowed := true }
def ChangePutsUptoSaid : Prop := changePutsUptoRow.holds Try.pinned (OpenSpec.upto changePutsSpec)

/-- 'waymarklaw10.ChangeGets', WHERE WHAT IT READS IS OF BULK AT MOST 1048576: true; the input reads as it did. -/
def changeGetsUptoRow : OpenClaim := { program := "ytjdlkejdgekbaaa", sum := "ee5c7bd15630c4cac8135ec6829e7f861d04b8dc949f58b2d958e3117b686865", func := "waymark/waymarklaw10.ChangeGets", spec := "changeGets", apart := false, narrowed := true }
def ChangeGetsUptoSaid : Prop := changeGetsUptoRow.holds Try.pinned (OpenSpec.upto changeGetsSpec)

/-- 'waymarklaw10.ChangeOne', WHERE WHAT IT READS IS OF BULK AT MOST 1048576: true; the input reads as it did. -/
def changeOneUptoRow : OpenClaim := { program := "ytjdlkejdgekbaaa", sum := "ee5c7bd15630c4cac8135ec6829e7f861d04b8dc949f58b2d958e3117b686865", func := "waymark/waymarklaw10.ChangeOne", spec := "changeOne", apart := false, narrowed := true }
def ChangeOneUptoSaid : Prop := changeOneUptoRow.holds Try.pinned (OpenSpec.upto changeOneSpec)

end Rows
end Go.Proofs.Ytjdlkejdgekbaaa
