/-
  No cell of these rows narrows 'for every input' (looked for: loops, veiled, ifaces, maps, wideKeys, modest, calm, conditions, laid).
  DERIVED. THE GIVEN ROWS OF THIS SEAT. 4 by the template 'for every input the law returns true; each argument reads behind the call as it read before'; 0 by the template 'total and deterministic' (their statements: YtkchocafnidfiaaTotals.lean).
  GIVEN WITH THE SEED: the statements are not yours to turn. If you find one false, say at which input.
  Laid BY PROGRAM, IN A SANDBOX (cutbox-rows.mjs): the forced cells as the released guide's own fill.sh prints them over the translation 849270d80551235c… (all of the seat's roots in one cut). By AI agents, Wed Nov 11 2026. No macro, syntax, notation, axiom, sorry.
-/
import Derived.Test.YtkchocafnidfiaaChecked
import GoSem.Claim
import GoSem.ClaimJoined
import GoSem.ClaimMapViews
import Derived.JoinedTies
import Derived.KernelRfl
namespace Go.Proofs.Ytkchocafnidfiaa
/- THE CELL 'sum', in the pinned program and in every row, IS THE sha256 OF THE DUMP (.gsa) THAT YtkchocafnidfiaaProg.lean LOADS. Nothing in Lean hashes anything: it is a label: what it is worth is what the hold of that sum in a sandbox is worth. -/
noncomputable def Try.pinned : Pinned := { name := "ytkchocafnidfiaa", sum := "849270d80551235cfe1a04f5f55e7f310a32fa84f4a787a33d7a6970dbab3124", checked := Try.checked }
namespace Rows
def none {H : Type} : Left H := { results := [], args := [] }

/-- 'waymarklaw08.WalCorrupt': WHATEVER THE INPUT: true; the input reads as it did. -/
def walCorruptSpec : ChangeSpec := { name := "walCorrupt", fn := fun _ => fun
  | [d1, d2] => { results := [.lit (.bool true)], args := [d1, d2] }
  | _ => none }
def walCorruptRow : OpenClaim := { program := "ytkchocafnidfiaa", sum := "849270d80551235cfe1a04f5f55e7f310a32fa84f4a787a33d7a6970dbab3124", func := "waymark/waymarklaw08.WalCorrupt", spec := "walCorrupt", unfollowed := true, recurses := true, apart := false }
def WalCorruptSaid : Prop := walCorruptRow.holds Try.pinned (OpenSpec.ofChange walCorruptSpec)

/-- ITS FALSE NEIGHBOUR: 'it returns false'. Refute it at one input. -/
def walCorruptWrong : ChangeSpec := { name := "walCorrupt", fn := fun _ => fun
  | [d1, d2] => { results := [.lit (.bool false)], args := [d1, d2] }
  | _ => none }
def WalCorruptWrongFalsely : Prop := walCorruptRow.holds Try.pinned (OpenSpec.ofChange walCorruptWrong)

/-- 'waymarklaw09.LsaPuts': WHATEVER THE INPUT: true; the input reads as it did. -/
def lsaPutsSpec : ChangeSpec := { name := "lsaPuts", fn := fun _ => fun
  | [d1, d2, d3] => { results := [.lit (.bool true)], args := [d1, d2, d3] }
  | _ => none }
def lsaPutsRow : OpenClaim := { program := "ytkchocafnidfiaa", sum := "849270d80551235cfe1a04f5f55e7f310a32fa84f4a787a33d7a6970dbab3124", func := "waymark/waymarklaw09.LsaPuts", spec := "lsaPuts", apart := false }
def LsaPutsSaid : Prop := lsaPutsRow.holds Try.pinned (OpenSpec.ofChange lsaPutsSpec)

/-- ITS FALSE NEIGHBOUR: 'it returns false'. Refute it at one input. -/
def lsaPutsWrong : ChangeSpec := { name := "lsaPuts", fn := fun _ => fun
  | [d1, d2, d3] => { results := [.lit (.bool false)], args := [d1, d2, d3] }
  | _ => none }
def LsaPutsWrongFalsely : Prop := lsaPutsRow.holds Try.pinned (OpenSpec.ofChange lsaPutsWrong)

/-- 'waymarklaw09.LsaReads': WHATEVER THE INPUT: true; the input reads as it did. -/
def lsaReadsSpec : ChangeSpec := { name := "lsaReads", fn := fun _ => fun
  | [d] => { results := [.lit (.bool true)], args := [d] }
  | _ => none }
def lsaReadsRow : OpenClaim := { program := "ytkchocafnidfiaa", sum := "849270d80551235cfe1a04f5f55e7f310a32fa84f4a787a33d7a6970dbab3124", func := "waymark/waymarklaw09.LsaReads", spec := "lsaReads", apart := false }
def LsaReadsSaid : Prop := lsaReadsRow.holds Try.pinned (OpenSpec.ofChange lsaReadsSpec)

/-- ITS FALSE NEIGHBOUR: 'it returns false'. Refute it at one input. -/
def lsaReadsWrong : ChangeSpec := { name := "lsaReads", fn := fun _ => fun
  | [d] => { results := [.lit (.bool false)], args := [d] }
  | _ => none }
def LsaReadsWrongFalsely : Prop := lsaReadsRow.holds Try.pinned (OpenSpec.ofChange lsaReadsWrong)

/-- 'waymarklaw09.LsaTells': WHATEVER THE INPUT: true; the input reads as it did. -/
def lsaTellsSpec : ChangeSpec := { name := "lsaTells", fn := fun _ => fun
  | [d1, d2, d3] => { results := [.lit (.bool true)], args := [d1, d2, d3] }
  | _ => none }
def lsaTellsRow : OpenClaim := { program := "ytkchocafnidfiaa", sum := "849270d80551235cfe1a04f5f55e7f310a32fa84f4a787a33d7a6970dbab3124", func := "waymark/waymarklaw09.LsaTells", spec := "lsaTells", apart := false }
def LsaTellsSaid : Prop := lsaTellsRow.holds Try.pinned (OpenSpec.ofChange lsaTellsSpec)

/-- ITS FALSE NEIGHBOUR: 'it returns false'. Refute it at one input. -/
def lsaTellsWrong : ChangeSpec := { name := "lsaTells", fn := fun _ => fun
  | [d1, d2, d3] => { results := [.lit (.bool false)], args := [d1, d2, d3] }
  | _ => none }
def LsaTellsWrongFalsely : Prop := lsaTellsRow.holds Try.pinned (OpenSpec.ofChange lsaTellsWrong)

/- THE SECOND FORM. 'bulk': how many values and letters a reading holds, each counted each time it is reached (what is shared counts as often as it is met; a slice's spare places count too). A statement '..UptoSaid' is the law's where the arguments, and the package variables that the reading takes, are together of bulk at most 1048576: NARROWER than '..Said'. Prove '..Said' where nothing that the law and all that it calls make is longer than what came in: it says more and counts as full. Else prove '..UptoSaid'. A law counts once. -/
mutual
def uptoBulk {H : Type} : DataW H → Nat
  | .lit (.string bytes) => bytes.length + 1
  | .lit _ => 1
  | .nil => 1
  | .ptr d => uptoBulk d + 1
  | .slice elems spare => uptoBulkAll elems + uptoBulkAll spare + 1
  | .agg parts => uptoBulkAll parts + 1
  | .iface _ d => uptoBulk d + 1
  | .map entries => uptoBulkEntries entries + 1
  | .held _ => 1
def uptoBulkAll {H : Type} : List (DataW H) → Nat
  | [] => 0
  | d :: r => uptoBulk d + uptoBulkAll r
def uptoBulkEntries {H : Type} : List (Lit × DataW H) → Nat
  | [] => 0
  | x :: r => uptoBulkEntry x + uptoBulkEntries r
def uptoBulkEntry {H : Type} : Lit × DataW H → Nat
  | (.string bytes, d) => bytes.length + uptoBulk d + 1
  | (_, d) => uptoBulk d + 1
 end
def uptoSmall : (H : Type) → List (DataW H) → Bool := fun _ ds => decide (uptoBulkAll ds ≤ 1048576)
def OpenSpec.upto (s : _root_.Go.ChangeSpec) : _root_.Go.OpenSpec := { _root_.Go.OpenSpec.ofChange s with cond := some uptoSmall }

/-- 'waymarklaw08.WalCorrupt', WHERE WHAT IT READS IS OF BULK AT MOST 1048576: true; the input reads as it did. -/
def walCorruptUptoRow : OpenClaim := { program := "ytkchocafnidfiaa", sum := "849270d80551235cfe1a04f5f55e7f310a32fa84f4a787a33d7a6970dbab3124", func := "waymark/waymarklaw08.WalCorrupt", spec := "walCorrupt", unfollowed := true, recurses := true, apart := false, narrowed := true }
def WalCorruptUptoSaid : Prop := walCorruptUptoRow.holds Try.pinned (OpenSpec.upto walCorruptSpec)

/-- 'waymarklaw09.LsaPuts', WHERE WHAT IT READS IS OF BULK AT MOST 1048576: true; the input reads as it did. -/
def lsaPutsUptoRow : OpenClaim := { program := "ytkchocafnidfiaa", sum := "849270d80551235cfe1a04f5f55e7f310a32fa84f4a787a33d7a6970dbab3124", func := "waymark/waymarklaw09.LsaPuts", spec := "lsaPuts", apart := false, narrowed := true }
def LsaPutsUptoSaid : Prop := lsaPutsUptoRow.holds Try.pinned (OpenSpec.upto lsaPutsSpec)

/-- 'waymarklaw09.LsaReads', WHERE WHAT IT READS IS OF BULK AT MOST 1048576: true; the input reads as it did. -/
def lsaReadsUptoRow : OpenClaim := { program := "ytkchocafnidfiaa", sum := "849270d80551235cfe1a04f5f55e7f310a32fa84f4a787a33d7a6970dbab3124", func := "waymark/waymarklaw09.LsaReads", spec := "lsaReads", apart := false, narrowed := true }
def LsaReadsUptoSaid : Prop := lsaReadsUptoRow.holds Try.pinned (OpenSpec.upto lsaReadsSpec)

/-- 'waymarklaw09.LsaTells', WHERE WHAT IT READS IS OF BULK AT MOST 1048576: true; the input reads as it did. -/
def lsaTellsUptoRow : OpenClaim := { program := "ytkchocafnidfiaa", sum := "849270d80551235cfe1a04f5f55e7f310a32fa84f4a787a33d7a6970dbab3124", func := "waymark/waymarklaw09.LsaTells", spec := "lsaTells", apart := false, narrowed := true }
def LsaTellsUptoSaid : Prop := lsaTellsUptoRow.holds Try.pinned (OpenSpec.upto lsaTellsSpec)

end Rows
end Go.Proofs.Ytkchocafnidfiaa
