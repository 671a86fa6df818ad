/-
  No cell of these rows narrows 'for every input' (looked for: loops, veiled, ifaces, maps, wideKeys, modest, calm, conditions, laid).
  DERIVED. THE GIVEN ROWS OF THIS SEAT. 3 by the template 'for every input the law returns true; each argument reads behind the call as it read before'; 0 by the template 'total and deterministic' (their statements: YtgfoadldghcdeaaTotals.lean).
  GIVEN WITH THE SEED: the statements are not yours to turn. If you find one false, say at which input.
  Laid BY PROGRAM, IN A SANDBOX (cutbox-rows.mjs): the forced cells as the released guide's own fill.sh prints them over the translation af6b9d7f0eb23d3a… (all of the seat's roots in one cut). By AI agents, Wed Nov 11 2026. No macro, syntax, notation, axiom, sorry.
-/
import Derived.Test.YtgfoadldghcdeaaChecked
import GoSem.Claim
import GoSem.ClaimJoined
import GoSem.ClaimMapViews
import Derived.JoinedTies
import Derived.KernelRfl
namespace Go.Proofs.Ytgfoadldghcdeaa
/- THE CELL 'sum', in the pinned program and in every row, IS THE sha256 OF THE DUMP (.gsa) THAT YtgfoadldghcdeaaProg.lean LOADS. Nothing in Lean hashes anything: it is a label: what it is worth is what the hold of that sum in a sandbox is worth. -/
noncomputable def Try.pinned : Pinned := { name := "ytgfoadldghcdeaa", sum := "af6b9d7f0eb23d3ae10a56fa2e9a7d6efdb421a3672452313e6a777f52834d58", checked := Try.checked }
namespace Rows
def none {H : Type} : Left H := { results := [], args := [] }

/-- 'waymarklaw17.NearHello': WHATEVER THE INPUT: true; the input reads as it did. -/
def nearHelloSpec : ChangeSpec := { name := "nearHello", fn := fun _ => fun
  | [d1, d2, d3] => { results := [.lit (.bool true)], args := [d1, d2, d3] }
  | _ => none }
def nearHelloRow : OpenClaim := { program := "ytgfoadldghcdeaa", sum := "af6b9d7f0eb23d3ae10a56fa2e9a7d6efdb421a3672452313e6a777f52834d58", func := "waymark/waymarklaw17.NearHello", spec := "nearHello", apart := false }
def NearHelloSaid : Prop := nearHelloRow.holds Try.pinned (OpenSpec.ofChange nearHelloSpec)

/-- ITS FALSE NEIGHBOUR: 'it returns false'. Refute it at one input. -/
def nearHelloWrong : ChangeSpec := { name := "nearHello", fn := fun _ => fun
  | [d1, d2, d3] => { results := [.lit (.bool false)], args := [d1, d2, d3] }
  | _ => none }
def NearHelloWrongFalsely : Prop := nearHelloRow.holds Try.pinned (OpenSpec.ofChange nearHelloWrong)

/-- 'waymarklaw17.NearTells': WHATEVER THE INPUT: true; the input reads as it did. -/
def nearTellsSpec : ChangeSpec := { name := "nearTells", fn := fun _ => fun
  | [d1, d2] => { results := [.lit (.bool true)], args := [d1, d2] }
  | _ => none }
def nearTellsRow : OpenClaim := { program := "ytgfoadldghcdeaa", sum := "af6b9d7f0eb23d3ae10a56fa2e9a7d6efdb421a3672452313e6a777f52834d58", func := "waymark/waymarklaw17.NearTells", spec := "nearTells", apart := false }
def NearTellsSaid : Prop := nearTellsRow.holds Try.pinned (OpenSpec.ofChange nearTellsSpec)

/-- ITS FALSE NEIGHBOUR: 'it returns false'. Refute it at one input. -/
def nearTellsWrong : ChangeSpec := { name := "nearTells", fn := fun _ => fun
  | [d1, d2] => { results := [.lit (.bool false)], args := [d1, d2] }
  | _ => none }
def NearTellsWrongFalsely : Prop := nearTellsRow.holds Try.pinned (OpenSpec.ofChange nearTellsWrong)

/-- 'waymarklaw17.NearGoes': WHATEVER THE INPUT: true; the input reads as it did. -/
def nearGoesSpec : ChangeSpec := { name := "nearGoes", fn := fun _ => fun
  | [d1, d2] => { results := [.lit (.bool true)], args := [d1, d2] }
  | _ => none }
def nearGoesRow : OpenClaim := { program := "ytgfoadldghcdeaa", sum := "af6b9d7f0eb23d3ae10a56fa2e9a7d6efdb421a3672452313e6a777f52834d58", func := "waymark/waymarklaw17.NearGoes", spec := "nearGoes", apart := false }
def NearGoesSaid : Prop := nearGoesRow.holds Try.pinned (OpenSpec.ofChange nearGoesSpec)

/-- ITS FALSE NEIGHBOUR: 'it returns false'. Refute it at one input. -/
def nearGoesWrong : ChangeSpec := { name := "nearGoes", fn := fun _ => fun
  | [d1, d2] => { results := [.lit (.bool false)], args := [d1, d2] }
  | _ => none }
def NearGoesWrongFalsely : Prop := nearGoesRow.holds Try.pinned (OpenSpec.ofChange nearGoesWrong)

/- THE SECOND FORM. 'bulk': how many values and letters a reading holds, each counted each time it is reached (what is shared counts as often as it is met; a slice's spare places count too). A statement '..UptoSaid' is the law's where the arguments, and the package variables that the reading takes, are together of bulk at most 1048576: NARROWER than '..Said'. Prove '..Said' where nothing that the law and all that it calls make is longer than what came in: it says more and counts as full. Else prove '..UptoSaid'. A law counts once. -/
mutual
def uptoBulk {H : Type} : DataW H → Nat
  | .lit (.string bytes) => bytes.length + 1
  | .lit _ => 1
  | .nil => 1
  | .ptr d => uptoBulk d + 1
  | .slice elems spare => uptoBulkAll elems + uptoBulkAll spare + 1
  | .agg parts => uptoBulkAll parts + 1
  | .iface _ d => uptoBulk d + 1
  | .map entries => uptoBulkEntries entries + 1
  | .held _ => 1
def uptoBulkAll {H : Type} : List (DataW H) → Nat
  | [] => 0
  | d :: r => uptoBulk d + uptoBulkAll r
def uptoBulkEntries {H : Type} : List (Lit × DataW H) → Nat
  | [] => 0
  | x :: r => uptoBulkEntry x + uptoBulkEntries r
def uptoBulkEntry {H : Type} : Lit × DataW H → Nat
  | (.string bytes, d) => bytes.length + uptoBulk d + 1
  | (_, d) => uptoBulk d + 1
 end
def uptoSmall : (H : Type) → List (DataW H) → Bool := fun _ ds => decide (uptoBulkAll ds ≤ 1048576)
def OpenSpec.upto (s : _root_.Go.ChangeSpec) : _root_.Go.OpenSpec := { _root_.Go.OpenSpec.ofChange s with cond := some uptoSmall }

/-- 'waymarklaw17.NearHello', WHERE WHAT IT READS IS OF BULK AT MOST 1048576: true; the input reads as it did. -/
def nearHelloUptoRow : OpenClaim := { program := "ytgfoadldghcdeaa", sum := "af6b9d7f0eb23d3ae10a56fa2e9a7d6efdb421a3672452313e6a777f52834d58", func := "waymark/waymarklaw17.NearHello", spec := "nearHello", apart := false, narrowed := true }
def NearHelloUptoSaid : Prop := nearHelloUptoRow.holds Try.pinned (OpenSpec.upto nearHelloSpec)

/-- 'waymarklaw17.NearTells', WHERE WHAT IT READS IS OF BULK AT MOST 1048576: true; the input reads as it did. -/
def nearTellsUptoRow : OpenClaim := { program := "ytgfoadldghcdeaa", sum := "af6b9d7f0eb23d3ae10a56fa2e9a7d6efdb421a3672452313e6a777f52834d58", func := "waymark/waymarklaw17.NearTells", spec := "nearTells", apart := false, narrowed := true }
def NearTellsUptoSaid : Prop := nearTellsUptoRow.holds Try.pinned (OpenSpec.upto nearTellsSpec)

/-- 'waymarklaw17.NearGoes', WHERE WHAT IT READS IS OF BULK AT MOST 1048576: true; the input reads as it did. -/
def nearGoesUptoRow : OpenClaim := { program := "ytgfoadldghcdeaa", sum := "af6b9d7f0eb23d3ae10a56fa2e9a7d6efdb421a3672452313e6a777f52834d58", func := "waymark/waymarklaw17.NearGoes", spec := "nearGoes", apart := false, narrowed := true }
def NearGoesUptoSaid : Prop := nearGoesUptoRow.holds Try.pinned (OpenSpec.upto nearGoesSpec)

end Rows
end Go.Proofs.Ytgfoadldghcdeaa
