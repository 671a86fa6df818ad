/-
  No cell of these rows narrows 'for every input' (looked for: loops, veiled, ifaces, maps, wideKeys, modest, calm, conditions, laid).
  DERIVED. THE GIVEN ROWS OF THIS SEAT. 3 by the template 'for every input the law returns true; each argument reads behind the call as it read before'; 0 by the template 'total and deterministic' (their statements: YtkidjlmjjfgknaaTotals.lean).
  GIVEN WITH THE SEED: the statements are not yours to turn. If you find one false, say at which input.
  Laid BY PROGRAM, IN A SANDBOX (cutbox-rows.mjs): the forced cells as the released guide's own fill.sh prints them over the translation b4f4249279b1d6b3… (all of the seat's roots in one cut). By AI agents, Wed Nov 11 2026. No macro, syntax, notation, axiom, sorry.
-/
import Derived.Test.YtkidjlmjjfgknaaChecked
import GoSem.Claim
import GoSem.ClaimJoined
import GoSem.ClaimMapViews
import Derived.JoinedTies
import Derived.KernelRfl
namespace Go.Proofs.Ytkidjlmjjfgknaa
/- THE CELL 'sum', in the pinned program and in every row, IS THE sha256 OF THE DUMP (.gsa) THAT YtkidjlmjjfgknaaProg.lean LOADS. Nothing in Lean hashes anything: it is a label: what it is worth is what the hold of that sum in a sandbox is worth. -/
noncomputable def Try.pinned : Pinned := { name := "ytkidjlmjjfgknaa", sum := "b4f4249279b1d6b33097ab140632114bfd3b340683141c10f868f617f41625ad", checked := Try.checked }
namespace Rows
def none {H : Type} : Left H := { results := [], args := [] }

/-- 'waymarklaw07.SlotLoads': WHATEVER THE INPUT: true; the input reads as it did. -/
def slotLoadsSpec : ChangeSpec := { name := "slotLoads", fn := fun _ => fun
  | [d1, d2] => { results := [.lit (.bool true)], args := [d1, d2] }
  | _ => none }
def slotLoadsRow : OpenClaim := { program := "ytkidjlmjjfgknaa", sum := "b4f4249279b1d6b33097ab140632114bfd3b340683141c10f868f617f41625ad", func := "waymark/waymarklaw07.SlotLoads", spec := "slotLoads", unfollowed := true, recurses := true, apart := false }
def SlotLoadsSaid : Prop := slotLoadsRow.holds Try.pinned (OpenSpec.ofChange slotLoadsSpec)

/-- ITS FALSE NEIGHBOUR: 'it returns false'. Refute it at one input. -/
def slotLoadsWrong : ChangeSpec := { name := "slotLoads", fn := fun _ => fun
  | [d1, d2] => { results := [.lit (.bool false)], args := [d1, d2] }
  | _ => none }
def SlotLoadsWrongFalsely : Prop := slotLoadsRow.holds Try.pinned (OpenSpec.ofChange slotLoadsWrong)

/-- 'waymarklaw07.SlotSectors': WHATEVER THE INPUT: true; the input reads as it did. -/
def slotSectorsSpec : ChangeSpec := { name := "slotSectors", fn := fun _ => fun
  | [d1, d2, d3] => { results := [.lit (.bool true)], args := [d1, d2, d3] }
  | _ => none }
def slotSectorsRow : OpenClaim := { program := "ytkidjlmjjfgknaa", sum := "b4f4249279b1d6b33097ab140632114bfd3b340683141c10f868f617f41625ad", func := "waymark/waymarklaw07.SlotSectors", spec := "slotSectors", unfollowed := true, recurses := true, apart := false }
def SlotSectorsSaid : Prop := slotSectorsRow.holds Try.pinned (OpenSpec.ofChange slotSectorsSpec)

/-- ITS FALSE NEIGHBOUR: 'it returns false'. Refute it at one input. -/
def slotSectorsWrong : ChangeSpec := { name := "slotSectors", fn := fun _ => fun
  | [d1, d2, d3] => { results := [.lit (.bool false)], args := [d1, d2, d3] }
  | _ => none }
def SlotSectorsWrongFalsely : Prop := slotSectorsRow.holds Try.pinned (OpenSpec.ofChange slotSectorsWrong)

/-- 'waymarklaw07.SlotTears': WHATEVER THE INPUT: true; the input reads as it did. -/
def slotTearsSpec : ChangeSpec := { name := "slotTears", fn := fun _ => fun
  | [d1, d2] => { results := [.lit (.bool true)], args := [d1, d2] }
  | _ => none }
def slotTearsRow : OpenClaim := { program := "ytkidjlmjjfgknaa", sum := "b4f4249279b1d6b33097ab140632114bfd3b340683141c10f868f617f41625ad", func := "waymark/waymarklaw07.SlotTears", spec := "slotTears", unfollowed := true, recurses := true, apart := false }
def SlotTearsSaid : Prop := slotTearsRow.holds Try.pinned (OpenSpec.ofChange slotTearsSpec)

/-- ITS FALSE NEIGHBOUR: 'it returns false'. Refute it at one input. -/
def slotTearsWrong : ChangeSpec := { name := "slotTears", fn := fun _ => fun
  | [d1, d2] => { results := [.lit (.bool false)], args := [d1, d2] }
  | _ => none }
def SlotTearsWrongFalsely : Prop := slotTearsRow.holds Try.pinned (OpenSpec.ofChange slotTearsWrong)

/- THE SECOND FORM. 'bulk': how many values and letters a reading holds, each counted each time it is reached (what is shared counts as often as it is met; a slice's spare places count too). A statement '..UptoSaid' is the law's where the arguments, and the package variables that the reading takes, are together of bulk at most 1048576: NARROWER than '..Said'. Prove '..Said' where nothing that the law and all that it calls make is longer than what came in: it says more and counts as full. Else prove '..UptoSaid'. A law counts once. -/
mutual
def uptoBulk {H : Type} : DataW H → Nat
  | .lit (.string bytes) => bytes.length + 1
  | .lit _ => 1
  | .nil => 1
  | .ptr d => uptoBulk d + 1
  | .slice elems spare => uptoBulkAll elems + uptoBulkAll spare + 1
  | .agg parts => uptoBulkAll parts + 1
  | .iface _ d => uptoBulk d + 1
  | .map entries => uptoBulkEntries entries + 1
  | .held _ => 1
def uptoBulkAll {H : Type} : List (DataW H) → Nat
  | [] => 0
  | d :: r => uptoBulk d + uptoBulkAll r
def uptoBulkEntries {H : Type} : List (Lit × DataW H) → Nat
  | [] => 0
  | x :: r => uptoBulkEntry x + uptoBulkEntries r
def uptoBulkEntry {H : Type} : Lit × DataW H → Nat
  | (.string bytes, d) => bytes.length + uptoBulk d + 1
  | (_, d) => uptoBulk d + 1
 end
def uptoSmall : (H : Type) → List (DataW H) → Bool := fun _ ds => decide (uptoBulkAll ds ≤ 1048576)
def OpenSpec.upto (s : _root_.Go.ChangeSpec) : _root_.Go.OpenSpec := { _root_.Go.OpenSpec.ofChange s with cond := some uptoSmall }

/-- 'waymarklaw07.SlotLoads', WHERE WHAT IT READS IS OF BULK AT MOST 1048576: true; the input reads as it did. -/
def slotLoadsUptoRow : OpenClaim := { program := "ytkidjlmjjfgknaa", sum := "b4f4249279b1d6b33097ab140632114bfd3b340683141c10f868f617f41625ad", func := "waymark/waymarklaw07.SlotLoads", spec := "slotLoads", unfollowed := true, recurses := true, apart := false, narrowed := true }
def SlotLoadsUptoSaid : Prop := slotLoadsUptoRow.holds Try.pinned (OpenSpec.upto slotLoadsSpec)

/-- 'waymarklaw07.SlotSectors', WHERE WHAT IT READS IS OF BULK AT MOST 1048576: true; the input reads as it did. -/
def slotSectorsUptoRow : OpenClaim := { program := "ytkidjlmjjfgknaa", sum := "b4f4249279b1d6b33097ab140632114bfd3b340683141c10f868f617f41625ad", func := "waymark/waymarklaw07.SlotSectors", spec := "slotSectors", unfollowed := true, recurses := true, apart := false, narrowed := true }
def SlotSectorsUptoSaid : Prop := slotSectorsUptoRow.holds Try.pinned (OpenSpec.upto slotSectorsSpec)

/-- 'waymarklaw07.SlotTears', WHERE WHAT IT READS IS OF BULK AT MOST 1048576: true; the input reads as it did. -/
def slotTearsUptoRow : OpenClaim := { program := "ytkidjlmjjfgknaa", sum := "b4f4249279b1d6b33097ab140632114bfd3b340683141c10f868f617f41625ad", func := "waymark/waymarklaw07.SlotTears", spec := "slotTears", unfollowed := true, recurses := true, apart := false, narrowed := true }
def SlotTearsUptoSaid : Prop := slotTearsUptoRow.holds Try.pinned (OpenSpec.upto slotTearsSpec)

end Rows
end Go.Proofs.Ytkidjlmjjfgknaa
