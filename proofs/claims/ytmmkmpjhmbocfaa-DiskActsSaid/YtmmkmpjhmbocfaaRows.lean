/-
  No cell of these rows narrows 'for every input' (looked for: loops, veiled, ifaces, maps, wideKeys, modest, calm, conditions, laid).
  DERIVED. THE GIVEN ROWS OF THIS SEAT. 6 by the template 'for every input the law returns true; each argument reads behind the call as it read before'; 0 by the template 'total and deterministic' (their statements: YtmmkmpjhmbocfaaTotals.lean).
  GIVEN WITH THE SEED: the statements are not yours to turn. If you find one false, say at which input.
  Laid BY PROGRAM, IN A SANDBOX (cutbox-rows.mjs): the forced cells as the released guide's own fill.sh prints them over the translation 0147c4a126f3020d… (all of the seat's roots in one cut). By AI agents, Wed Nov 11 2026. No macro, syntax, notation, axiom, sorry.
-/
import Derived.Test.YtmmkmpjhmbocfaaChecked
import GoSem.Claim
import GoSem.ClaimJoined
import GoSem.ClaimMapViews
import Derived.JoinedTies
import Derived.KernelRfl
namespace Go.Proofs.Ytmmkmpjhmbocfaa
/- THE CELL 'sum', in the pinned program and in every row, IS THE sha256 OF THE DUMP (.gsa) THAT YtmmkmpjhmbocfaaProg.lean LOADS. Nothing in Lean hashes anything: it is a label: what it is worth is what the hold of that sum in a sandbox is worth. -/
noncomputable def Try.pinned : Pinned := { name := "ytmmkmpjhmbocfaa", sum := "0147c4a126f3020daab5f43e4ccb260fa59886375c750eb8e2142ca05eee54e3", checked := Try.checked }
namespace Rows
def none {H : Type} : Left H := { results := [], args := [] }

/-- 'ricklaw01.DiskActs': WHATEVER THE INPUT: true; the input reads as it did. -/
def diskActsSpec : ChangeSpec := { name := "diskActs", fn := fun _ => fun
  | [d1, d2] => { results := [.lit (.bool true)], args := [d1, d2] }
  | _ => none }
def diskActsRow : OpenClaim := { program := "ytmmkmpjhmbocfaa", sum := "0147c4a126f3020daab5f43e4ccb260fa59886375c750eb8e2142ca05eee54e3", func := "rick/ricklaw01.DiskActs", spec := "diskActs", apart := false }
def DiskActsSaid : Prop := diskActsRow.holds Try.pinned (OpenSpec.ofChange diskActsSpec)

/-- ITS FALSE NEIGHBOUR: 'it returns false'. Refute it at one input. -/
def diskActsWrong : ChangeSpec := { name := "diskActs", fn := fun _ => fun
  | [d1, d2] => { results := [.lit (.bool false)], args := [d1, d2] }
  | _ => none }
def DiskActsWrongFalsely : Prop := diskActsRow.holds Try.pinned (OpenSpec.ofChange diskActsWrong)

/-- 'ricklaw03.PageDisks': WHATEVER THE INPUT: true; the input reads as it did. -/
def pageDisksSpec : ChangeSpec := { name := "pageDisks", fn := fun _ => fun
  | [d1, d2, d3] => { results := [.lit (.bool true)], args := [d1, d2, d3] }
  | _ => none }
def pageDisksRow : OpenClaim := { program := "ytmmkmpjhmbocfaa", sum := "0147c4a126f3020daab5f43e4ccb260fa59886375c750eb8e2142ca05eee54e3", func := "rick/ricklaw03.PageDisks", spec := "pageDisks", apart := false }
def PageDisksSaid : Prop := pageDisksRow.holds Try.pinned (OpenSpec.ofChange pageDisksSpec)

/-- ITS FALSE NEIGHBOUR: 'it returns false'. Refute it at one input. -/
def pageDisksWrong : ChangeSpec := { name := "pageDisks", fn := fun _ => fun
  | [d1, d2, d3] => { results := [.lit (.bool false)], args := [d1, d2, d3] }
  | _ => none }
def PageDisksWrongFalsely : Prop := pageDisksRow.holds Try.pinned (OpenSpec.ofChange pageDisksWrong)

/-- 'ricklaw03.PageMoves': WHATEVER THE INPUT: true; the input reads as it did. -/
def pageMovesSpec : ChangeSpec := { name := "pageMoves", fn := fun _ => fun
  | [d1, d2] => { results := [.lit (.bool true)], args := [d1, d2] }
  | _ => none }
def pageMovesRow : OpenClaim := { program := "ytmmkmpjhmbocfaa", sum := "0147c4a126f3020daab5f43e4ccb260fa59886375c750eb8e2142ca05eee54e3", func := "rick/ricklaw03.PageMoves", spec := "pageMoves", apart := false }
def PageMovesSaid : Prop := pageMovesRow.holds Try.pinned (OpenSpec.ofChange pageMovesSpec)

/-- ITS FALSE NEIGHBOUR: 'it returns false'. Refute it at one input. -/
def pageMovesWrong : ChangeSpec := { name := "pageMoves", fn := fun _ => fun
  | [d1, d2] => { results := [.lit (.bool false)], args := [d1, d2] }
  | _ => none }
def PageMovesWrongFalsely : Prop := pageMovesRow.holds Try.pinned (OpenSpec.ofChange pageMovesWrong)

/-- 'ricklaw15.SuperPuts': WHATEVER THE INPUT: true; the input reads as it did. -/
def superPutsSpec : ChangeSpec := { name := "superPuts", fn := fun _ => fun
  | [d1, d2] => { results := [.lit (.bool true)], args := [d1, d2] }
  | _ => none }
def superPutsRow : OpenClaim := { program := "ytmmkmpjhmbocfaa", sum := "0147c4a126f3020daab5f43e4ccb260fa59886375c750eb8e2142ca05eee54e3", func := "rick/ricklaw15.SuperPuts", spec := "superPuts", apart := false }
def SuperPutsSaid : Prop := superPutsRow.holds Try.pinned (OpenSpec.ofChange superPutsSpec)

/-- ITS FALSE NEIGHBOUR: 'it returns false'. Refute it at one input. -/
def superPutsWrong : ChangeSpec := { name := "superPuts", fn := fun _ => fun
  | [d1, d2] => { results := [.lit (.bool false)], args := [d1, d2] }
  | _ => none }
def SuperPutsWrongFalsely : Prop := superPutsRow.holds Try.pinned (OpenSpec.ofChange superPutsWrong)

/-- 'ricklaw15.SuperTears': WHATEVER THE INPUT: true; the input reads as it did. -/
def superTearsSpec : ChangeSpec := { name := "superTears", fn := fun _ => fun
  | [d1, d2, d3] => { results := [.lit (.bool true)], args := [d1, d2, d3] }
  | _ => none }
def superTearsRow : OpenClaim := { program := "ytmmkmpjhmbocfaa", sum := "0147c4a126f3020daab5f43e4ccb260fa59886375c750eb8e2142ca05eee54e3", func := "rick/ricklaw15.SuperTears", spec := "superTears", apart := false }
def SuperTearsSaid : Prop := superTearsRow.holds Try.pinned (OpenSpec.ofChange superTearsSpec)

/-- ITS FALSE NEIGHBOUR: 'it returns false'. Refute it at one input. -/
def superTearsWrong : ChangeSpec := { name := "superTears", fn := fun _ => fun
  | [d1, d2, d3] => { results := [.lit (.bool false)], args := [d1, d2, d3] }
  | _ => none }
def SuperTearsWrongFalsely : Prop := superTearsRow.holds Try.pinned (OpenSpec.ofChange superTearsWrong)

/-- 'ricklaw15.SuperTurns': WHATEVER THE INPUT: true; the input reads as it did. -/
def superTurnsSpec : ChangeSpec := { name := "superTurns", fn := fun _ => fun
  | [d1, d2] => { results := [.lit (.bool true)], args := [d1, d2] }
  | _ => none }
def superTurnsRow : OpenClaim := { program := "ytmmkmpjhmbocfaa", sum := "0147c4a126f3020daab5f43e4ccb260fa59886375c750eb8e2142ca05eee54e3", func := "rick/ricklaw15.SuperTurns", spec := "superTurns", apart := false }
def SuperTurnsSaid : Prop := superTurnsRow.holds Try.pinned (OpenSpec.ofChange superTurnsSpec)

/-- ITS FALSE NEIGHBOUR: 'it returns false'. Refute it at one input. -/
def superTurnsWrong : ChangeSpec := { name := "superTurns", fn := fun _ => fun
  | [d1, d2] => { results := [.lit (.bool false)], args := [d1, d2] }
  | _ => none }
def SuperTurnsWrongFalsely : Prop := superTurnsRow.holds Try.pinned (OpenSpec.ofChange superTurnsWrong)

/- THE SECOND FORM. 'bulk': how many values and letters a reading holds, each counted each time it is reached (what is shared counts as often as it is met; a slice's spare places count too). A statement '..UptoSaid' is the law's where the arguments, and the package variables that the reading takes, are together of bulk at most 1048576: NARROWER than '..Said'. Prove '..Said' where nothing that the law and all that it calls make is longer than what came in: it says more and counts as full. Else prove '..UptoSaid'. A law counts once. -/
mutual
def uptoBulk {H : Type} : DataW H → Nat
  | .lit (.string bytes) => bytes.length + 1
  | .lit _ => 1
  | .nil => 1
  | .ptr d => uptoBulk d + 1
  | .slice elems spare => uptoBulkAll elems + uptoBulkAll spare + 1
  | .agg parts => uptoBulkAll parts + 1
  | .iface _ d => uptoBulk d + 1
  | .map entries => uptoBulkEntries entries + 1
  | .held _ => 1
def uptoBulkAll {H : Type} : List (DataW H) → Nat
  | [] => 0
  | d :: r => uptoBulk d + uptoBulkAll r
def uptoBulkEntries {H : Type} : List (Lit × DataW H) → Nat
  | [] => 0
  | x :: r => uptoBulkEntry x + uptoBulkEntries r
def uptoBulkEntry {H : Type} : Lit × DataW H → Nat
  | (.string bytes, d) => bytes.length + uptoBulk d + 1
  | (_, d) => uptoBulk d + 1
 end
def uptoSmall : (H : Type) → List (DataW H) → Bool := fun _ ds => decide (uptoBulkAll ds ≤ 1048576)
def OpenSpec.upto (s : _root_.Go.ChangeSpec) : _root_.Go.OpenSpec := { _root_.Go.OpenSpec.ofChange s with cond := some uptoSmall }

/-- 'ricklaw01.DiskActs', WHERE WHAT IT READS IS OF BULK AT MOST 1048576: true; the input reads as it did. -/
def diskActsUptoRow : OpenClaim := { program := "ytmmkmpjhmbocfaa", sum := "0147c4a126f3020daab5f43e4ccb260fa59886375c750eb8e2142ca05eee54e3", func := "rick/ricklaw01.DiskActs", spec := "diskActs", apart := false, narrowed := true }
def DiskActsUptoSaid : Prop := diskActsUptoRow.holds Try.pinned (OpenSpec.upto diskActsSpec)

/-- 'ricklaw03.PageDisks', WHERE WHAT IT READS IS OF BULK AT MOST 1048576: true; the input reads as it did. -/
def pageDisksUptoRow : OpenClaim := { program := "ytmmkmpjhmbocfaa", sum := "0147c4a126f3020daab5f43e4ccb260fa59886375c750eb8e2142ca05eee54e3", func := "rick/ricklaw03.PageDisks", spec := "pageDisks", apart := false, narrowed := true }
def PageDisksUptoSaid : Prop := pageDisksUptoRow.holds Try.pinned (OpenSpec.upto pageDisksSpec)

/-- 'ricklaw03.PageMoves', WHERE WHAT IT READS IS OF BULK AT MOST 1048576: true; the input reads as it did. -/
def pageMovesUptoRow : OpenClaim := { program := "ytmmkmpjhmbocfaa", sum := "0147c4a126f3020daab5f43e4ccb260fa59886375c750eb8e2142ca05eee54e3", func := "rick/ricklaw03.PageMoves", spec := "pageMoves", apart := false, narrowed := true }
def PageMovesUptoSaid : Prop := pageMovesUptoRow.holds Try.pinned (OpenSpec.upto pageMovesSpec)

/-- 'ricklaw15.SuperPuts', WHERE WHAT IT READS IS OF BULK AT MOST 1048576: true; the input reads as it did. -/
def superPutsUptoRow : OpenClaim := { program := "ytmmkmpjhmbocfaa", sum := "0147c4a126f3020daab5f43e4ccb260fa59886375c750eb8e2142ca05eee54e3", func := "rick/ricklaw15.SuperPuts", spec := "superPuts", apart := false, narrowed := true }
def SuperPutsUptoSaid : Prop := superPutsUptoRow.holds Try.pinned (OpenSpec.upto superPutsSpec)

/-- 'ricklaw15.SuperTears', WHERE WHAT IT READS IS OF BULK AT MOST 1048576: true; the input reads as it did. -/
def superTearsUptoRow : OpenClaim := { program := "ytmmkmpjhmbocfaa", sum := "0147c4a126f3020daab5f43e4ccb260fa59886375c750eb8e2142ca05eee54e3", func := "rick/ricklaw15.SuperTears", spec := "superTears", apart := false, narrowed := true }
def SuperTearsUptoSaid : Prop := superTearsUptoRow.holds Try.pinned (OpenSpec.upto superTearsSpec)

/-- 'ricklaw15.SuperTurns', WHERE WHAT IT READS IS OF BULK AT MOST 1048576: true; the input reads as it did. -/
def superTurnsUptoRow : OpenClaim := { program := "ytmmkmpjhmbocfaa", sum := "0147c4a126f3020daab5f43e4ccb260fa59886375c750eb8e2142ca05eee54e3", func := "rick/ricklaw15.SuperTurns", spec := "superTurns", apart := false, narrowed := true }
def SuperTurnsUptoSaid : Prop := superTurnsUptoRow.holds Try.pinned (OpenSpec.upto superTurnsSpec)

end Rows
end Go.Proofs.Ytmmkmpjhmbocfaa
