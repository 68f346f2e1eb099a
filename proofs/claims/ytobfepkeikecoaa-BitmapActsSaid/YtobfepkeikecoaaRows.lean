/-
  No cell of these rows narrows 'for every input' (looked for: loops, veiled, ifaces, maps, wideKeys, modest, calm, conditions, laid).
  DERIVED. THE GIVEN ROWS OF THIS SEAT. 6 by the template 'for every input the law returns true; each argument reads behind the call as it read before'; 0 by the template 'total and deterministic' (their statements: YtobfepkeikecoaaTotals.lean).
  GIVEN WITH THE SEED: the statements are not yours to turn. If you find one false, say at which input.
  Laid BY PROGRAM, IN A SANDBOX (cutbox-rows.mjs): the forced cells as the released guide's own fill.sh prints them over the translation ea0713becba5cbe8… (all of the seat's roots in one cut). By AI agents, Wed Nov 11 2026. No macro, syntax, notation, axiom, sorry.
-/
import Derived.Test.YtobfepkeikecoaaChecked
import GoSem.Claim
import GoSem.ClaimJoined
import GoSem.ClaimMapViews
import Derived.JoinedTies
import Derived.KernelRfl
namespace Go.Proofs.Ytobfepkeikecoaa
/- THE CELL 'sum', in the pinned program and in every row, IS THE sha256 OF THE DUMP (.gsa) THAT YtobfepkeikecoaaProg.lean LOADS. Nothing in Lean hashes anything: it is a label: what it is worth is what the hold of that sum in a sandbox is worth. -/
noncomputable def Try.pinned : Pinned := { name := "ytobfepkeikecoaa", sum := "ea0713becba5cbe8badcb959b5110be93e7727ec08cb7a61f3b0f15b4744e4ec", checked := Try.checked }
namespace Rows
def none {H : Type} : Left H := { results := [], args := [] }

/-- 'ricklaw11.BitmapActs': WHATEVER THE INPUT: true; the input reads as it did. -/
def bitmapActsSpec : ChangeSpec := { name := "bitmapActs", fn := fun _ => fun
  | [d1, d2] => { results := [.lit (.bool true)], args := [d1, d2] }
  | _ => none }
def bitmapActsRow : OpenClaim := { program := "ytobfepkeikecoaa", sum := "ea0713becba5cbe8badcb959b5110be93e7727ec08cb7a61f3b0f15b4744e4ec", func := "rick/ricklaw11.BitmapActs", spec := "bitmapActs", apart := false }
def BitmapActsSaid : Prop := bitmapActsRow.holds Try.pinned (OpenSpec.ofChange bitmapActsSpec)

/-- ITS FALSE NEIGHBOUR: 'it returns false'. Refute it at one input. -/
def bitmapActsWrong : ChangeSpec := { name := "bitmapActs", fn := fun _ => fun
  | [d1, d2] => { results := [.lit (.bool false)], args := [d1, d2] }
  | _ => none }
def BitmapActsWrongFalsely : Prop := bitmapActsRow.holds Try.pinned (OpenSpec.ofChange bitmapActsWrong)

/-- 'ricklaw11.BitmapRaw': WHATEVER THE INPUT: true; the input reads as it did. -/
def bitmapRawSpec : ChangeSpec := { name := "bitmapRaw", fn := fun _ => fun
  | [d1, d2, d3] => { results := [.lit (.bool true)], args := [d1, d2, d3] }
  | _ => none }
def bitmapRawRow : OpenClaim := { program := "ytobfepkeikecoaa", sum := "ea0713becba5cbe8badcb959b5110be93e7727ec08cb7a61f3b0f15b4744e4ec", func := "rick/ricklaw11.BitmapRaw", spec := "bitmapRaw", apart := false }
def BitmapRawSaid : Prop := bitmapRawRow.holds Try.pinned (OpenSpec.ofChange bitmapRawSpec)

/-- ITS FALSE NEIGHBOUR: 'it returns false'. Refute it at one input. -/
def bitmapRawWrong : ChangeSpec := { name := "bitmapRaw", fn := fun _ => fun
  | [d1, d2, d3] => { results := [.lit (.bool false)], args := [d1, d2, d3] }
  | _ => none }
def BitmapRawWrongFalsely : Prop := bitmapRawRow.holds Try.pinned (OpenSpec.ofChange bitmapRawWrong)

/-- 'ricklaw11.BitmapTurns': WHATEVER THE INPUT: true; the input reads as it did. -/
def bitmapTurnsSpec : ChangeSpec := { name := "bitmapTurns", fn := fun _ => fun
  | [d1, d2] => { results := [.lit (.bool true)], args := [d1, d2] }
  | _ => none }
def bitmapTurnsRow : OpenClaim := { program := "ytobfepkeikecoaa", sum := "ea0713becba5cbe8badcb959b5110be93e7727ec08cb7a61f3b0f15b4744e4ec", func := "rick/ricklaw11.BitmapTurns", spec := "bitmapTurns", apart := false }
def BitmapTurnsSaid : Prop := bitmapTurnsRow.holds Try.pinned (OpenSpec.ofChange bitmapTurnsSpec)

/-- ITS FALSE NEIGHBOUR: 'it returns false'. Refute it at one input. -/
def bitmapTurnsWrong : ChangeSpec := { name := "bitmapTurns", fn := fun _ => fun
  | [d1, d2] => { results := [.lit (.bool false)], args := [d1, d2] }
  | _ => none }
def BitmapTurnsWrongFalsely : Prop := bitmapTurnsRow.holds Try.pinned (OpenSpec.ofChange bitmapTurnsWrong)

/-- 'ricklaw12.NodePuts': WHATEVER THE INPUT: true; the input reads as it did. -/
def nodePutsSpec : ChangeSpec := { name := "nodePuts", fn := fun _ => fun
  | [d] => { results := [.lit (.bool true)], args := [d] }
  | _ => none }
def nodePutsRow : OpenClaim := { program := "ytobfepkeikecoaa", sum := "ea0713becba5cbe8badcb959b5110be93e7727ec08cb7a61f3b0f15b4744e4ec", func := "rick/ricklaw12.NodePuts", spec := "nodePuts", apart := false }
def NodePutsSaid : Prop := nodePutsRow.holds Try.pinned (OpenSpec.ofChange nodePutsSpec)

/-- ITS FALSE NEIGHBOUR: 'it returns false'. Refute it at one input. -/
def nodePutsWrong : ChangeSpec := { name := "nodePuts", fn := fun _ => fun
  | [d] => { results := [.lit (.bool false)], args := [d] }
  | _ => none }
def NodePutsWrongFalsely : Prop := nodePutsRow.holds Try.pinned (OpenSpec.ofChange nodePutsWrong)

/-- 'ricklaw12.NodeGets': WHATEVER THE INPUT: true; the input reads as it did. -/
def nodeGetsSpec : ChangeSpec := { name := "nodeGets", fn := fun _ => fun
  | [d1, d2, d3] => { results := [.lit (.bool true)], args := [d1, d2, d3] }
  | _ => none }
def nodeGetsRow : OpenClaim := { program := "ytobfepkeikecoaa", sum := "ea0713becba5cbe8badcb959b5110be93e7727ec08cb7a61f3b0f15b4744e4ec", func := "rick/ricklaw12.NodeGets", spec := "nodeGets", apart := false }
def NodeGetsSaid : Prop := nodeGetsRow.holds Try.pinned (OpenSpec.ofChange nodeGetsSpec)

/-- ITS FALSE NEIGHBOUR: 'it returns false'. Refute it at one input. -/
def nodeGetsWrong : ChangeSpec := { name := "nodeGets", fn := fun _ => fun
  | [d1, d2, d3] => { results := [.lit (.bool false)], args := [d1, d2, d3] }
  | _ => none }
def NodeGetsWrongFalsely : Prop := nodeGetsRow.holds Try.pinned (OpenSpec.ofChange nodeGetsWrong)

/-- 'ricklaw12.NodeJoins': WHATEVER THE INPUT: true; the input reads as it did. -/
def nodeJoinsSpec : ChangeSpec := { name := "nodeJoins", fn := fun _ => fun
  | [d1, d2] => { results := [.lit (.bool true)], args := [d1, d2] }
  | _ => none }
def nodeJoinsRow : OpenClaim := { program := "ytobfepkeikecoaa", sum := "ea0713becba5cbe8badcb959b5110be93e7727ec08cb7a61f3b0f15b4744e4ec", func := "rick/ricklaw12.NodeJoins", spec := "nodeJoins", recurses := true, apart := false }
def NodeJoinsSaid : Prop := nodeJoinsRow.holds Try.pinned (OpenSpec.ofChange nodeJoinsSpec)

/-- ITS FALSE NEIGHBOUR: 'it returns false'. Refute it at one input. -/
def nodeJoinsWrong : ChangeSpec := { name := "nodeJoins", fn := fun _ => fun
  | [d1, d2] => { results := [.lit (.bool false)], args := [d1, d2] }
  | _ => none }
def NodeJoinsWrongFalsely : Prop := nodeJoinsRow.holds Try.pinned (OpenSpec.ofChange nodeJoinsWrong)

/- THE SECOND FORM. 'bulk': how many values and letters a reading holds, each counted each time it is reached (what is shared counts as often as it is met; a slice's spare places count too). A statement '..UptoSaid' is the law's where the arguments, and the package variables that the reading takes, are together of bulk at most 1048576: NARROWER than '..Said'. Prove '..Said' where nothing that the law and all that it calls make is longer than what came in: it says more and counts as full. Else prove '..UptoSaid'. A law counts once. -/
mutual
def uptoBulk {H : Type} : DataW H → Nat
  | .lit (.string bytes) => bytes.length + 1
  | .lit _ => 1
  | .nil => 1
  | .ptr d => uptoBulk d + 1
  | .slice elems spare => uptoBulkAll elems + uptoBulkAll spare + 1
  | .agg parts => uptoBulkAll parts + 1
  | .iface _ d => uptoBulk d + 1
  | .map entries => uptoBulkEntries entries + 1
  | .held _ => 1
def uptoBulkAll {H : Type} : List (DataW H) → Nat
  | [] => 0
  | d :: r => uptoBulk d + uptoBulkAll r
def uptoBulkEntries {H : Type} : List (Lit × DataW H) → Nat
  | [] => 0
  | x :: r => uptoBulkEntry x + uptoBulkEntries r
def uptoBulkEntry {H : Type} : Lit × DataW H → Nat
  | (.string bytes, d) => bytes.length + uptoBulk d + 1
  | (_, d) => uptoBulk d + 1
 end
def uptoSmall : (H : Type) → List (DataW H) → Bool := fun _ ds => decide (uptoBulkAll ds ≤ 1048576)
def OpenSpec.upto (s : _root_.Go.ChangeSpec) : _root_.Go.OpenSpec := { _root_.Go.OpenSpec.ofChange s with cond := some uptoSmall }

/-- 'ricklaw11.BitmapActs', WHERE WHAT IT READS IS OF BULK AT MOST 1048576: true; the input reads as it did. -/
def bitmapActsUptoRow : OpenClaim := { program := "ytobfepkeikecoaa", sum := "ea0713becba5cbe8badcb959b5110be93e7727ec08cb7a61f3b0f15b4744e4ec", func := "rick/ricklaw11.BitmapActs", spec := "bitmapActs", apart := false, narrowed := true }
def BitmapActsUptoSaid : Prop := bitmapActsUptoRow.holds Try.pinned (OpenSpec.upto bitmapActsSpec)

/-- 'ricklaw11.BitmapRaw', WHERE WHAT IT READS IS OF BULK AT MOST 1048576: true; the input reads as it did. -/
def bitmapRawUptoRow : OpenClaim := { program := "ytobfepkeikecoaa", sum := "ea0713becba5cbe8badcb959b5110be93e7727ec08cb7a61f3b0f15b4744e4ec", func := "rick/ricklaw11.BitmapRaw", spec := "bitmapRaw", apart := false, narrowed := true }
def BitmapRawUptoSaid : Prop := bitmapRawUptoRow.holds Try.pinned (OpenSpec.upto bitmapRawSpec)

/-- 'ricklaw11.BitmapTurns', WHERE WHAT IT READS IS OF BULK AT MOST 1048576: true; the input reads as it did. -/
def bitmapTurnsUptoRow : OpenClaim := { program := "ytobfepkeikecoaa", sum := "ea0713becba5cbe8badcb959b5110be93e7727ec08cb7a61f3b0f15b4744e4ec", func := "rick/ricklaw11.BitmapTurns", spec := "bitmapTurns", apart := false, narrowed := true }
def BitmapTurnsUptoSaid : Prop := bitmapTurnsUptoRow.holds Try.pinned (OpenSpec.upto bitmapTurnsSpec)

/-- 'ricklaw12.NodePuts', WHERE WHAT IT READS IS OF BULK AT MOST 1048576: true; the input reads as it did. -/
def nodePutsUptoRow : OpenClaim := { program := "ytobfepkeikecoaa", sum := "ea0713becba5cbe8badcb959b5110be93e7727ec08cb7a61f3b0f15b4744e4ec", func := "rick/ricklaw12.NodePuts", spec := "nodePuts", apart := false, narrowed := true }
def NodePutsUptoSaid : Prop := nodePutsUptoRow.holds Try.pinned (OpenSpec.upto nodePutsSpec)

/-- 'ricklaw12.NodeGets', WHERE WHAT IT READS IS OF BULK AT MOST 1048576: true; the input reads as it did. -/
def nodeGetsUptoRow : OpenClaim := { program := "ytobfepkeikecoaa", sum := "ea0713becba5cbe8badcb959b5110be93e7727ec08cb7a61f3b0f15b4744e4ec", func := "rick/ricklaw12.NodeGets", spec := "nodeGets", apart := false, narrowed := true }
def NodeGetsUptoSaid : Prop := nodeGetsUptoRow.holds Try.pinned (OpenSpec.upto nodeGetsSpec)

/-- 'ricklaw12.NodeJoins', WHERE WHAT IT READS IS OF BULK AT MOST 1048576: true; the input reads as it did. -/
def nodeJoinsUptoRow : OpenClaim := { program := "ytobfepkeikecoaa", sum := "ea0713becba5cbe8badcb959b5110be93e7727ec08cb7a61f3b0f15b4744e4ec", func := "rick/ricklaw12.NodeJoins", spec := "nodeJoins", recurses := true, apart := false, narrowed := true }
def NodeJoinsUptoSaid : Prop := nodeJoinsUptoRow.holds Try.pinned (OpenSpec.upto nodeJoinsSpec)

end Rows
end Go.Proofs.Ytobfepkeikecoaa
