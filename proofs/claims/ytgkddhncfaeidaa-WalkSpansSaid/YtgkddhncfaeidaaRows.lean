/-
  No cell of these rows narrows 'for every input' (looked for: loops, veiled, ifaces, maps, wideKeys, modest, calm, conditions, laid).
  DERIVED. THE GIVEN ROWS OF THIS SEAT. 6 by the template 'for every input the law returns true; each argument reads behind the call as it read before'; 0 by the template 'total and deterministic' (their statements: YtgkddhncfaeidaaTotals.lean).
  GIVEN WITH THE SEED: the statements are not yours to turn. If you find one false, say at which input.
  Laid BY PROGRAM, IN A SANDBOX (cutbox-rows.mjs): the forced cells as the released guide's own fill.sh prints them over the translation 948925b0e5456379… (all of the seat's roots in one cut). By AI agents, Wed Nov 11 2026. No macro, syntax, notation, axiom, sorry.
-/
import Derived.Test.YtgkddhncfaeidaaChecked
import GoSem.Claim
import GoSem.ClaimJoined
import GoSem.ClaimMapViews
import Derived.JoinedTies
import Derived.KernelRfl
namespace Go.Proofs.Ytgkddhncfaeidaa
/- THE CELL 'sum', in the pinned program and in every row, IS THE sha256 OF THE DUMP (.gsa) THAT YtgkddhncfaeidaaProg.lean LOADS. Nothing in Lean hashes anything: it is a label: what it is worth is what the hold of that sum in a sandbox is worth. -/
noncomputable def Try.pinned : Pinned := { name := "ytgkddhncfaeidaa", sum := "948925b0e5456379b4aab0176364b98bcf659a3e7967b6124103f9dfb236eaf1", checked := Try.checked }
namespace Rows
def none {H : Type} : Left H := { results := [], args := [] }

/-- 'ricklaw12.NodePuts': WHATEVER THE INPUT: true; the input reads as it did. -/
def nodePutsSpec : ChangeSpec := { name := "nodePuts", fn := fun _ => fun
  | [d] => { results := [.lit (.bool true)], args := [d] }
  | _ => none }
def nodePutsRow : OpenClaim := { program := "ytgkddhncfaeidaa", sum := "948925b0e5456379b4aab0176364b98bcf659a3e7967b6124103f9dfb236eaf1", func := "rick/ricklaw12.NodePuts", spec := "nodePuts", apart := false }
def NodePutsSaid : Prop := nodePutsRow.holds Try.pinned (OpenSpec.ofChange nodePutsSpec)

/-- ITS FALSE NEIGHBOUR: 'it returns false'. Refute it at one input. -/
def nodePutsWrong : ChangeSpec := { name := "nodePuts", fn := fun _ => fun
  | [d] => { results := [.lit (.bool false)], args := [d] }
  | _ => none }
def NodePutsWrongFalsely : Prop := nodePutsRow.holds Try.pinned (OpenSpec.ofChange nodePutsWrong)

/-- 'ricklaw12.NodeGets': WHATEVER THE INPUT: true; the input reads as it did. -/
def nodeGetsSpec : ChangeSpec := { name := "nodeGets", fn := fun _ => fun
  | [d1, d2, d3] => { results := [.lit (.bool true)], args := [d1, d2, d3] }
  | _ => none }
def nodeGetsRow : OpenClaim := { program := "ytgkddhncfaeidaa", sum := "948925b0e5456379b4aab0176364b98bcf659a3e7967b6124103f9dfb236eaf1", func := "rick/ricklaw12.NodeGets", spec := "nodeGets", apart := false }
def NodeGetsSaid : Prop := nodeGetsRow.holds Try.pinned (OpenSpec.ofChange nodeGetsSpec)

/-- ITS FALSE NEIGHBOUR: 'it returns false'. Refute it at one input. -/
def nodeGetsWrong : ChangeSpec := { name := "nodeGets", fn := fun _ => fun
  | [d1, d2, d3] => { results := [.lit (.bool false)], args := [d1, d2, d3] }
  | _ => none }
def NodeGetsWrongFalsely : Prop := nodeGetsRow.holds Try.pinned (OpenSpec.ofChange nodeGetsWrong)

/-- 'ricklaw12.NodeJoins': WHATEVER THE INPUT: true; the input reads as it did. -/
def nodeJoinsSpec : ChangeSpec := { name := "nodeJoins", fn := fun _ => fun
  | [d1, d2] => { results := [.lit (.bool true)], args := [d1, d2] }
  | _ => none }
def nodeJoinsRow : OpenClaim := { program := "ytgkddhncfaeidaa", sum := "948925b0e5456379b4aab0176364b98bcf659a3e7967b6124103f9dfb236eaf1", func := "rick/ricklaw12.NodeJoins", spec := "nodeJoins", recurses := true, apart := false }
def NodeJoinsSaid : Prop := nodeJoinsRow.holds Try.pinned (OpenSpec.ofChange nodeJoinsSpec)

/-- ITS FALSE NEIGHBOUR: 'it returns false'. Refute it at one input. -/
def nodeJoinsWrong : ChangeSpec := { name := "nodeJoins", fn := fun _ => fun
  | [d1, d2] => { results := [.lit (.bool false)], args := [d1, d2] }
  | _ => none }
def NodeJoinsWrongFalsely : Prop := nodeJoinsRow.holds Try.pinned (OpenSpec.ofChange nodeJoinsWrong)

/-- 'ricklaw14.WalkEntries': WHATEVER THE INPUT: true; the input reads as it did. -/
def walkEntriesSpec : ChangeSpec := { name := "walkEntries", fn := fun _ => fun
  | [d1, d2, d3] => { results := [.lit (.bool true)], args := [d1, d2, d3] }
  | _ => none }
def walkEntriesRow : OpenClaim := { program := "ytgkddhncfaeidaa", sum := "948925b0e5456379b4aab0176364b98bcf659a3e7967b6124103f9dfb236eaf1", func := "rick/ricklaw14.WalkEntries", spec := "walkEntries", unfollowed := true, recurses := true, apart := false }
def WalkEntriesSaid : Prop := walkEntriesRow.holds Try.pinned (OpenSpec.ofChange walkEntriesSpec)

/-- ITS FALSE NEIGHBOUR: 'it returns false'. Refute it at one input. -/
def walkEntriesWrong : ChangeSpec := { name := "walkEntries", fn := fun _ => fun
  | [d1, d2, d3] => { results := [.lit (.bool false)], args := [d1, d2, d3] }
  | _ => none }
def WalkEntriesWrongFalsely : Prop := walkEntriesRow.holds Try.pinned (OpenSpec.ofChange walkEntriesWrong)

/-- 'ricklaw14.WalkSpans': WHATEVER THE INPUT: true; the input reads as it did. -/
def walkSpansSpec : ChangeSpec := { name := "walkSpans", fn := fun _ => fun
  | [d1, d2, d3] => { results := [.lit (.bool true)], args := [d1, d2, d3] }
  | _ => none }
def walkSpansRow : OpenClaim := { program := "ytgkddhncfaeidaa", sum := "948925b0e5456379b4aab0176364b98bcf659a3e7967b6124103f9dfb236eaf1", func := "rick/ricklaw14.WalkSpans", spec := "walkSpans", unfollowed := true, recurses := true, apart := false }
def WalkSpansSaid : Prop := walkSpansRow.holds Try.pinned (OpenSpec.ofChange walkSpansSpec)

/-- ITS FALSE NEIGHBOUR: 'it returns false'. Refute it at one input. -/
def walkSpansWrong : ChangeSpec := { name := "walkSpans", fn := fun _ => fun
  | [d1, d2, d3] => { results := [.lit (.bool false)], args := [d1, d2, d3] }
  | _ => none }
def WalkSpansWrongFalsely : Prop := walkSpansRow.holds Try.pinned (OpenSpec.ofChange walkSpansWrong)

/-- 'ricklaw14.WalkTwice': WHATEVER THE INPUT: true; the input reads as it did. -/
def walkTwiceSpec : ChangeSpec := { name := "walkTwice", fn := fun _ => fun
  | [d1, d2, d3] => { results := [.lit (.bool true)], args := [d1, d2, d3] }
  | _ => none }
def walkTwiceRow : OpenClaim := { program := "ytgkddhncfaeidaa", sum := "948925b0e5456379b4aab0176364b98bcf659a3e7967b6124103f9dfb236eaf1", func := "rick/ricklaw14.WalkTwice", spec := "walkTwice", unfollowed := true, recurses := true, apart := false }
def WalkTwiceSaid : Prop := walkTwiceRow.holds Try.pinned (OpenSpec.ofChange walkTwiceSpec)

/-- ITS FALSE NEIGHBOUR: 'it returns false'. Refute it at one input. -/
def walkTwiceWrong : ChangeSpec := { name := "walkTwice", fn := fun _ => fun
  | [d1, d2, d3] => { results := [.lit (.bool false)], args := [d1, d2, d3] }
  | _ => none }
def WalkTwiceWrongFalsely : Prop := walkTwiceRow.holds Try.pinned (OpenSpec.ofChange walkTwiceWrong)

/- THE SECOND FORM. 'bulk': how many values and letters a reading holds, each counted each time it is reached (what is shared counts as often as it is met; a slice's spare places count too). A statement '..UptoSaid' is the law's where the arguments, and the package variables that the reading takes, are together of bulk at most 1048576: NARROWER than '..Said'. Prove '..Said' where nothing that the law and all that it calls make is longer than what came in: it says more and counts as full. Else prove '..UptoSaid'. A law counts once. -/
mutual
def uptoBulk {H : Type} : DataW H → Nat
  | .lit (.string bytes) => bytes.length + 1
  | .lit _ => 1
  | .nil => 1
  | .ptr d => uptoBulk d + 1
  | .slice elems spare => uptoBulkAll elems + uptoBulkAll spare + 1
  | .agg parts => uptoBulkAll parts + 1
  | .iface _ d => uptoBulk d + 1
  | .map entries => uptoBulkEntries entries + 1
  | .held _ => 1
def uptoBulkAll {H : Type} : List (DataW H) → Nat
  | [] => 0
  | d :: r => uptoBulk d + uptoBulkAll r
def uptoBulkEntries {H : Type} : List (Lit × DataW H) → Nat
  | [] => 0
  | x :: r => uptoBulkEntry x + uptoBulkEntries r
def uptoBulkEntry {H : Type} : Lit × DataW H → Nat
  | (.string bytes, d) => bytes.length + uptoBulk d + 1
  | (_, d) => uptoBulk d + 1
 end
def uptoSmall : (H : Type) → List (DataW H) → Bool := fun _ ds => decide (uptoBulkAll ds ≤ 1048576)
def OpenSpec.upto (s : _root_.Go.ChangeSpec) : _root_.Go.OpenSpec := { _root_.Go.OpenSpec.ofChange s with cond := some uptoSmall }

/-- 'ricklaw12.NodePuts', WHERE WHAT IT READS IS OF BULK AT MOST 1048576: true; the input reads as it did. -/
def nodePutsUptoRow : OpenClaim := { program := "ytgkddhncfaeidaa", sum := "948925b0e5456379b4aab0176364b98bcf659a3e7967b6124103f9dfb236eaf1", func := "rick/ricklaw12.NodePuts", spec := "nodePuts", apart := false, narrowed := true }
def NodePutsUptoSaid : Prop := nodePutsUptoRow.holds Try.pinned (OpenSpec.upto nodePutsSpec)

/-- 'ricklaw12.NodeGets', WHERE WHAT IT READS IS OF BULK AT MOST 1048576: true; the input reads as it did. -/
def nodeGetsUptoRow : OpenClaim := { program := "ytgkddhncfaeidaa", sum := "948925b0e5456379b4aab0176364b98bcf659a3e7967b6124103f9dfb236eaf1", func := "rick/ricklaw12.NodeGets", spec := "nodeGets", apart := false, narrowed := true }
def NodeGetsUptoSaid : Prop := nodeGetsUptoRow.holds Try.pinned (OpenSpec.upto nodeGetsSpec)

/-- 'ricklaw12.NodeJoins', WHERE WHAT IT READS IS OF BULK AT MOST 1048576: true; the input reads as it did. -/
def nodeJoinsUptoRow : OpenClaim := { program := "ytgkddhncfaeidaa", sum := "948925b0e5456379b4aab0176364b98bcf659a3e7967b6124103f9dfb236eaf1", func := "rick/ricklaw12.NodeJoins", spec := "nodeJoins", recurses := true, apart := false, narrowed := true }
def NodeJoinsUptoSaid : Prop := nodeJoinsUptoRow.holds Try.pinned (OpenSpec.upto nodeJoinsSpec)

/-- 'ricklaw14.WalkEntries', WHERE WHAT IT READS IS OF BULK AT MOST 1048576: true; the input reads as it did. -/
def walkEntriesUptoRow : OpenClaim := { program := "ytgkddhncfaeidaa", sum := "948925b0e5456379b4aab0176364b98bcf659a3e7967b6124103f9dfb236eaf1", func := "rick/ricklaw14.WalkEntries", spec := "walkEntries", unfollowed := true, recurses := true, apart := false, narrowed := true }
def WalkEntriesUptoSaid : Prop := walkEntriesUptoRow.holds Try.pinned (OpenSpec.upto walkEntriesSpec)

/-- 'ricklaw14.WalkSpans', WHERE WHAT IT READS IS OF BULK AT MOST 1048576: true; the input reads as it did. -/
def walkSpansUptoRow : OpenClaim := { program := "ytgkddhncfaeidaa", sum := "948925b0e5456379b4aab0176364b98bcf659a3e7967b6124103f9dfb236eaf1", func := "rick/ricklaw14.WalkSpans", spec := "walkSpans", unfollowed := true, recurses := true, apart := false, narrowed := true }
def WalkSpansUptoSaid : Prop := walkSpansUptoRow.holds Try.pinned (OpenSpec.upto walkSpansSpec)

/-- 'ricklaw14.WalkTwice', WHERE WHAT IT READS IS OF BULK AT MOST 1048576: true; the input reads as it did. -/
def walkTwiceUptoRow : OpenClaim := { program := "ytgkddhncfaeidaa", sum := "948925b0e5456379b4aab0176364b98bcf659a3e7967b6124103f9dfb236eaf1", func := "rick/ricklaw14.WalkTwice", spec := "walkTwice", unfollowed := true, recurses := true, apart := false, narrowed := true }
def WalkTwiceUptoSaid : Prop := walkTwiceUptoRow.holds Try.pinned (OpenSpec.upto walkTwiceSpec)

end Rows
end Go.Proofs.Ytgkddhncfaeidaa
