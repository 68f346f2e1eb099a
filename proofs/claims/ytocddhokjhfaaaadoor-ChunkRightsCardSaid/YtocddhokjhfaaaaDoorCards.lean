/-
  DERIVED. GIVEN WITH THE SEED: THE CARDS: each row of YtocddhokjhfaaaaDoorRows.lean that lists a variable, with what it lists TIED to the program's text (the seventh form; the later family's looks); each row that meets fmt, with fmt's text TOLD by the authors' own Lean function (tested against real Go, not proved from fmt's source: count such statements apart). THE CARD IS WHAT COUNTS. Prove the row's statement (the work); the ties are given (YtocddhokjhfaaaaDoorTie.lean); close each card by the builder's one call (the guide's Derived/Test/ToyasCard.lean, 'card_holds'). Laid BY PROGRAM, IN A SANDBOX (cutbox-door.mjs). By AI agents, Wed Nov 11 2026. No macro, syntax, notation, axiom, sorry.
-/
import Derived.Test.YtocddhokjhfaaaaDoorRows
import GoSem.ClaimSeven
namespace Go.Proofs.YtocddhokjhfaaaaDoor
namespace Rows

/-- THE TIED CARD OF 'ricklaw07.TimesEven'. -/
def timesEvenCard : Claim7 := { stood := { row := timesEvenRow, standIns := [], harness := (true, "b8f2462df15341c2d0c04aa3ffe2bef013276f31344e6944f690a25e6018041d"), looks := false }, kinds := [], alts := [], laidByText := true, laidKinds := [.data], laidTests := true, laidLooks := .later }
def TimesEvenCardSaid : Prop := Claim7.holds Tryd.pinned (.plain (OpenSpec.ofChange timesEvenSpec)) timesEvenCard

/-- THE TIED CARD OF 'ricklaw07.TimesClasses'. -/
def timesClassesCard : Claim7 := { stood := { row := timesClassesRow, standIns := [], harness := (true, "b8f2462df15341c2d0c04aa3ffe2bef013276f31344e6944f690a25e6018041d"), looks := false }, kinds := [], alts := [], laidByText := true, laidKinds := [.data], laidTests := true, laidLooks := .later }
def TimesClassesCardSaid : Prop := Claim7.holds Tryd.pinned (.plain (OpenSpec.ofChange timesClassesSpec)) timesClassesCard

/-- THE TIED CARD OF 'ricklaw10.ChunkRights'. -/
def chunkRightsCard : Claim7 := { stood := { row := chunkRightsRow, standIns := [], harness := (true, "b8f2462df15341c2d0c04aa3ffe2bef013276f31344e6944f690a25e6018041d"), looks := false }, kinds := [], alts := [], laidByText := true, laidKinds := [.data, .data], laidTests := true, laidLooks := .later }
def ChunkRightsCardSaid : Prop := Claim7.holds Tryd.pinned (.plain (OpenSpec.ofChange chunkRightsSpec)) chunkRightsCard

/-- THE TIED CARD OF 'ricklaw10.ChunkCodecs'. -/
def chunkCodecsCard : Claim7 := { stood := { row := chunkCodecsRow, standIns := [], harness := (true, "b8f2462df15341c2d0c04aa3ffe2bef013276f31344e6944f690a25e6018041d"), looks := false }, kinds := [], alts := [], laidByText := true, laidKinds := [.data, .data], laidTests := true, laidLooks := .later }
def ChunkCodecsCardSaid : Prop := Claim7.holds Tryd.pinned (.plain (OpenSpec.ofChange chunkCodecsSpec)) chunkCodecsCard

/-- THE TIED CARD OF 'ricklaw10.ChunkSizes'. -/
def chunkSizesCard : Claim7 := { stood := { row := chunkSizesRow, standIns := [], harness := (true, "b8f2462df15341c2d0c04aa3ffe2bef013276f31344e6944f690a25e6018041d"), looks := false }, kinds := [], alts := [], laidByText := true, laidKinds := [.data, .data], laidTests := true, laidLooks := .later }
def ChunkSizesCardSaid : Prop := Claim7.holds Tryd.pinned (.plain (OpenSpec.ofChange chunkSizesSpec)) chunkSizesCard

/-- THE SECOND FORM's CARD OF 'ricklaw07.TimesEven'. -/
def timesEvenUptoCard : Claim7 := { stood := { row := timesEvenUptoRow, standIns := [], harness := (true, "b8f2462df15341c2d0c04aa3ffe2bef013276f31344e6944f690a25e6018041d"), looks := false }, kinds := [], alts := [], laidByText := true, laidKinds := [.data], laidTests := true, laidLooks := .later }
def TimesEvenUptoCardSaid : Prop := Claim7.holds Tryd.pinned (.plain (OpenSpec.upto timesEvenSpec)) timesEvenUptoCard

/-- THE SECOND FORM's CARD OF 'ricklaw07.TimesClasses'. -/
def timesClassesUptoCard : Claim7 := { stood := { row := timesClassesUptoRow, standIns := [], harness := (true, "b8f2462df15341c2d0c04aa3ffe2bef013276f31344e6944f690a25e6018041d"), looks := false }, kinds := [], alts := [], laidByText := true, laidKinds := [.data], laidTests := true, laidLooks := .later }
def TimesClassesUptoCardSaid : Prop := Claim7.holds Tryd.pinned (.plain (OpenSpec.upto timesClassesSpec)) timesClassesUptoCard

/-- THE SECOND FORM's CARD OF 'ricklaw10.ChunkRights'. -/
def chunkRightsUptoCard : Claim7 := { stood := { row := chunkRightsUptoRow, standIns := [], harness := (true, "b8f2462df15341c2d0c04aa3ffe2bef013276f31344e6944f690a25e6018041d"), looks := false }, kinds := [], alts := [], laidByText := true, laidKinds := [.data, .data], laidTests := true, laidLooks := .later }
def ChunkRightsUptoCardSaid : Prop := Claim7.holds Tryd.pinned (.plain (OpenSpec.upto chunkRightsSpec)) chunkRightsUptoCard

/-- THE SECOND FORM's CARD OF 'ricklaw10.ChunkCodecs'. -/
def chunkCodecsUptoCard : Claim7 := { stood := { row := chunkCodecsUptoRow, standIns := [], harness := (true, "b8f2462df15341c2d0c04aa3ffe2bef013276f31344e6944f690a25e6018041d"), looks := false }, kinds := [], alts := [], laidByText := true, laidKinds := [.data, .data], laidTests := true, laidLooks := .later }
def ChunkCodecsUptoCardSaid : Prop := Claim7.holds Tryd.pinned (.plain (OpenSpec.upto chunkCodecsSpec)) chunkCodecsUptoCard

/-- THE SECOND FORM's CARD OF 'ricklaw10.ChunkSizes'. -/
def chunkSizesUptoCard : Claim7 := { stood := { row := chunkSizesUptoRow, standIns := [], harness := (true, "b8f2462df15341c2d0c04aa3ffe2bef013276f31344e6944f690a25e6018041d"), looks := false }, kinds := [], alts := [], laidByText := true, laidKinds := [.data, .data], laidTests := true, laidLooks := .later }
def ChunkSizesUptoCardSaid : Prop := Claim7.holds Tryd.pinned (.plain (OpenSpec.upto chunkSizesSpec)) chunkSizesUptoCard
end Rows
end Go.Proofs.YtocddhokjhfaaaaDoor
