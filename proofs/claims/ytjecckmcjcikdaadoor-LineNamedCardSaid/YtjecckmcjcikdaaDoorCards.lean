/-
  DERIVED. GIVEN WITH THE SEED: THE CARDS: each row of YtjecckmcjcikdaaDoorRows.lean that lists a variable, with what it lists TIED to the program's text (the seventh form; the later family's looks); each row that meets fmt, with fmt's text TOLD by the authors' own Lean function (tested against real Go, not proved from fmt's source: count such statements apart). THE CARD IS WHAT COUNTS. Prove the row's statement (the work); the ties are given (YtjecckmcjcikdaaDoorTie.lean); close each card by the builder's one call (the guide's Derived/Test/ToyasCard.lean, 'card_holds'). Laid BY PROGRAM, IN A SANDBOX (cutbox-door.mjs). By AI agents, Wed Nov 11 2026. No macro, syntax, notation, axiom, sorry.
-/
import Derived.Test.YtjecckmcjcikdaaDoorRows
import GoSem.ClaimSeven
namespace Go.Proofs.YtjecckmcjcikdaaDoor
namespace Rows

/-- THE TIED CARD OF 'hansomlaw31.LineParts'. -/
def linePartsCard : Claim7 := { stood := { row := linePartsRow, standIns := [], harness := (true, "967aebb890593fc75c3e5062bb1e89720d25ea27e8305539eb6fc51d8fc6d146"), looks := false }, kinds := [], alts := [], laidByText := true, laidKinds := [.data, .pinned], laidTests := true, laidLooks := .later }
def LinePartsCardSaid : Prop := Claim7.holds Tryd.pinned (.plain (OpenSpec.ofChange linePartsSpec)) linePartsCard

/-- THE TIED CARD OF 'hansomlaw31.LineNamed'. -/
def lineNamedCard : Claim7 := { stood := { row := lineNamedRow, standIns := [], harness := (true, "967aebb890593fc75c3e5062bb1e89720d25ea27e8305539eb6fc51d8fc6d146"), looks := false }, kinds := [], alts := [], laidByText := true, laidKinds := [.data, .pinned], laidTests := true, laidLooks := .later }
def LineNamedCardSaid : Prop := Claim7.holds Tryd.pinned (.plain (OpenSpec.ofChange lineNamedSpec)) lineNamedCard

/-- THE TIED CARD OF 'hansomlaw31.LineAny'. -/
def lineAnyCard : Claim7 := { stood := { row := lineAnyRow, standIns := [], harness := (true, "967aebb890593fc75c3e5062bb1e89720d25ea27e8305539eb6fc51d8fc6d146"), looks := false }, kinds := [], alts := [], laidByText := true, laidKinds := [.data, .pinned], laidTests := true, laidLooks := .later }
def LineAnyCardSaid : Prop := Claim7.holds Tryd.pinned (.plain (OpenSpec.ofChange lineAnySpec)) lineAnyCard

/-- THE SECOND FORM's CARD OF 'hansomlaw31.LineParts'. -/
def linePartsUptoCard : Claim7 := { stood := { row := linePartsUptoRow, standIns := [], harness := (true, "967aebb890593fc75c3e5062bb1e89720d25ea27e8305539eb6fc51d8fc6d146"), looks := false }, kinds := [], alts := [], laidByText := true, laidKinds := [.data, .pinned], laidTests := true, laidLooks := .later }
def LinePartsUptoCardSaid : Prop := Claim7.holds Tryd.pinned (.plain (OpenSpec.upto linePartsSpec)) linePartsUptoCard

/-- THE SECOND FORM's CARD OF 'hansomlaw31.LineNamed'. -/
def lineNamedUptoCard : Claim7 := { stood := { row := lineNamedUptoRow, standIns := [], harness := (true, "967aebb890593fc75c3e5062bb1e89720d25ea27e8305539eb6fc51d8fc6d146"), looks := false }, kinds := [], alts := [], laidByText := true, laidKinds := [.data, .pinned], laidTests := true, laidLooks := .later }
def LineNamedUptoCardSaid : Prop := Claim7.holds Tryd.pinned (.plain (OpenSpec.upto lineNamedSpec)) lineNamedUptoCard

/-- THE SECOND FORM's CARD OF 'hansomlaw31.LineAny'. -/
def lineAnyUptoCard : Claim7 := { stood := { row := lineAnyUptoRow, standIns := [], harness := (true, "967aebb890593fc75c3e5062bb1e89720d25ea27e8305539eb6fc51d8fc6d146"), looks := false }, kinds := [], alts := [], laidByText := true, laidKinds := [.data, .pinned], laidTests := true, laidLooks := .later }
def LineAnyUptoCardSaid : Prop := Claim7.holds Tryd.pinned (.plain (OpenSpec.upto lineAnySpec)) lineAnyUptoCard
end Rows
end Go.Proofs.YtjecckmcjcikdaaDoor
