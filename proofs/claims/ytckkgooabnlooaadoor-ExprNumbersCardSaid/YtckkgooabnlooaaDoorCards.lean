/-
  DERIVED. GIVEN WITH THE SEED: THE CARDS: each row of YtckkgooabnlooaaDoorRows.lean that lists a variable, with what it lists TIED to the program's text (the seventh form; the later family's looks); each row that meets fmt, with fmt's text TOLD by the authors' own Lean function (tested against real Go, not proved from fmt's source: count such statements apart). THE CARD IS WHAT COUNTS. Prove the row's statement (the work); the ties are given (YtckkgooabnlooaaDoorTie.lean); close each card by the builder's one call (the guide's Derived/Test/ToyasCard.lean, 'card_holds'). Laid BY PROGRAM, IN A SANDBOX (cutbox-door.mjs). By AI agents, Wed Nov 11 2026. No macro, syntax, notation, axiom, sorry.
-/
import Derived.Test.YtckkgooabnlooaaDoorRows
import GoSem.ClaimSeven
namespace Go.Proofs.YtckkgooabnlooaaDoor
namespace Rows

/-- THE TIED CARD OF 'hansomlaw30.ExprNumbers'. -/
def exprNumbersCard : Claim7 := { stood := { row := exprNumbersRow, standIns := [], harness := (true, "bf7e92c0c9f07fc62ae08d2da7212159aa914217efe65a92a939fe8b6ccef593"), looks := true }, kinds := [], alts := [], laidByText := true, laidKinds := [.data, .data, .data, .widerDeep, .data, .sentinel, .sentinel], laidTests := true, laidLooks := .later }
def ExprNumbersCardSaid : Prop := Claim7.holds Tryd.pinned (.plain (OpenSpec.ofChange exprNumbersSpec)) exprNumbersCard

/-- THE TIED CARD OF 'hansomlaw30.ExprMemory'. -/
def exprMemoryCard : Claim7 := { stood := { row := exprMemoryRow, standIns := [], harness := (true, "bf7e92c0c9f07fc62ae08d2da7212159aa914217efe65a92a939fe8b6ccef593"), looks := true }, kinds := [], alts := [], laidByText := true, laidKinds := [.data, .data, .data, .widerDeep, .data, .sentinel, .sentinel], laidTests := true, laidLooks := .later }
def ExprMemoryCardSaid : Prop := Claim7.holds Tryd.pinned (.plain (OpenSpec.ofChange exprMemorySpec)) exprMemoryCard

/-- THE TIED CARD OF 'hansomlaw30.ExprRegisters'. -/
def exprRegistersCard : Claim7 := { stood := { row := exprRegistersRow, standIns := [], harness := (true, "bf7e92c0c9f07fc62ae08d2da7212159aa914217efe65a92a939fe8b6ccef593"), looks := true }, kinds := [], alts := [], laidByText := true, laidKinds := [.data, .data, .data, .widerDeep, .data, .sentinel, .sentinel], laidTests := true, laidLooks := .later }
def ExprRegistersCardSaid : Prop := Claim7.holds Tryd.pinned (.plain (OpenSpec.ofChange exprRegistersSpec)) exprRegistersCard

/-- THE TIED CARD OF 'hansomlaw30.ExprAny'. -/
def exprAnyCard : Claim7 := { stood := { row := exprAnyRow, standIns := [], harness := (true, "bf7e92c0c9f07fc62ae08d2da7212159aa914217efe65a92a939fe8b6ccef593"), looks := true }, kinds := [], alts := [], laidByText := true, laidKinds := [.data, .data, .data, .widerDeep, .data, .sentinel, .sentinel], laidTests := true, laidLooks := .later }
def ExprAnyCardSaid : Prop := Claim7.holds Tryd.pinned (.plain (OpenSpec.ofChange exprAnySpec)) exprAnyCard

/-- THE SECOND FORM's CARD OF 'hansomlaw30.ExprNumbers'. -/
def exprNumbersUptoCard : Claim7 := { stood := { row := exprNumbersUptoRow, standIns := [], harness := (true, "bf7e92c0c9f07fc62ae08d2da7212159aa914217efe65a92a939fe8b6ccef593"), looks := true }, kinds := [], alts := [], laidByText := true, laidKinds := [.data, .data, .data, .widerDeep, .data, .sentinel, .sentinel], laidTests := true, laidLooks := .later }
def ExprNumbersUptoCardSaid : Prop := Claim7.holds Tryd.pinned (.plain (OpenSpec.upto exprNumbersSpec)) exprNumbersUptoCard

/-- THE SECOND FORM's CARD OF 'hansomlaw30.ExprMemory'. -/
def exprMemoryUptoCard : Claim7 := { stood := { row := exprMemoryUptoRow, standIns := [], harness := (true, "bf7e92c0c9f07fc62ae08d2da7212159aa914217efe65a92a939fe8b6ccef593"), looks := true }, kinds := [], alts := [], laidByText := true, laidKinds := [.data, .data, .data, .widerDeep, .data, .sentinel, .sentinel], laidTests := true, laidLooks := .later }
def ExprMemoryUptoCardSaid : Prop := Claim7.holds Tryd.pinned (.plain (OpenSpec.upto exprMemorySpec)) exprMemoryUptoCard

/-- THE SECOND FORM's CARD OF 'hansomlaw30.ExprRegisters'. -/
def exprRegistersUptoCard : Claim7 := { stood := { row := exprRegistersUptoRow, standIns := [], harness := (true, "bf7e92c0c9f07fc62ae08d2da7212159aa914217efe65a92a939fe8b6ccef593"), looks := true }, kinds := [], alts := [], laidByText := true, laidKinds := [.data, .data, .data, .widerDeep, .data, .sentinel, .sentinel], laidTests := true, laidLooks := .later }
def ExprRegistersUptoCardSaid : Prop := Claim7.holds Tryd.pinned (.plain (OpenSpec.upto exprRegistersSpec)) exprRegistersUptoCard

/-- THE SECOND FORM's CARD OF 'hansomlaw30.ExprAny'. -/
def exprAnyUptoCard : Claim7 := { stood := { row := exprAnyUptoRow, standIns := [], harness := (true, "bf7e92c0c9f07fc62ae08d2da7212159aa914217efe65a92a939fe8b6ccef593"), looks := true }, kinds := [], alts := [], laidByText := true, laidKinds := [.data, .data, .data, .widerDeep, .data, .sentinel, .sentinel], laidTests := true, laidLooks := .later }
def ExprAnyUptoCardSaid : Prop := Claim7.holds Tryd.pinned (.plain (OpenSpec.upto exprAnySpec)) exprAnyUptoCard
end Rows
end Go.Proofs.YtckkgooabnlooaaDoor
