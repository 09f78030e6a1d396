/-
  DERIVED. GIVEN WITH THE SEED: THE CARDS: each row of YtenhcbaljjhhbaaDoorRows.lean that lists a variable, with what it lists TIED to the program's text (the seventh form; the later family's looks); each row that meets fmt, with fmt's text TOLD by the authors' own Lean function (tested against real Go, not proved from fmt's source: count such statements apart). THE CARD IS WHAT COUNTS. Prove the row's statement (the work); the ties are given (YtenhcbaljjhhbaaDoorTie.lean); close each card by the builder's one call (the guide's Derived/Test/ToyasCard.lean, 'card_holds'). Laid BY PROGRAM, IN A SANDBOX (cutbox-door.mjs). By AI agents, Wed Nov 11 2026. No macro, syntax, notation, axiom, sorry.
-/
import Derived.Test.YtenhcbaljjhhbaaDoorRows
import GoSem.ClaimSeven
namespace Go.Proofs.YtenhcbaljjhhbaaDoor
namespace Rows

/-- THE TIED CARD OF 'hansomlaw11.AddrOff'. -/
def addrOffCard : Claim7 := { stood := { row := addrOffRow, standIns := [], harness := (true, "81a7180c41f45f16dd92271bf6a9d06552d31d5031ec6784d0c89bd151cf3e8c"), looks := false }, kinds := [], alts := [], laidByText := true, laidKinds := [.data], laidTests := true, laidLooks := .later }
def AddrOffCardSaid : Prop := Claim7.holds Tryd.pinned (.plain (OpenSpec.ofChange addrOffSpec)) addrOffCard

/-- THE TIED CARD OF 'hansomlaw11.AddrSegs'. -/
def addrSegsCard : Claim7 := { stood := { row := addrSegsRow, standIns := [], harness := (true, "81a7180c41f45f16dd92271bf6a9d06552d31d5031ec6784d0c89bd151cf3e8c"), looks := false }, kinds := [], alts := [], laidByText := true, laidKinds := [.data], laidTests := true, laidLooks := .later }
def AddrSegsCardSaid : Prop := Claim7.holds Tryd.pinned (.plain (OpenSpec.ofChange addrSegsSpec)) addrSegsCard

/-- THE SECOND FORM's CARD OF 'hansomlaw11.AddrOff'. -/
def addrOffUptoCard : Claim7 := { stood := { row := addrOffUptoRow, standIns := [], harness := (true, "81a7180c41f45f16dd92271bf6a9d06552d31d5031ec6784d0c89bd151cf3e8c"), looks := false }, kinds := [], alts := [], laidByText := true, laidKinds := [.data], laidTests := true, laidLooks := .later }
def AddrOffUptoCardSaid : Prop := Claim7.holds Tryd.pinned (.plain (OpenSpec.upto addrOffSpec)) addrOffUptoCard

/-- THE SECOND FORM's CARD OF 'hansomlaw11.AddrSegs'. -/
def addrSegsUptoCard : Claim7 := { stood := { row := addrSegsUptoRow, standIns := [], harness := (true, "81a7180c41f45f16dd92271bf6a9d06552d31d5031ec6784d0c89bd151cf3e8c"), looks := false }, kinds := [], alts := [], laidByText := true, laidKinds := [.data], laidTests := true, laidLooks := .later }
def AddrSegsUptoCardSaid : Prop := Claim7.holds Tryd.pinned (.plain (OpenSpec.upto addrSegsSpec)) addrSegsUptoCard
end Rows
end Go.Proofs.YtenhcbaljjhhbaaDoor
