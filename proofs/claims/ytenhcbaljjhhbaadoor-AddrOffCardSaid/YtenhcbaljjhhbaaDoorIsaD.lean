/- Contracts of package isa's tables (row): each returns the row that its table ('..T') gives, and makes new memory only. No statement of the seat is proved here. -/
import Derived.Test.YtenhcbaljjhhbaaDoorIsaC
import Derived.Test.YtenhcbaljjhhbaaDoorIsaB1
import Derived.Test.YtenhcbaljjhhbaaDoorIsaB2
import Derived.Test.YtenhcbaljjhhbaaDoorIsaB3
import Derived.Test.YtenhcbaljjhhbaaDoorIsaB4
import Derived.Test.YtenhcbaljjhhbaaDoorIsaB5
import Derived.Test.YtenhcbaljjhhbaaDoorIsaB6
import Derived.Test.YtenhcbaljjhhbaaDoorIsaB8
namespace Go.Proofs.YtenhcbaljjhhbaaDoor
open Go.ChangeShapes Go.WideShapes Go.ChangeAt Go.RowKit
set_option linter.unusedVariables false
set_option linter.unusedSimpArgs false

/-- The row of a first byte, that does not yet know of a second one. -/
def rowT (op reg : Int) : Int × Int × Int :=
  bif grpB op then groupedT op reg else
  bif ltB op 64 then sumT op else
  bif ltB op 128 then shortT op else
  bif ltB op 144 then moveT op reg else
  bif ltB op 160 then singleT op else
  bif ltB op 192 then heldT op else
  bif ltB op 224 then leavingT op else
  lastT op
end Go.Proofs.YtenhcbaljjhhbaaDoor
