/- Contracts of package isa's tables (spread, shifted, counted, upOrDown, upOrAway): each returns the row that its table ('..T') gives, and makes new memory only. No statement of the seat is proved here. -/
import Derived.Test.YtenhcbaljjhhbaaDoorIsaA
namespace Go.Proofs.YtenhcbaljjhhbaaDoor
open Go.ChangeShapes Go.WideShapes Go.ChangeAt Go.RowKit
set_option linter.unusedVariables false
set_option linter.unusedSimpArgs false

/-- spread: what each case gives. -/
def spreadT (reg : Int) : Int × Int × Int :=
  bif 1 + reg == 2 then (0, 0, 0) else
  bif 1 + reg == 5 then (0, 0, 0) else
  bif 1 + reg == 7 then (0, 0, 0) else
  (1 + reg, 2, 8)
/-- shifted: what each case gives. -/
def shiftedT (reg : Int) (a : Int) (b : Int) : Int × Int × Int :=
  bif ltB reg 6 then (63 + reg, a, b) else
  bif reg == 7 then (69, a, b) else
  (0, 0, 0)
/-- counted: what each case gives. -/
def countedT (reg : Int) (a : Int) (b : Int) : Int × Int × Int :=
  bif reg == 0 then (33, a, b) else
  bif leB 2 reg then (84 + reg - 2, a, 0) else
  (0, 0, 0)
/-- upOrDown: what each case gives. -/
def udT (reg : Int) (a : Int) : Int × Int × Int :=
  bif reg == 0 then (15, a, 0) else
  bif reg == 1 then (16, a, 0) else
  (0, 0, 0)
/-- upOrAway: what each case gives. -/
def uaT (reg : Int) : Int × Int × Int :=
  bif reg == 2 then (39, 2, 0) else
  bif reg == 3 then (40, 19, 0) else
  bif reg == 4 then (80, 2, 0) else
  bif reg == 5 then (81, 19, 0) else
  bif reg == 6 then (9, 2, 0) else
  udT reg 2
end Go.Proofs.YtenhcbaljjhhbaaDoor
