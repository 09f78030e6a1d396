/- Contracts of package isa's tables (grouped): each returns the row that its table ('..T') gives, and makes new memory only. No statement of the seat is proved here. -/
import Derived.Test.YtenhcbaljjhhbaaDoorIsaB7
namespace Go.Proofs.YtenhcbaljjhhbaaDoor
open Go.ChangeShapes Go.WideShapes Go.ChangeAt Go.RowKit
set_option linter.unusedVariables false
set_option linter.unusedSimpArgs false

/-- A row that stands at 0 alone. -/
def firstT (reg n a b : Int) : Int × Int × Int := bif reg != 0 then (0, 0, 0) else (n, a, b)
/-- grouped: what each case gives. -/
def groupedT (op : Int) (reg : Int) : Int × Int × Int :=
  bif op == 128 then (1 + reg, 1, 6) else
  bif op == 129 then (1 + reg, 2, 7) else
  bif op == 131 then spreadT reg else
  bif op == 143 then firstT reg 10 2 0 else
  bif op == 198 then firstT reg 35 1 6 else
  bif op == 199 then firstT reg 35 2 7 else
  bif op == 208 then shiftedT reg 1 18 else
  bif op == 209 then shiftedT reg 2 18 else
  bif op == 210 then shiftedT reg 1 15 else
  bif op == 211 then shiftedT reg 2 15 else
  bif op == 246 then countedT reg 1 6 else
  bif op == 247 then countedT reg 2 7 else
  bif op == 254 then udT reg 1 else
  uaT reg
end Go.Proofs.YtenhcbaljjhhbaaDoor
