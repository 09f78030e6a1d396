/- Contracts of package isa's tables (betweenSums and sum): each returns the row that its table ('..T') gives, and makes new memory only. No statement of the seat is proved here. -/
import Derived.Test.YtenhcbaljjhhbaaDoorIsaA
namespace Go.Proofs.YtenhcbaljjhhbaaDoor
open Go.ChangeShapes Go.WideShapes Go.ChangeAt Go.RowKit
set_option linter.unusedVariables false
set_option linter.unusedSimpArgs false

/-- betweenSums: what each case gives. -/
def bsT (op : Int) : Int × Int × Int :=
  bif op == 6 then (9, 23, 0) else
  bif op == 14 then (9, 23, 0) else
  bif op == 22 then (9, 23, 0) else
  bif op == 30 then (9, 23, 0) else
  bif op == 7 then (10, 23, 0) else
  bif op == 23 then (10, 23, 0) else
  bif op == 31 then (10, 23, 0) else
  bif op == 39 then (11, 0, 0) else
  bif op == 47 then (12, 0, 0) else
  bif op == 55 then (13, 0, 0) else
  bif op == 63 then (14, 0, 0) else
  (0, 0, 0)
/-- sum: what each case gives. -/
def sumT (op : Int) : Int × Int × Int :=
  bif op % 8 == 0 then (1 + op / 8, 1, 3) else
  bif op % 8 == 1 then (1 + op / 8, 2, 4) else
  bif op % 8 == 2 then (1 + op / 8, 3, 1) else
  bif op % 8 == 3 then (1 + op / 8, 4, 2) else
  bif op % 8 == 4 then (1 + op / 8, 14, 6) else
  bif op % 8 == 5 then (1 + op / 8, 16, 7) else
  bsT op
end Go.Proofs.YtenhcbaljjhhbaaDoor
