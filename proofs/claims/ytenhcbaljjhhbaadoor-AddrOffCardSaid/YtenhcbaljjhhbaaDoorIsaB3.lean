/- Contracts of package isa's tables (move): each returns the row that its table ('..T') gives, and makes new memory only. No statement of the seat is proved here. -/
import Derived.Test.YtenhcbaljjhhbaaDoorIsaA
namespace Go.Proofs.YtenhcbaljjhhbaaDoor
open Go.ChangeShapes Go.WideShapes Go.ChangeAt Go.RowKit
set_option linter.unusedVariables false
set_option linter.unusedSimpArgs false

/-- move: what each case gives. -/
def moveT (op : Int) (reg : Int) : Int × Int × Int :=
  bif op == 132 then (33, 1, 3) else
  bif op == 133 then (33, 2, 4) else
  bif op == 134 then (34, 1, 3) else
  bif op == 135 then (34, 2, 4) else
  bif op == 136 then (35, 1, 3) else
  bif op == 137 then (35, 2, 4) else
  bif op == 138 then (35, 3, 1) else
  bif op == 139 then (35, 4, 2) else
  bif op == 140 then (bif leB reg 3 then (35, 2, 5) else (0, 0, 0)) else
  bif op == 141 then (36, 4, 20) else
  bif op == 142 then (bif leB reg 3 then (bif reg != 1 then (35, 5, 2) else (0, 0, 0)) else (0, 0, 0)) else
  (0, 0, 0)