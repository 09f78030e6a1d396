/- Contracts of package isa's tables (short, single): each returns the row that its table ('..T') gives, and makes new memory only. No statement of the seat is proved here. -/
import Derived.Test.YtenhcbaljjhhbaaDoorIsaA
namespace Go.Proofs.YtenhcbaljjhhbaaDoor
open Go.ChangeShapes Go.WideShapes Go.ChangeAt Go.RowKit
set_option linter.unusedVariables false
set_option linter.unusedSimpArgs false

/-- short: what each case gives. -/
def shortT (op : Int) : Int × Int × Int :=
  bif op / 8 == 8 then (15, 22, 0) else
  bif op / 8 == 9 then (16, 22, 0) else
  bif op / 8 == 10 then (9, 22, 0) else
  bif op / 8 == 11 then (10, 22, 0) else
  bif op / 8 == 14 then (17 + (op - 112) % 256, 9, 0) else
  bif op / 8 == 15 then (17 + (op - 112) % 256, 9, 0) else
  (0, 0, 0)
/-- single: what each case gives. -/
def singleT (op : Int) : Int × Int × Int :=
  bif op == 152 then (37, 0, 0) else
  bif op == 153 then (38, 0, 0) else
  bif op == 154 then (40, 11, 0) else
  bif op == 155 then (41, 0, 0) else
  bif op == 156 then (42, 0, 0) else
  bif op == 157 then (43, 0, 0) else
  bif op == 158 then (44, 0, 0) else
  bif op == 159 then (45, 0, 0) else
  (34, 16, 22)
end Go.Proofs.YtenhcbaljjhhbaaDoor
