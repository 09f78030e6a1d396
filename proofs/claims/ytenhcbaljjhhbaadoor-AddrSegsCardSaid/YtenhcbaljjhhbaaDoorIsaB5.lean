/- Contracts of package isa's tables (leaving): each returns the row that its table ('..T') gives, and makes new memory only. No statement of the seat is proved here. -/
import Derived.Test.YtenhcbaljjhhbaaDoorIsaA
namespace Go.Proofs.YtenhcbaljjhhbaaDoor
open Go.ChangeShapes Go.WideShapes Go.ChangeAt Go.RowKit
set_option linter.unusedVariables false
set_option linter.unusedSimpArgs false

/-- leaving: what each case gives. -/
def leavingT (op : Int) : Int × Int × Int :=
  bif op == 194 then (56, 7, 0) else
  bif op == 195 then (56, 0, 0) else
  bif op == 196 then (58, 4, 19) else
  bif op == 197 then (59, 4, 19) else
  bif op == 202 then (57, 7, 0) else
  bif op == 203 then (57, 0, 0) else
  bif op == 204 then (60, 24, 0) else
  bif op == 205 then (60, 6, 0) else
  bif op == 206 then (61, 0, 0) else
  bif op == 207 then (62, 0, 0) else
  bif op == 212 then (70, 6, 0) else
  bif op == 213 then (71, 6, 0) else
  bif op == 215 then (72, 0, 0) else
  bif op == 216 then (73, 2, 0) else
  bif op == 217 then (73, 2, 0) else
  bif op == 218 then (73, 2, 0) else
  bif op == 219 then (73, 2, 0) else
  bif op == 220 then (73, 2, 0) else
  bif op == 221 then (73, 2, 0) else
  bif op == 222 then (73, 2, 0) else
  bif op == 223 then (73, 2, 0) else
  (0, 0, 0)
end Go.Proofs.YtenhcbaljjhhbaaDoor
