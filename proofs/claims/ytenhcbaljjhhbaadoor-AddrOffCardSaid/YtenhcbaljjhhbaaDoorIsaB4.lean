/- Contracts of package isa's tables (held): each returns the row that its table ('..T') gives, and makes new memory only. No statement of the seat is proved here. -/
import Derived.Test.YtenhcbaljjhhbaaDoorIsaA
namespace Go.Proofs.YtenhcbaljjhhbaaDoor
open Go.ChangeShapes Go.WideShapes Go.ChangeAt Go.RowKit
set_option linter.unusedVariables false
set_option linter.unusedSimpArgs false

/-- held: what each case gives. -/
def heldT (op : Int) : Int × Int × Int :=
  bif op == 160 then (35, 14, 12) else
  bif op == 161 then (35, 16, 13) else
  bif op == 162 then (35, 12, 14) else
  bif op == 163 then (35, 13, 16) else
  bif op == 164 then (46 + (op - 164) % 256, 0, 0) else
  bif op == 165 then (46 + (op - 164) % 256, 0, 0) else
  bif op == 166 then (46 + (op - 164) % 256, 0, 0) else
  bif op == 167 then (46 + (op - 164) % 256, 0, 0) else
  bif op == 168 then (33, 14, 6) else
  bif op == 169 then (33, 16, 7) else
  bif op == 170 then (50 + (op - 170) % 256, 0, 0) else
  bif op == 171 then (50 + (op - 170) % 256, 0, 0) else
  bif op == 172 then (50 + (op - 170) % 256, 0, 0) else
  bif op == 173 then (50 + (op - 170) % 256, 0, 0) else
  bif op == 174 then (50 + (op - 170) % 256, 0, 0) else
  bif op == 175 then (50 + (op - 170) % 256, 0, 0) else
  bif ltB op 184 then (35, 21, 6) else
  (35, 22, 7)