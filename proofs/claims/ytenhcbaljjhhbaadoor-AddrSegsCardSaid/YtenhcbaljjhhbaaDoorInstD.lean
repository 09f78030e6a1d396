


/- Contracts of inst.May, Len and Tail: 'mayC', 'lenC', 'tailC' are what they return. No statement of the seat is proved here. -/
import Derived.Test.YtenhcbaljjhhbaaDoorInstC
namespace Go.Proofs.YtenhcbaljjhhbaaDoor
open Go.ChangeShapes Go.WideShapes Go.ChangeAt Go.RowKit
set_option linter.unusedVariables false
set_option linter.unusedSimpArgs false

def mayAheadC (i : InstZ) (r : RowZ) : Bool := btwB i.seg 4 && mayRepC i.rep (repZ r.n)
def noSecondC (i : InstZ) : Bool := i.mod == 0 && i.reg == 0 && i.rm == 0 && i.disp == 0
def badSecondC (i : InstZ) : Bool := !btwB i.mod 3 || !btwB i.reg 7 || !btwB i.rm 7
def badModC (i : InstZ) (r : RowZ) : Bool := i.mod == 3 && onlyMemC r
def maySecondC (i : InstZ) (r : RowZ) : Bool := bif r.m then (bif badSecondC i then false else bif badModC i r then false else mayDispC i.disp (dispsZ i.mod i.rm)) else noSecondC i
def behind1C (i : InstZ) (r : RowZ) : Bool := immsZ r == 0 && i.imm != 0
def farC (i : InstZ) (r : RowZ) : Bool := ((false || r.a == 11) || r.b == 11) || i.sel == 0
def mayBehindC (i : InstZ) (r : RowZ) : Bool := bif behind1C i r then false else bif mayImmC i.imm r.a r.n then (bif mayImmC i.imm r.b r.n then farC i r else false) else false
end Go.Proofs.YtenhcbaljjhhbaaDoor
