


/- Contracts of inst.Row, May, Len and Tail. No statement of the seat is proved here. -/
import Derived.Test.YtenhcbaljjhhbaaDoorInstD
namespace Go.Proofs.YtenhcbaljjhhbaaDoor
open Go.ChangeShapes Go.WideShapes Go.ChangeAt Go.RowKit
set_option linter.unusedVariables false
set_option linter.unusedSimpArgs false

def InstZ.k (i : InstZ) : Nat := (bits .and .i64 i.reg 7).toNat
theorem InstZ.hk (i : InstZ) : bits .and .i64 i.reg 7 = (i.k : Int) := by
  have := and7_bd i.reg
  unfold InstZ.k
  omega
theorem InstZ.k7 (i : InstZ) : i.k ≤ 7 := by
  have := and7_bd i.reg
  unfold InstZ.k
  omega
def InstZ.row (i : InstZ) : RowZ := ⟨(ofR i.op i.k).1, (ofR i.op i.k).2.1, (ofR i.op i.k).2.2.1, (ofR i.op i.k).2.2.2.1⟩
def InstZ.is (i : InstZ) : Bool := (ofR i.op i.k).2.2.2.2
def mayC (i : InstZ) : Bool := i.is && mayAheadC i i.row && maySecondC i i.row && mayBehindC i i.row
theorem immsZ_bd (r : RowZ) : 0 ≤ immsZ r ∧ immsZ r ≤ 8 := by
  have := immZ_bd r.a
  have := immZ_bd r.b
  unfold immsZ; omega
def lenC (i : InstZ) : Int := bif mayC i then frontZ i i.row + immsZ i.row else 0
def tailC (i : InstZ) : Int := bif mayC i then frontZ i i.row else 0
end Go.Proofs.YtenhcbaljjhhbaaDoor
