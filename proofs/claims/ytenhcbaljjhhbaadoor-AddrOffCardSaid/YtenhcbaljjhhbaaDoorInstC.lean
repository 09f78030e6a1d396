


/- Contracts of package inst's greater functions: 'mayC', 'lenC', 'tailC' are what May, Len and Tail return. No statement of the seat is proved here. -/
import Derived.Test.YtenhcbaljjhhbaaDoorInstB
namespace Go.Proofs.YtenhcbaljjhhbaaDoor
open Go.ChangeShapes Go.WideShapes Go.ChangeAt Go.RowKit
set_option linter.unusedVariables false
set_option linter.unusedSimpArgs false

def onlyMemC (r : RowZ) : Bool := (r.a == 19 || r.a == 20) || (r.b == 19 || r.b == 20)
def posZ (n : Int) : Int := bif decide (0 < n) then 1 else 0
def lockZ (b : Bool) : Int := bif b then 1 else 0
def aheadZ (i : InstZ) : Int := lockZ i.lock + posZ i.rep + posZ i.seg
theorem posZ_bd (n : Int) : 0 ≤ posZ n ∧ posZ n ≤ 1 := by unfold posZ; cases decide (0 < n) <;> decide
theorem lockZ_bd (b : Bool) : 0 ≤ lockZ b ∧ lockZ b ≤ 1 := by cases b <;> decide
theorem aheadZ_bd (i : InstZ) : 0 ≤ aheadZ i ∧ aheadZ i ≤ 3 := by
  have := posZ_bd i.rep
  have := posZ_bd i.seg
  have := lockZ_bd i.lock
  unfold aheadZ; omega

theorem dispsZ_bd (m r : Int) : 0 ≤ dispsZ m r ∧ dispsZ m r ≤ 2 := by
  unfold dispsZ
  cases m == 1 <;> cases m == 2 <;> cases (m == 0 && r == 6) <;> decide
def frontZ (i : InstZ) (r : RowZ) : Int := bif r.m then aheadZ i + 1 + (1 + dispsZ i.mod i.rm) else aheadZ i + 1
theorem frontZ_bd (i : InstZ) (r : RowZ) : 1 ≤ frontZ i r ∧ frontZ i r ≤ 7 := by
  have := dispsZ_bd i.mod i.rm
  have := aheadZ_bd i
  unfold frontZ; cases r.m <;> simp <;> omega
end Go.Proofs.YtenhcbaljjhhbaaDoor
