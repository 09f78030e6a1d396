/- The contract of isa.Of: the row of a first byte and of the middle of a second one ('ofR'), and whether there is one. No statement of the seat is proved here. -/
import Derived.Test.YtenhcbaljjhhbaaDoorIsaD
namespace Go.Proofs.YtenhcbaljjhhbaaDoor
open Go.ChangeShapes Go.WideShapes Go.ChangeAt Go.RowKit
set_option linter.unusedVariables false
set_option linter.unusedSimpArgs false

theorem and7_bd (n : Int) : 0 ≤ bits .and .i64 n 7 ∧ bits .and .i64 n 7 ≤ 7 := by
  show 0 ≤ IntKind.i64.wrap ((BitVec.ofInt 64 n &&& BitVec.ofInt 64 7).toNat : Int) ∧ IntKind.i64.wrap ((BitVec.ofInt 64 n &&& BitVec.ofInt 64 7).toNat : Int) ≤ 7
  have h : (BitVec.ofInt 64 n &&& BitVec.ofInt 64 7).toNat ≤ 7 := by
    rw [BitVec.toNat_and]
    exact Nat.and_le_right
  rw [IntWalk.i64_in _ (by omega)]
  omega

theorem and7_fin : ∀ k : Fin 8, bits .and .i64 (k.val : Int) 7 = (k.val : Int) := by decide +kernel
theorem and7_small (k : Nat) (h : k < 8) : bits .and .i64 (k : Int) 7 = (k : Int) := and7_fin ⟨k, h⟩

/-- What isa.Of returns: name, operands, whether there is a second byte; whether there is such an instruction. -/
def ofR (op k : Int) : Int × Int × Int × Bool × Bool :=
  bif (rowT op k).1 == 0 then (0, 0, 0, false, false) else ((rowT op k).1, (rowT op k).2.1, (rowT op k).2.2, secB (rowT op k).2.1 || secB (rowT op k).2.2, true)

end Go.Proofs.YtenhcbaljjhhbaaDoor
