/- Contracts of isa.one, isa.two, isa.none: the row of a name and its operands. No statement of the seat is proved here. -/
import Derived.Test.YtenhcbaljjhhbaaDoorChecked
import Derived.WalkKit
import Derived.ProofKit
import Derived.Handy
import Derived.Below
import Derived.Deep.QuietTactic
import Derived.BigQuiet
import Derived.Lib.Hide
namespace Go.Proofs.YtenhcbaljjhhbaaDoor
open Go.ChangeShapes Go.WideShapes Go.ChangeAt Go.RowKit
set_option linter.unusedVariables false
set_option linter.unusedSimpArgs false

theorem bcell {W w1 : World} (hb : Below W.heap.size W w1) : (∀ b o, b < W.heap.size → w1.cell? ⟨b, o, none⟩ = W.cell? ⟨b, o, none⟩) ∧ (∀ b o, b < W.heap.size → w1.frozen? ⟨b, o, none⟩ = W.frozen? ⟨b, o, none⟩) :=
  ⟨fun b o h => hb.cell (p := ⟨b, o, none⟩) h, fun b o h => hb.frozen (p := ⟨b, o, none⟩) h⟩

theorem rowRet {n n' a a' b b' : Int} {m m' : Bool} (h : (n, a, b, m) = (n', a', b', m')) : Ending.returned (.agg #[.int .i64 n, .int .i64 a, .int .i64 b, .bool m]) = Ending.returned (.agg #[.int .i64 n', .int .i64 a', .int .i64 b', .bool m']) := by
  cases h; rfl

/-- Comparisons as tests of their own. -/
def ltB (a b : Int) : Bool := decide (a < b)
def leB (a b : Int) : Bool := decide (a ≤ b)

end Go.Proofs.YtenhcbaljjhhbaaDoor
