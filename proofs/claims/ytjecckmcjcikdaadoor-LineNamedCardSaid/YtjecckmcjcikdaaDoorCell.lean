/- Cells that a reading of an argument opens: a number's, a bool's. No statement of the seat is proved here. -/
import Derived.Test.YtjecckmcjcikdaaDoorMany
import Derived.ChangeArms
import Derived.WalkArith
import Derived.ProofKit
import Derived.WideShapes
namespace Go.Proofs.YtjecckmcjcikdaaDoor
open Go.ChangeShapes Go.WideShapes Go.ChangeAt Go.RowKit
set_option linter.unusedVariables false
set_option linter.unusedSimpArgs false

section
variable {H : Type} {enc : TypeId × Value → H} {w : World} {base : Nat} {spare : Nat → Bool} {held : Bool}
theorem cell1 {P : Program} {m : Nat} {t : TypeId} {k : IntKind} {cs : List Value} {y : Option (DataW H × List MemPlace)} {x : Value} (hu : P.underlying t = some (.int k)) (h : DataW.trod enc P w base spare held m t cs = y) (hy : y.isSome = true) (hc : cs = [x]) : ∃ n, x = .int k n ∧ (Lit.int k n).wf = true := by
  obtain ⟨y, rfl⟩ := Option.isSome_iff_exists.1 hy
  obtain ⟨n, h1, _, h3⟩ := DataW.trod_int hu h
  rw [hc] at h1
  exact ⟨n, (List.cons.inj h1).1, h3⟩
theorem cell1b {P : Program} {m : Nat} {t : TypeId} {cs : List Value} {y : Option (DataW H × List MemPlace)} {x : Value} (hu : P.underlying t = some .bool) (h : DataW.trod enc P w base spare held m t cs = y) (hy : y.isSome = true) (hc : cs = [x]) : ∃ b, x = .bool b := by
  obtain ⟨y, rfl⟩ := Option.isSome_iff_exists.1 hy
  obtain ⟨n, h1, _⟩ := DataW.trod_bool hu h
  rw [hc] at h1
  exact ⟨n, (List.cons.inj h1).1⟩
theorem some_at {α : Type} {l : List α} {n j : Nat} (hl : l.length = n) (hj : j < n) : (l[j]?).isSome = true := by rw [List.getElem?_eq_getElem (by omega)]; rfl
end
end Go.Proofs.YtjecckmcjcikdaaDoor
