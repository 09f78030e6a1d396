








/- Threads that were told, as a value: each in its place. No statement of the seat is proved here. -/
import Derived.Test.YtimciiaajlfkoaaThsT
import Derived.Test.YtimciiaajlfkoaaFixH
namespace Go.Proofs.Ytimciiaajlfkoaa
open Go.ChangeShapes Go.WideShapes Go.ChangeAt Go.RowKit
set_option linter.unusedVariables false
set_option linter.unusedSimpArgs false

theorem ext_fr (x : FixZ) {a b : Nat} (ha : a ≤ 3) (hb : b ≤ 3) : ExtRel (encThs (thsF x a b)) (0 * 12 + (a : Int).toNat * 3) 3 (encThr (frThr x)) := by
  constructor
  rw [Int.toNat_natCast]
  rcases (by omega : a = 0 ∨ a = 1 ∨ a = 2 ∨ a = 3) with rfl | rfl | rfl | rfl <;> rcases (by omega : b = 0 ∨ b = 1 ∨ b = 2 ∨ b = 3) with rfl | rfl | rfl | rfl <;> rfl
theorem ext_tg (x : FixZ) {a b : Nat} (ha : a ≤ 3) (hb : b ≤ 3) : ExtRel (encThs (thsF x a b)) (1 * 12 + (b : Int).toNat * 3) 3 (encThr (tgThr x)) := by
  constructor
  rw [Int.toNat_natCast]
  rcases (by omega : a = 0 ∨ a = 1 ∨ a = 2 ∨ a = 3) with rfl | rfl | rfl | rfl <;> rcases (by omega : b = 0 ∨ b = 1 ∨ b = 2 ∨ b = 3) with rfl | rfl | rfl | rfl <;> rfl
theorem thsF_ok {x : FixZ} {n : Int} (h : MayF x n) (hd : x.d ≤ 65535) (a b : Nat) : (thsF x a b).ok := by
  have ho := h.ok hd
  exact (ths0_ok.put true a (x := frThr x) ⟨ho.fr, ho.fn⟩).put false b (x := tgThr x) ⟨ho.tg, ho.n⟩
end Go.Proofs.Ytimciiaajlfkoaa
