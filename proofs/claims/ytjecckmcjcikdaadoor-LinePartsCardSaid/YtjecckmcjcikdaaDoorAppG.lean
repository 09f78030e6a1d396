/- An append of what lies somewhere, in a region that draws its order. No statement of the seat is proved here. -/
import Derived.Test.YtjecckmcjcikdaaDoorApp
namespace Go.Proofs.YtjecckmcjcikdaaDoor
open Go.ChangeShapes Go.WideShapes Go.ChangeAt Go.RowKit
set_option linter.unusedVariables false
set_option linter.unusedSimpArgs false
section
variable {P : Program} {ops : Array Oper} {md : Region.Mode} {Q : Exit → Act → World → Prop} {n : Nat} {M : Array Bool} {ls : List Value} {ds : List Deferred} {w0 w : World} {l lC : List RowT} {tp : TypeId} {pos : String} {af : Array Edge} {gd : Option (Nat × Bool)} {d : Tmp} {i : Nat}
theorem opAppG (hR : Own w0 w l) {L' s : List RowT} {t e : TypeId} {k b : Nat} (ht : SliceB P t e k b) {x y : Operand} {v y' : Value} {m0 m : Nat} {xs ys : List Value} {K : Act → World → Prop}
    (hi : ops.toList[i]? = some ⟨some d, .call { callee := .builtin .append, args := #[x, y], argTypes := #[t, t] }, tp, pos, af, gd⟩) (hg : Region.wanted ⟨some d, .call { callee := .builtin .append, args := #[x, y], argTypes := #[t, t] }, tp, pos, af, gd⟩ (yielded ops ls.toArray) = true)
    (hx : evalL ls x = some v) (hy : evalL ls y = some y') (hd : Les s l L') (hS : Sl e k s v m0 xs) (hP : Rd w k y' m ys) (h63 : m0 + m ≤ maxLen) (hsm : (m0 + m) * b ≤ 140737488355328)
    (h : ∀ s' v' w', Own w0 w' (s' ++ L') → Sl e k s' v' (m0 + m) (xs ++ ys) → K ⟨(ls.set d v').toArray, ds⟩ w') : wpOp P ops Q i K ⟨ls.toArray, ds⟩ w := by
  obtain ⟨s', v', w', hr, hO, hS'⟩ := run_appG (o := ⟨some d, .call { callee := .builtin .append, args := #[x, y], argTypes := #[t, t] }, tp, pos, af, gd⟩) ht hR rfl (eval_of hx) (eval_of hy) hd hS hP h63 hsm
  refine wpOp_kn hi hg hr ?_
  show K ((⟨ls.toArray, ds⟩ : Act).put (some d) _) _
  rw [put_list]
  exact h s' v' w' hO hS'
theorem wpG_appG (hR : Own w0 w l) (hr : Region.ready md ops M = [i]) {L' s : List RowT} {t e : TypeId} {k b : Nat} (ht : SliceB P t e k b) {x y : Operand} {v y' : Value} {m0 m : Nat} {xs ys : List Value}
    (hi : ops.toList[i]? = some ⟨some d, .call { callee := .builtin .append, args := #[x, y], argTypes := #[t, t] }, tp, pos, af, gd⟩) (hg : Region.wanted ⟨some d, .call { callee := .builtin .append, args := #[x, y], argTypes := #[t, t] }, tp, pos, af, gd⟩ (yielded ops ls.toArray) = true)
    (hx : evalL ls x = some v) (hy : evalL ls y = some y') (hd : Les s l L') (hS : Sl e k s v m0 xs) (hP : ∀ w1, Own w0 w1 l → Rd w1 k y' m ys) (h63 : m0 + m ≤ maxLen) (hsm : (m0 + m) * b ≤ 140737488355328) (hs : lC.Sublist L')
    (h : ∀ s' v' w', Own w0 w' (s' ++ L') → Sl e k s' v' (m0 + m) (xs ++ ys) → wpG P md ops (fun w => Own w0 w lC) Q n (M.setIfInBounds i true) ⟨(ls.set d v').toArray, ds⟩ w') : wpG P md ops (fun w => Own w0 w lC) Q (n + 1) M ⟨ls.toArray, ds⟩ w := by
  refine wpG_next hr (by simp) ?_
  intro w1 hb _ k' hk
  obtain rfl := List.mem_singleton.1 hk
  exact opAppG (hR.grow hb) ht hi hg hx hy hd hS (hP _ (hR.grow hb)) h63 hsm fun s' v' w' hO hS' => ⟨hO.right.drop hs, h s' v' w' hO hS'⟩
end
end Go.Proofs.YtjecckmcjcikdaaDoor
