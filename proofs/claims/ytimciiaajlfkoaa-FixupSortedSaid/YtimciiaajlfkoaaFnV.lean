/- Function values: a call through one; a variable of one cell that a closure captures. No statement of the seat is proved here. -/
import Derived.Test.YtimciiaajlfkoaaHand
namespace Go.Proofs.Ytimciiaajlfkoaa
open Go.ChangeShapes Go.WideShapes Go.ChangeAt Go.RowKit
set_option linter.unusedVariables false
set_option linter.unusedSimpArgs false
section
variable {P : Program} {ops : Array Oper} {rest : List Oper} {Q : Exit → Act → World → Prop} {ls : List Value} {ds : List Deferred} {w0 w : World} {l : List RowT} {tp : TypeId} {pos : String} {af : Array Edge} {gd : Option (Nat × Bool)} {d : Tmp}
/-- A call of a function value without arguments of its own: what it captured comes in. -/
theorem wpList_fn {F : FuncId} (hcf : ∀ (args : Array Value) w, (callFunc F args).run P w = .ok (.enter F args) w) {x : Operand} {ats : Array TypeId} {cp : Array Value}
    (hgd : Region.wanted ⟨some d, .call ⟨.value x, #[], ats⟩, tp, pos, af, gd⟩ (yielded ops ls.toArray) = true) (hx : evalL ls x = some (.func (.func F) #[] cp))
    (hc : Calls P F cp w fun en w' => ∃ v, en = .returned v ∧ wpList P ops Q rest ⟨(ls.set d v).toArray, ds⟩ w') :
    wpList P ops Q (⟨some d, .call ⟨.value x, #[], ats⟩, tp, pos, af, gd⟩ :: rest) ⟨ls.toArray, ds⟩ w := by
  have hev : (⟨ls.toArray, ds⟩ : Act).eval x = .func (.func F) #[] cp := eval_of hx
  have hrun : (execOp (⟨ls.toArray, ds⟩ : Act).eval ⟨some d, .call ⟨.value x, #[], ats⟩, tp, pos, af, gd⟩).run P w = .ok (.enter F cp) w := by
    unfold execOp
    simp only [resolve, hev, Deferred.ofValue, Sem.run_bind, Sem.run_pure, Result.andThen_ok, invoke, Array.empty_append, Array.append_empty, Array.map_empty, List.map_toArray, List.map_nil, hcf]
  refine wpList_step fun K hK => ?_
  rw [if_pos hgd]
  unfold Oper.wp
  rw [hrun]
  refine Calls.mono hc fun en w' hk => ?_
  obtain ⟨v, rfl, hG⟩ := hk
  refine hK _ _ ?_
  rw [put_list]
  exact hG
theorem wpList_make1 (hR : Own w0 w l) {ty : TypeId} {z : Value} (hz : (P.info? ty).map (·.zero) = some (some z)) {c : Array Value} (hc : z.cells = c) {d : Tmp} (hgd : Region.wanted ⟨some d, .alloc ty, tp, pos, af, gd⟩ (yielded ops ls.toArray) = true)
    (h : ∀ g w', Own w0 w' ((g, c, ty) :: l) → wpList P ops Q rest ⟨(ls.set d (.pointer (some ⟨g, 0, none⟩))).toArray, ds⟩ w') : wpList P ops Q (⟨some d, .alloc ty, tp, pos, af, gd⟩ :: rest) ⟨ls.toArray, ds⟩ w :=
  wpList_run_value hgd (run_allocRow rfl hz hc) (by rw [put_list]; exact h _ _ (hR.alloc c ty))
/-- A closure is made of what lies in slots. -/
theorem wpList_func {fn : Fn} {xs : Array Operand} {vs : List Value}
    (hgd : Region.wanted ⟨some d, .makeFunc fn #[] xs, tp, pos, af, gd⟩ (yielded ops ls.toArray) = true) (hx : evalAll ls xs.toList = some vs)
    (h : wpList P ops Q rest ⟨(ls.set d (.func fn #[] vs.toArray)).toArray, ds⟩ w) : wpList P ops Q (⟨some d, .makeFunc fn #[] xs, tp, pos, af, gd⟩ :: rest) ⟨ls.toArray, ds⟩ w := by
  have ha' : xs.map (⟨ls.toArray, ds⟩ : Act).eval = vs.toArray := by
    apply Array.toList_inj.1
    rw [Array.toList_map, evalAll_of hx]
  refine wpList_run_value (v := .func fn #[] vs.toArray) (w' := w) hgd ?_ (by rw [put_list]; exact h)
  unfold execOp
  simp [Instr.makeFunc, ha']
end
end Go.Proofs.Ytimciiaajlfkoaa
