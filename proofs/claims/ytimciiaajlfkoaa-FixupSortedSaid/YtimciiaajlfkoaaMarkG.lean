/- What is left of a region that draws its order, with what the world was told; a text turned into bytes there. No statement of the seat is proved here. -/
import Derived.Test.YtimciiaajlfkoaaStr
import Derived.Test.YtimciiaajlfkoaaHand
namespace Go.Proofs.Ytimciiaajlfkoaa
open Go.ChangeShapes Go.WideShapes Go.ChangeAt Go.RowKit
set_option linter.unusedVariables false
set_option linter.unusedSimpArgs false
section
variable {P : Program} {ops : Array Oper} {md : Region.Mode} {Q : Exit → Act → World → Prop} {n : Nat} {M : Array Bool} {ls : List Value} {ds : List Deferred} {w0 w : World} {l lC : List RowT} {tp : TypeId} {pos : String} {af : Array Edge} {gd : Option (Nat × Bool)} {d : Tmp} {i : Nat} {a : Act}
theorem wpG_oneB (hR : Own w0 w l) (hr : Region.ready md ops M = [i])
    (hi : ∀ w', Own w0 w' l → Below w.heap.size w w' → wpOp P ops Q i (fun a' w'' => Own w0 w'' lC ∧ wpG P md ops (fun w => Own w0 w lC) Q n (M.setIfInBounds i true) a' w'') a w') :
    wpG P md ops (fun w => Own w0 w lC) Q (n + 1) M a w := by
  refine wpG_next hr (by simp) ?_
  intro w1 hb _ k hk
  obtain rfl := List.mem_singleton.1 hk
  exact hi w1 (hR.grow hb) hb
theorem wpG_twoB (hR : Own w0 w l) {j : Nat} (hr : Region.ready md ops M = [i, j])
    (hi : ∀ w', Own w0 w' l → Below w.heap.size w w' → wpOp P ops Q i (fun a' w'' => Own w0 w'' lC ∧ wpG P md ops (fun w => Own w0 w lC) Q n (M.setIfInBounds i true) a' w'') a w')
    (hj : ∀ w', Own w0 w' l → Below w.heap.size w w' → wpOp P ops Q j (fun a' w'' => Own w0 w'' lC ∧ wpG P md ops (fun w => Own w0 w lC) Q n (M.setIfInBounds j true) a' w'') a w') :
    wpG P md ops (fun w => Own w0 w lC) Q (n + 1) M a w := by
  refine wpG_next hr (by simp) ?_
  intro w1 hb _ k hk
  simp only [List.mem_cons, List.not_mem_nil, or_false] at hk
  rcases hk with rfl | rfl
  · exact hi w1 (hR.grow hb) hb
  · exact hj w1 (hR.grow hb) hb
theorem opBytesN (hR : Own w0 w l) {src dst e : TypeId} {x : Operand} {ns : List Int} {K : Act → World → Prop} (hs : P.underlying src = some .string) (hd : P.underlying dst = some (.slice e)) (he : P.underlying e = some (.int .u8)) (hb : bytesOk ns)
    (hi : ops.toList[i]? = some ⟨some d, .convert src dst x, tp, pos, af, gd⟩) (hg : Region.wanted ⟨some d, .convert src dst x, tp, pos, af, gd⟩ (yielded ops ls.toArray) = true) (hx : evalL ls x = some (.string (strOfNums ns)))
    (h : ∀ v w', Own w0 w' l → SrcW w' v ns → K ⟨(ls.set d v).toArray, ds⟩ w') : wpOp P ops Q i K ⟨ls.toArray, ds⟩ w := by
  obtain ⟨v, w', hr, hbl, hM⟩ := run_bytesN (o := ⟨some d, .convert src dst x, tp, pos, af, gd⟩) (w := w) hs hd he hb rfl (eval_of hx)
  refine wpOp_kn hi hg hr ?_
  show K ((⟨ls.toArray, ds⟩ : Act).put (some d) _) _
  rw [put_list]
  exact h v w' (hR.grow hbl) hM.src
/-- An operation whose guard does not hold. -/
theorem wpList_skipL {Q : Exit → Act → World → Prop} {rest : List Oper} {ls' : List Value} {op : Op} (hgd : Region.wanted ⟨some d, op, tp, pos, af, gd⟩ (yielded ops ls.toArray) = false) (hls : ls.set d undef = ls') (h : wpList P ops Q rest ⟨ls'.toArray, ds⟩ w) :
    wpList P ops Q (⟨some d, op, tp, pos, af, gd⟩ :: rest) ⟨ls.toArray, ds⟩ w := by
  refine wpList_step fun K hK => ?_
  rw [if_neg (by rw [hgd]; decide)]
  refine hK _ _ ?_
  rw [put_list, hls]
  exact h
theorem opMakeB (hR : Own w0 w l) {ty : TypeId} {c : Array Value} (hz : ZeroTy P ty c) {K : Act → World → Prop} (hi : ops.toList[i]? = some ⟨some d, .alloc ty, tp, pos, af, none⟩)
    (h : ∀ g w', Own w0 w' ((g, c, ty) :: l) → Below w.heap.size w w' → K ⟨(ls.set d (.pointer (some ⟨g, 0, none⟩))).toArray, ds⟩ w') : wpOp P ops Q i K ⟨ls.toArray, ds⟩ w := by
  refine wpOp_value hi rfl (run_allocRow (w := w) rfl hz rfl) ?_
  show K ((⟨ls.toArray, ds⟩ : Act).put (some d) _) _
  rw [put_list]
  exact h _ _ (hR.alloc c ty) ((Below.refl _ w).alloc (Nat.le_refl _) _)
end
/-- A struct out of a row that stood there before. -/
theorem t_oldRow {P : Program} {w0 : World} {l : List RowT} {c : Bool} {dd : Option Tmp} {ls : List Value} {ds : List Deferred} {tp : TypeId} {pos : String} {af : Array Edge} {gd : Option (Nat × Bool)} {ty : TypeId} {n : Nat} (ht : RowTy P ty n) {b off : Nat} {cs s : Array Value} {t : TypeId} {fr : Nat × Nat} {x : Operand} (hT : w0.heap[b]? = some (.cells cs t fr)) (hx : EvC ls c x (.pointer (some ⟨b, off, none⟩))) (hs : ExtRel cs off n s) (hn : s.size = n) :
    TIf P (fun w => Own w0 w l) c ⟨dd, .load ty x, tp, pos, af, gd⟩ ⟨ls.toArray, ds⟩ (.agg s) := by
  obtain ⟨d', hu, hd, hi⟩ := ht
  exact ⟨fun e => .inl fun w hC => run_loadPart rfl (eval_of (hx.of e)) (hC.old hT) hu hd hi hs hn⟩
end Go.Proofs.Ytimciiaajlfkoaa
