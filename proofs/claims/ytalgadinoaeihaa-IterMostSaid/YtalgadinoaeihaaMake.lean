/- A row of zeros that is made. No statement of the seat is proved here. -/
import Derived.Test.YtalgadinoaeihaaHand
import Derived.Deep.OwnRows
namespace Go.Proofs.Ytalgadinoaeihaa
open Go.ChangeShapes Go.WideShapes Go.ChangeAt Go.RowKit
set_option linter.unusedVariables false
set_option linter.unusedSimpArgs false

section
variable {P : Program} {ops : Array Oper} {rest : List Oper} {tp : TypeId} {pos : String} {af : Array Edge} {gd : Option (Nat × Bool)} {ls : List Value} {ds : List Deferred} {w0 w : World} {l : List RowT} {Q : Exit → Act → World → Prop}
theorem made_cells (z : Value) (n : Nat) : madeCells #[z] n = (List.replicate n z).toArray := by
  apply Array.ext
  · simp [madeCells]
  · intro i h1 h2
    simp [madeCells, Nat.mod_one]
/-- A row of so many zeros. -/
theorem wpList_makeRow (hR : Own w0 w l) {t e : TypeId} {z : Value} {bytes n : Nat} {q q' : IntKind} {d : Tmp} {x y : Operand} (ht : P.underlying t = some (.slice e)) (hinfo : (P.info? e).map (fun i => (i.zero, i.size, i.bytes)) = some (some z, 1, bytes)) (hz1 : z.cells = #[z]) (hb : bytes ≤ 128)
    (hgd : Region.wanted ⟨some d, .makeSlice t x y, tp, pos, af, gd⟩ (yielded ops ls.toArray) = true) (hx : evalL ls x = some (.int q (n : Int))) (hy : evalL ls y = some (.int q' (n : Int))) (hn : n ≤ 1000000)
    (h : ∀ g w', Own w0 w' ((g, (List.replicate n z).toArray, e) :: l) → wpList P ops Q rest ⟨(ls.set d (.slice (some ⟨g, 0, none⟩) n n)).toArray, ds⟩ w') : wpList P ops Q (⟨some d, .makeSlice t x y, tp, pos, af, gd⟩ :: rest) ⟨ls.toArray, ds⟩ w := by
  have hr := run_make_row' (P := P) t e z bytes ht hinfo hz1 q q' n (Nat.le_trans (Nat.mul_le_mul hb hn) (by decide)) (by omega) w
  refine wpList_run_value (v := .slice (some ⟨w.heap.size, 0, none⟩) n n) (w' := w.alloc (.cells (List.replicate n z).toArray e)) hgd ?_ (by rw [put_list]; exact h _ _ (hR.alloc _ e))
  rw [made_cells] at hr
  unfold execOp
  simp [eval_of hx, eval_of hy, hr]
end
end Go.Proofs.Ytalgadinoaeihaa
