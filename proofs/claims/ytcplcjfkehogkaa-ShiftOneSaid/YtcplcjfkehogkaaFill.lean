




/- Rows of zeros that are made, and written cell by cell; bits as such cells. No statement of the seat is proved here. -/
import Derived.Test.YtcplcjfkehogkaaAluS
import Derived.Deep.OwnRows
namespace Go.Proofs.Ytcplcjfkehogkaa
open Go.ChangeShapes Go.WideShapes Go.ChangeAt Go.RowKit
set_option linter.unusedVariables false
set_option linter.unusedSimpArgs false

section
variable {P : Program} {ops : Array Oper} {rest : List Oper} {tp : TypeId} {pos : String} {af : Array Edge} {gd : Option (Nat × Bool)} {ls : List Value} {ds : List Deferred} {w0 w : World} {l : List RowT} {Q : Exit → Act → World → Prop}
theorem made_cells (z : Value) (n : Nat) : madeCells #[z] n = (List.replicate n z).toArray := by
  apply Array.ext
  · simp [madeCells]
  · intro i h1 h2
    simp [madeCells, Nat.mod_one]
/-- A row of so many zeros. -/
theorem wpList_makeRow (hR : Own w0 w l) {t e : TypeId} {z : Value} {bytes n : Nat} {q q' : IntKind} {d : Tmp} {x y : Operand} (ht : P.underlying t = some (.slice e)) (hinfo : (P.info? e).map (fun i => (i.zero, i.size, i.bytes)) = some (some z, 1, bytes)) (hz1 : z.cells = #[z]) (hb : bytes ≤ 128)
    (hgd : Region.wanted ⟨some d, .makeSlice t x y, tp, pos, af, gd⟩ (yielded ops ls.toArray) = true) (hx : evalL ls x = some (.int q (n : Int))) (hy : evalL ls y = some (.int q' (n : Int))) (hn : n ≤ 1000000)
    (h : ∀ g w', Own w0 w' ((g, (List.replicate n z).toArray, e) :: l) → wpList P ops Q rest ⟨(ls.set d (.slice (some ⟨g, 0, none⟩) n n)).toArray, ds⟩ w') : wpList P ops Q (⟨some d, .makeSlice t x y, tp, pos, af, gd⟩ :: rest) ⟨ls.toArray, ds⟩ w := by
  have hr := run_make_row' (P := P) t e z bytes ht hinfo hz1 q q' n (Nat.le_trans (Nat.mul_le_mul hb hn) (by decide)) (by omega) w
  refine wpList_run_value (v := .slice (some ⟨w.heap.size, 0, none⟩) n n) (w' := w.alloc (.cells (List.replicate n z).toArray e)) hgd ?_ (by rw [put_list]; exact h _ _ (hR.alloc _ e))
  rw [made_cells] at hr
  unfold execOp
  simp [eval_of hx, eval_of hy, hr]
end
theorem put_cell {ys : List Nat} {k d : Nat} (hk : k < ys.length) : PutRel (cellsN ys).toArray k [.int .i64 (d : Int)] (cellsN (ys.set k d)).toArray := by
  constructor
  apply Array.ext_getElem?
  intro j
  have hk' : k < (cellsN ys).toArray.size := by rw [List.size_toArray, cellsN_len]; exact hk
  rw [putList_get _ _ _ _ (by simp only [List.length_cons, List.length_nil]; omega)]
  simp only [List.length_cons, List.length_nil]
  by_cases hj : j = k
  · subst hj
    rw [if_pos (by omega), Nat.sub_self]
    simp [cellsN, hk]
  · rw [if_neg (by omega)]
    simp only [cellsN, List.getElem?_toArray, List.getElem?_map]
    rw [List.getElem?_set_ne (by omega)]
theorem cells_zero (n : Nat) : List.replicate n (Value.int .i64 0) = cellsN (List.replicate n 0) := by simp [cellsN]
theorem cells_size (ys : List Nat) : (cellsN ys).toArray.size = ys.length := by simp [cellsN]
theorem cells_at {ys : List Nat} {j u : Nat} (h : ys[j]? = some u) : (cellsN ys)[j]? = some (Value.int .i64 (u : Int)) := by
  unfold cellsN; rw [List.getElem?_map, h]; rfl
theorem row_at {cur : Array Value} {n cap : Nat} {xs : List Nat} (h : SlIs cur n cap (cellsN xs)) : ∀ (j u : Nat), xs[j]? = some u → cur.toList[j]? = some (Value.int .i64 (u : Int)) := by
  intro j u hu
  have := (Part.ofIs h).get j _ (cells_at hu)
  rwa [Nat.zero_add, ← Array.getElem?_toList] at this
theorem row_all (ys : List Nat) (n : Nat) (hl : ys.length = n) (hn : n ≤ 1000000) : SlIs (cellsN ys).toArray n n (cellsN ys) := SlIs.all (by rw [cells_size, hl]) hn
theorem zInts : (Try.prog.info? 3).map (fun i => (i.zero, i.size, i.bytes)) = some (some (Value.int .i64 0), 1, 8) := by kernel_rfl
end Go.Proofs.Ytcplcjfkehogkaa
