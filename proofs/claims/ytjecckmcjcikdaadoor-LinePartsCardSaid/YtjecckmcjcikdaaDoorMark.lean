/- The row that '[]byte(s)' makes, while it is the call's own: a byte of it is put anew; quiet operations that leave the world as it is. No statement of the seat is proved here. -/
import Derived.Test.YtjecckmcjcikdaaDoorStr
import Derived.Test.YtjecckmcjcikdaaDoorBase
namespace Go.Proofs.YtjecckmcjcikdaaDoor
open Go.ChangeShapes Go.WideShapes Go.ChangeAt Go.RowKit
set_option linter.unusedVariables false
set_option linter.unusedSimpArgs false

/-- A marked row beside the call's own rows. -/
structure MarkO (w0 w : World) (l : List RowT) (g cap : Nat) (cur : Array Value) (e : TypeId) (ns : List Int) : Prop where
  ok : bytesOk ns
  base : w0.heap.size ≤ g
  apart : ∀ r ∈ l, r.1 ≠ g
  here : w.heap[g]? = some (.cells cur e (cur.size, cur.size + 1))
  le : ns.length ≤ cap
  get : ∀ (j : Nat) (u : Int), ns[j]? = some u → cur[j]? = some (Value.int .u8 u)
theorem MarkO.src {w0 w : World} {l : List RowT} {g cap : Nat} {cur : Array Value} {e : TypeId} {ns : List Int} (h : MarkO w0 w l g cap cur e ns) : SrcW w (.slice (some ⟨g, 0, none⟩) ns.length cap) ns := by
  refine ⟨h.ok, .inr ⟨_, cap, rfl, h.le, fun j u hu => ?_⟩⟩
  rw [addr_mid, cell_of_row _ _ _ _ _ _ h.here, Nat.zero_add]
  exact h.get j u hu
theorem MarkO.cell {w0 w : World} {l : List RowT} {g cap : Nat} {cur : Array Value} {e : TypeId} {ns : List Int} (h : MarkO w0 w l g cap cur e ns) {k : Nat} {x : Int} (hk : ns[k]? = some x) : w.cell? ⟨g, k, none⟩ = some (.int .u8 x) := by
  rw [cell_of_row _ _ _ _ _ _ h.here]; exact h.get k x hk
theorem Own.setOther {w0 w : World} {l : List RowT} {g : Nat} {c : Array Value} (h : Own w0 w l) (hg : w0.heap.size ≤ g) (hn : ∀ r ∈ l, r.1 ≠ g) : Own w0 (w.setRow g c) l := by
  refine ⟨⟨h.below.os, h.below.tape, h.below.output, by simpa using h.below.size, fun k hk => ?_⟩, fun x hx => ?_, h.apart⟩
  · rw [setRow_other _ _ _ _ (by omega)]; exact h.below.block k hk
  · exact ⟨(h.here x hx).1, by rw [setRow_other _ _ _ _ (hn x hx)]; exact (h.here x hx).2⟩
section
variable {P : Program} {ops : Array Oper} {rest : List Oper} {Q : Exit → Act → World → Prop} {ls ls' : List Value} {ds : List Deferred} {w0 w : World} {l : List RowT} {tp : TypeId} {pos : String} {af : Array Edge} {gd : Option (Nat × Bool)} {d : Tmp} {src dst e : TypeId} {x y : Operand} {ns : List Int}
/-- A quiet operation; the world stays. -/
theorem q_ls0 {op : Op} {v : Value} (hg : Region.wanted ⟨some d, op, tp, pos, af, gd⟩ (yielded ops ls.toArray) = true) (ht : TIf P (fun w' => w' = w) true ⟨some d, op, tp, pos, af, gd⟩ ⟨ls.toArray, ds⟩ v)
    (hls : ls.set d v = ls') (h : wpList P ops Q rest ⟨ls'.toArray, ds⟩ w) : wpList P ops Q (⟨some d, op, tp, pos, af, gd⟩ :: rest) ⟨ls.toArray, ds⟩ w := by
  refine wpList_step fun K hK => ?_
  rw [if_pos hg]
  unfold Oper.wp
  rcases ht.of rfl with ht | ⟨f, args, hrun, hc⟩
  · rw [ht w rfl]
    refine hK _ _ ?_
    rw [put_list, hls]
    exact h
  · rw [hrun w]
    refine Calls.mono (hc w rfl) fun e w' hk => ?_
    obtain ⟨rfl, _, hC'⟩ := hk
    refine hK _ _ ?_
    rw [put_list, hls, hC']
    exact h
theorem wpList_bytesO (hR : Own w0 w l) (hs : P.underlying src = some .string) (hd : P.underlying dst = some (.slice e)) (he : P.underlying e = some (.int .u8)) (hb : bytesOk ns)
    (hgd : Region.wanted ⟨some d, .convert src dst x, tp, pos, af, gd⟩ (yielded ops ls.toArray) = true) (hx : evalL ls x = some (.string (strOfNums ns)))
    (h : ∀ g cap cur w', Own w0 w' l → MarkO w0 w' l g cap cur e ns → wpList P ops Q rest ⟨(ls.set d (.slice (some ⟨g, 0, none⟩) ns.length cap)).toArray, ds⟩ w') :
    wpList P ops Q (⟨some d, .convert src dst x, tp, pos, af, gd⟩ :: rest) ⟨ls.toArray, ds⟩ w := by
  have hr := run_bytes_of_string (P := P) w src dst e (strOfNums ns) hs hd he
  rw [strOf_len] at hr
  generalize hc : grownCap w ns.length 0 e = cap at hr
  have hle : ns.length ≤ cap := by rw [← hc]; exact grownCap_ge _ _ _ _
  refine wpList_run_value (v := .slice (some ⟨w.heap.size, 0, none⟩) ns.length cap) (w' := w.drew.alloc (.cells (bytesRow (strOfNums ns) cap) e ((bytesRow (strOfNums ns) cap).size, (bytesRow (strOfNums ns) cap).size + 1))) hgd ?_ ?_
  · unfold execOp
    simp only [eval_of hx, Sem.run_bind, hr, Result.andThen_ok, Sem.run_pure]
  · rw [put_list]
    refine h _ _ (bytesRow (strOfNums ns) cap) _ (hR.grow ((Below.refl _ w).drew.alloc (Nat.le_refl _) _)) ⟨hb, hR.below.size, fun r hr => ?_, ?_, hle, fun j u hu => bytesRow_at hb cap hu⟩
    · have := hR.lt hr; omega
    · show (w.heap.push _)[w.heap.size]? = _
      rw [Array.getElem?_push, if_pos rfl]
/-- A byte of it is put anew. -/
theorem wpList_putMark (hR : Own w0 w l) {ty : TypeId} (ht : OneTy P ty) {g cap k : Nat} {cur : Array Value} {n : Int} (hM : MarkO w0 w l g cap cur e ns) (hgd : Region.wanted ⟨none, .store ty x y, tp, pos, af, gd⟩ (yielded ops ls.toArray) = true)
    (hx : evalL ls x = some (.pointer (some ⟨g, k, none⟩))) (hy : evalL ls y = some (.int .u8 n)) (hk : k < ns.length) (hn : 0 ≤ n ∧ n ≤ 255)
    (h : ∀ w', Own w0 w' l → MarkO w0 w' l g cap (cur.setIfInBounds k (.int .u8 n)) e (ns.set k n) → wpList P ops Q rest ⟨ls.toArray, ds⟩ w') :
    wpList P ops Q (⟨none, .store ty x y, tp, pos, af, gd⟩ :: rest) ⟨ls.toArray, ds⟩ w := by
  obtain ⟨d, _, hd, hi⟩ := ht
  obtain ⟨u, hu⟩ : ∃ u, ns[k]? = some u := ⟨_, List.getElem?_eq_getElem hk⟩
  have hks : k < cur.size := (Array.getElem?_eq_some_iff.1 (hM.get k u hu)).1
  have hcell := hM.cell hu
  have hfro : w.frozen? ⟨g, k, none⟩ = false := by
    simp [World.frozen?, hM.here]; omega
  have hst : (store (⟨g, k, none⟩ : Addr) (.int .u8 n)).run P w = .ok () (w.setRow g (cur.setIfInBounds k (.int .u8 n))) := by
    rw [run_store P w _ (.int .u8 n) _ rfl, hcell]
    simp [hfro, setCell_eq_setRow w g k cur e _ (.int .u8 n) hM.here]
  have hv : (storeVar ty ⟨g, k, none⟩ (.int .u8 n)).run P w = .ok () (w.setRow g (cur.setIfInBounds k (.int .u8 n))) := by
    cases hq : P.info? ty with
    | none => simp [hq] at hi
    | some i =>
      have hz : i.size = 1 := by simpa [hq] using hi
      have ha : (⟨g, k, none⟩ : Addr).add 0 = ⟨g, k, none⟩ := by simp [Addr.add]
      simp [storeVar, sizeOf, typeInfo, hq, hz, Value.cells, storeCells, ha, hst]
  refine wpList_run_skip (w' := w.setRow g (cur.setIfInBounds k (.int .u8 n))) hgd ?_ (h _ (hR.setOther hM.base hM.apart) ⟨?_, hM.base, hM.apart, ?_, by rw [List.length_set]; exact hM.le, fun j u hu => ?_⟩)
  · unfold execOp
    simp only [eval_of hx, eval_of hy, Instr.storeAt, Instr.sureAddr, Sem.run_bind, Sem.run_pure, Result.andThen_ok, hv]
  · intro m hm
    rcases List.mem_or_eq_of_mem_set hm with h | rfl
    · exact hM.ok m h
    · exact hn
  · have := setRow_heap w g cur (cur.setIfInBounds k (.int .u8 n)) e _ hM.here
    rw [this]
    simp
  · by_cases hj : j = k
    · subst hj
      rw [List.getElem?_set_self hk] at hu
      obtain rfl := Option.some.inj hu
      simp [hks]
    · rw [List.getElem?_set_ne (Ne.symm hj)] at hu
      rw [Array.getElem?_setIfInBounds_ne (Ne.symm hj)]
      exact hM.get j u hu
end
end Go.Proofs.YtjecckmcjcikdaaDoor
