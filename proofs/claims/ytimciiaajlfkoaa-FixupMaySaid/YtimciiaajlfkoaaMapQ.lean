/- Small maps of the call's own, keyed by integers: made, filled, asked. No statement of the seat is proved here. -/
import Derived.Test.YtimciiaajlfkoaaHand
import Derived.Carry
import Derived.MapKept
namespace Go.Proofs.Ytimciiaajlfkoaa
open Go.ChangeShapes Go.WideShapes Go.ChangeAt Go.RowKit
set_option linter.unusedVariables false
set_option linter.unusedSimpArgs false

abbrev MapT := Nat × Array MapEntry × Nat
/-- Rows of the call's own, and maps of its own. -/
structure OwnM (w0 w : World) (l : List RowT) (ms : List MapT) : Prop where
  own : Own w0 w l
  maps : ∀ m ∈ ms, w0.heap.size ≤ m.1 ∧ w.heap[m.1]? = some (.map m.2.1 m.2.2)
theorem Own.noM {w0 w : World} {l : List RowT} (h : Own w0 w l) : OwnM w0 w l [] := ⟨h, fun _ h => nomatch h⟩
theorem OwnM.lt {w0 w : World} {l : List RowT} {ms : List MapT} (h : OwnM w0 w l ms) {m : MapT} (hm : m ∈ ms) : m.1 < w.heap.size := (Array.getElem?_eq_some_iff.1 (h.maps m hm).2).1
theorem OwnM.grow {w0 w w' : World} {l : List RowT} {ms : List MapT} (h : OwnM w0 w l ms) (hb : Below w.heap.size w w') : OwnM w0 w' l ms :=
  ⟨h.own.grow hb, fun m hm => ⟨(h.maps m hm).1, by rw [hb.block m.1 (h.lt hm)]; exact (h.maps m hm).2⟩⟩
theorem OwnM.join {w0 w w' : World} {l l2 : List RowT} {ms : List MapT} (h : OwnM w0 w l ms) (h2 : Own w w' l2) : OwnM w0 w' (l2 ++ l) ms :=
  ⟨h.own.join h2, (h.grow h2.below).maps⟩
theorem OwnM.joinM {w0 w w' : World} {l : List RowT} {ms ms2 : List MapT} (h : OwnM w0 w l ms) (h2 : OwnM w w' [] ms2) : OwnM w0 w' l (ms2 ++ ms) := by
  refine ⟨h.own.grow h2.own.below, fun m hm => ?_⟩
  rcases List.mem_append.1 hm with h1 | h1
  · exact ⟨Nat.le_trans h.own.below.size (h2.maps m h1).1, (h2.maps m h1).2⟩
  · exact (h.grow h2.own.below).maps m h1
theorem Own.withM {w0 w w' : World} {l : List RowT} {ms : List MapT} (h : Own w0 w l) (h2 : OwnM w w' [] ms) : OwnM w0 w' l ms := by
  have := h.noM.joinM h2
  rwa [List.append_nil] at this
theorem below_alloc (w : World) (o : Obj) : Below w.heap.size w (w.alloc o) := (Below.refl _ w).alloc (Nat.le_refl _) o
theorem OwnM.made {w0 w : World} {l : List RowT} {ms : List MapT} (h : OwnM w0 w l ms) : OwnM w0 (w.alloc (.map #[] 0)) l ((w.heap.size, #[], 0) :: ms) := by
  have hg := h.grow (below_alloc w (.map #[] 0))
  refine ⟨hg.own, fun m hm => ?_⟩
  cases hm with
  | head => exact ⟨h.own.below.size, _root_.Go.heap_alloc_new _ _⟩
  | tail _ hm => exact hg.maps m hm
theorem OwnM.alloc {w0 w : World} {l : List RowT} {ms : List MapT} (h : OwnM w0 w l ms) (c : Array Value) (t : TypeId) : OwnM w0 (w.alloc (.cells c t)) ((w.heap.size, c, t) :: l) ms :=
  ⟨h.own.alloc c t, (h.grow (below_alloc w (.cells c t))).maps⟩
theorem OwnM.fill {w0 w : World} {l : List RowT} {g n n' : Nat} {es es' : Array MapEntry} (h : OwnM w0 w l [(g, es, n)]) : OwnM w0 { w with heap := w.heap.setIfInBounds g (.map es' n') } l [(g, es', n')] := by
  have hg := h.maps _ (.head _)
  have hlt := h.lt (.head _)
  have hb := h.own.below
  refine ⟨⟨⟨hb.os, hb.tape, hb.output, by simpa using hb.size, fun k hk => ?_⟩, fun x hx => ⟨(h.own.here x hx).1, ?_⟩, h.own.apart⟩, fun m hm => ?_⟩
  · show (w.heap.setIfInBounds g _)[k]? = _
    rw [Array.getElem?_setIfInBounds_ne (by have := hg.1; dsimp only at this; omega)]
    exact hb.block k hk
  · show (w.heap.setIfInBounds g _)[x.1]? = _
    have hx2 := (h.own.here x hx).2
    have hne : g ≠ x.1 := by
      intro he
      rw [← he] at hx2
      have := hg.2
      dsimp only at this
      rw [this] at hx2
      exact nomatch hx2
    rw [Array.getElem?_setIfInBounds_ne hne]
    exact hx2
  · obtain rfl := List.mem_singleton.1 hm
    refine ⟨hg.1, ?_⟩
    show (w.heap.setIfInBounds g _)[g]? = _
    rw [Array.getElem?_setIfInBounds_self_of_lt hlt]
/-! ### What the operations do -/
section
variable {P : Program} {t k e : TypeId} {q : IntKind} {a : Int} {w : World} {g n : Nat} {es : Array MapEntry}
theorem run_keyInt (b : Bool) (hk : P.underlying k = some (.int q)) : (Instr.checkKey b 10000 k (.int q a)).run P w = .ok () w := by
  show (Instr.checkKey b (9999 + 1) k (.int q a)).run P w = _
  unfold Instr.checkKey
  simp [run_underlying hk]
theorem run_findInt {r : Option (Nat × Value)} (hk : P.underlying k = some (.int q)) (hf : Instr.findNow (.int q) (.int q a) es.toList 0 = some r) : (Instr.findKey k (.int q a) es.toList).run P w = .ok r w := by
  simp [Instr.findKey, run_underlying hk, hf]
theorem run_fill {val : Value} (ht : P.underlying t = some (.map k e)) (hk : P.underlying k = some (.int q)) (hb : w.heap[g]? = some (.map es n)) (hf : Instr.findNow (.int q) (.int q a) es.toList 0 = some none) :
    (Instr.mapUpdate t (.map (some g)) (.int q a) val).run P w = .ok () { w with heap := w.heap.setIfInBounds g (.map (es.push ⟨.int q a, val, n⟩) (n + 1)) } := by
  simp [Instr.mapUpdate, run_underlying ht, MapKept.run_getObj_map hb, run_keyInt _ hk, run_findInt hk hf, MapKept.run_setObj_map _ hb, Result.andThen]
def lookV (c : Bool) (z : Value) : Option (Nat × Value) → Value
  | some (_, v) => if c then .tuple #[v, .bool true] else v
  | none => if c then .tuple #[z, .bool false] else z
theorem run_look {c : Bool} {z : Value} {r : Option (Nat × Value)} (ht : P.underlying t = some (.map k e)) (hk : P.underlying k = some (.int q)) (hb : w.heap[g]? = some (.map es n)) (hz : (zeroValue e).run P w = .ok z w) (hf : Instr.findNow (.int q) (.int q a) es.toList 0 = some r) :
    (Instr.lookup t (.map (some g)) (.int q a) c).run P w = .ok (lookV c z r) w := by
  rcases r with _ | ⟨i, v⟩ <;> simp [Instr.lookup, run_underlying ht, MapKept.run_getObj_map hb, run_keyInt _ hk, run_findInt hk hf, hz, lookV, Result.andThen]
end
/-! ### In a plain region -/
section
variable {P : Program} {ops : Array Oper} {rest : List Oper} {Q : Exit → Act → World → Prop} {tp : TypeId} {pos : String} {af : Array Edge} {gd : Option (Nat × Bool)} {ls : List Value} {ds : List Deferred} {w0 w : World} {l : List RowT} {ms : List MapT} {d : Tmp}
theorem wpList_makeMap (hM : OwnM w0 w l ms) {t : TypeId} (hgd : Region.wanted ⟨some d, .makeMap t none, tp, pos, af, gd⟩ (yielded ops ls.toArray) = true)
    (h : ∀ g w', OwnM w0 w' l ((g, #[], 0) :: ms) → wpList P ops Q rest ⟨(ls.set d (.map (some g))).toArray, ds⟩ w') : wpList P ops Q (⟨some d, .makeMap t none, tp, pos, af, gd⟩ :: rest) ⟨ls.toArray, ds⟩ w := by
  refine wpList_run_value (v := .map (some w.heap.size)) (w' := w.alloc (.map #[] 0)) hgd (by unfold execOp; simp [run_makeMap]) ?_
  rw [put_list]
  exact h _ _ hM.made
theorem wpList_fill {g n : Nat} {es : Array MapEntry} (hM : OwnM w0 w l [(g, es, n)]) {t k e : TypeId} {q : IntKind} (ht : P.underlying t = some (.map k e)) (hk : P.underlying k = some (.int q)) {x y z : Operand} {a : Int} {val : Value}
    (hgd : Region.wanted ⟨none, .insert t x y z, tp, pos, af, gd⟩ (yielded ops ls.toArray) = true) (hx : evalL ls x = some (.map (some g))) (hy : evalL ls y = some (.int q a)) (hv : evalL ls z = some val) (hf : Instr.findNow (.int q) (.int q a) es.toList 0 = some none)
    (h : ∀ w', OwnM w0 w' l [(g, es.push ⟨.int q a, val, n⟩, n + 1)] → wpList P ops Q rest ⟨ls.toArray, ds⟩ w') : wpList P ops Q (⟨none, .insert t x y z, tp, pos, af, gd⟩ :: rest) ⟨ls.toArray, ds⟩ w := by
  refine wpList_run_skip hgd (w' := _) (by unfold execOp; simp only [eval_of hx, eval_of hy, eval_of hv, Sem.run_bind, run_fill ht hk (hM.maps _ (.head _)).2 hf, Result.andThen_ok, Sem.run_pure]; rfl) ?_
  exact h _ hM.fill
theorem wpList_look {g m : Nat} {es : Array MapEntry} (hM : OwnM w0 w l ((g, es, m) :: ms)) {t k e : TypeId} {q : IntKind} (ht : P.underlying t = some (.map k e)) (hk : P.underlying k = some (.int q)) {z : Value} (hz : ∀ w, (zeroValue e).run P w = .ok z w) {x y : Operand} {a : Int} {c : Bool} {r : Option (Nat × Value)}
    (hgd : Region.wanted ⟨some d, .lookup t x y c, tp, pos, af, gd⟩ (yielded ops ls.toArray) = true) (hx : evalL ls x = some (.map (some g))) (hy : evalL ls y = some (.int q a)) (hf : Instr.findNow (.int q) (.int q a) es.toList 0 = some r)
    (h : wpList P ops Q rest ⟨(ls.set d (lookV c z r)).toArray, ds⟩ w) : wpList P ops Q (⟨some d, .lookup t x y c, tp, pos, af, gd⟩ :: rest) ⟨ls.toArray, ds⟩ w := by
  refine wpList_run_value (v := lookV c z r) (w' := w) hgd (by unfold execOp; simp only [eval_of hx, eval_of hy, Sem.run_bind, run_look ht hk (hM.maps _ (.head _)).2 (hz w) hf, Result.andThen_ok, Sem.run_pure]) ?_
  rw [put_list]
  exact h
end
/-! ### In a region that draws its order -/
section
variable {P : Program} {ops : Array Oper} {md : Region.Mode} {Q : Exit → Act → World → Prop} {C : World → Prop} {n : Nat} {M : Array Bool} {ls : List Value} {ds : List Deferred} {w0 w : World} {l lC : List RowT} {ms : List MapT} {tp : TypeId} {pos : String} {af : Array Edge} {gd : Option (Nat × Bool)} {d : Tmp} {i j : Nat}
theorem wpG_oneM {a : Act} (hM : OwnM w0 w l ms) (hr : Region.ready md ops M = [i])
    (h : ∀ w, OwnM w0 w l ms → wpOp P ops Q i (fun a' w' => C w' ∧ wpG P md ops C Q n (M.setIfInBounds i true) a' w') a w) : wpG P md ops C Q (n + 1) M a w := by
  refine wpG_next hr (by simp) ?_
  intro w1 hb _ k hk
  obtain rfl := List.mem_singleton.1 hk
  exact h w1 (hM.grow hb)
theorem wpG_twoM {a : Act} (hM : OwnM w0 w l ms) (hr : Region.ready md ops M = [i, j])
    (hi : ∀ w, OwnM w0 w l ms → wpOp P ops Q i (fun a' w' => C w' ∧ wpG P md ops C Q n (M.setIfInBounds i true) a' w') a w)
    (hj : ∀ w, OwnM w0 w l ms → wpOp P ops Q j (fun a' w' => C w' ∧ wpG P md ops C Q n (M.setIfInBounds j true) a' w') a w) : wpG P md ops C Q (n + 1) M a w := by
  refine wpG_next hr (by simp) ?_
  intro w1 hb _ k hk
  simp only [List.mem_cons, List.not_mem_nil, or_false] at hk
  rcases hk with rfl | rfl
  · exact hi w1 (hM.grow hb)
  · exact hj w1 (hM.grow hb)
theorem opBuildM (hM : OwnM w0 w l ms) {t e : TypeId} {m : Nat} {parts : Array (Nat × Operand)} {ps : List (Nat × Value)} {c : Array Value} {K : Act → World → Prop} (hi : ops.toList[i]? = some ⟨some d, .buildSlice t m parts, tp, pos, af, gd⟩) (hg : Region.wanted ⟨some d, .buildSlice t m parts, tp, pos, af, gd⟩ (yielded ops ls.toArray) = true)
    (hq : evalParts ls parts.toList = some ps) (hb : BuiltS P t m ps e c) (h : ∀ g w', OwnM w0 w' ((g, c, e) :: l) ms → K ⟨(ls.set d (.slice (some ⟨g, 0, none⟩) m m)).toArray, ds⟩ w') : wpOp P ops Q i K ⟨ls.toArray, ds⟩ w := by
  refine wpOp_kn hi hg (run_buildS rfl (evalParts_of hq) hb) ?_
  show K ((⟨ls.toArray, ds⟩ : Act).put (some d) _) _
  rw [put_list]
  exact h _ _ (hM.alloc c e)
theorem opLookM {g m : Nat} {es : Array MapEntry} (hm : w.heap[g]? = some (.map es m)) {t k e : TypeId} {q : IntKind} (ht : P.underlying t = some (.map k e)) (hk : P.underlying k = some (.int q)) {z : Value} (hz : (zeroValue e).run P w = .ok z w) {x y : Operand} {a : Int} {c : Bool} {r : Option (Nat × Value)} {K : Act → World → Prop}
    (hi : ops.toList[i]? = some ⟨some d, .lookup t x y c, tp, pos, af, gd⟩) (hg : Region.wanted ⟨some d, .lookup t x y c, tp, pos, af, gd⟩ (yielded ops ls.toArray) = true) (hx : evalL ls x = some (.map (some g))) (hy : evalL ls y = some (.int q a))
    (hf : Instr.findNow (.int q) (.int q a) es.toList 0 = some r) (h : K ⟨(ls.set d (lookV c z r)).toArray, ds⟩ w) : wpOp P ops Q i K ⟨ls.toArray, ds⟩ w := by
  refine wpOp_kn (v := lookV c z r) (w' := w) hi hg (by unfold execOp; simp only [eval_of hx, eval_of hy, Sem.run_bind, run_look ht hk hm hz hf, Result.andThen_ok, Sem.run_pure]) ?_
  show K ((⟨ls.toArray, ds⟩ : Act).put (some d) _) _
  rw [put_list]
  exact h
/-- A quiet operation. -/
theorem opQM (hM : OwnM w0 w l ms) {op : Op} {v : Value} {K : Act → World → Prop} (hi : ops.toList[i]? = some ⟨some d, op, tp, pos, af, gd⟩) (hg : Region.wanted ⟨some d, op, tp, pos, af, gd⟩ (yielded ops ls.toArray) = true)
    (hr : (execOp (⟨ls.toArray, ds⟩ : Act).eval ⟨some d, op, tp, pos, af, gd⟩).run P w = .ok (.value v) w) (h : K ⟨(ls.set d v).toArray, ds⟩ w) : wpOp P ops Q i K ⟨ls.toArray, ds⟩ w := by
  refine wpOp_kn hi hg hr ?_
  show K ((⟨ls.toArray, ds⟩ : Act).put (some d) v) w
  rw [put_list]
  exact h
end
end Go.Proofs.Ytimciiaajlfkoaa
