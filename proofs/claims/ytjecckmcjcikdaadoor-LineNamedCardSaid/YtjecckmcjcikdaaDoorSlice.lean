/- Slices of the call's own, whose cells are known from the first on: how they are built, cut, appended to and returned, beside the other blocks of the call's own ('Own'). No statement of the seat is proved here. -/
import Derived.Test.YtjecckmcjcikdaaDoorGuard
import Derived.Maps.AppendAt
import Derived.OwnWalk
namespace Go.Proofs.YtjecckmcjcikdaaDoor
open Go.ChangeShapes Go.WideShapes Go.ChangeAt Go.RowKit
set_option linter.unusedVariables false
set_option linter.unusedSimpArgs false

/-- A row of so many places, whose first cells are these. -/
structure SlIs (cur : Array Value) (n cap : Nat) (xs : List Value) : Prop where
  len : xs.length = n
  le : n ≤ cap
  most : cap ≤ maxLen
  size : cur.size = cap
  take : cur.toList.take n = xs
theorem SlIs.all {c : Array Value} {n : Nat} (hn : c.size = n) (h : n ≤ 1000000) : SlIs c n n c.toList :=
  ⟨by simpa using hn, Nat.le_refl _, Nat.le_trans h (by simp [maxLen]), hn, List.take_of_length_le (by simp [hn])⟩

theorem Own.join {w0 w w' : World} {l l2 : List RowT} (h : Own w0 w l) (h2 : Own w w' l2) : Own w0 w' (l2 ++ l) := by
  refine ⟨h.below.trans (h2.below.mono h.below.size), fun x hx => ?_, ?_⟩
  · rcases List.mem_append.1 hx with hx | hx
    · exact ⟨Nat.le_trans h.below.size (h2.here x hx).1, (h2.here x hx).2⟩
    · exact (h.grow h2.below).here x hx
  · rw [List.map_append, List.nodup_append]
    refine ⟨h2.apart, h.apart, fun a ha b hb he => ?_⟩
    obtain ⟨x, hx, rfl⟩ := List.mem_map.1 ha
    obtain ⟨y, hy, rfl⟩ := List.mem_map.1 hb
    have h1 := (h2.here x hx).1
    have h3 := h.lt hy
    have he' : x.1 = y.1 := he
    omega

/-- The list without one block. -/
inductive Del (x : RowT) : List RowT → List RowT → Prop where
  | head {l : List RowT} : Del x (x :: l) l
  | tail {y : RowT} {l l' : List RowT} : Del x l l' → Del x (y :: l) (y :: l')
theorem Del.mem {x : RowT} {l l' : List RowT} (h : Del x l l') : x ∈ l := by
  induction h with
  | head => exact .head _
  | tail _ ih => exact .tail _ ih
theorem Del.sub {x : RowT} {l l' : List RowT} (h : Del x l l') : l'.Sublist l := by
  induction h with
  | head => exact List.sublist_cons_self _ _
  | tail _ ih => exact List.Sublist.cons_cons _ ih
theorem Del.apart {x : RowT} {l l' : List RowT} (h : Del x l l') (hn : (l.map (·.1)).Nodup) : ∀ y ∈ l', y.1 ≠ x.1 := by
  induction h with
  | head =>
    intro y hy e
    exact (List.nodup_cons.1 hn).1 (List.mem_map.2 ⟨y, hy, e⟩)
  | @tail z l l' hd ih =>
    have hn' := List.nodup_cons.1 hn
    intro y hy
    cases hy with
    | head => exact fun e => hn'.1 (List.mem_map.2 ⟨x, hd.mem, e.symm⟩)
    | tail _ hy => exact ih hn'.2 y hy

section
variable {P : Program}
/-- The type of slices of elements of one cell. -/
structure SliceTy (P : Program) (t e : TypeId) : Prop where
  ty : P.underlying t = some (.slice e)
  info : ∃ i z, P.info? e = some i ∧ i.zero = some z ∧ i.size = 1 ∧ i.bytes ≤ 8 ∧ z.cells.size = 1
theorem SliceTy.of {t e : TypeId} {z : Value} {b : Nat} (h : P.underlying t = some (.slice e)) (hi : (P.info? e).map (fun i => (i.zero, i.size, i.bytes)) = some (some z, 1, b)) (hb : b ≤ 8) (hz : z.cells.size = 1) : SliceTy P t e := by
  obtain ⟨i, h1, h2, h3, h4⟩ := info_parts hi
  exact ⟨h, i, z, h1, h2, h3, by omega, hz⟩
structure BuiltS (P : Program) (t : TypeId) (n : Nat) (ps : List (Nat × Value)) (e : TypeId) (c : Array Value) : Prop where
  of : ∀ w : World, (Instr.buildSlice t n ps.toArray).run P w = .ok (.slice (some ⟨w.heap.size, 0, none⟩) n n) (w.alloc (.cells c e))
theorem run_buildS {ρ : Operand → Value} {o : Oper} {w : World} {t e : TypeId} {n : Nat} {parts : Array (Nat × Operand)} {ps : List (Nat × Value)} {c : Array Value} (ho : o.op = .buildSlice t n parts)
    (hp : (parts.toList.map fun (i, x) => (i, ρ x)) = ps) (hb : BuiltS P t n ps e c) : (execOp ρ o).run P w = .ok (.value (.slice (some ⟨w.heap.size, 0, none⟩) n n)) (w.alloc (.cells c e)) := by
  have hp' : (parts.map fun (i, x) => (i, ρ x)) = ps.toArray := by
    apply Array.toList_inj.1
    rw [Array.toList_map]; exact hp
  unfold execOp
  simp only [ho, hp', Sem.run_bind, hb.of w, Result.andThen_ok, Sem.run_pure]

/-- The first places of a slice. -/
theorem run_firstS {ρ : Operand → Value} {o : Oper} {w : World} {t e : TypeId} {x y : Operand} {g n cap k : Nat} {q : IntKind} {i : Int} (ht : SliceTy P t e) (ho : o.op = .slice t x none (some y) none) (hx : ρ x = .slice (some ⟨g, 0, none⟩) n cap)
    (hy : ρ y = .int q i) (hi : i = k) (hk : k ≤ cap) : (execOp ρ o).run P w = .ok (.value (.slice (some ⟨g, 0, none⟩) k cap)) w := by
  subst hi
  obtain ⟨i, z, hinf, _⟩ := ht.info
  unfold execOp
  simp only [ho]
  have e1 : (Instr.slice t (.slice (some ⟨g, 0, none⟩) n cap) none (some (.int q (k : Int))) none).run P w = .ok (.slice (some ⟨g, 0, none⟩) k cap) w := by
    have hk' : (0 : Int) ≤ (k : Int) ∧ (k : Int) ≤ (cap : Int) := ⟨by omega, by omega⟩
    have ha : (⟨g, 0, none⟩ : Addr).add 0 = ⟨g, 0, none⟩ := by simp [Addr.add]
    simp [Instr.slice, run_underlying ht.ty, Instr.sliceBounds, Instr.sliceBound, asIntOf, hk', sizeOf, typeInfo, hinf, ha]
    intro hlt; omega
  simp [Instr.sliceAt, hx, hy, run_underlying ht.ty, e1]

/-- An append: where the row lies then is not told; it is the call's own. -/
theorem run_appS {ρ : Operand → Value} {o : Oper} {w0 w : World} {l l' : List RowT} {t e : TypeId} {s x : Operand} {g g' n m cap cap' : Nat} {cur cs : Array Value} {xs ys : List Value} {e' : TypeId} (ht : SliceTy P t e) (hR : Own w0 w l)
    (ho : o.op = .call { callee := .builtin .append, args := #[s, x], argTypes := #[t, t] }) (hs : ρ s = .slice (some ⟨g, 0, none⟩) n cap) (hx : ρ x = .slice (some ⟨g', 0, none⟩) m cap')
    (hd : Del (g, cur, e) l l') (hm : (g', cs, e') ∈ l) (hS : SlIs cur n cap xs) (hT : SlIs cs m cap' ys) (h1 : ys.all (·.oneCell') = true) (hsm : n + m ≤ 1000000) :
    ∃ h cur' cap2 w', (execOp ρ o).run P w = .ok (.value (.slice (some ⟨h, 0, none⟩) (n + m) cap2)) w' ∧ Own w0 w' ((h, cur', e) :: l') ∧ SlIs cur' (n + m) cap2 (xs ++ ys) := by
  obtain ⟨i, z, hinf, hz, hsz, hby, hzs⟩ := ht.info
  have hget := hR.get hd.mem
  have hbase := (hR.here _ hd.mem).1
  have hown : w.ownsRow w0.heap.size e 1 (.slice (some ⟨g, 0, none⟩) n cap) n xs :=
    ⟨by simpa using hS.len, .inr ⟨g, cap, cur, rfl, hbase, hget, hS.le, hS.most, by simpa using hS.size, by simpa using hS.take⟩⟩
  have hcell : ∀ j u, ys[j]? = some u → w.cell? ((⟨g', 0, none⟩ : Addr).add j) = some u := by
    intro j u hu
    rw [addr_mid, Nat.zero_add, cell_of_row _ _ _ _ _ _ (hR.get hm)]
    rw [← hT.take] at hu
    rw [← Array.getElem?_toList]
    rw [List.getElem?_take] at hu
    split at hu
    · exact hu
    · exact nomatch hu
  obtain ⟨v', w', hrun, hown', hgr, hnil, hat'⟩ := run_append_own_at (P := P) w w0.heap.size t o.type e i z 1 i.bytes ht.ty hinf hz hsz rfl hzs (by decide) _ n xs hown ⟨g', 0, none⟩ m cap' ys (by simpa using hT.len) hcell
    (by simpa using h1) (by simp only [maxLen]; omega) (Nat.le_trans (Nat.mul_le_mul hsm hby) (by decide)) hR.below.size
  rcases hown'.2 with ⟨rfl, _⟩ | ⟨h, cap2, cur', rfl, hb2, hg2, hle, hmost, hsize, htake⟩
  · exact absurd (hnil.1 rfl).1 (by simp)
  refine ⟨h, cur', cap2, w', ?_, ?_, ⟨by have := hown'.1; omega, hle, hmost, by simpa using hsize, by simpa using htake⟩⟩
  · unfold execOp
    simp only [ho, resolve, invoke, builtin, Sem.run_bind, Sem.run_pure, Result.andThen_ok, List.map_toArray, List.map_cons, List.map_nil, hs, hx, hrun]
  · have hap := hd.apart hR.apart
    have hne : ∀ y ∈ l', y.1 ≠ h := by
      intro y hy he
      rcases hat' with e1 | e1
      · have : h = g := by simpa [Value.ownBlock] using e1
        exact hap y hy (by rw [he, this])
      · have : h = w.heap.size := by simpa [Value.ownBlock] using e1
        have := hR.lt (hd.sub.subset hy)
        omega
    refine ⟨⟨hgr.os.trans hR.below.os, hgr.tape.trans hR.below.tape, hgr.output.trans hR.below.output, Nat.le_trans hR.below.size hgr.size, fun k hk => ?_⟩, fun y hy => ?_, ?_⟩
    · rw [hgr.block k (by have := hR.below.size; omega) (by simp [Value.ownBlock]; omega)]
      exact hR.below.block k hk
    · cases hy with
      | head => exact ⟨hb2, hg2⟩
      | tail _ hy =>
        have hy' := hd.sub.subset hy
        exact ⟨(hR.here y hy').1, by rw [hgr.block y.1 (hR.lt hy') (by simp [Value.ownBlock]; exact hap y hy)]; exact (hR.here y hy').2⟩
    · rw [List.map_cons, List.nodup_cons]
      refine ⟨fun hm => ?_, (hd.sub.map _).nodup hR.apart⟩
      obtain ⟨y, hy, he⟩ := List.mem_map.1 hm
      exact hne y hy he
end

section
variable {P : Program} {ops : Array Oper} {rest : List Oper} {tp : TypeId} {pos : String} {af : Array Edge} {gd : Option (Nat × Bool)} {ls ls' : List Value} {ds : List Deferred} {w0 w : World} {l l' : List RowT} {Q : Exit → Act → World → Prop} {d : Tmp} {t e e' : TypeId}
theorem wpList_buildS (hR : Own w0 w l) {n : Nat} {parts : Array (Nat × Operand)} {ps : List (Nat × Value)} {c : Array Value} (hgd : Region.wanted ⟨some d, .buildSlice t n parts, tp, pos, af, gd⟩ (yielded ops ls.toArray) = true)
    (hq : evalParts ls parts.toList = some ps) (hb : BuiltS P t n ps e c)
    (h : ∀ g w', Own w0 w' ((g, c, e) :: l) → wpList P ops Q rest ⟨(ls.set d (.slice (some ⟨g, 0, none⟩) n n)).toArray, ds⟩ w') : wpList P ops Q (⟨some d, .buildSlice t n parts, tp, pos, af, gd⟩ :: rest) ⟨ls.toArray, ds⟩ w :=
  wpList_run_value hgd (run_buildS rfl (evalParts_of hq) hb) (by rw [put_list]; exact h _ _ (hR.alloc c e))
theorem wpList_firstS (ht : SliceTy P t e) {x y : Operand} {g n cap k : Nat} {q : IntKind} {i : Int} (hgd : Region.wanted ⟨some d, .slice t x none (some y) none, tp, pos, af, gd⟩ (yielded ops ls.toArray) = true)
    (hx : evalL ls x = some (.slice (some ⟨g, 0, none⟩) n cap)) (hy : evalL ls y = some (.int q i)) (hi : i = k) (hk : k ≤ cap)
    (hls : ls.set d (.slice (some ⟨g, 0, none⟩) k cap) = ls') (h : wpList P ops Q rest ⟨ls'.toArray, ds⟩ w) : wpList P ops Q (⟨some d, .slice t x none (some y) none, tp, pos, af, gd⟩ :: rest) ⟨ls.toArray, ds⟩ w :=
  wpList_run_value hgd (run_firstS ht rfl (eval_of hx) (eval_of hy) hi hk) (by rw [put_list, hls]; exact h)
theorem wpList_appS (hR : Own w0 w l) (ht : SliceTy P t e) {s x : Operand} {g g' n m cap cap' : Nat} {cur cs : Array Value} {xs ys : List Value}
    (hgd : Region.wanted ⟨some d, .call { callee := .builtin .append, args := #[s, x], argTypes := #[t, t] }, tp, pos, af, gd⟩ (yielded ops ls.toArray) = true)
    (hs : evalL ls s = some (.slice (some ⟨g, 0, none⟩) n cap)) (hx : evalL ls x = some (.slice (some ⟨g', 0, none⟩) m cap'))
    (hd : Del (g, cur, e) l l') (hm : (g', cs, e') ∈ l) (hS : SlIs cur n cap xs) (hT : SlIs cs m cap' ys) (h1 : ys.all (·.oneCell') = true) (hsm : n + m ≤ 1000000)
    (h : ∀ g2 cur' cap2 w', Own w0 w' ((g2, cur', e) :: l') → SlIs cur' (n + m) cap2 (xs ++ ys) → wpList P ops Q rest ⟨(ls.set d (.slice (some ⟨g2, 0, none⟩) (n + m) cap2)).toArray, ds⟩ w') :
    wpList P ops Q (⟨some d, .call { callee := .builtin .append, args := #[s, x], argTypes := #[t, t] }, tp, pos, af, gd⟩ :: rest) ⟨ls.toArray, ds⟩ w := by
  obtain ⟨g2, cur', cap2, w', hr, hO, hS'⟩ := run_appS (o := ⟨some d, .call { callee := .builtin .append, args := #[s, x], argTypes := #[t, t] }, tp, pos, af, gd⟩) ht hR rfl (eval_of hs) (eval_of hx) hd hm hS hT h1 hsm
  exact wpList_run_value hgd hr (by rw [put_list]; exact h g2 cur' cap2 w' hO hS')
end

/-! ### In a region that draws its order: what is left when the quiet ones are done -/
section
variable {P : Program} {ops : Array Oper} {md : Region.Mode} {Q : Exit → Act → World → Prop} {n : Nat} {L : Array Bool} {ls ls' : List Value} {ds : List Deferred} {w0 w : World} {l l' lC : List RowT} {tp : TypeId} {pos : String} {af : Array Edge} {d : Tmp} {i : Nat} {t e e' : TypeId}
theorem opCallS (hR : Own w0 w l) {f : FuncId} (hcf : ∀ (args : Array Value) w, (callFunc f args).run P w = .ok (.enter f args) w) {as : Array Operand} {ats : Array TypeId} {args : List Value}
    (hi : ops.toList[i]? = some ⟨some d, .call ⟨.value (.func f), as, ats⟩, tp, pos, af, none⟩) (ha : evalAll ls as.toList = some args) (R : World → Ending → World → Prop) (hc : ∀ w1, Calls P f args.toArray w1 (R w1))
    (h : ∀ en w', R w en w' → ∃ v, en = .returned v ∧ Own w0 w' lC ∧ wpG P md ops (fun w => Own w0 w lC) (NoPanic Q) n (L.setIfInBounds i true) ⟨(ls.set d v).toArray, ds⟩ w') :
    wpOp P ops (NoPanic Q) i (fun a' w'' => Own w0 w'' lC ∧ wpG P md ops (fun w => Own w0 w lC) (NoPanic Q) n (L.setIfInBounds i true) a' w'') ⟨ls.toArray, ds⟩ w := by
  have hi' : ops[i]? = some ⟨some d, .call ⟨.value (.func f), as, ats⟩, tp, pos, af, none⟩ := by rw [← Array.getElem?_toList]; exact hi
  have ha' : as.map (⟨ls.toArray, ds⟩ : Act).eval = args.toArray := by
    apply Array.toList_inj.1
    rw [Array.toList_map, evalAll_of ha]
  have hev : (⟨ls.toArray, ds⟩ : Act).eval (.func f) = .func (.func f) #[] #[] := rfl
  have hrun : (execOp (⟨ls.toArray, ds⟩ : Act).eval ⟨some d, .call ⟨.value (.func f), as, ats⟩, tp, pos, af, none⟩).run P w = .ok (.enter f args.toArray) w := by
    unfold execOp
    simp only [resolve, hev, Deferred.ofValue, ha', Sem.run_bind, Sem.run_pure, Result.andThen_ok, invoke, Array.empty_append, Array.append_empty, hcf]
  unfold wpOp
  simp only [hi']
  rw [if_pos (by simp [Region.wanted])]
  refine .inl ?_
  unfold Oper.wp
  rw [hrun]
  refine Calls.mono (hc w) fun en w' hk => ?_
  obtain ⟨v, rfl, hO, hG⟩ := h en w' hk
  refine ⟨hO, ?_⟩
  rw [put_list]
  exact hG
theorem wpG_callS (hR : Own w0 w l) (hr : Region.ready md ops L = [i]) {f : FuncId} (hcf : ∀ (args : Array Value) w, (callFunc f args).run P w = .ok (.enter f args) w) {as : Array Operand} {ats : Array TypeId} {args : List Value}
    (hi : ops.toList[i]? = some ⟨some d, .call ⟨.value (.func f), as, ats⟩, tp, pos, af, none⟩) (ha : evalAll ls as.toList = some args) (R : World → Ending → World → Prop) (hc : ∀ w1, Calls P f args.toArray w1 (R w1))
    (h : ∀ w1 en w', Own w0 w1 l → R w1 en w' → ∃ v, en = .returned v ∧ Own w0 w' lC ∧ wpG P md ops (fun w => Own w0 w lC) (NoPanic Q) n (L.setIfInBounds i true) ⟨(ls.set d v).toArray, ds⟩ w') :
    wpG P md ops (fun w => Own w0 w lC) (NoPanic Q) (n + 1) L ⟨ls.toArray, ds⟩ w := by
  refine wpG_next hr (by simp) ?_
  intro w1 hb _ k hk
  obtain rfl := List.mem_singleton.1 hk
  exact opCallS (hR.grow hb) hcf hi ha R hc fun en w' hk => h w1 en w' (hR.grow hb) hk
theorem wpG_firstS (hR : Own w0 w l) (ht : SliceTy P t e) (hr : Region.ready md ops L = [i]) {x y : Operand} {g m cap k : Nat} {q : IntKind} {j : Int}
    (hi : ops.toList[i]? = some ⟨some d, .slice t x none (some y) none, tp, pos, af, none⟩) (hx : evalL ls x = some (.slice (some ⟨g, 0, none⟩) m cap)) (hy : evalL ls y = some (.int q j)) (hj : j = k) (hk : k ≤ cap)
    (hls : ls.set d (.slice (some ⟨g, 0, none⟩) k cap) = ls') (h : ∀ w', Own w0 w' l → wpG P md ops (fun w => Own w0 w lC) Q n (L.setIfInBounds i true) ⟨ls'.toArray, ds⟩ w') : wpG P md ops (fun w => Own w0 w lC) Q (n + 1) L ⟨ls.toArray, ds⟩ w := by
  refine wpG_next hr (by simp) ?_
  intro w1 hb hC k' hk'
  obtain rfl := List.mem_singleton.1 hk'
  refine wpOp_value hi rfl (run_firstS ht rfl (eval_of hx) (eval_of hy) hj hk) ?_
  rw [put_list, hls]
  exact ⟨hC, h w1 (hR.grow hb)⟩
theorem opAppS (hR : Own w0 w l) (ht : SliceTy P t e) {s x : Operand} {g g' m k cap cap' : Nat} {cur cs : Array Value} {xs ys : List Value}
    (hi : ops.toList[i]? = some ⟨some d, .call { callee := .builtin .append, args := #[s, x], argTypes := #[t, t] }, tp, pos, af, none⟩)
    (hs : evalL ls s = some (.slice (some ⟨g, 0, none⟩) m cap)) (hx : evalL ls x = some (.slice (some ⟨g', 0, none⟩) k cap'))
    (hd : Del (g, cur, e) l l') (hm : (g', cs, e') ∈ l) (hS : SlIs cur m cap xs) (hT : SlIs cs k cap' ys) (h1 : ys.all (·.oneCell') = true) (hsm : m + k ≤ 1000000) (hl : lC.Sublist l')
    (h : ∀ g2 cur' cap2 w', Own w0 w' ((g2, cur', e) :: l') → SlIs cur' (m + k) cap2 (xs ++ ys) → wpG P md ops (fun w => Own w0 w lC) Q n (L.setIfInBounds i true) ⟨(ls.set d (.slice (some ⟨g2, 0, none⟩) (m + k) cap2)).toArray, ds⟩ w') :
    wpOp P ops Q i (fun a' w'' => Own w0 w'' lC ∧ wpG P md ops (fun w => Own w0 w lC) Q n (L.setIfInBounds i true) a' w'') ⟨ls.toArray, ds⟩ w := by
  obtain ⟨g2, cur', cap2, w', hr', hO, hS'⟩ := run_appS (o := ⟨some d, .call { callee := .builtin .append, args := #[s, x], argTypes := #[t, t] }, tp, pos, af, none⟩) ht hR rfl (eval_of hs) (eval_of hx) hd hm hS hT h1 hsm
  refine wpOp_value hi rfl hr' ?_
  rw [put_list]
  exact ⟨(hO.tail).drop hl, h g2 cur' cap2 w' hO hS'⟩
theorem wpG_appS (hR : Own w0 w l) (ht : SliceTy P t e) (hr : Region.ready md ops L = [i]) {s x : Operand} {g g' m k cap cap' : Nat} {cur cs : Array Value} {xs ys : List Value}
    (hi : ops.toList[i]? = some ⟨some d, .call { callee := .builtin .append, args := #[s, x], argTypes := #[t, t] }, tp, pos, af, none⟩)
    (hs : evalL ls s = some (.slice (some ⟨g, 0, none⟩) m cap)) (hx : evalL ls x = some (.slice (some ⟨g', 0, none⟩) k cap'))
    (hd : Del (g, cur, e) l l') (hm : (g', cs, e') ∈ l) (hS : SlIs cur m cap xs) (hT : SlIs cs k cap' ys) (h1 : ys.all (·.oneCell') = true) (hsm : m + k ≤ 1000000) (hl : lC.Sublist l')
    (h : ∀ g2 cur' cap2 w', Own w0 w' ((g2, cur', e) :: l') → SlIs cur' (m + k) cap2 (xs ++ ys) → wpG P md ops (fun w => Own w0 w lC) Q n (L.setIfInBounds i true) ⟨(ls.set d (.slice (some ⟨g2, 0, none⟩) (m + k) cap2)).toArray, ds⟩ w') :
    wpG P md ops (fun w => Own w0 w lC) Q (n + 1) L ⟨ls.toArray, ds⟩ w := by
  refine wpG_next hr (by simp) ?_
  intro w1 hb _ k' hk'
  obtain rfl := List.mem_singleton.1 hk'
  exact opAppS (hR.grow hb) ht hi hs hx hd hm hS hT h1 hsm hl h
/-- One of two comes next. -/
theorem wpG_two (hR : Own w0 w l) {j : Nat} {a : Act} (hr : Region.ready md ops L = [i, j])
    (hi : ∀ w', Own w0 w' l → wpOp P ops Q i (fun a' w'' => Own w0 w'' lC ∧ wpG P md ops (fun w => Own w0 w lC) Q n (L.setIfInBounds i true) a' w'') a w')
    (hj : ∀ w', Own w0 w' l → wpOp P ops Q j (fun a' w'' => Own w0 w'' lC ∧ wpG P md ops (fun w => Own w0 w lC) Q n (L.setIfInBounds j true) a' w'') a w') :
    wpG P md ops (fun w => Own w0 w lC) Q (n + 1) L a w := by
  refine wpG_next hr (by simp) ?_
  intro w1 hb _ k hk
  simp only [List.mem_cons, List.not_mem_nil, or_false] at hk
  rcases hk with rfl | rfl
  · exact hi w1 (hR.grow hb)
  · exact hj w1 (hR.grow hb)
end

/-- A slice that a call returns: its row is new. -/
def RetSl (w : World) (e : TypeId) (xs : List Value) (en : Ending) (w' : World) : Prop :=
  ∃ g cur cap, en = .returned (.slice (some ⟨g, 0, none⟩) xs.length cap) ∧ Own w w' [(g, cur, e)] ∧ SlIs cur xs.length cap xs
end Go.Proofs.YtjecckmcjcikdaaDoor
