



/- Slices that are read, wherever they lie ('Rd': of elements of any size), and an append of one, as long as memory bears ('SliceB': how many bytes an element has). No statement of the seat is proved here. -/
import Derived.Test.YtjecckmcjcikdaaDoorMany
namespace Go.Proofs.YtjecckmcjcikdaaDoor
open Go.ChangeShapes Go.WideShapes Go.ChangeAt Go.RowKit
set_option linter.unusedVariables false
set_option linter.unusedSimpArgs false

theorem Les.skip {s l l' : List RowT} (A : List RowT) (h : Les s l l') : Les s (A ++ l) (A ++ l') := by
  induction A with
  | nil => exact h
  | cons x A ih => exact .tail ih
theorem Les.one {x : RowT} {l : List RowT} : Les [x] (x :: l) l := Les.head (s := [x])
/-- A slice whose elements' cells are known. -/
structure Rd (w : World) (k : Nat) (v : Value) (m : Nat) (ys : List Value) : Prop where
  len : ys.length = m * k
  ones : ys.all (·.oneCell') = true
  way : (v = .slice none 0 0 ∧ m = 0 ∧ ys = []) ∨ ∃ a cap, v = .slice (some a) m cap ∧ m ≤ cap ∧ ∀ j u, ys[j]? = some u → w.cell? (a.add j) = some u
theorem Rd.keep {w w' : World} {k m : Nat} {v : Value} {ys : List Value} (h : Rd w k v m ys) (hb : Below w.heap.size w w') : Rd w' k v m ys := by
  refine ⟨h.len, h.ones, ?_⟩
  rcases h.way with h1 | ⟨a, cap, h1, h2, h3⟩
  · exact .inl h1
  · exact .inr ⟨a, cap, h1, h2, fun j u hu => (hb.cell (World.block_lt_of_cell? w _ (h3 j u hu))).trans (h3 j u hu)⟩
theorem Rd.own {w0 w : World} {l : List RowT} {k m : Nat} {v : Value} {ys : List Value} (h : Rd w0 k v m ys) (hR : Own w0 w l) : Rd w k v m ys := h.keep hR.below
/-- A slice of the call's own. -/
theorem Sl.rd {w0 w : World} {l s : List RowT} {e : TypeId} {k m : Nat} {v : Value} {ys : List Value} (h : Sl e k s v m ys) (hR : Own w0 w l) (hs : ∀ r ∈ s, r ∈ l) (h1 : ys.all (·.oneCell') = true) : Rd w k v m ys := by
  refine ⟨h.len, h1, ?_⟩
  rcases h.way with ⟨_, h2, h3⟩ | ⟨g, cap, cur, h2, h3, h4, h5, h6, h7⟩
  · subst h3
    exact .inl ⟨h2, rfl, List.eq_nil_of_length_eq_zero (by rw [h.len, Nat.zero_mul])⟩
  · subst h2
    refine .inr ⟨_, cap, h3, h4, fun j u hu => ?_⟩
    rw [addr_mid, cell_of_row _ _ _ _ _ _ (hR.get (hs _ (.head _))), Nat.zero_add, ← Array.getElem?_toList]
    rw [← h7, List.getElem?_take] at hu
    split at hu
    · exact hu
    · exact nomatch hu
/-- Its first elements. -/
def firstV (v : Value) (h : Nat) : Value := match v with
  | .slice a n cap => .slice a h cap
  | v => v
theorem Rd.first {w : World} {k m : Nat} {v : Value} {ys : List Value} (h : Rd w k v m ys) (j : Nat) (hj : j ≤ m) : Rd w k (firstV v j) j (ys.take (j * k)) := by
  have hle : j * k ≤ m * k := Nat.mul_le_mul_right k hj
  refine ⟨by rw [List.length_take, h.len]; omega, List.all_eq_true.2 fun x hx => List.all_eq_true.1 h.ones x (List.mem_of_mem_take hx), ?_⟩
  rcases h.way with ⟨h1, h2, h3⟩ | ⟨a, cap, h1, h2, h3⟩
  · subst h1; subst h2; subst h3
    have : j = 0 := by omega
    subst this
    exact .inl ⟨rfl, rfl, by simp⟩
  · subst h1
    refine .inr ⟨a, cap, rfl, by omega, fun i u hu => h3 i u ?_⟩
    rw [List.getElem?_take] at hu
    split at hu
    · exact hu
    · exact nomatch hu
section
variable {P : Program}
structure SliceB (P : Program) (t e : TypeId) (k b : Nat) : Prop where
  ty : P.underlying t = some (.slice e)
  info : ∃ i z, P.info? e = some i ∧ i.zero = some z ∧ i.size = k ∧ i.bytes = b ∧ z.cells.size = k
  pos : 0 < k
theorem SliceB.of {t e : TypeId} {z : Value} {k b : Nat} (h : P.underlying t = some (.slice e)) (hi : (P.info? e).map (fun i => (i.zero, i.size, i.bytes)) = some (some z, k, b)) (hz : z.cells.size = k) (hk : 0 < k) : SliceB P t e k b := by
  obtain ⟨i, h1, h2, h3, h4⟩ := info_parts hi
  exact ⟨h, ⟨i, z, h1, h2, h3, h4, hz⟩, hk⟩
theorem run_append_none {w : World} {t ty e : TypeId} {k b : Nat} (ht : SliceB P t e k b) {a : Option Addr} {n cap : Nat} (hc : n ≤ cap) : (Builtin.append_ #[t, t] ty #[.slice a n cap, .slice none 0 0]).run P w = .ok (.slice a n cap) w := by
  obtain ⟨hu, ⟨i, z, hinf, _⟩, _⟩ := ht
  cases a <;> simp [Builtin.append_, run_underlying hu, sizeOf, typeInfo, hinf, Builtin.lenOf, Builtin.firstCells, hc, storeCells]
/-- An append of what lies somewhere to a slice of the call's own; no other block is turned. -/
theorem run_appGK {ρ : Operand → Value} {o : Oper} {w0 w : World} {L L' s : List RowT} {t e : TypeId} {k b : Nat} {x y : Operand} {v y' : Value} {n m : Nat} {xs ys : List Value} (ht : SliceB P t e k b) (hR : Own w0 w L)
    (ho : o.op = .call { callee := .builtin .append, args := #[x, y], argTypes := #[t, t] }) (hx : ρ x = v) (hy : ρ y = y')
    (hd : Les s L L') (hS : Sl e k s v n xs) (hP : Rd w k y' m ys) (h63 : n + m ≤ maxLen) (hsm : (n + m) * b ≤ 140737488355328) :
    ∃ s' v' w', (execOp ρ o).run P w = .ok (.value v') w' ∧ Own w0 w' (s' ++ L') ∧ Sl e k s' v' (n + m) (xs ++ ys) ∧ ∃ q, w.grownBy w' q ∧ ∀ r, q = some r → r ∈ s.map (·.1) := by
  have hO := hR.les hd
  rcases hP.way with ⟨rfl, rfl, rfl⟩ | ⟨a, cap, rfl, hmc, hcell⟩
  · have hv : ∃ a n0 cap0, v = .slice a n0 cap0 ∧ n0 ≤ cap0 := by
      rcases hS.way with ⟨_, h2, h3⟩ | ⟨g0, cap0, cur0, h1, h2, h3, h4, h5, h6⟩
      · exact ⟨none, 0, 0, h2, Nat.le_refl _⟩
      · exact ⟨_, n, cap0, h2, h3⟩
    obtain ⟨a, n0, cap0, hv, hle⟩ := hv
    refine ⟨s, v, w, ?_, hO, hS.cast (List.append_nil _).symm, none, ⟨rfl, rfl, rfl, Nat.le_refl _, fun _ _ _ => rfl⟩, fun r hr => nomatch hr⟩
    have hrun := run_append_none (P := P) (w := w) (ty := o.type) ht (a := a) hle
    rw [← hv] at hrun
    unfold execOp
    simp only [ho, resolve, invoke, builtin, Sem.run_bind, Sem.run_pure, Result.andThen_ok, List.map_toArray, List.map_cons, List.map_nil, hx, hy, hrun]
  obtain ⟨i, z, hinf, hz, hsz, hby, hzs⟩ := ht.info
  have hown : w.ownsRow w0.heap.size e k v n xs := by
    refine ⟨hS.len, ?_⟩
    rcases hS.way with ⟨_, h2, h3⟩ | ⟨g0, cap0, cur0, h1, h2, h3, h4, h5, h6⟩
    · exact .inl ⟨h2, h3⟩
    · subst h1
      exact .inr ⟨g0, cap0, cur0, h2, (hO.here _ (.head _)).1, hO.get (.head _), h3, h4, h5, h6⟩
  obtain ⟨v', w', hrun, hown', hgr, hnil, hat'⟩ := run_append_own_at (P := P) w w0.heap.size t o.type e i z k b ht.ty hinf hz hsz hby hzs ht.pos v n xs hown a m cap ys hP.len hcell
    (by have := hP.ones; simpa using this) h63 hsm hR.below.size
  have hrun' : (execOp ρ o).run P w = .ok (.value v') w' := by
    unfold execOp
    simp only [ho, resolve, invoke, builtin, Sem.run_bind, Sem.run_pure, Result.andThen_ok, List.map_toArray, List.map_cons, List.map_nil, hx, hy, hrun]
  have hb : ∀ q, v.ownBlock = some q → w0.heap.size ≤ q ∧ ∀ y ∈ L', y.1 ≠ q := by
    intro q hq
    rcases hS.way with ⟨_, h2, _⟩ | ⟨g0, cap0, cur0, h1, h2, _⟩
    · rw [h2] at hq; exact nomatch hq
    · subst h1
      rw [h2] at hq
      have : g0 = q := by simpa [Value.ownBlock] using hq
      subst this
      refine ⟨(hO.here _ (.head _)).1, fun y hy e => ?_⟩
      have hn := hO.apart
      simp only [List.cons_append, List.nil_append, List.map_cons, List.nodup_cons] at hn
      exact hn.1 (List.mem_map.2 ⟨y, hy, e⟩)
  have hO' : Own w0 w' L' := hO.right.grown hgr hb
  have hq : ∀ r, v.ownBlock = some r → r ∈ s.map (·.1) := by
    intro q hq
    rcases hS.way with ⟨_, h2, _⟩ | ⟨g0, cap0, cur0, h1, h2, _⟩
    · rw [h2] at hq; exact nomatch hq
    · subst h1
      rw [h2] at hq
      have : g0 = q := by simpa [Value.ownBlock] using hq
      subst this
      simp
  rcases hown'.2 with ⟨h2, h3⟩ | ⟨h, cap2, cur', h2, hb2, hg2, hle, hmost, hsize, htake⟩
  · exact ⟨[], v', w', hrun', hO', ⟨hown'.1, .inl ⟨rfl, h2, h3⟩⟩, _, hgr, hq⟩
  · refine ⟨[(h, cur', e)], v', w', hrun', hO'.cons hb2 hg2 fun y hy he => ?_, ⟨hown'.1, .inr ⟨h, cap2, cur', rfl, h2, hle, hmost, hsize, htake⟩⟩, _, hgr, hq⟩
    subst h2
    rcases hat' with e1 | e1
    · exact (hb h e1.symm).2 y hy he
    · have : h = w.heap.size := by simpa [Value.ownBlock] using e1
      have := hO.lt (List.mem_append_right _ hy)
      omega
theorem run_appG {ρ : Operand → Value} {o : Oper} {w0 w : World} {L L' s : List RowT} {t e : TypeId} {k b : Nat} {x y : Operand} {v y' : Value} {n m : Nat} {xs ys : List Value} (ht : SliceB P t e k b) (hR : Own w0 w L)
    (ho : o.op = .call { callee := .builtin .append, args := #[x, y], argTypes := #[t, t] }) (hx : ρ x = v) (hy : ρ y = y')
    (hd : Les s L L') (hS : Sl e k s v n xs) (hP : Rd w k y' m ys) (h63 : n + m ≤ maxLen) (hsm : (n + m) * b ≤ 140737488355328) :
    ∃ s' v' w', (execOp ρ o).run P w = .ok (.value v') w' ∧ Own w0 w' (s' ++ L') ∧ Sl e k s' v' (n + m) (xs ++ ys) := by
  obtain ⟨s', v', w', h1, h2, h3, _⟩ := run_appGK ht hR ho hx hy hd hS hP h63 hsm
  exact ⟨s', v', w', h1, h2, h3⟩
end
section
variable {P : Program} {ops : Array Oper} {rest : List Oper} {Q : Exit → Act → World → Prop} {ls : List Value} {ds : List Deferred} {w0 w : World} {l L' s : List RowT} {tp : TypeId} {pos : String} {af : Array Edge} {gd : Option (Nat × Bool)} {d : Tmp} {t e : TypeId}
theorem wpList_appG (hR : Own w0 w l) {k b : Nat} (ht : SliceB P t e k b) {x y : Operand} {v y' : Value} {m0 m : Nat} {xs ys : List Value}
    (hgd : Region.wanted ⟨some d, .call { callee := .builtin .append, args := #[x, y], argTypes := #[t, t] }, tp, pos, af, gd⟩ (yielded ops ls.toArray) = true)
    (hx : evalL ls x = some v) (hy : evalL ls y = some y') (hS : Sl e k s v m0 xs) (hd : Les s l L') (hP : Rd w k y' m ys) (h63 : m0 + m ≤ maxLen) (hsm : (m0 + m) * b ≤ 140737488355328)
    (h : ∀ s' v' w', Own w0 w' (s' ++ L') → Sl e k s' v' (m0 + m) (xs ++ ys) → wpList P ops Q rest ⟨(ls.set d v').toArray, ds⟩ w') :
    wpList P ops Q (⟨some d, .call { callee := .builtin .append, args := #[x, y], argTypes := #[t, t] }, tp, pos, af, gd⟩ :: rest) ⟨ls.toArray, ds⟩ w := by
  obtain ⟨s', v', w', hr, hO, hS'⟩ := run_appG (o := ⟨some d, .call { callee := .builtin .append, args := #[x, y], argTypes := #[t, t] }, tp, pos, af, gd⟩) ht hR rfl (eval_of hx) (eval_of hy) hd hS hP h63 hsm
  exact wpList_run_value hgd hr (by rw [put_list]; exact h s' v' w' hO hS')
end
/-! ### Quiet operations -/
section
variable {P : Program} {C : World → Prop} {tp : TypeId} {pos : String} {af : Array Edge} {gd : Option (Nat × Bool)} {ls : List Value} {ds : List Deferred} {c : Bool} {w0 : World} {l : List RowT} {dd : Option Tmp}
theorem t_lenRd {t e : TypeId} {k m : Nat} {v : Value} {ys : List Value} {w : World} {x : Operand} (ht : P.underlying t = some (.slice e)) (hx : EvC ls c x v) (hA : Rd w k v m ys) : TIf P C c ⟨dd, .call ⟨.builtin .len, #[x], #[t]⟩, tp, pos, af, gd⟩ ⟨ls.toArray, ds⟩ (.int .i64 m) := by
  rcases hA.way with ⟨rfl, rfl, _⟩ | ⟨a, cap, rfl, _⟩
  · exact t_len ht hx
  · exact t_len ht hx
/-- An element of one cell, of what lay there before the call. -/
theorem t_oldOne {ty : TypeId} (ht : OneTy P ty) {x : Operand} {a : Addr} {u : Value} (hx : EvC ls c x (.pointer (some a))) (hc : w0.cell? a = some u) (h1 : u.oneCell' = true) :
    TIf P (fun w => Own w0 w l) c ⟨dd, .load ty x, tp, pos, af, gd⟩ ⟨ls.toArray, ds⟩ u := by
  obtain ⟨d', hu, hd, _⟩ := ht
  refine ⟨fun e => .inl fun w hC => ?_⟩
  have hc' : w.cell? a = some u := (hC.below.cell (World.block_lt_of_cell? w0 _ hc)).trans hc
  have hagg : (isAgg ty).run P w = .ok false w := by
    unfold isAgg
    rw [Sem.run_bind, run_underlying hu w]
    cases d' <;> simp_all
  unfold execOp
  simp [eval_of (hx.of e), Instr.loadAt, Instr.sureAddr, loadVar, hagg, hc']
theorem run_firstRd {w : World} {w1 : World} {t e : TypeId} {k m j : Nat} {v : Value} {ys : List Value} {q : IntKind} (hu : P.underlying t = some (.slice e)) (hz : (P.info? e).map (·.size) = some k) (hA : Rd w1 k v m ys) (hj : j ≤ m) : (Instr.sliceAt t v none (some (.int q (j : Int))) none).run P w = .ok (firstV v j) w := by
  cases hq : P.info? e with
  | none => simp [hq] at hz
  | some inf =>
    have hsz : inf.size = k := by simpa [hq] using hz
    rcases hA.way with ⟨rfl, rfl, _⟩ | ⟨a, cap, rfl, hle, _⟩
    · have : j = 0 := by omega
      subst this
      simp [Instr.sliceAt, Instr.slice, run_underlying hu, Instr.sliceBounds, Instr.sliceBound, asIntOf, sizeOf, typeInfo, hq, hsz, firstV]
    · have hk' : (0 : Int) ≤ (j : Int) ∧ (j : Int) ≤ (cap : Int) := ⟨by omega, by omega⟩
      have ha : a.add 0 = a := by simp [Addr.add]
      simp [Instr.sliceAt, Instr.slice, run_underlying hu, Instr.sliceBounds, Instr.sliceBound, asIntOf, hk', sizeOf, typeInfo, hq, hsz, ha, firstV]
      omega
theorem t_firstRd {t e : TypeId} {k m j : Nat} {v : Value} {ys : List Value} {w : World} {x y : Operand} {q : IntKind} {i : Int} (hu : P.underlying t = some (.slice e)) (hz : (P.info? e).map (·.size) = some k) (hx : EvC ls c x v) (hy : EvC ls c y (.int q i)) (hA : Rd w k v m ys) (hi : i = j) (hj : j ≤ m) :
    TIf P C c ⟨dd, .slice t x none (some y) none, tp, pos, af, gd⟩ ⟨ls.toArray, ds⟩ (firstV v j) := by
  subst hi
  refine ⟨fun h => .inl fun w' _ => ?_⟩
  unfold execOp
  simp [eval_of (hx.of h), eval_of (hy.of h), run_firstRd (q := q) hu hz hA hj]
end
end Go.Proofs.YtjecckmcjcikdaaDoor
