/- Slices of the call's own that are handed from call to call ('Sl': nothing yet, or the first places of a row), of elements of any size; arrays that are cut into slices; a table of the program's own, that stays as it is; what is left of a region that draws its order, one quiet operation or one call at a time. No statement of the seat is proved here. -/
import Derived.Test.YtjecckmcjcikdaaDoorSlice
import Derived.Test.YtjecckmcjcikdaaDoorText
namespace Go.Proofs.YtjecckmcjcikdaaDoor
open Go.ChangeShapes Go.WideShapes Go.ChangeAt Go.RowKit
set_option linter.unusedVariables false
set_option linter.unusedSimpArgs false

/-- A slice of the call's own: nothing yet, or the first places of a row. -/
structure Sl (e : TypeId) (k : Nat) (s : List RowT) (v : Value) (n : Nat) (xs : List Value) : Prop where
  len : xs.length = n * k
  way : (s = [] ∧ v = .slice none 0 0 ∧ n = 0) ∨ ∃ g cap cur, s = [(g, cur, e)] ∧ v = .slice (some ⟨g, 0, none⟩) n cap ∧ n ≤ cap ∧ cap ≤ maxLen ∧ cur.size = cap * k ∧ cur.toList.take (n * k) = xs
theorem Sl.nil (e : TypeId) (k : Nat) : Sl e k [] (.slice none 0 0) 0 [] := ⟨by simp, .inl ⟨rfl, rfl, rfl⟩⟩
theorem Sl.ofIs {e : TypeId} {g n cap : Nat} {cur : Array Value} {xs : List Value} (h : SlIs cur n cap xs) : Sl e 1 [(g, cur, e)] (.slice (some ⟨g, 0, none⟩) n cap) n xs :=
  ⟨by rw [h.len, Nat.mul_one], .inr ⟨g, cap, cur, rfl, rfl, h.le, h.most, by rw [h.size, Nat.mul_one], by rw [Nat.mul_one]; exact h.take⟩⟩
theorem Sl.cast {e : TypeId} {k n : Nat} {s : List RowT} {v : Value} {xs ys : List Value} (h : Sl e k s v n xs) (q : xs = ys) : Sl e k s v n ys := q ▸ h
/-- It is a row where it holds something. -/
theorem Sl.row {e : TypeId} {s : List RowT} {v : Value} {n : Nat} {xs : List Value} (h : Sl e 1 s v n xs) (hn : xs ≠ []) : ∃ g cap cur, s = [(g, cur, e)] ∧ v = .slice (some ⟨g, 0, none⟩) n cap ∧ SlIs cur n cap xs := by
  have hl := h.len
  rw [Nat.mul_one] at hl
  rcases h.way with ⟨_, _, h0⟩ | ⟨g, cap, cur, h1, h2, h3, h4, h5, h6⟩
  · exact absurd (List.eq_nil_of_length_eq_zero (by omega)) hn
  · exact ⟨g, cap, cur, h1, h2, ⟨hl, h3, h4, by rw [h5, Nat.mul_one], by rw [Nat.mul_one] at h6; exact h6⟩⟩

theorem SlIs.less {cur : Array Value} {n cap k : Nat} {xs : List Value} (h : SlIs cur n cap xs) (hk : k ≤ n) : SlIs cur k cap (xs.take k) :=
  ⟨by rw [List.length_take, h.len]; omega, Nat.le_trans hk h.le, h.most, h.size, by rw [← h.take, List.take_take, Nat.min_eq_left hk]⟩
/-- The list without some blocks that stand beside each other in it. -/
inductive Les (s : List RowT) : List RowT → List RowT → Prop where
  | head {l : List RowT} : Les s (s ++ l) l
  | tail {x : RowT} {l l' : List RowT} : Les s l l' → Les s (x :: l) (x :: l')
theorem Les.perm {s l l' : List RowT} (h : Les s l l') : (s ++ l').Perm l := by
  induction h with
  | head => exact List.Perm.refl _
  | tail _ ih => exact (List.perm_middle).trans (ih.cons _)
theorem Own.perm {w0 w : World} {l l' : List RowT} (h : Own w0 w l) (hp : l'.Perm l) : Own w0 w l' :=
  ⟨h.below, fun x hx => h.here x (hp.mem_iff.1 hx), (hp.map _).nodup_iff.2 h.apart⟩
theorem Own.les {w0 w : World} {s l l' : List RowT} (h : Own w0 w l) (hd : Les s l l') : Own w0 w (s ++ l') := h.perm hd.perm
theorem Own.right {w0 w : World} {s l : List RowT} (h : Own w0 w (s ++ l)) : Own w0 w l := h.drop (List.sublist_append_right _ _)
theorem Own.cons {w0 w : World} {l : List RowT} (h : Own w0 w l) {g : Nat} {c : Array Value} {e : TypeId} (hb : w0.heap.size ≤ g) (hg : w.heap[g]? = some (.cells c e (0, 0))) (hn : ∀ y ∈ l, y.1 ≠ g) : Own w0 w ((g, c, e) :: l) := by
  refine ⟨h.below, fun x hx => ?_, ?_⟩
  · cases hx with
    | head => exact ⟨hb, hg⟩
    | tail _ hx => exact h.here x hx
  · rw [List.map_cons, List.nodup_cons]
    refine ⟨fun hm => ?_, h.apart⟩
    obtain ⟨y, hy, he⟩ := List.mem_map.1 hm
    exact hn y hy he
theorem Own.grown {w0 w w' : World} {l : List RowT} {b : Option Nat} (h : Own w0 w l) (hg : w.grownBy w' b) (hb : ∀ k, b = some k → w0.heap.size ≤ k ∧ ∀ y ∈ l, y.1 ≠ k) : Own w0 w' l := by
  refine ⟨⟨hg.os.trans h.below.os, hg.tape.trans h.below.tape, hg.output.trans h.below.output, Nat.le_trans h.below.size hg.size, fun k hk => ?_⟩, fun y hy => ?_, h.apart⟩
  · rw [hg.block k (by have := h.below.size; omega) (fun e => by have := (hb k e.symm).1; omega)]
    exact h.below.block k hk
  · exact ⟨(h.here y hy).1, by rw [hg.block y.1 (h.lt hy) (fun e => (hb y.1 e.symm).2 y hy rfl)]; exact (h.here y hy).2⟩
/-- What stood before the call stays. -/
theorem Own.old {w0 w : World} {l : List RowT} (h : Own w0 w l) {b : Nat} {o : _} (ho : w0.heap[b]? = some o) : w.heap[b]? = some o := by
  rw [h.below.block b (Array.getElem?_eq_some_iff.1 ho).1]; exact ho

/-- Some cells of a row, from a place on. -/
structure Part (cs : Array Value) (off : Nat) (ys : List Value) : Prop where
  get : ∀ j u, ys[j]? = some u → cs[off + j]? = some u
theorem Part.ofIs {cs : Array Value} {m cap : Nat} {ys : List Value} (h : SlIs cs m cap ys) : Part cs 0 ys := by
  refine ⟨fun j u hu => ?_⟩
  rw [Nat.zero_add, ← Array.getElem?_toList]
  rw [← h.take, List.getElem?_take] at hu
  split at hu
  · exact hu
  · exact nomatch hu
theorem Part.all (cs : Array Value) : Part cs 0 cs.toList := ⟨fun j u hu => by rw [Nat.zero_add, ← Array.getElem?_toList]; exact hu⟩
theorem Part.take {cs : Array Value} {o : Nat} {ys : List Value} (h : Part cs o ys) (m : Nat) : Part cs o (ys.take m) := by
  refine ⟨fun j u hu => h.get j u ?_⟩
  rw [List.getElem?_take] at hu
  split at hu
  · exact hu
  · exact nomatch hu
theorem Part.drop {cs : Array Value} {o : Nat} {ys : List Value} (h : Part cs o ys) (m : Nat) : Part cs (o + m) (ys.drop m) := by
  refine ⟨fun j u hu => ?_⟩
  rw [List.getElem?_drop] at hu
  rw [Nat.add_assoc]
  exact h.get _ u hu

section
variable {P : Program}
/-- The type of slices of elements of so many cells. -/
structure SliceK (P : Program) (t e : TypeId) (k : Nat) : Prop where
  ty : P.underlying t = some (.slice e)
  info : ∃ i z, P.info? e = some i ∧ i.zero = some z ∧ i.size = k ∧ i.bytes ≤ 128 ∧ z.cells.size = k
  pos : 0 < k
theorem SliceK.of {t e : TypeId} {z : Value} {k b : Nat} (h : P.underlying t = some (.slice e)) (hi : (P.info? e).map (fun i => (i.zero, i.size, i.bytes)) = some (some z, k, b)) (hb : b ≤ 128) (hz : z.cells.size = k) (hk : 0 < k) : SliceK P t e k := by
  obtain ⟨i, h1, h2, h3, h4⟩ := info_parts hi
  exact ⟨h, ⟨i, z, h1, h2, h3, by omega, hz⟩, hk⟩
theorem SliceTy.k {t e : TypeId} (h : SliceTy P t e) : SliceK P t e 1 := by
  obtain ⟨h1, i, z, a, b, c, d, f⟩ := h
  exact ⟨h1, ⟨i, z, a, b, c, by omega, f⟩, by decide⟩

/-- An append: where the row lies then is not told; it is the call's own. -/
theorem run_appN {ρ : Operand → Value} {o : Oper} {w0 w : World} {L L' s : List RowT} {t e : TypeId} {k : Nat} {x y : Operand} {v : Value} {g off n m cap : Nat} {cs : Array Value} {xs ys : List Value} {e' : TypeId} (ht : SliceK P t e k) (hR : Own w0 w L)
    (ho : o.op = .call { callee := .builtin .append, args := #[x, y], argTypes := #[t, t] }) (hx : ρ x = v) (hy : ρ y = .slice (some ⟨g, off, none⟩) m cap)
    (hd : Les s L L') (hS : Sl e k s v n xs) (hm : (g, cs, e') ∈ L) (hP : Part cs off ys) (hl : ys.length = m * k) (h1 : ys.all (·.oneCell') = true) (hsm : n + m ≤ 1000000) :
    ∃ s' v' w', (execOp ρ o).run P w = .ok (.value v') w' ∧ Own w0 w' (s' ++ L') ∧ Sl e k s' v' (n + m) (xs ++ ys) := by
  obtain ⟨i, z, hinf, hz, hsz, hby, hzs⟩ := ht.info
  have hO := hR.les hd
  have hown : w.ownsRow w0.heap.size e k v n xs := by
    refine ⟨hS.len, ?_⟩
    rcases hS.way with ⟨_, h2, h3⟩ | ⟨g0, cap0, cur0, h1, h2, h3, h4, h5, h6⟩
    · exact .inl ⟨h2, h3⟩
    · subst h1
      exact .inr ⟨g0, cap0, cur0, h2, (hO.here _ (.head _)).1, hO.get (.head _), h3, h4, h5, h6⟩
  have hcell : ∀ j u, ys[j]? = some u → w.cell? ((⟨g, off, none⟩ : Addr).add j) = some u := by
    intro j u hu
    rw [addr_mid, cell_of_row _ _ _ _ _ _ (hR.get hm)]
    exact hP.get j u hu
  obtain ⟨v', w', hrun, hown', hgr, hnil, hat'⟩ := run_append_own_at (P := P) w w0.heap.size t o.type e i z k i.bytes ht.ty hinf hz hsz rfl hzs ht.pos v n xs hown ⟨g, off, none⟩ m cap ys hl hcell
    (by simpa using h1) (by simp only [maxLen]; omega) (Nat.le_trans (Nat.mul_le_mul hsm hby) (by decide)) hR.below.size
  have hrun' : (execOp ρ o).run P w = .ok (.value v') w' := by
    unfold execOp
    simp only [ho, resolve, invoke, builtin, Sem.run_bind, Sem.run_pure, Result.andThen_ok, List.map_toArray, List.map_cons, List.map_nil, hx, hy, hrun]
  have hb : ∀ q, v.ownBlock = some q → w0.heap.size ≤ q ∧ ∀ y ∈ L', y.1 ≠ q := by
    intro q hq
    rcases hS.way with ⟨_, h2, _⟩ | ⟨g0, cap0, cur0, h1, h2, _⟩
    · rw [h2] at hq; exact nomatch hq
    · subst h1
      rw [h2] at hq
      have : g0 = q := by simpa [Value.ownBlock] using hq
      subst this
      refine ⟨(hO.here _ (.head _)).1, fun y hy e => ?_⟩
      have hn := hO.apart
      simp only [List.cons_append, List.nil_append, List.map_cons, List.nodup_cons] at hn
      exact hn.1 (List.mem_map.2 ⟨y, hy, e⟩)
  have hO' : Own w0 w' L' := hO.right.grown hgr hb
  rcases hown'.2 with ⟨h2, h3⟩ | ⟨h, cap2, cur', h2, hb2, hg2, hle, hmost, hsize, htake⟩
  · exact ⟨[], v', w', hrun', hO', ⟨hown'.1, .inl ⟨rfl, h2, h3⟩⟩⟩
  · refine ⟨[(h, cur', e)], v', w', hrun', hO'.cons hb2 hg2 fun y hy he => ?_, ⟨hown'.1, .inr ⟨h, cap2, cur', rfl, h2, hle, hmost, hsize, htake⟩⟩⟩
    subst h2
    rcases hat' with e1 | e1
    · exact (hb h e1.symm).2 y hy he
    · have : h = w.heap.size := by simpa [Value.ownBlock] using e1
      have := hO.lt (List.mem_append_right _ hy)
      omega

/-- An array's first places, as a slice. -/
theorem run_cut {ρ : Operand → Value} {o : Oper} {w : World} {t e : TypeId} {x y : Operand} {g n k : Nat} {q : IntKind} {i : Int} (hu : P.underlying t = some (.array n e)) (hz : (P.info? e).map (·.size) = some 1) (ho : o.op = .slice t x none (some y) none)
    (hx : ρ x = .pointer (some ⟨g, 0, none⟩)) (hy : ρ y = .int q i) (hi : i = k) (hk : k ≤ n) : (execOp ρ o).run P w = .ok (.value (.slice (some ⟨g, 0, none⟩) k n)) w := by
  subst hi
  cases hq : P.info? e with
  | none => simp [hq] at hz
  | some inf =>
    have hsz : inf.size = 1 := by simpa [hq] using hz
    have ha : (⟨g, 0, none⟩ : Addr).add 0 = ⟨g, 0, none⟩ := by simp [Addr.add]
    have hk' : (0 : Int) ≤ (k : Int) ∧ (k : Int) ≤ (n : Int) := ⟨by omega, by omega⟩
    unfold execOp
    simp [ho, Instr.sliceAt, hx, hy, run_underlying hu, Instr.sureAddr, Instr.sliceBounds, Instr.sliceBound, asIntOf, hk', sizeOf, typeInfo, hq, ha]
    intro hlt; omega
/-- An element's place in an array. -/
theorem run_gix {ρ : Operand → Value} {o : Oper} {w : World} {ty e : TypeId} {x ix : Operand} {b n : Nat} {q : IntKind} {j : Int} (hu : P.underlying ty = some (.array n e)) (hz : (P.info? e).map (·.size) = some 1) (ho : o.op = .indexAddr ty x ix)
    (hx : ρ x = .pointer (some ⟨b, 0, none⟩)) (hi : ρ ix = .int q j) (hj : 0 ≤ j ∧ j < n) : (execOp ρ o).run P w = .ok (.value (.pointer (some ⟨b, j.toNat, none⟩))) w := by
  cases hq : P.info? e with
  | none => simp [hq] at hz
  | some inf =>
    have hsz : inf.size = 1 := by simpa [hq] using hz
    have ha : (⟨b, 0, none⟩ : Addr).add j.toNat = ⟨b, j.toNat, none⟩ := by rw [addr_mid, Nat.zero_add]
    unfold execOp
    simp [ho, Instr.indexAt, hx, hi, run_underlying hu, Instr.sureAddr, asIntOf, hj, sizeOf, typeInfo, hq, hsz, ha]
end

/-! ### Quiet operations -/
section
variable {P : Program} {C : World → Prop} {tp : TypeId} {pos : String} {af : Array Edge} {gd : Option (Nat × Bool)} {ls : List Value} {ds : List Deferred} {c : Bool} {w0 : World} {l : List RowT} {dd : Option Tmp}
theorem t_cut {t e : TypeId} {x y : Operand} {g n k : Nat} {q : IntKind} {i : Int} (hu : P.underlying t = some (.array n e)) (hz : (P.info? e).map (·.size) = some 1) (hx : EvC ls c x (.pointer (some ⟨g, 0, none⟩))) (hy : EvC ls c y (.int q i)) (hi : i = k) (hk : k ≤ n) :
    TIf P C c ⟨dd, .slice t x none (some y) none, tp, pos, af, gd⟩ ⟨ls.toArray, ds⟩ (.slice (some ⟨g, 0, none⟩) k n) :=
  ⟨fun h => .inl fun w _ => run_cut hu hz rfl (eval_of (hx.of h)) (eval_of (hy.of h)) hi hk⟩
theorem t_first {t e : TypeId} {x y : Operand} {g n cap k : Nat} {q : IntKind} {i : Int} (ht : SliceTy P t e) (hx : EvC ls c x (.slice (some ⟨g, 0, none⟩) n cap)) (hy : EvC ls c y (.int q i)) (hi : i = k) (hk : k ≤ cap) :
    TIf P C c ⟨dd, .slice t x none (some y) none, tp, pos, af, gd⟩ ⟨ls.toArray, ds⟩ (.slice (some ⟨g, 0, none⟩) k cap) :=
  ⟨fun h => .inl fun w _ => run_firstS ht rfl (eval_of (hx.of h)) (eval_of (hy.of h)) hi hk⟩
/-- An element's place in a package-level array. -/
theorem t_gix {ty e : TypeId} {ix : Operand} {b n : Nat} {q : IntKind} {j : Int} (hu : P.underlying ty = some (.array n e)) (hz : (P.info? e).map (·.size) = some 1) (hi : EvC ls c ix (.int q j)) (hj : 0 ≤ j ∧ j < n) :
    TIf P C c ⟨dd, .indexAddr ty (.global b) ix, tp, pos, af, gd⟩ ⟨ls.toArray, ds⟩ (.pointer (some ⟨b, j.toNat, none⟩)) :=
  ⟨fun h => .inl fun w _ => run_gix hu hz rfl rfl (eval_of (hi.of h)) hj⟩
/-- What stands in a block that was there before the call. -/
theorem t_old {ty : TypeId} (ht : OneTy P ty) {b off : Nat} {cs : Array Value} {v : Value} {t : TypeId} {fr : Nat × Nat} {x : Operand} (hT : w0.heap[b]? = some (.cells cs t fr)) (hx : EvC ls c x (.pointer (some ⟨b, off, none⟩))) (hs : cs.toList[off]? = some v) :
    TIf P (fun w => Own w0 w l) c ⟨dd, .load ty x, tp, pos, af, gd⟩ ⟨ls.toArray, ds⟩ v := by
  obtain ⟨d', hu, hd, _⟩ := ht
  exact ⟨fun e => .inl fun w hC => run_loadOne rfl (eval_of (hx.of e)) (hC.old hT) hu hd hs⟩
theorem t_len {t e : TypeId} {x : Operand} {p : Option Addr} {n cap : Nat} (ht : P.underlying t = some (.slice e)) (hx : EvC ls c x (.slice p n cap)) : TIf P C c ⟨dd, .call ⟨.builtin .len, #[x], #[t]⟩, tp, pos, af, gd⟩ ⟨ls.toArray, ds⟩ (.int .i64 n) := by
  refine ⟨fun e => .inl fun w _ => ?_⟩
  unfold execOp
  simp [resolve, invoke, builtin, eval_of (hx.of e), Builtin.len_, run_underlying ht, goInt]
theorem t_min {ts : Array TypeId} {x y : Operand} {q : IntKind} {a b : Int} (hx : EvC ls c x (.int q a)) (hy : EvC ls c y (.int q b)) : TIf P C c ⟨dd, .call ⟨.builtin .min, #[x, y], ts⟩, tp, pos, af, gd⟩ ⟨ls.toArray, ds⟩ (.int q (if b < a then b else a)) := by
  refine ⟨fun e => .inl fun w _ => ?_⟩
  unfold execOp
  simp [resolve, invoke, builtin, eval_of (hx.of e), eval_of (hy.of e), Builtin.min_, Builtin.min2]
theorem t_eqb {ty ty' : TypeId} {x y : Operand} {a b : Bool} (hu : P.underlying ty = some .bool) (hx : EvC ls c x (.bool a)) (hy : EvC ls c y (.bool b)) : TIf P C c ⟨dd, .binOp .eql ty x y ty', tp, pos, af, gd⟩ ⟨ls.toArray, ds⟩ (.bool (a == b)) := by
  refine ⟨fun e => .inl fun w _ => ?_⟩
  have he : (Op.equal ty (.bool a) (.bool b)).run P w = .ok (a == b) w := eq_two (P := P) 1 ty (.bool a) (.bool b) (a == b) 9999 w (by simp [eqB, hu])
  unfold execOp
  simp only [eval_of (hx.of e), eval_of (hy.of e)]
  simp [eqGuard, binOp, he]
end

/-! ### What is left of a region that draws its order -/
section
variable {P : Program} {ops : Array Oper} {md : Region.Mode} {Q : Exit → Act → World → Prop} {n : Nat} {M : Array Bool} {ls ls' : List Value} {ds : List Deferred} {w0 w : World} {l lC : List RowT} {tp : TypeId} {pos : String} {af : Array Edge} {gd : Option (Nat × Bool)} {d : Tmp} {i : Nat}
theorem wpOp_kn {i : Nat} {o : Oper} {a : Act} {w w' : World} {v : Value} {K : Act → World → Prop} (hi : ops.toList[i]? = some o) (hgd : Region.wanted o (yielded ops a.tmps) = true) (hr : (execOp a.eval o).run P w = .ok (.value v) w') (h : K (a.put o.dst v) w') : wpOp P ops Q i K a w := by
  have hi' : ops[i]? = some o := by simpa using hi
  unfold wpOp
  simp only [hi']
  rw [if_pos hgd]
  refine .inl ?_
  unfold Oper.wp
  rw [hr]
  exact h
theorem opQ (hR : Own w0 w l) {op : Op} {v : Value} {K : Act → World → Prop} (hi : ops.toList[i]? = some ⟨some d, op, tp, pos, af, gd⟩) (hg : Region.wanted ⟨some d, op, tp, pos, af, gd⟩ (yielded ops ls.toArray) = true)
    (ht : TIf P (fun w => Own w0 w l) true ⟨some d, op, tp, pos, af, gd⟩ ⟨ls.toArray, ds⟩ v) (hls : ls.set d v = ls') (h : ∀ w', Own w0 w' l → K ⟨ls'.toArray, ds⟩ w') : wpOp P ops Q i K ⟨ls.toArray, ds⟩ w := by
  have hi' : ops[i]? = some ⟨some d, op, tp, pos, af, gd⟩ := by simpa using hi
  unfold wpOp
  simp only [hi']
  rw [if_pos hg]
  refine .inl ?_
  unfold Oper.wp
  rcases ht.of rfl with ht | ⟨f, args, hrun, hc⟩
  · rw [ht w hR]
    show K ((⟨ls.toArray, ds⟩ : Act).put (some d) v) w
    rw [put_list, hls]
    exact h w hR
  · rw [hrun w]
    refine Calls.mono (hc w hR) fun e w' hk => ?_
    obtain ⟨rfl, _, hC'⟩ := hk
    show K ((⟨ls.toArray, ds⟩ : Act).put (some d) v) w'
    rw [put_list, hls]
    exact h w' hC'
/-- A quiet operation comes next. -/
theorem wpG_q (hR : Own w0 w l) (hr : Region.ready md ops M = [i]) {op : Op} {v : Value} (hi : ops.toList[i]? = some ⟨some d, op, tp, pos, af, gd⟩) (hg : Region.wanted ⟨some d, op, tp, pos, af, gd⟩ (yielded ops ls.toArray) = true)
    (ht : TIf P (fun w => Own w0 w l) true ⟨some d, op, tp, pos, af, gd⟩ ⟨ls.toArray, ds⟩ v) (hls : ls.set d v = ls') (hs : lC.Sublist l) (h : ∀ w', Own w0 w' l → wpG P md ops (fun w => Own w0 w lC) Q n (M.setIfInBounds i true) ⟨ls'.toArray, ds⟩ w') :
    wpG P md ops (fun w => Own w0 w lC) Q (n + 1) M ⟨ls.toArray, ds⟩ w := by
  refine wpG_next hr (by simp) ?_
  intro w1 hb hC k hk
  obtain rfl := List.mem_singleton.1 hk
  exact opQ (hR.grow hb) hi hg ht hls fun w' hO => ⟨hO.drop hs, h w' hO⟩
theorem opCallO (hR : Own w0 w l) {f : FuncId} (hcf : ∀ (args : Array Value) w, (callFunc f args).run P w = .ok (.enter f args) w) {as : Array Operand} {ats : Array TypeId} {args : List Value} {K : Act → World → Prop}
    (hi : ops.toList[i]? = some ⟨some d, .call ⟨.value (.func f), as, ats⟩, tp, pos, af, gd⟩) (hg : Region.wanted ⟨some d, .call ⟨.value (.func f), as, ats⟩, tp, pos, af, gd⟩ (yielded ops ls.toArray) = true) (ha : evalAll ls as.toList = some args)
    (hc : Calls P f args.toArray w fun en w' => ∃ v, en = .returned v ∧ K ⟨(ls.set d v).toArray, ds⟩ w') : wpOp P ops (NoPanic Q) i K ⟨ls.toArray, ds⟩ w := by
  have hi' : ops[i]? = some ⟨some d, .call ⟨.value (.func f), as, ats⟩, tp, pos, af, gd⟩ := by rw [← Array.getElem?_toList]; exact hi
  have ha' : as.map (⟨ls.toArray, ds⟩ : Act).eval = args.toArray := by
    apply Array.toList_inj.1
    rw [Array.toList_map, evalAll_of ha]
  have hev : (⟨ls.toArray, ds⟩ : Act).eval (.func f) = .func (.func f) #[] #[] := rfl
  have hrun : (execOp (⟨ls.toArray, ds⟩ : Act).eval ⟨some d, .call ⟨.value (.func f), as, ats⟩, tp, pos, af, gd⟩).run P w = .ok (.enter f args.toArray) w := by
    unfold execOp
    simp only [resolve, hev, Deferred.ofValue, ha', Sem.run_bind, Sem.run_pure, Result.andThen_ok, invoke, Array.empty_append, Array.append_empty, hcf]
  unfold wpOp
  simp only [hi']
  rw [if_pos hg]
  refine .inl ?_
  unfold Oper.wp
  rw [hrun]
  refine Calls.mono hc fun en w' hk => ?_
  obtain ⟨v, rfl, hG⟩ := hk
  show K ((⟨ls.toArray, ds⟩ : Act).put (some d) v) w'
  rw [put_list]
  exact hG
/-- A call comes next, that may write what is the call's own. -/
theorem wpG_callO (hR : Own w0 w l) (hr : Region.ready md ops M = [i]) {f : FuncId} (hcf : ∀ (args : Array Value) w, (callFunc f args).run P w = .ok (.enter f args) w) {as : Array Operand} {ats : Array TypeId} {args : List Value}
    (hi : ops.toList[i]? = some ⟨some d, .call ⟨.value (.func f), as, ats⟩, tp, pos, af, gd⟩) (hg : Region.wanted ⟨some d, .call ⟨.value (.func f), as, ats⟩, tp, pos, af, gd⟩ (yielded ops ls.toArray) = true) (ha : evalAll ls as.toList = some args)
    (hc : ∀ w1, Own w0 w1 l → Calls P f args.toArray w1 fun en w' => ∃ v, en = .returned v ∧ Own w0 w' lC ∧ wpG P md ops (fun w => Own w0 w lC) (NoPanic Q) n (M.setIfInBounds i true) ⟨(ls.set d v).toArray, ds⟩ w') :
    wpG P md ops (fun w => Own w0 w lC) (NoPanic Q) (n + 1) M ⟨ls.toArray, ds⟩ w := by
  refine wpG_next hr (by simp) ?_
  intro w1 hb _ k hk
  obtain rfl := List.mem_singleton.1 hk
  exact opCallO (hR.grow hb) hcf hi hg ha (hc w1 (hR.grow hb))
theorem opBuildS (hR : Own w0 w l) {t e : TypeId} {m : Nat} {parts : Array (Nat × Operand)} {ps : List (Nat × Value)} {c : Array Value} {K : Act → World → Prop} (hi : ops.toList[i]? = some ⟨some d, .buildSlice t m parts, tp, pos, af, gd⟩) (hg : Region.wanted ⟨some d, .buildSlice t m parts, tp, pos, af, gd⟩ (yielded ops ls.toArray) = true)
    (hq : evalParts ls parts.toList = some ps) (hb : BuiltS P t m ps e c) (h : ∀ g w', Own w0 w' ((g, c, e) :: l) → K ⟨(ls.set d (.slice (some ⟨g, 0, none⟩) m m)).toArray, ds⟩ w') : wpOp P ops Q i K ⟨ls.toArray, ds⟩ w := by
  refine wpOp_kn hi hg (run_buildS rfl (evalParts_of hq) hb) ?_
  show K ((⟨ls.toArray, ds⟩ : Act).put (some d) _) _
  rw [put_list]
  exact h _ _ (hR.alloc c e)
theorem wpG_buildS (hR : Own w0 w l) (hr : Region.ready md ops M = [i]) {t e : TypeId} {m : Nat} {parts : Array (Nat × Operand)} {ps : List (Nat × Value)} {c : Array Value} (hi : ops.toList[i]? = some ⟨some d, .buildSlice t m parts, tp, pos, af, gd⟩) (hg : Region.wanted ⟨some d, .buildSlice t m parts, tp, pos, af, gd⟩ (yielded ops ls.toArray) = true)
    (hq : evalParts ls parts.toList = some ps) (hb : BuiltS P t m ps e c) (hs : lC.Sublist l) (h : ∀ g w', Own w0 w' ((g, c, e) :: l) → wpG P md ops (fun w => Own w0 w lC) Q n (M.setIfInBounds i true) ⟨(ls.set d (.slice (some ⟨g, 0, none⟩) m m)).toArray, ds⟩ w') :
    wpG P md ops (fun w => Own w0 w lC) Q (n + 1) M ⟨ls.toArray, ds⟩ w := by
  refine wpG_next hr (by simp) ?_
  intro w1 hb1 _ k hk
  obtain rfl := List.mem_singleton.1 hk
  exact opBuildS (hR.grow hb1) hi hg hq hb fun g w' hO => ⟨hO.tail.drop hs, h g w' hO⟩
theorem opAppN (hR : Own w0 w l) {L' s : List RowT} {t e : TypeId} {k : Nat} (ht : SliceK P t e k) {x y : Operand} {v : Value} {g off m0 m cap : Nat} {cs : Array Value} {xs ys : List Value} {e' : TypeId} {K : Act → World → Prop}
    (hi : ops.toList[i]? = some ⟨some d, .call { callee := .builtin .append, args := #[x, y], argTypes := #[t, t] }, tp, pos, af, gd⟩) (hg : Region.wanted ⟨some d, .call { callee := .builtin .append, args := #[x, y], argTypes := #[t, t] }, tp, pos, af, gd⟩ (yielded ops ls.toArray) = true)
    (hx : evalL ls x = some v) (hy : evalL ls y = some (.slice (some ⟨g, off, none⟩) m cap)) (hd : Les s l L') (hS : Sl e k s v m0 xs) (hm : (g, cs, e') ∈ l) (hP : Part cs off ys) (hl : ys.length = m * k) (h1 : ys.all (·.oneCell') = true) (hsm : m0 + m ≤ 1000000)
    (h : ∀ s' v' w', Own w0 w' (s' ++ L') → Sl e k s' v' (m0 + m) (xs ++ ys) → K ⟨(ls.set d v').toArray, ds⟩ w') : wpOp P ops Q i K ⟨ls.toArray, ds⟩ w := by
  obtain ⟨s', v', w', hr, hO, hS'⟩ := run_appN (o := ⟨some d, .call { callee := .builtin .append, args := #[x, y], argTypes := #[t, t] }, tp, pos, af, gd⟩) ht hR rfl (eval_of hx) (eval_of hy) hd hS hm hP hl h1 hsm
  refine wpOp_kn hi hg hr ?_
  show K ((⟨ls.toArray, ds⟩ : Act).put (some d) _) _
  rw [put_list]
  exact h s' v' w' hO hS'
theorem wpG_appN (hR : Own w0 w l) (hr : Region.ready md ops M = [i]) {L' s : List RowT} {t e : TypeId} {k : Nat} (ht : SliceK P t e k) {x y : Operand} {v : Value} {g off m0 m cap : Nat} {cs : Array Value} {xs ys : List Value} {e' : TypeId}
    (hi : ops.toList[i]? = some ⟨some d, .call { callee := .builtin .append, args := #[x, y], argTypes := #[t, t] }, tp, pos, af, gd⟩) (hg : Region.wanted ⟨some d, .call { callee := .builtin .append, args := #[x, y], argTypes := #[t, t] }, tp, pos, af, gd⟩ (yielded ops ls.toArray) = true)
    (hx : evalL ls x = some v) (hy : evalL ls y = some (.slice (some ⟨g, off, none⟩) m cap)) (hd : Les s l L') (hS : Sl e k s v m0 xs) (hm : (g, cs, e') ∈ l) (hP : Part cs off ys) (hl : ys.length = m * k) (h1 : ys.all (·.oneCell') = true) (hsm : m0 + m ≤ 1000000) (hs : lC.Sublist L')
    (h : ∀ s' v' w', Own w0 w' (s' ++ L') → Sl e k s' v' (m0 + m) (xs ++ ys) → wpG P md ops (fun w => Own w0 w lC) Q n (M.setIfInBounds i true) ⟨(ls.set d v').toArray, ds⟩ w') : wpG P md ops (fun w => Own w0 w lC) Q (n + 1) M ⟨ls.toArray, ds⟩ w := by
  refine wpG_next hr (by simp) ?_
  intro w1 hb _ k' hk
  obtain rfl := List.mem_singleton.1 hk
  exact opAppN (hR.grow hb) ht hi hg hx hy hd hS hm hP hl h1 hsm fun s' v' w' hO hS' => ⟨hO.right.drop hs, h s' v' w' hO hS'⟩
end

/-! ### In a plain region -/
section
variable {P : Program} {ops : Array Oper} {rest : List Oper} {tp : TypeId} {pos : String} {af : Array Edge} {gd : Option (Nat × Bool)} {ls : List Value} {ds : List Deferred} {w0 w : World} {l L' s : List RowT} {Q : Exit → Act → World → Prop} {d : Tmp} {t e e' : TypeId}
theorem wpList_appN (hR : Own w0 w l) {k : Nat} (ht : SliceK P t e k) {x y : Operand} {v : Value} {g off m0 m cap : Nat} {cs : Array Value} {xs ys : List Value}
    (hgd : Region.wanted ⟨some d, .call { callee := .builtin .append, args := #[x, y], argTypes := #[t, t] }, tp, pos, af, gd⟩ (yielded ops ls.toArray) = true)
    (hx : evalL ls x = some v) (hy : evalL ls y = some (.slice (some ⟨g, off, none⟩) m cap)) (hS : Sl e k s v m0 xs) (hd : Les s l L') (hm : (g, cs, e') ∈ l) (hP : Part cs off ys) (hl : ys.length = m * k) (h1 : ys.all (·.oneCell') = true) (hsm : m0 + m ≤ 1000000)
    (h : ∀ s' v' w', Own w0 w' (s' ++ L') → Sl e k s' v' (m0 + m) (xs ++ ys) → wpList P ops Q rest ⟨(ls.set d v').toArray, ds⟩ w') :
    wpList P ops Q (⟨some d, .call { callee := .builtin .append, args := #[x, y], argTypes := #[t, t] }, tp, pos, af, gd⟩ :: rest) ⟨ls.toArray, ds⟩ w := by
  obtain ⟨s', v', w', hr, hO, hS'⟩ := run_appN (o := ⟨some d, .call { callee := .builtin .append, args := #[x, y], argTypes := #[t, t] }, tp, pos, af, gd⟩) ht hR rfl (eval_of hx) (eval_of hy) hd hS hm hP hl h1 hsm
  exact wpList_run_value hgd hr (by rw [put_list]; exact h s' v' w' hO hS')
end
end Go.Proofs.YtjecckmcjcikdaaDoor
