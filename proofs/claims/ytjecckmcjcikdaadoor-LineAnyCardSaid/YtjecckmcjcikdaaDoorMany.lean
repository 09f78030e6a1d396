/- Slices of structs: rows of the call's own whose elements have many cells ('RwIs'), told as the elements' cells one behind the other; appends to them, cuts of them, elements of them; an argument that is such a slice ('ArgIs'). No statement of the seat is proved here. -/
import Derived.Test.YtjecckmcjcikdaaDoorHand
import Derived.Deep.Slices
namespace Go.Proofs.YtjecckmcjcikdaaDoor
open Go.ChangeShapes Go.WideShapes Go.ChangeAt Go.RowKit
set_option linter.unusedVariables false
set_option linter.unusedSimpArgs false

/-- The first n elements of a row, of k cells each, are these cells. -/
structure RwIs (k : Nat) (cur : Array Value) (n cap : Nat) (xs : List Value) : Prop where
  len : xs.length = n * k
  le : n ≤ cap
  most : cap ≤ maxLen
  size : cur.size = cap * k
  take : cur.toList.take (n * k) = xs
theorem RwIs.all {k n : Nat} {c : Array Value} (hn : c.size = n * k) (h : n ≤ 1000000) : RwIs k c n n c.toList :=
  ⟨by simpa using hn, Nat.le_refl _, Nat.le_trans h (by simp [maxLen]), hn, List.take_of_length_le (by simp [hn])⟩
theorem RwIs.sl {k n cap g : Nat} {cur : Array Value} {xs : List Value} {e : TypeId} (h : RwIs k cur n cap xs) : Sl e k [(g, cur, e)] (.slice (some ⟨g, 0, none⟩) n cap) n xs :=
  ⟨h.len, .inr ⟨g, cap, cur, rfl, rfl, h.le, h.most, h.size, h.take⟩⟩
theorem RwIs.cast {k n cap : Nat} {cur : Array Value} {xs ys : List Value} (h : RwIs k cur n cap xs) (q : xs = ys) : RwIs k cur n cap ys := q ▸ h
theorem RwIs.part {k n cap : Nat} {cur : Array Value} {xs : List Value} (h : RwIs k cur n cap xs) : Part cur 0 xs := by
  refine ⟨fun j u hu => ?_⟩
  rw [Nat.zero_add, ← Array.getElem?_toList]
  rw [← h.take, List.getElem?_take] at hu
  split at hu
  · exact hu
  · exact nomatch hu

section
variable {P : Program}
theorem run_appR {ρ : Operand → Value} {o : Oper} {w0 w : World} {l l' : List RowT} {t e : TypeId} {k : Nat} {x y : Operand} {g g' off n m cap cap' : Nat} {cur cs : Array Value} {xs ys : List Value} {e' : TypeId} (ht : SliceK P t e k) (hR : Own w0 w l)
    (ho : o.op = .call { callee := .builtin .append, args := #[x, y], argTypes := #[t, t] }) (hx : ρ x = .slice (some ⟨g, 0, none⟩) n cap) (hy : ρ y = .slice (some ⟨g', off, none⟩) m cap')
    (hd : Del (g, cur, e) l l') (hS : RwIs k cur n cap xs) (hm : (g', cs, e') ∈ l) (hP : Part cs off ys) (hl : ys.length = m * k) (h1 : ys.all (·.oneCell') = true) (hsm : n + m ≤ 1000000) :
    ∃ h cur' cap2 w', (execOp ρ o).run P w = .ok (.value (.slice (some ⟨h, 0, none⟩) (n + m) cap2)) w' ∧ Own w0 w' ((h, cur', e) :: l') ∧ RwIs k cur' (n + m) cap2 (xs ++ ys) := by
  obtain ⟨i, z, hinf, hz, hsz, hby, hzs⟩ := ht.info
  have hget := hR.get hd.mem
  have hbase := (hR.here _ hd.mem).1
  have hown : w.ownsRow w0.heap.size e k (.slice (some ⟨g, 0, none⟩) n cap) n xs :=
    ⟨hS.len, .inr ⟨g, cap, cur, rfl, hbase, hget, hS.le, hS.most, hS.size, hS.take⟩⟩
  have hcell : ∀ j u, ys[j]? = some u → w.cell? ((⟨g', off, none⟩ : Addr).add j) = some u := by
    intro j u hu
    rw [addr_mid, cell_of_row _ _ _ _ _ _ (hR.get hm)]
    exact hP.get j u hu
  obtain ⟨v', w', hrun, hown', hgr, hnil, hat'⟩ := run_append_own_at (P := P) w w0.heap.size t o.type e i z k i.bytes ht.ty hinf hz hsz rfl hzs ht.pos _ n xs hown ⟨g', off, none⟩ m cap' ys hl hcell
    (by simpa using h1) (by simp only [maxLen]; omega) (Nat.le_trans (Nat.mul_le_mul hsm hby) (by decide)) hR.below.size
  rcases hown'.2 with ⟨rfl, _⟩ | ⟨h, cap2, cur', rfl, hb2, hg2, hle, hmost, hsize, htake⟩
  · exact absurd (hnil.1 rfl).1 (by simp)
  refine ⟨h, cur', cap2, w', ?_, ?_, ⟨hown'.1, hle, hmost, hsize, htake⟩⟩
  · unfold execOp
    simp only [ho, resolve, invoke, builtin, Sem.run_bind, Sem.run_pure, Result.andThen_ok, List.map_toArray, List.map_cons, List.map_nil, hx, hy, hrun]
  · have hap := hd.apart hR.apart
    have hO' : Own w0 w' l' := (hR.drop hd.sub).grown hgr fun q hq => by
      have : g = q := by simpa [Value.ownBlock] using hq
      subst this
      exact ⟨hbase, hap⟩
    refine hO'.cons hb2 hg2 fun y hy he => ?_
    rcases hat' with e1 | e1
    · have : h = g := by simpa [Value.ownBlock] using e1
      exact hap y hy (by rw [he, this])
    · have : h = w.heap.size := by simpa [Value.ownBlock] using e1
      have := hR.lt (hd.sub.subset hy)
      omega

/-- An element's place in a slice. -/
theorem run_six {ρ : Operand → Value} {o : Oper} {w : World} {ty e : TypeId} {x ix : Operand} {a : Addr} {n cap k : Nat} {q : IntKind} {j : Int} (hu : P.underlying ty = some (.slice e)) (hz : (P.info? e).map (·.size) = some k) (ho : o.op = .indexAddr ty x ix)
    (hx : ρ x = .slice (some a) n cap) (hi : ρ ix = .int q j) (hj : 0 ≤ j ∧ j < n) : (execOp ρ o).run P w = .ok (.value (.pointer (some (a.add (j.toNat * k))))) w := by
  cases hq : P.info? e with
  | none => simp [hq] at hz
  | some inf =>
    have hsz : inf.size = k := by simpa [hq] using hz
    unfold execOp
    simp [ho, Instr.indexAt, hx, hi, run_underlying hu, asIntOf, hj, sizeOf, typeInfo, hq, hsz]
/-- A value of many cells, read at a place of which each cell is known. -/
theorem run_loadMany {ρ : Operand → Value} {o : Oper} {w : World} {ty : TypeId} {x : Operand} {a : Addr} {d : TypeDesc} {cs : Array Value} {n : Nat} (ho : o.op = .load ty x) (hx : ρ x = .pointer (some a)) (hc : ∀ j u, cs.toList[j]? = some u → w.cell? (a.add j) = some u)
    (hu : P.underlying ty = some d) (hd : d.isRow = true) (hi : (P.info? ty).map (·.size) = some n) (hn : cs.size = n) : (execOp ρ o).run P w = .ok (.value (.agg cs)) w := by
  have hl : (loadCells a cs.toList.length).run P w = .ok cs.toList.toArray w := run_loadCells_list (P := P) w a cs.toList hc
  have hv : (loadVar ty a).run P w = .ok (.agg cs) w := by
    cases hq : P.info? ty with
    | none => simp [hq] at hi
    | some i =>
      have hs : i.size = cs.toList.length := by simp [hq] at hi; simp; omega
      have hagg : (isAgg ty).run P w = .ok true w := by
        unfold isAgg
        rw [Sem.run_bind, run_underlying hu w]
        cases d <;> simp_all
      simp only [Array.length_toList] at hl hs
      simp [loadVar, Sem.run_bind, hagg, sizeOf, typeInfo, hq, hs, hl]
  unfold execOp
  simp only [ho, hx, Instr.loadAt, Instr.sureAddr, Sem.run_bind, Sem.run_pure, Result.andThen_ok, hv]
/-- Where the places of a slice from one on begin. -/
def tailOff (cap m k : Nat) : Nat := if cap = m then 0 else m * k
/-- The places of a slice from one on. -/
theorem run_tailR {ρ : Operand → Value} {o : Oper} {w : World} {t e : TypeId} {k : Nat} {x y : Operand} {g n cap m : Nat} {q : IntKind} {i : Int} (ht : SliceK P t e k) (ho : o.op = .slice t x (some y) none none) (hx : ρ x = .slice (some ⟨g, 0, none⟩) n cap)
    (hy : ρ y = .int q i) (hi : i = m) (hm : m ≤ n) (hc : n ≤ cap) : (execOp ρ o).run P w = .ok (.value (.slice (some ⟨g, tailOff cap m k, none⟩) (n - m) (cap - m))) w := by
  subst hi
  unfold tailOff
  obtain ⟨inf, z, hinf, _, hsz, _⟩ := ht.info
  have e1 : (Instr.slice t (.slice (some ⟨g, 0, none⟩) n cap) (some (.int q (m : Int))) none none).run P w = .ok (.slice (some ⟨g, if cap = m then 0 else m * k, none⟩) (n - m) (cap - m)) w := by
    have h1 : (0 : Int) ≤ (m : Int) ∧ (m : Int) ≤ (n : Int) := ⟨by omega, by omega⟩
    have h2 : (0 : Int) ≤ (n : Int) ∧ (n : Int) ≤ (cap : Int) := ⟨by omega, by omega⟩
    have ha : ∀ j, (⟨g, 0, none⟩ : Addr).add j = ⟨g, j, none⟩ := fun j => by rw [addr_mid, Nat.zero_add]
    simp [Instr.slice, run_underlying ht.ty, Instr.sliceBounds, Instr.sliceBound, asIntOf, h1, h2, sizeOf, typeInfo, hinf, hsz, ha]
    by_cases hcm : cap = m
    · simp [hcm]; omega
    · simp [hcm]; omega
  unfold execOp
  simp only [ho]
  simp [Instr.sliceAt, hx, hy, run_underlying ht.ty, e1]
/-- The first places of a slice of structs. -/
theorem run_firstR {ρ : Operand → Value} {o : Oper} {w : World} {t e : TypeId} {k : Nat} {x y : Operand} {g n cap m : Nat} {q : IntKind} {i : Int} (ht : SliceK P t e k) (ho : o.op = .slice t x none (some y) none) (hx : ρ x = .slice (some ⟨g, 0, none⟩) n cap)
    (hy : ρ y = .int q i) (hi : i = m) (hm : m ≤ cap) : (execOp ρ o).run P w = .ok (.value (.slice (some ⟨g, 0, none⟩) m cap)) w := by
  subst hi
  obtain ⟨inf, z, hinf, _⟩ := ht.info
  have e1 : (Instr.slice t (.slice (some ⟨g, 0, none⟩) n cap) none (some (.int q (m : Int))) none).run P w = .ok (.slice (some ⟨g, 0, none⟩) m cap) w := by
    have hk' : (0 : Int) ≤ (m : Int) ∧ (m : Int) ≤ (cap : Int) := ⟨by omega, by omega⟩
    have ha : (⟨g, 0, none⟩ : Addr).add 0 = ⟨g, 0, none⟩ := by simp [Addr.add]
    simp [Instr.slice, run_underlying ht.ty, Instr.sliceBounds, Instr.sliceBound, asIntOf, hk', sizeOf, typeInfo, hinf, ha]
    intro hlt; omega
  unfold execOp
  simp only [ho]
  simp [Instr.sliceAt, hx, hy, run_underlying ht.ty, e1]
end

/-- An argument: a slice of structs, whose cells are known. -/
structure ArgIs (w : World) (k : Nat) (v : Value) (n : Nat) (E : Nat → Array Value) : Prop where
  way : (v = .slice none 0 0 ∧ n = 0) ∨ ∃ a cap, v = .slice (some a) n cap ∧ ∀ i, i < n → (E i).size = k ∧ ∀ j u, (E i).toList[j]? = some u → w.cell? ((a.add (i * k)).add j) = some u
theorem ArgIs.keep {w w' : World} {k n : Nat} {v : Value} {E : Nat → Array Value} (h : ArgIs w k v n E) (hb : Below w.heap.size w w') : ArgIs w' k v n E := by
  rcases h.way with h1 | ⟨a, cap, h1, h2⟩
  · exact ⟨.inl h1⟩
  · refine ⟨.inr ⟨a, cap, h1, fun i hi => ⟨(h2 i hi).1, fun j u hu => ?_⟩⟩⟩
    have h3 := (h2 i hi).2 j u hu
    exact (hb.cell (World.block_lt_of_cell? w _ h3)).trans h3

/-! ### Quiet operations -/
section
variable {P : Program} {C : World → Prop} {tp : TypeId} {pos : String} {af : Array Edge} {gd : Option (Nat × Bool)} {ls : List Value} {ds : List Deferred} {c : Bool} {w0 : World} {l : List RowT} {dd : Option Tmp}
theorem t_six {ty e : TypeId} {x ix : Operand} {a : Addr} {n cap k : Nat} {q : IntKind} {j : Int} (hu : P.underlying ty = some (.slice e)) (hz : (P.info? e).map (·.size) = some k) (hx : EvC ls c x (.slice (some a) n cap)) (hi : EvC ls c ix (.int q j)) (hj : 0 ≤ j ∧ j < n) :
    TIf P C c ⟨dd, .indexAddr ty x ix, tp, pos, af, gd⟩ ⟨ls.toArray, ds⟩ (.pointer (some (a.add (j.toNat * k)))) :=
  ⟨fun h => .inl fun w _ => run_six hu hz rfl (eval_of (hx.of h)) (eval_of (hi.of h)) hj⟩
/-- What lay there before the call. -/
theorem t_oldMany {ty : TypeId} {n : Nat} (ht : RowTy P ty n) {x : Operand} {a : Addr} {cs : Array Value} (hx : EvC ls c x (.pointer (some a))) (hc : ∀ j u, cs.toList[j]? = some u → w0.cell? (a.add j) = some u) (hn : cs.size = n) :
    TIf P (fun w => Own w0 w l) c ⟨dd, .load ty x, tp, pos, af, gd⟩ ⟨ls.toArray, ds⟩ (.agg cs) := by
  obtain ⟨d', hu, hd, hi⟩ := ht
  exact ⟨fun e => .inl fun w hC => run_loadMany rfl (eval_of (hx.of e)) (fun j v hv => (hC.below.cell (World.block_lt_of_cell? w0 _ (hc j v hv))).trans (hc j v hv)) hu hd hi hn⟩
/-- An element of a row of the call's own. -/
theorem t_ownMany {ty : TypeId} {n : Nat} (ht : RowTy P ty n) {x : Operand} {g off : Nat} {cur cs : Array Value} {e : TypeId} (hx : EvC ls c x (.pointer (some ((⟨g, 0, none⟩ : Addr).add off)))) (hm : (g, cur, e) ∈ l) (hc : Part cur off cs.toList) (hn : cs.size = n) :
    TIf P (fun w => Own w0 w l) c ⟨dd, .load ty x, tp, pos, af, gd⟩ ⟨ls.toArray, ds⟩ (.agg cs) := by
  obtain ⟨d', hu, hd, hi⟩ := ht
  refine ⟨fun e => .inl fun w hC => run_loadMany rfl (eval_of (hx.of e)) (fun j v hv => ?_) hu hd hi hn⟩
  rw [addr_mid, addr_mid, Nat.zero_add, cell_of_row _ _ _ _ _ _ (hC.get hm)]
  exact hc.get j v hv
theorem t_tailR {t e : TypeId} {k : Nat} {x y : Operand} {g n cap m : Nat} {q : IntKind} {i : Int} (ht : SliceK P t e k) (hx : EvC ls c x (.slice (some ⟨g, 0, none⟩) n cap)) (hy : EvC ls c y (.int q i)) (hi : i = m) (hm : m ≤ n) (hc : n ≤ cap) :
    TIf P C c ⟨dd, .slice t x (some y) none none, tp, pos, af, gd⟩ ⟨ls.toArray, ds⟩ (.slice (some ⟨g, tailOff cap m k, none⟩) (n - m) (cap - m)) :=
  ⟨fun h => .inl fun w _ => run_tailR ht rfl (eval_of (hx.of h)) (eval_of (hy.of h)) hi hm hc⟩
theorem t_firstR {t e : TypeId} {k : Nat} {x y : Operand} {g n cap m : Nat} {q : IntKind} {i : Int} (ht : SliceK P t e k) (hx : EvC ls c x (.slice (some ⟨g, 0, none⟩) n cap)) (hy : EvC ls c y (.int q i)) (hi : i = m) (hm : m ≤ cap) :
    TIf P C c ⟨dd, .slice t x none (some y) none, tp, pos, af, gd⟩ ⟨ls.toArray, ds⟩ (.slice (some ⟨g, 0, none⟩) m cap) :=
  ⟨fun h => .inl fun w _ => run_firstR ht rfl (eval_of (hx.of h)) (eval_of (hy.of h)) hi hm⟩
theorem t_lenSl {t e' e : TypeId} {k n : Nat} {s : List RowT} {v : Value} {xs : List Value} {x : Operand} (ht : P.underlying t = some (.slice e')) (hx : EvC ls c x v) (hS : Sl e k s v n xs) : TIf P C c ⟨dd, .call ⟨.builtin .len, #[x], #[t]⟩, tp, pos, af, gd⟩ ⟨ls.toArray, ds⟩ (.int .i64 n) := by
  rcases hS.way with ⟨_, rfl, rfl⟩ | ⟨g, cap, cur, _, rfl, _⟩
  · exact t_len ht hx
  · exact t_len ht hx
theorem t_lenArg {t e' : TypeId} {k n : Nat} {v : Value} {E : Nat → Array Value} {w : World} {x : Operand} (ht : P.underlying t = some (.slice e')) (hx : EvC ls c x v) (hA : ArgIs w k v n E) : TIf P C c ⟨dd, .call ⟨.builtin .len, #[x], #[t]⟩, tp, pos, af, gd⟩ ⟨ls.toArray, ds⟩ (.int .i64 n) := by
  rcases hA.way with ⟨rfl, rfl⟩ | ⟨a, cap, rfl, _⟩
  · exact t_len ht hx
  · exact t_len ht hx
/-- Bytes of the call's own, as a text, where there may be none. -/
theorem t_strSl {src e dst : TypeId} (ht : TextTy P src e dst) {x : Operand} {v : Value} {s : List RowT} {n : Nat} {e' : TypeId} {ns : List Int} (hx : EvC ls c x v) (hs : ∀ r ∈ s, r ∈ l) (hS : Sl e' 1 s v n (cellsB ns)) :
    TIf P (fun w => Own w0 w l) c ⟨dd, .convert src dst x, tp, pos, af, gd⟩ ⟨ls.toArray, ds⟩ (.string (strOfNums ns)) := by
  by_cases h0 : cellsB ns = []
  · have hn0 : ns = [] := by have := congrArg List.length h0; rw [cellsB_len] at this; exact List.eq_nil_of_length_eq_zero this
    subst hn0
    have hn : n = 0 := by have := hS.len; simp [cellsB] at this; omega
    subst hn
    rcases hS.way with ⟨_, rfl, _⟩ | ⟨g, cap, cur, rfl, rfl, h1, h2, h3, h4⟩
    · exact t_strNil ht hx
    · exact t_str ht hx (hs _ (.head _)) ⟨rfl, h1, h2, by rw [h3, Nat.mul_one], by simpa using h4⟩
  · obtain ⟨g, cap, cur, rfl, rfl, h3⟩ := hS.row h0
    exact t_str ht hx (hs _ (.head _)) h3
/-- Two texts, one behind the other. -/
theorem t_cat {ty ty' : TypeId} {x y : Operand} {a b : List Int} (hx : EvC ls c x (.string (strOfNums a))) (hy : EvC ls c y (.string (strOfNums b))) (hn : a.length + b.length ≤ 1000000) : TIf P C c ⟨dd, .binOp .add ty x y ty', tp, pos, af, gd⟩ ⟨ls.toArray, ds⟩ (.string (strOfNums (a ++ b))) := by
  refine ⟨fun e => .inl fun w _ => ?_⟩
  have : strOfNums (a ++ b) = strOfNums a ++ strOfNums b := by
    apply ByteArray.ext
    rw [ByteArray.data_append]
    apply Array.toList_inj.1
    rw [Array.toList_append]
    simp only [strOfNums_data, List.map_append]
  rw [this]
  unfold execOp
  simp only [eval_of (hx.of e), eval_of (hy.of e)]
  have hsz : ∀ l : List Int, (strOfNums l).size = l.length := fun l => by
    show (strOfNums l).data.size = l.length
    rw [← Array.length_toList, strOfNums_data, List.length_map]
  simp [eqGuard, binOp, Op.stringOp, hsz]
  omega
theorem t_strne {ty ty' : TypeId} {x y : Operand} {a b : ByteArray} (hx : EvC ls c x (.string a)) (hy : EvC ls c y (.string b)) : TIf P C c ⟨dd, .binOp .neq ty x y ty', tp, pos, af, gd⟩ ⟨ls.toArray, ds⟩ (.bool (!(a.toList == b.toList))) := by
  refine ⟨fun e => .inl fun w _ => ?_⟩
  unfold execOp
  simp only [eval_of (hx.of e), eval_of (hy.of e)]
  simp [eqGuard, binOp, Op.stringOp]
end
section
variable {P : Program} {ops : Array Oper} {rest : List Oper} {md : Region.Mode} {Q : Exit → Act → World → Prop} {n : Nat} {M : Array Bool} {ls : List Value} {ds : List Deferred} {w0 w : World} {l l' lC : List RowT} {tp : TypeId} {pos : String} {af : Array Edge} {gd : Option (Nat × Bool)} {d : Tmp} {i : Nat} {t e e' : TypeId} {k g g' off m0 m cap cap' : Nat} {cur cs : Array Value} {xs ys : List Value} {x y : Operand}
theorem wpList_appR (hR : Own w0 w l) (ht : SliceK P t e k)
    (hgd : Region.wanted ⟨some d, .call { callee := .builtin .append, args := #[x, y], argTypes := #[t, t] }, tp, pos, af, gd⟩ (yielded ops ls.toArray) = true)
    (hx : evalL ls x = some (.slice (some ⟨g, 0, none⟩) m0 cap)) (hy : evalL ls y = some (.slice (some ⟨g', off, none⟩) m cap')) (hd : Del (g, cur, e) l l') (hS : RwIs k cur m0 cap xs) (hm : (g', cs, e') ∈ l) (hP : Part cs off ys) (hl : ys.length = m * k) (h1 : ys.all (·.oneCell') = true) (hsm : m0 + m ≤ 1000000)
    (h : ∀ g2 cur' cap2 w', Own w0 w' ((g2, cur', e) :: l') → RwIs k cur' (m0 + m) cap2 (xs ++ ys) → wpList P ops Q rest ⟨(ls.set d (.slice (some ⟨g2, 0, none⟩) (m0 + m) cap2)).toArray, ds⟩ w') :
    wpList P ops Q (⟨some d, .call { callee := .builtin .append, args := #[x, y], argTypes := #[t, t] }, tp, pos, af, gd⟩ :: rest) ⟨ls.toArray, ds⟩ w := by
  obtain ⟨g2, cur', cap2, w', hr, hO, hS'⟩ := run_appR (o := ⟨some d, .call { callee := .builtin .append, args := #[x, y], argTypes := #[t, t] }, tp, pos, af, gd⟩) ht hR rfl (eval_of hx) (eval_of hy) hd hS hm hP hl h1 hsm
  exact wpList_run_value hgd hr (by rw [put_list]; exact h g2 cur' cap2 w' hO hS')
theorem opAppR (hR : Own w0 w l) (ht : SliceK P t e k) {K : Act → World → Prop}
    (hi : ops.toList[i]? = some ⟨some d, .call { callee := .builtin .append, args := #[x, y], argTypes := #[t, t] }, tp, pos, af, gd⟩) (hg : Region.wanted ⟨some d, .call { callee := .builtin .append, args := #[x, y], argTypes := #[t, t] }, tp, pos, af, gd⟩ (yielded ops ls.toArray) = true)
    (hx : evalL ls x = some (.slice (some ⟨g, 0, none⟩) m0 cap)) (hy : evalL ls y = some (.slice (some ⟨g', off, none⟩) m cap')) (hd : Del (g, cur, e) l l') (hS : RwIs k cur m0 cap xs) (hm : (g', cs, e') ∈ l) (hP : Part cs off ys) (hl : ys.length = m * k) (h1 : ys.all (·.oneCell') = true) (hsm : m0 + m ≤ 1000000)
    (h : ∀ g2 cur' cap2 w', Own w0 w' ((g2, cur', e) :: l') → RwIs k cur' (m0 + m) cap2 (xs ++ ys) → K ⟨(ls.set d (.slice (some ⟨g2, 0, none⟩) (m0 + m) cap2)).toArray, ds⟩ w') : wpOp P ops Q i K ⟨ls.toArray, ds⟩ w := by
  obtain ⟨g2, cur', cap2, w', hr, hO, hS'⟩ := run_appR (o := ⟨some d, .call { callee := .builtin .append, args := #[x, y], argTypes := #[t, t] }, tp, pos, af, gd⟩) ht hR rfl (eval_of hx) (eval_of hy) hd hS hm hP hl h1 hsm
  refine wpOp_kn hi hg hr ?_
  show K ((⟨ls.toArray, ds⟩ : Act).put (some d) _) _
  rw [put_list]
  exact h g2 cur' cap2 w' hO hS'
theorem wpG_appR (hR : Own w0 w l) (hr : Region.ready md ops M = [i]) (ht : SliceK P t e k)
    (hi : ops.toList[i]? = some ⟨some d, .call { callee := .builtin .append, args := #[x, y], argTypes := #[t, t] }, tp, pos, af, gd⟩) (hg : Region.wanted ⟨some d, .call { callee := .builtin .append, args := #[x, y], argTypes := #[t, t] }, tp, pos, af, gd⟩ (yielded ops ls.toArray) = true)
    (hx : evalL ls x = some (.slice (some ⟨g, 0, none⟩) m0 cap)) (hy : evalL ls y = some (.slice (some ⟨g', off, none⟩) m cap')) (hd : Del (g, cur, e) l l') (hS : RwIs k cur m0 cap xs) (hm : (g', cs, e') ∈ l) (hP : Part cs off ys) (hl : ys.length = m * k) (h1 : ys.all (·.oneCell') = true) (hsm : m0 + m ≤ 1000000) (hs : lC.Sublist l')
    (h : ∀ g2 cur' cap2 w', Own w0 w' ((g2, cur', e) :: l') → RwIs k cur' (m0 + m) cap2 (xs ++ ys) → wpG P md ops (fun w => Own w0 w lC) Q n (M.setIfInBounds i true) ⟨(ls.set d (.slice (some ⟨g2, 0, none⟩) (m0 + m) cap2)).toArray, ds⟩ w') : wpG P md ops (fun w => Own w0 w lC) Q (n + 1) M ⟨ls.toArray, ds⟩ w := by
  refine wpG_next hr (by simp) ?_
  intro w1 hb _ k' hk
  obtain rfl := List.mem_singleton.1 hk
  exact opAppR (hR.grow hb) ht hi hg hx hy hd hS hm hP hl h1 hsm fun g2 cur' cap2 w' hO hS' => ⟨hO.tail.drop hs, h g2 cur' cap2 w' hO hS'⟩
end
end Go.Proofs.YtjecckmcjcikdaaDoor
