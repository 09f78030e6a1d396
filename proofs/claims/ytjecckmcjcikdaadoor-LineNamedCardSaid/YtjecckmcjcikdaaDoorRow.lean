/- What the blocks of a call's own hold, kept as a list ('Own'); the laws of the operations that make, read and write such blocks, in a plain region and in one that draws its order ('wpG': quiet operations first, whatever else comes in whichever order). No statement of the seat is proved here. -/
import Derived.WalkKit
import Derived.ProofKit
import Derived.Deep.MidRow
import Derived.Deep.RegionHeld3
import Derived.Lib.Hide
namespace Go.Proofs.YtjecckmcjcikdaaDoor
open Go.ChangeShapes Go.WideShapes Go.ChangeAt Go.RowKit
set_option linter.unusedVariables false
set_option linter.unusedSimpArgs false

abbrev RowT := Nat × Array Value × TypeId

/-- In 'w' each listed block, none of which was there in 'w0', holds its cells; below it is as in 'w0'. -/
structure Own (w0 w : World) (l : List RowT) : Prop where
  below : Below w0.heap.size w0 w
  here : ∀ x ∈ l, w0.heap.size ≤ x.1 ∧ w.heap[x.1]? = some (.cells x.2.1 x.2.2 (0, 0))
  apart : (l.map (·.1)).Nodup

theorem Own.start (w : World) : Own w w [] := ⟨Below.refl _ _, (fun _ h => nomatch h), List.nodup_nil⟩
theorem Own.lt {w0 w : World} {l : List RowT} (h : Own w0 w l) {x : RowT} (hx : x ∈ l) : x.1 < w.heap.size := (Array.getElem?_eq_some_iff.1 (h.here x hx).2).1
theorem Own.get {w0 w : World} {l : List RowT} (h : Own w0 w l) {g : Nat} {c : Array Value} {t : TypeId} (hx : (g, c, t) ∈ l) : w.heap[g]? = some (.cells c t (0, 0)) := (h.here _ hx).2
theorem Own.grow {w0 w w' : World} {l : List RowT} (h : Own w0 w l) (hb : Below w.heap.size w w') : Own w0 w' l :=
  ⟨h.below.trans (hb.mono h.below.size), fun x hx => ⟨(h.here x hx).1, by rw [hb.block x.1 (h.lt hx)]; exact (h.here x hx).2⟩, h.apart⟩
theorem Own.tail {w0 w : World} {x : RowT} {l : List RowT} (h : Own w0 w (x :: l)) : Own w0 w l :=
  ⟨h.below, fun y hy => h.here y (.tail _ hy), (List.nodup_cons.1 h.apart).2⟩
theorem Own.drew {w0 w : World} {l : List RowT} (h : Own w0 w l) : Own w0 w.drew l := h.grow (Below.refl _ w).drew
theorem Own.alloc {w0 w : World} {l : List RowT} (h : Own w0 w l) (c : Array Value) (t : TypeId) : Own w0 (w.alloc (.cells c t)) ((w.heap.size, c, t) :: l) := by
  refine ⟨h.below.alloc h.below.size _, fun x hx => ?_, ?_⟩
  · cases hx with
    | head => exact ⟨h.below.size, _root_.Go.heap_alloc_new _ _⟩
    | tail _ hx => exact ⟨(h.here x hx).1, by rw [Below.heap_alloc _ _ _ (h.lt hx)]; exact (h.here x hx).2⟩
  · refine List.nodup_cons.2 ⟨fun hm => ?_, h.apart⟩
    obtain ⟨y, hy, he⟩ := List.mem_map.1 hm
    have h1 := h.lt hy
    have h2 : y.1 = w.heap.size := he
    omega

/-- The list with other cells for one block. -/
inductive Upd (g : Nat) (c' : Array Value) : List RowT → List RowT → Prop where
  | head {c : Array Value} {t : TypeId} {l : List RowT} : Upd g c' ((g, c, t) :: l) ((g, c', t) :: l)
  | tail {x : RowT} {l l' : List RowT} : Upd g c' l l' → Upd g c' (x :: l) (x :: l')

theorem Upd.keys {g : Nat} {c' : Array Value} {l l' : List RowT} (h : Upd g c' l l') : l'.map (·.1) = l.map (·.1) := by
  induction h with
  | head => rfl
  | tail _ ih => simp only [List.map_cons, ih]
theorem Upd.old {g : Nat} {c' : Array Value} {l l' : List RowT} (h : Upd g c' l l') : g ∈ l.map (·.1) := by
  induction h with
  | head => simp
  | tail _ ih => simp only [List.map_cons]; exact .tail _ ih
theorem Upd.mem {g : Nat} {c' : Array Value} {l l' : List RowT} (h : Upd g c' l l') (hn : (l.map (·.1)).Nodup) :
    ∀ x ∈ l', (x.1 = g ∧ x.2.1 = c' ∧ ∃ c, (g, c, x.2.2) ∈ l) ∨ (x.1 ≠ g ∧ x ∈ l) := by
  induction h with
  | @head c t l =>
    intro x hx
    cases hx with
    | head => exact .inl ⟨rfl, rfl, c, .head _⟩
    | tail _ hx =>
      refine .inr ⟨fun e => ?_, .tail _ hx⟩
      refine (List.nodup_cons.1 hn).1 ?_
      exact e ▸ List.mem_map.2 ⟨x, hx, rfl⟩
  | @tail y l l' h ih =>
    have hn' := List.nodup_cons.1 hn
    intro x hx
    cases hx with
    | head => exact .inr ⟨fun e => hn'.1 (by have h1 := h.old; rw [← e] at h1; exact h1), .head _⟩
    | tail _ hx =>
      rcases ih hn'.2 x hx with ⟨a, b, c, d⟩ | ⟨a, b⟩
      · exact .inl ⟨a, b, c, .tail _ d⟩
      · exact .inr ⟨a, .tail _ b⟩

theorem Own.set {w0 w : World} {l l' : List RowT} {g : Nat} {c' : Array Value} (h : Own w0 w l) (hu : Upd g c' l l') : Own w0 (w.setRow g c') l' := by
  have hg : w0.heap.size ≤ g := by
    obtain ⟨y, hy, he⟩ := List.mem_map.1 hu.old
    have := (h.here y hy).1
    have he' : y.1 = g := he
    omega
  refine ⟨⟨h.below.os, h.below.tape, h.below.output, by simpa using h.below.size, fun k hk => ?_⟩, fun x hx => ?_, by rw [hu.keys]; exact h.apart⟩
  · rw [setRow_other _ _ _ _ (by omega)]; exact h.below.block k hk
  · rcases hu.mem h.apart x hx with ⟨a, b, c, d⟩ | ⟨a, b⟩
    · exact ⟨by omega, by rw [a, b]; exact setRow_heap _ _ c _ _ _ (h.get d)⟩
    · exact ⟨(h.here x b).1, by rw [setRow_other _ _ _ _ a]; exact (h.here x b).2⟩

/-! ### What single operations do -/
section
variable {P : Program}

/-- The cells of a row from a place on, overwritten. -/
def putList (c : Array Value) : Nat → List Value → Array Value
  | _, [] => c
  | k, v :: vs => putList (c.setIfInBounds k v) (k + 1) vs
/-- .. as a relation: what does not fit is seen at once. -/
structure PutRel (c : Array Value) (off : Nat) (vs : List Value) (c' : Array Value) : Prop where
  eq : putList c off vs = c'
structure ExtRel (c : Array Value) (off n : Nat) (s : Array Value) : Prop where
  eq : c.extract off (off + n) = s
theorem putList_size : ∀ (vs : List Value) (c : Array Value) (k : Nat), (putList c k vs).size = c.size
  | [], _, _ => rfl
  | v :: vs, c, k => by rw [putList, putList_size vs]; simp

theorem putList_get : ∀ (vs : List Value) (c : Array Value) (k j : Nat), k + vs.length ≤ c.size → (putList c k vs)[j]? = if k ≤ j ∧ j < k + vs.length then vs[j - k]? else c[j]?
  | [], c, k, j, _ => by
    rw [if_neg (by simp)]
    rfl
  | v :: vs, c, k, j, h => by
    simp only [List.length_cons] at h
    rw [putList, putList_get vs _ (k + 1) j (by simp; omega)]
    simp only [List.length_cons]
    by_cases h1 : k = j
    · subst h1
      rw [if_neg (by omega), if_pos (by omega)]
      simp [show k < c.size by omega]
    · by_cases h2 : k + 1 ≤ j ∧ j < k + 1 + vs.length
      · rw [if_pos h2, if_pos (by omega), show j - k = (j - (k + 1)) + 1 by omega, List.getElem?_cons_succ]
      · rw [if_neg h2, if_neg (by omega), Array.getElem?_setIfInBounds_ne h1]
theorem putList_all {c s : Array Value} (h : c.size = s.size) : PutRel c 0 s.toList s := by
  constructor
  apply Array.ext_getElem?
  intro j
  rw [putList_get _ _ _ _ (by simp [h])]
  by_cases hj : j < s.size
  · rw [if_pos (by simpa using hj)]; simp
  · rw [if_neg (by simpa using hj), Array.getElem?_eq_none (by omega), Array.getElem?_eq_none (by omega)]
theorem extract_all {c : Array Value} {n : Nat} (h : c.size = n) : ExtRel c 0 n c := by
  constructor
  subst h
  simp

theorem World.setRow_self {w : World} {g : Nat} {c : Array Value} {t : TypeId} {fr : Nat × Nat} (hg : w.heap[g]? = some (.cells c t fr)) : w.setRow g c = w := by
  have hlt : g < w.heap.size := (Array.getElem?_eq_some_iff.1 hg).1
  have hv : w.heap[g] = .cells c t fr := (Array.getElem?_eq_some_iff.1 hg).2
  unfold World.setRow
  cases w with
  | mk heap tape drawn os output =>
    congr 1
    apply Array.ext
    · simp
    · intro k h1 h2
      simp only [Array.getElem_modify]
      split
      · rename_i hk; subst hk; simp at hv; simp [hv]
      · rfl

theorem addr_mid (b o j : Nat) : (⟨b, o, none⟩ : Addr).add j = ⟨b, o + j, none⟩ := by unfold Addr.add; split <;> simp_all

theorem run_storeMid (g o : Nat) (t : TypeId) : ∀ (vs : List Value) (i : Nat) (cur : Array Value) (w : World), w.heap[g]? = some (.cells cur t (0, 0)) → o + i + vs.length ≤ cur.size → (∀ v ∈ vs, v.oneCell' = true) →
    (storeCells ⟨g, o, none⟩ vs i).run P w = .ok () (w.setRow g (putList cur (o + i) vs))
  | [], i, cur, w, hg, _, _ => by
    simp only [storeCells, putList, World.setRow_self hg]
    rfl
  | v :: rest, i, cur, w, hg, hl, h1 => by
    have hi : o + i < cur.size := by simp at hl; omega
    have hcell : w.cell? ⟨g, o + i, none⟩ = some cur[o + i] := by simp [World.cell?, hg, hi]
    have hfro : w.frozen? ⟨g, o + i, none⟩ = false := by simp [World.frozen?, hg]
    have hst : (store ((⟨g, o, none⟩ : Addr).add i) v).run P w = .ok () (w.setRow g (cur.setIfInBounds (o + i) v)) := by
      rw [addr_mid, run_store P w _ v _ (h1 v (by simp)), hcell]
      simp [hfro, setCell_eq_setRow w g (o + i) cur t (0, 0) v hg]
    have ih := run_storeMid g o t rest (i + 1) (cur.setIfInBounds (o + i) v) (w.setRow g (cur.setIfInBounds (o + i) v)) (setRow_heap w g cur _ t _ hg) (by simp at hl ⊢; omega) (fun x hx => h1 x (by simp [hx]))
    simp only [storeCells, Sem.run_bind, hst, Result.andThen_ok, ih, setRow_setRow, putList]
    rfl

/-- A part of a row is read. -/
theorem run_loadPart {ρ : Operand → Value} {o : Oper} {w : World} {g off n : Nat} {c s : Array Value} {t ty : TypeId} {x : Operand} {d : TypeDesc} {fr : Nat × Nat} (ho : o.op = .load ty x) (hx : ρ x = .pointer (some ⟨g, off, none⟩))
    (hg : w.heap[g]? = some (.cells c t fr)) (hu : P.underlying ty = some d) (hd : d.isRow = true) (hi : (P.info? ty).map (·.size) = some n) (hs : ExtRel c off n s) (hn : s.size = n) :
    (execOp ρ o).run P w = .ok (.value (.agg s)) w := by
  have hr : w.rangeAt g off s.toList := fun j v hv => by
    have hj : j < s.size := by
      have := (List.getElem?_eq_some_iff.1 hv).1
      simpa using this
    have hv' : s[j]? = some v := by rw [← Array.getElem?_toList]; exact hv
    rw [← hs.eq] at hv'
    rw [cell_of_row _ _ _ _ _ _ hg]
    rw [Array.getElem?_extract] at hv'
    split at hv'
    · exact hv'
    · exact nomatch hv'
  unfold execOp
  simp only [ho, hx, Instr.loadAt, Instr.sureAddr, Sem.run_bind, Sem.run_pure, Result.andThen_ok, run_loadVar_mid w g off ty s.toList d hr hu hd (by rw [hi]; simp [hn]), Array.toArray_toList]

/-- One cell of a row is read. -/
theorem run_loadOne {ρ : Operand → Value} {o : Oper} {w : World} {g off : Nat} {c : Array Value} {v : Value} {t ty : TypeId} {x : Operand} {d : TypeDesc} {fr : Nat × Nat} (ho : o.op = .load ty x) (hx : ρ x = .pointer (some ⟨g, off, none⟩))
    (hg : w.heap[g]? = some (.cells c t fr)) (hu : P.underlying ty = some d) (hd : d.isRow = false) (hs' : c.toList[off]? = some v) :
    (execOp ρ o).run P w = .ok (.value v) w := by
  have hs : c[off]? = some v := by rw [← Array.getElem?_toList]; exact hs'
  have hagg : (isAgg ty).run P w = .ok false w := by
    unfold isAgg
    rw [Sem.run_bind, run_underlying hu w]
    cases d <;> simp_all
  have hc : w.cell? ⟨g, off, none⟩ = some v := by rw [cell_of_row _ _ _ _ _ _ hg, hs]
  have hl : (loadVar ty ⟨g, off, none⟩).run P w = .ok v w := by
    simp [loadVar, Sem.run_bind, hagg, hc]
  unfold execOp
  simp only [ho, hx, Instr.loadAt, Instr.sureAddr, Sem.run_bind, Sem.run_pure, Result.andThen_ok, hl]

/-- A part of a row is written. -/
theorem run_storePart {ρ : Operand → Value} {o : Oper} {w : World} {g off n : Nat} {c s c' : Array Value} {t ty : TypeId} {x y : Operand} {u : Value} (ho : o.op = .store ty x y) (hx : ρ x = .pointer (some ⟨g, off, none⟩)) (hy : ρ y = u) (hs : u.cells = s)
    (hg : w.heap[g]? = some (.cells c t (0, 0))) (hi : (P.info? ty).map (·.size) = some n) (hn : s.size = n) (hl : off + n ≤ c.size) (h1 : s.all (·.oneCell') = true) (hp : PutRel c off s.toList c') :
    (execOp ρ o).run P w = .ok .skip (w.setRow g c') := by
  have hst := run_storeMid (P := P) g off t s.toList 0 c w hg (by simp; omega) (fun v hv => (Array.all_eq_true_iff_forall_mem.1 h1) v (by simpa using hv))
  rw [Nat.add_zero, hp.eq] at hst
  have hv : (storeVar ty ⟨g, off, none⟩ u).run P w = .ok () (w.setRow g c') := by
    cases hq : P.info? ty with
    | none => simp [hq] at hi
    | some i =>
      have hz : s.size = i.size := by simp [hq] at hi; omega
      simp [storeVar, sizeOf, typeInfo, hq, hs, hz, hst]
  unfold execOp
  simp only [ho, hx, hy, Instr.storeAt, Instr.sureAddr, Sem.run_bind, Sem.run_pure, Result.andThen_ok, hv]

theorem run_assignOne {ρ : Operand → Value} {o : Oper} {x : Operand} {v : Value} (ho : o.op = .assign x) (hx : ρ x = v) (w : World) : (execOp ρ o).run P w = .ok (.value v) w := by
  unfold execOp
  simp only [ho, hx]
  rfl
theorem run_buildRow {ρ : Operand → Value} {o : Oper} {w : World} {t : TypeId} {parts : Array (Nat × Operand)} {c : Array Value} (ho : o.op = .build t parts) (hb : P.built t (parts.toList.map fun (i, x) => (i, ρ x)) = some c) :
    (execOp ρ o).run P w = .ok (.value (.agg c)) w := by
  have hb' : P.built t (parts.map fun (i, x) => (i, ρ x)).toList = some c := by rw [Array.toList_map]; exact hb
  unfold execOp
  simp only [ho, Sem.run_bind, run_build w t _ c hb', Result.andThen_ok]
  rfl
theorem cells_one {v : Value} (h : v.oneCell' = true) : v.cells = #[v] := by
  cases v <;> first | rfl | simp [Value.oneCell'] at h
theorem run_allocRow {ρ : Operand → Value} {o : Oper} {w : World} {z : Value} {c : Array Value} {ty : TypeId} (ho : o.op = .alloc ty) (hz : (P.info? ty).map (·.zero) = some (some z)) (hc : z.cells = c) :
    (execOp ρ o).run P w = .ok (.value (.pointer (some ⟨w.heap.size, 0, none⟩))) (w.alloc (.cells c ty)) := by
  cases hq : P.info? ty with
  | none => simp [hq] at hz
  | some i =>
    have hz' : i.zero = some z := by simpa [hq] using hz
    unfold execOp
    simp [ho, Instr.alloc, zeroValue, typeInfo, hq, hz', newVar, newRow, hc]

theorem run_boxRow {ρ : Operand → Value} {o : Oper} {w : World} {v : Value} {c : Array Value} {ty : TypeId} {x : Operand} (ho : o.op = .box ty x) (hx : ρ x = v) (hc : v.cells = c) :
    (execOp ρ o).run P w = .ok (.value (.pointer (some ⟨w.heap.size, 0, none⟩))) (w.alloc (.cells c ty)) := by
  unfold execOp
  simp [ho, hx, Instr.box, newVar, newRow, hc]
end

/-! ### Types by what lies in them -/
section
variable {P : Program}
/-- A type of n cells that is read and written whole. -/
def RowTy (P : Program) (ty : TypeId) (n : Nat) : Prop := ∃ d, P.underlying ty = some d ∧ d.isRow = true ∧ (P.info? ty).map (·.size) = some n
/-- A type of one cell. -/
def OneTy (P : Program) (ty : TypeId) : Prop := ∃ d, P.underlying ty = some d ∧ d.isRow = false ∧ (P.info? ty).map (·.size) = some 1
/-- A type's zero value. -/
def ZeroTy (P : Program) (ty : TypeId) (c : Array Value) : Prop := (P.info? ty).map (·.zero) = some (some (.agg c))
theorem ZeroTy.of {ty : TypeId} {c : Array Value} (h : (P.info? ty).map (·.zero) = some (some (.agg c))) : ZeroTy P ty c := h
theorem RowTy.of {ty : TypeId} {d : TypeDesc} {n : Nat} (hu : P.underlying ty = some d) (hd : d.isRow = true) (hi : (P.info? ty).map (·.size) = some n) : RowTy P ty n := ⟨d, hu, hd, hi⟩
theorem OneTy.of {ty : TypeId} {d : TypeDesc} (hu : P.underlying ty = some d) (hd : d.isRow = false) (hi : (P.info? ty).map (·.size) = some 1) : OneTy P ty := ⟨d, hu, hd, hi⟩
/-- What a 'build' gives. -/
structure Built (P : Program) (t : TypeId) (ps : List (Nat × Value)) (c : Array Value) : Prop where
  eq : P.built t ps = some c
end

/-- What stands in a slot, or is a constant: reckoned to the end. -/
def evalL (ls : List Value) : Operand → Option Value
  | .tmp t => ls[t]?
  | .const c => some c
  | _ => none
def evalAll (ls : List Value) : List Operand → Option (List Value)
  | [] => some []
  | x :: xs => match evalL ls x, evalAll ls xs with
    | some v, some vs => some (v :: vs)
    | _, _ => none
def evalParts (ls : List Value) : List (Nat × Operand) → Option (List (Nat × Value))
  | [] => some []
  | p :: xs => match evalL ls p.2, evalParts ls xs with
    | some v, some vs => some ((p.1, v) :: vs)
    | _, _ => none
theorem eval_of {ls : List Value} {ds : List Deferred} {x : Operand} {v : Value} (h : evalL ls x = some v) : (⟨ls.toArray, ds⟩ : Act).eval x = v := by
  cases x <;> simp only [evalL] at h
  case tmp t => simp [Act.eval, h]
  case const c => exact Option.some.inj h
  all_goals exact nomatch h
theorem evalAll_of {ls : List Value} {ds : List Deferred} : ∀ {xs : List Operand} {vs : List Value}, evalAll ls xs = some vs → xs.map (⟨ls.toArray, ds⟩ : Act).eval = vs
  | [], vs, h => Option.some.inj h
  | x :: xs, vs, h => by
    unfold evalAll at h
    cases h1 : evalL ls x with
    | none => simp [h1] at h
    | some v =>
      cases h2 : evalAll ls xs with
      | none => simp [h1, h2] at h
      | some us =>
        simp only [h1, h2, Option.some.injEq] at h
        rw [← h, List.map_cons, eval_of h1, evalAll_of h2]
theorem evalParts_of {ls : List Value} {ds : List Deferred} : ∀ {xs : List (Nat × Operand)} {vs : List (Nat × Value)}, evalParts ls xs = some vs → (xs.map fun (i, x) => (i, (⟨ls.toArray, ds⟩ : Act).eval x)) = vs
  | [], vs, h => Option.some.inj h
  | p :: xs, vs, h => by
    unfold evalParts at h
    cases h1 : evalL ls p.2 with
    | none => simp [h1] at h
    | some v =>
      cases h2 : evalParts ls xs with
      | none => simp [h1, h2] at h
      | some us =>
        simp only [h1, h2, Option.some.injEq] at h
        have h3 := evalParts_of (ds := ds) h2
        rw [← h, List.map_cons, h3]
        simp only [eval_of h1]

theorem put_list (l : List Value) (ds : List Deferred) (d : Tmp) (v : Value) : (⟨l.toArray, ds⟩ : Act).put (some d) v = ⟨(l.set d v).toArray, ds⟩ := by
  simp [Act.put]

/-! ### In a plain region -/
section
variable {P : Program} {ops : Array Oper} {rest : List Oper} {tp : TypeId} {pos : String} {af : Array Edge} {gd : Option (Nat × Bool)} {ls : List Value} {ds : List Deferred} {w0 w : World} {l : List RowT} {Q : Exit → Act → World → Prop}

theorem wpList_run_value {o : Oper} {a : Act} {v : Value} {w' : World} (hgd : Region.wanted o (yielded ops a.tmps) = true) (hr : (execOp a.eval o).run P w = .ok (.value v) w') (h : wpList P ops Q rest (a.put o.dst v) w') : wpList P ops Q (o :: rest) a w :=
  wpList_step fun _ hK => by rw [if_pos hgd]; unfold Oper.wp; rw [hr]; exact hK _ _ h
theorem wpList_run_skip {o : Oper} {a : Act} {w' : World} (hgd : Region.wanted o (yielded ops a.tmps) = true) (hr : (execOp a.eval o).run P w = .ok .skip w') (h : wpList P ops Q rest (a.put o.dst undef) w') : wpList P ops Q (o :: rest) a w :=
  wpList_step fun _ hK => by rw [if_pos hgd]; unfold Oper.wp; rw [hr]; exact hK _ _ h

theorem wpList_box (hR : Own w0 w l) {d : Tmp} {c : Array Value} {ty : TypeId} {x : Operand} (hgd : Region.wanted ⟨some d, .box ty x, tp, pos, af, gd⟩ (yielded ops ls.toArray) = true) (hx : evalL ls x = some (.agg c))
    (h : ∀ g w', Own w0 w' ((g, c, ty) :: l) → wpList P ops Q rest ⟨(ls.set d (.pointer (some ⟨g, 0, none⟩))).toArray, ds⟩ w') : wpList P ops Q (⟨some d, .box ty x, tp, pos, af, gd⟩ :: rest) ⟨ls.toArray, ds⟩ w :=
  wpList_run_value hgd (run_boxRow rfl (eval_of hx) rfl) (by rw [put_list]; exact h _ _ (hR.alloc c ty))
theorem wpList_make (hR : Own w0 w l) {ty : TypeId} {c : Array Value} (hz : ZeroTy P ty c) {d : Tmp} (hgd : Region.wanted ⟨some d, .alloc ty, tp, pos, af, gd⟩ (yielded ops ls.toArray) = true)
    (h : ∀ g w', Own w0 w' ((g, c, ty) :: l) → wpList P ops Q rest ⟨(ls.set d (.pointer (some ⟨g, 0, none⟩))).toArray, ds⟩ w') : wpList P ops Q (⟨some d, .alloc ty, tp, pos, af, gd⟩ :: rest) ⟨ls.toArray, ds⟩ w :=
  wpList_run_value hgd (run_allocRow rfl hz rfl) (by rw [put_list]; exact h _ _ (hR.alloc c ty))
theorem wpList_part {ls' : List Value} (hR : Own w0 w l) {ty : TypeId} {n : Nat} (ht : RowTy P ty n) {d : Tmp} {g off : Nat} {c s : Array Value} {t : TypeId} {x : Operand} (hgd : Region.wanted ⟨some d, .load ty x, tp, pos, af, gd⟩ (yielded ops ls.toArray) = true)
    (hx : evalL ls x = some (.pointer (some ⟨g, off, none⟩))) (hm : (g, c, t) ∈ l) (hs : ExtRel c off n s) (hn : s.size = n)
    (hls : ls.set d (.agg s) = ls') (h : wpList P ops Q rest ⟨ls'.toArray, ds⟩ w) : wpList P ops Q (⟨some d, .load ty x, tp, pos, af, gd⟩ :: rest) ⟨ls.toArray, ds⟩ w := by
  obtain ⟨d, hu, hd, hi⟩ := ht
  exact wpList_run_value hgd (run_loadPart rfl (eval_of hx) (hR.get hm) hu hd hi hs hn) (by rw [put_list, hls]; exact h)
theorem wpList_one {ls' : List Value} (hR : Own w0 w l) {ty : TypeId} (ht : OneTy P ty) {d : Tmp} {g off : Nat} {c : Array Value} {v : Value} {t : TypeId} {x : Operand} (hgd : Region.wanted ⟨some d, .load ty x, tp, pos, af, gd⟩ (yielded ops ls.toArray) = true)
    (hx : evalL ls x = some (.pointer (some ⟨g, off, none⟩))) (hm : (g, c, t) ∈ l) (hs : c.toList[off]? = some v)
    (hls : ls.set d v = ls') (h : wpList P ops Q rest ⟨ls'.toArray, ds⟩ w) : wpList P ops Q (⟨some d, .load ty x, tp, pos, af, gd⟩ :: rest) ⟨ls.toArray, ds⟩ w := by
  obtain ⟨d, hu, hd, _⟩ := ht
  exact wpList_run_value hgd (run_loadOne rfl (eval_of hx) (hR.get hm) hu hd hs) (by rw [put_list, hls]; exact h)
theorem wpList_put (hR : Own w0 w l) {ty : TypeId} {n : Nat} (ht : RowTy P ty n) {g off : Nat} {c s c' : Array Value} {t : TypeId} {x y : Operand} {l' : List RowT} (hgd : Region.wanted ⟨none, .store ty x y, tp, pos, af, gd⟩ (yielded ops ls.toArray) = true)
    (hx : evalL ls x = some (.pointer (some ⟨g, off, none⟩))) (hy : evalL ls y = some (.agg s)) (hm : (g, c, t) ∈ l) (hp : PutRel c off s.toList c') (hn : s.size = n) (hl : off + n ≤ c.size) (h1 : s.all (·.oneCell') = true) (hu : Upd g c' l l')
    (h : ∀ w', Own w0 w' l' → wpList P ops Q rest ⟨ls.toArray, ds⟩ w') : wpList P ops Q (⟨none, .store ty x y, tp, pos, af, gd⟩ :: rest) ⟨ls.toArray, ds⟩ w := by
  obtain ⟨d, _, hd, hi⟩ := ht
  exact wpList_run_skip hgd (run_storePart rfl (eval_of hx) (eval_of hy) rfl (hR.get hm) hi hn hl h1 hp) (h _ (hR.set hu))
theorem wpList_put1 (hR : Own w0 w l) {ty : TypeId} (ht : OneTy P ty) {g off : Nat} {c c' : Array Value} {t : TypeId} {x y : Operand} {v : Value} {l' : List RowT} (hgd : Region.wanted ⟨none, .store ty x y, tp, pos, af, gd⟩ (yielded ops ls.toArray) = true)
    (hx : evalL ls x = some (.pointer (some ⟨g, off, none⟩))) (hy : evalL ls y = some v) (hm : (g, c, t) ∈ l) (hp : PutRel c off [v] c') (hl : off + 1 ≤ c.size) (h1 : v.oneCell' = true) (hu : Upd g c' l l')
    (h : ∀ w', Own w0 w' l' → wpList P ops Q rest ⟨ls.toArray, ds⟩ w') : wpList P ops Q (⟨none, .store ty x y, tp, pos, af, gd⟩ :: rest) ⟨ls.toArray, ds⟩ w := by
  obtain ⟨d, _, hd, hi⟩ := ht
  exact wpList_run_skip hgd (run_storePart (s := #[v]) rfl (eval_of hx) (eval_of hy) (cells_one h1) (hR.get hm) hi rfl hl (by simp [h1]) hp) (h _ (hR.set hu))
theorem wpList_built {ls' : List Value} {t : TypeId} {c : Array Value} {d : Tmp} {parts : Array (Nat × Operand)} (hgd : Region.wanted ⟨some d, .build t parts, tp, pos, af, gd⟩ (yielded ops ls.toArray) = true) {ps : List (Nat × Value)} (hq : evalParts ls parts.toList = some ps) (hb : Built P t ps c)
    (hls : ls.set d (.agg c) = ls') (h : wpList P ops Q rest ⟨ls'.toArray, ds⟩ w) : wpList P ops Q (⟨some d, .build t parts, tp, pos, af, gd⟩ :: rest) ⟨ls.toArray, ds⟩ w :=
  wpList_run_value hgd (run_buildRow rfl (by rw [evalParts_of hq]; exact hb.eq)) (by rw [put_list, hls]; exact h)
end

/-! ### In a region that draws its order -/
section
variable {P : Program} {ops : Array Oper} {md : Region.Mode} {C : World → Prop} {Q : Exit → Act → World → Prop}

/-- In every world of the class the operation yields this value; a call may add blocks, and leaves a world of the class. -/
def Tame (P : Program) (C : World → Prop) (o : Oper) (a : Act) (v : Value) : Prop :=
  (∀ w, C w → (execOp a.eval o).run P w = .ok (.value v) w) ∨
  (∃ f args, (∀ w, (execOp a.eval o).run P w = .ok (.enter f args) w) ∧ ∀ w, C w → Calls P f args w fun e w' => e = .returned v ∧ Below w.heap.size w w' ∧ C w')

def TameAt (P : Program) (ops : Array Oper) (C : World → Prop) (o : Oper) (v : Value) (a : Act) : Prop :=
  (Region.wanted o (yielded ops a.tmps) = true ∧ Tame P C o a v) ∨ (Region.wanted o (yielded ops a.tmps) = false ∧ v = undef)

theorem TameAt.of_same {o : Oper} {v : Value} {a a' : Act} (h : TameAt P ops C o v a) (he : execOp a'.eval o = execOp a.eval o) (hw : Region.wanted o (yielded ops a'.tmps) = Region.wanted o (yielded ops a.tmps)) : TameAt P ops C o v a' := by
  unfold TameAt Tame at *
  rw [he, hw]
  exact h

/-- Whatever comes next, and blocks may have been added before it. -/
def wpG (P : Program) (md : Region.Mode) (ops : Array Oper) (C : World → Prop) (Q : Exit → Act → World → Prop) : Nat → Array Bool → Act → World → Prop
  | 0, L, a, w => ∀ w', Below w.heap.size w w' → C w' → Region.ready md ops L = [] ∧ Q .normal a w'
  | n + 1, L, a, w => ∀ w', Below w.heap.size w w' → C w' → (Region.ready md ops L = [] → Q .normal a w') ∧
      ∀ i ∈ Region.ready md ops L, wpOp P ops Q i (fun a' w'' => C w'' ∧ wpG P md ops C Q n (L.setIfInBounds i true) a' w'') a w'

theorem below_more {a b c : World} (h : Below a.heap.size a b) (k : Below b.heap.size b c) : Below a.heap.size a c := h.trans (k.mono h.size)

theorem wpG.grow {n : Nat} {L : Array Bool} {a : Act} {w w' : World} (h : wpG P md ops C Q n L a w) (hb : Below w.heap.size w w') : wpG P md ops C Q n L a w' := by
  cases n with
  | zero => exact fun w2 h2 hC => h w2 (below_more hb h2) hC
  | succ n => exact fun w2 h2 hC => h w2 (below_more hb h2) hC

theorem wpAny_of_wpG : ∀ (n : Nat) (L : Array Bool) (a : Act) (w : World), C w → wpG P md ops C Q n L a w → wpAny P md ops Q n L a w
  | 0, _, _, w, hC, h => h w (Below.refl _ _) hC
  | n + 1, _, _, w, hC, h => ⟨(h w (Below.refl _ _) hC).1, fun i hi => wpOp_mono (fun a' w' hk => wpAny_of_wpG n _ a' w' hk.1 hk.2) ((h w (Below.refl _ _) hC).2 i hi)⟩

theorem wpOp_of_tame {i : Nat} {o : Oper} {v : Value} {a : Act} {w : World} {K : Act → World → Prop} (hi : ops[i]? = some o) (hy : TameAt P ops C o v a) (hC : C w)
    (h : ∀ w', Below w.heap.size w w' → C w' → K (a.put o.dst v) w') : wpOp P ops Q i K a w := by
  unfold wpOp
  simp only [hi]
  rcases hy with ⟨hw, ht⟩ | ⟨hw, rfl⟩
  · rw [if_pos hw]
    refine .inl ?_
    unfold Oper.wp
    rcases ht with ht | ⟨f, args, hr, hc⟩
    · rw [ht w hC]
      exact h w (Below.refl _ _) hC
    · rw [hr w]
      refine Calls.mono (hc w hC) fun e w' hk => ?_
      obtain ⟨rfl, hb, hC'⟩ := hk
      exact h w' hb hC'
  · rw [if_neg (by rw [hw]; exact Bool.false_ne_true)]
    exact h w (Below.refl _ _) hC

/-- One operation, apart from a tame one: whether the tame one's value lies already in its slot makes no difference. -/
theorem wpOp_putTame {j : Nat} {oi oj : Oper} {v : Value} (hj : ops[j]? = some oj) (hap : oi.apart ops oj = true) (hsi : ∀ cs b, oi.op ≠ .select cs b) (hsj : ∀ cs b, oj.op ≠ .select cs b)
    (hQ : ∀ c a w, ¬ Q (.panic c) a w) {K : Act → World → Prop} {a : Act} {w : World} (hy : TameAt P ops C oi v a) (h : wpOp P ops Q j K (a.put oi.dst v) w) :
    wpOp P ops Q j (fun a' w' => TameAt P ops C oi v a' ∧ K (a'.put oi.dst v) w') a w := by
  obtain ⟨h1, h2, h3⟩ := Oper.apart_spec hap
  have keep : ∀ u, TameAt P ops C oi v (a.put oj.dst u) := fun u => hy.of_same (execOp_put oi hsi a oj.dst u h3) (wanted_put oi a oj.dst u h3)
  have turn : ∀ {u w'}, K ((a.put oi.dst v).put oj.dst u) w' → TameAt P ops C oi v (a.put oj.dst u) ∧ K ((a.put oj.dst u).put oi.dst v) w' := fun {u w'} hk =>
    ⟨keep u, by rw [← Act.put_comm a v u h2]; exact hk⟩
  unfold wpOp at h ⊢
  simp only [hj] at h ⊢
  rw [wanted_put oj a oi.dst v h1] at h
  by_cases hw : Region.wanted oj (yielded ops a.tmps) = true
  · rw [if_pos hw] at h ⊢
    rcases h with h | ⟨hasks, hlets⟩
    · refine .inl ?_
      unfold Oper.wp at h ⊢
      rw [execOp_put oj hsj a oi.dst v h1] at h
      revert h
      generalize (execOp a.eval oj).run P w = r
      intro h
      cases r with
      | halt x w' => cases x <;> simp only [Oper.upon] at h ⊢ <;> exact (hQ _ _ _ h).elim
      | ok n w' =>
        cases n <;> simp only [Oper.upon] at h ⊢
        case value u => exact turn h
        case skip => exact turn h
        case enter f args =>
          refine Calls.mono h fun e w'' he => ?_
          cases e with
          | returned u => exact turn he
          | panicked c => exact (hQ _ _ _ he).elim
          | outgrown => exact he
        case row row args => exact Rows.mono h fun u w'' he => turn he
        case defer d =>
          refine ⟨TameAt.of_same (a := a) hy (execOp_put (a := { a with defers := d :: a.defers }) oi hsi oj.dst undef h3) (wanted_put (a := { a with defers := d :: a.defers }) oi oj.dst undef h3), ?_⟩
          rw [← Act.put_comm _ v undef h2, ← Act.put_defers]
          exact h
    · exact .inr ⟨by unfold Oper.asks at hasks ⊢; rw [execOp_put oj hsj a oi.dst v h1] at hasks; exact hasks, hlets⟩
  · rw [if_neg hw] at h ⊢
    exact turn h

/-- A tame operation may be taken first. -/
theorem wpG_first {i : Nat} {oi : Oper} {v : Value} (hi : ops[i]? = some oi) (hsel : ∀ (j : Nat) (o : Oper) cs b, ops[j]? = some o → o.op ≠ .select cs b) (hQ : ∀ c a w, ¬ Q (.panic c) a w) :
    ∀ (n : Nat) (L : Array Bool) (a : Act) (w : World),
      (∀ j oj, ops[j]? = some oj → j ≠ i → L.getD j true = false → (∀ e ∈ oj.after, Region.binds md e = true → e.on ≠ i) → oi.apart ops oj = true) →
      i ∈ Region.ready md ops L → TameAt P ops C oi v a →
      wpG P md ops C Q n (L.setIfInBounds i true) (a.put oi.dst v) w → wpG P md ops C Q (n + 1) L a w := by
  intro n
  induction n with
  | zero =>
    intro L a w _ hr hy H w' hb hC
    refine ⟨fun h => (by rw [h] at hr; exact nomatch hr), fun j hj => ?_⟩
    by_cases hji : j = i
    · subst hji
      exact wpOp_of_tame hi hy hC fun w2 hb2 hC2 => ⟨hC2, H.grow (below_more hb hb2)⟩
    · have := ready_mono hj hji
      rw [(H w' hb hC).1] at this
      exact nomatch this
  | succ n ih =>
    intro L a w hfree hr hy H w' hb hC
    refine ⟨fun h => (by rw [h] at hr; exact nomatch hr), fun j hj => ?_⟩
    by_cases hji : j = i
    · subst hji
      exact wpOp_of_tame hi hy hC fun w2 hb2 hC2 => ⟨hC2, H.grow (below_more hb hb2)⟩
    · obtain ⟨hjun, oj, hoj, hall⟩ := mem_ready.1 hj
      have hnot : ∀ e ∈ oj.after, Region.binds md e = true → e.on ≠ i := fun e he hbd heq => by
        have k1 := hall e he hbd
        have k0 := (mem_ready.1 hr).1
        rw [heq] at k1
        rcases Nat.lt_or_ge i L.size with h' | h'
        · simp [h'] at k0 k1; rw [k0] at k1; exact nomatch k1
        · simp [Array.getElem?_eq_none h'] at k1
      have h2 := wpOp_putTame hoj (hfree j oj hoj hji hjun hnot) (fun cs b => hsel i oi cs b hi) (fun cs b => hsel j oj cs b hoj) hQ hy ((H w' hb hC).2 j (ready_mono hj hji))
      refine wpOp_mono (fun a' w2 h3 => ⟨h3.2.1, ih (L.setIfInBounds j true) a' w2 (fun k ok hk hki hun hno => hfree k ok hk hki ?_ hno) (ready_mono hr (Ne.symm hji)) h3.1 ?_⟩) h2
      · by_cases hjk : j = k
        · subst hjk; exact hjun
        · rw [getD_set_ne true hjk] at hun; exact hun
      · rw [Array.setIfInBounds_comm _ _ hji]
        exact h3.2.2

/-- The tame ones of a list, one after the other. -/
def wpT (P : Program) (ops : Array Oper) (C : World → Prop) (R : Act → Prop) : List Nat → Act → Prop
  | [], a => R a
  | i :: is, a => ∃ o v, ops[i]? = some o ∧ TameAt P ops C o v a ∧ wpT P ops C R is (a.put o.dst v)

def firstB (md : Region.Mode) (ops : Array Oper) : List Nat → Array Bool → Bool
  | [], _ => true
  | i :: is, L => (Region.ready md ops L).contains i && Region.free md ops L i && firstB md ops is (L.setIfInBounds i true)
def marks : List Nat → Array Bool → Array Bool
  | [], L => L
  | i :: is, L => marks is (L.setIfInBounds i true)

theorem wpG_of_wpT (hs : Region.noSelect ops = true) (hQ : ∀ c a w, ¬ Q (.panic c) a w) (n : Nat) (w : World) : ∀ (is : List Nat) (L : Array Bool) (a : Act), firstB md ops is L = true →
    wpT P ops C (fun a' => wpG P md ops C Q n (marks is L) a' w) is a → wpG P md ops C Q (n + is.length) L a w
  | [], _, _, _, h => h
  | i :: is, L, a, hB, h => by
    obtain ⟨o, v, ho, hy, h⟩ := h
    simp only [firstB, Bool.and_eq_true] at hB
    have := wpG_of_wpT hs hQ n w is (L.setIfInBounds i true) (a.put o.dst v) hB.2 h
    exact wpG_first ho (Region.noSelect_spec hs) hQ (n + is.length) L a w (Region.free_spec ho hB.1.2) (by simpa using hB.1.1) hy this

/-- THE BEGINNING: the quiet ones of the list first; behind them what is left, in whichever order. -/
theorem wp_region_own {id : Nat} {ls : List Oper} {a : Act} {w : World} (C : World → Prop) (is : List Nat) (n : Nat) (hm : P.follows .mixedOrders = true) (hs : Region.noSelect ls.toArray = true)
    (hB : firstB .any ls.toArray is (Array.replicate ls.toArray.size false) = true) (hn : n + is.length = ls.toArray.size) (hC : C w.drew)
    (h : wpT P ls.toArray C (fun a' => wpG P .any ls.toArray C (NoPanic Q) n (marks is (Array.replicate ls.toArray.size false)) a' w.drew) is a) : (Code.region id ls.toArray true).wp P Q a w := by
  refine wp_region_noPanic (wp_region_any hm ?_)
  have hg := wpG_of_wpT (md := .any) hs (Q := NoPanic Q) (fun _ _ _ h => h) n w.drew is _ a hB h
  rw [hn] at hg
  exact wpAny_of_wpG _ _ _ _ hC hg

theorem wpT_nil {R : Act → Prop} {a : Act} (h : R a) : wpT P ops C R [] a := h
theorem wpT_val {R : Act → Prop} {a : Act} {i : Nat} {is : List Nat} {o : Oper} {v : Value} (hi : ops.toList[i]? = some o) (hw : Region.wanted o (yielded ops a.tmps) = true) (hv : ∀ w, C w → (execOp a.eval o).run P w = .ok (.value v) w)
    (h : wpT P ops C R is (a.put o.dst v)) : wpT P ops C R (i :: is) a := ⟨o, v, by simpa using hi, .inl ⟨hw, .inl hv⟩, h⟩
theorem wpT_call {R : Act → Prop} {a : Act} {i : Nat} {is : List Nat} {o : Oper} {v : Value} {f : FuncId} {args : Array Value} (hi : ops.toList[i]? = some o) (hw : Region.wanted o (yielded ops a.tmps) = true) (hr : ∀ w, (execOp a.eval o).run P w = .ok (.enter f args) w)
    (hc : ∀ w, C w → Calls P f args w fun e w' => e = .returned v ∧ Below w.heap.size w w' ∧ C w') (h : wpT P ops C R is (a.put o.dst v)) : wpT P ops C R (i :: is) a := ⟨o, v, by simpa using hi, .inl ⟨hw, .inr ⟨f, args, hr, hc⟩⟩, h⟩
theorem wpT_skip {R : Act → Prop} {a : Act} {i : Nat} {is : List Nat} {o : Oper} (hi : ops.toList[i]? = some o) (hw : Region.wanted o (yielded ops a.tmps) = false) (h : wpT P ops C R is (a.put o.dst undef)) : wpT P ops C R (i :: is) a :=
  ⟨o, undef, by simpa using hi, .inr ⟨hw, rfl⟩, h⟩
/-- An operation that asks nothing of the world: its value is reckoned by the walk's simp. -/
theorem wpT_pure {R : Act → Prop} {a : Act} {i : Nat} {is : List Nat} {o : Oper} (hi : ops.toList[i]? = some o) (hw : Region.wanted o (yielded ops a.tmps) = true)
    (h : ∀ K : Act → Prop, (∀ a', wpT P ops C R is a' → K a') → ∃ v, (∀ w, (execOp a.eval o).run P w = .ok (.value v) w) ∧ K (a.put o.dst v)) : wpT P ops C R (i :: is) a := by
  obtain ⟨v, h1, h2⟩ := h _ (fun _ h => h)
  exact ⟨o, v, by simpa using hi, .inl ⟨hw, .inl fun w _ => h1 w⟩, h2⟩

/-- A call: which, and with what, is reckoned by the walk's simp. -/
theorem wpT_enter {R : Act → Prop} {a : Act} {i : Nat} {is : List Nat} {o : Oper} (hi : ops.toList[i]? = some o) (hw : Region.wanted o (yielded ops a.tmps) = true)
    (h : ∀ K : FuncId → Array Value → Prop, (∀ f args v, (∀ w, C w → Calls P f args w fun e w' => e = .returned v ∧ Below w.heap.size w w' ∧ C w') → wpT P ops C R is (a.put o.dst v) → K f args) →
      ∃ f args, (∀ w, (execOp a.eval o).run P w = .ok (.enter f args) w) ∧ K f args) : wpT P ops C R (i :: is) a := by
  obtain ⟨f, args, hr, v, hc, hk⟩ := h (fun f args => ∃ v, (∀ w, C w → Calls P f args w fun e w' => e = .returned v ∧ Below w.heap.size w w' ∧ C w') ∧ wpT P ops C R is (a.put o.dst v)) (fun f args v h1 h2 => ⟨v, h1, h2⟩)
  exact wpT_call hi hw hr hc hk
theorem tame_same {f : FuncId} {args : Array Value} {w : World} {v : Value} (h : Calls P f args w fun e w' => e = .returned v ∧ w = w') (hC : C w) :
    Calls P f args w fun e w' => e = .returned v ∧ Below w.heap.size w w' ∧ C w' :=
  h.mono fun _ _ ⟨he, hw⟩ => ⟨he, hw ▸ Below.refl _ _, hw ▸ hC⟩
theorem tame_below {f : FuncId} {args : Array Value} {w0 w : World} {l : List RowT} {v : Value} (h : Calls P f args w fun e w' => e = .returned v ∧ Below w.heap.size w w') (hC : Own w0 w l) :
    Calls P f args w fun e w' => e = .returned v ∧ Below w.heap.size w w' ∧ Own w0 w' l :=
  h.mono fun _ _ ⟨he, hb⟩ => ⟨he, hb, hC.grow hb⟩
/-- The beginning, with all that is known of the blocks. -/
theorem wp_region_rows {id : Nat} {ls : List Oper} {a : Act} {w0 w : World} {l : List RowT} (hR : Own w0 w l) (is : List Nat) (n : Nat) (hm : P.follows .mixedOrders = true) (hs : Region.noSelect ls.toArray = true)
    (hB : firstB .any ls.toArray is (Array.replicate ls.toArray.size false) = true) (hn : n + is.length = ls.toArray.size)
    (h : Own w0 w.drew l → wpT P ls.toArray (fun w' => Own w0 w' l) (fun a' => wpG P .any ls.toArray (fun w' => Own w0 w' l) (NoPanic Q) n (marks is (Array.replicate ls.toArray.size false)) a' w.drew) is a) : (Code.region id ls.toArray true).wp P Q a w :=
  wp_region_own (fun w' => Own w0 w' l) is n hm hs hB hn hR.drew (h hR.drew)
theorem Own.drop {w0 w : World} {l l' : List RowT} (h : Own w0 w l) (hs : l'.Sublist l) : Own w0 w l' :=
  ⟨h.below, fun x hx => h.here x (hs.subset hx), (hs.map _).nodup h.apart⟩
theorem wp_region_some {id : Nat} {ls : List Oper} {a : Act} {w0 w : World} {l : List RowT} (hR : Own w0 w l) (l' : List RowT) (hl : l'.Sublist l) (is : List Nat) (n : Nat) (hm : P.follows .mixedOrders = true) (hs : Region.noSelect ls.toArray = true)
    (hB : firstB .any ls.toArray is (Array.replicate ls.toArray.size false) = true) (hn : n + is.length = ls.toArray.size)
    (h : Own w0 w.drew l → wpT P ls.toArray (fun w' => Own w0 w' l') (fun a' => wpG P .any ls.toArray (fun w' => Own w0 w' l') (NoPanic Q) n (marks is (Array.replicate ls.toArray.size false)) a' w.drew) is a) : (Code.region id ls.toArray true).wp P Q a w :=
  wp_region_own (fun w' => Own w0 w' l') is n hm hs hB hn (hR.drew.drop hl) (h hR.drew)

/-- One operation of the list, itself. -/
def wpT1 (P : Program) (ops : Array Oper) (C : World → Prop) (R : Act → Prop) (is : List Nat) (o : Oper) (a : Act) : Prop := ∃ v, TameAt P ops C o v a ∧ wpT P ops C R is (a.put o.dst v)
theorem wpT_step {R : Act → Prop} {a : Act} {i : Nat} {is : List Nat} {o : Oper} (hi : ops.toList[i]? = some o) (h : wpT1 P ops C R is o a) : wpT P ops C R (i :: is) a := by
  obtain ⟨v, h1, h2⟩ := h
  exact ⟨o, v, by simpa using hi, h1, h2⟩
section
variable {R : Act → Prop} {is : List Nat} {tp : TypeId} {pos : String} {af : Array Edge} {gd : Option (Nat × Bool)} {ls : List Value} {ds : List Deferred} {w0 : World} {l : List RowT}
theorem wpT1_part {ls' : List Value} {ty : TypeId} {n : Nat} (ht : RowTy P ty n) {d : Tmp} {g off : Nat} {c s : Array Value} {t : TypeId} {x : Operand} (hgd : Region.wanted ⟨some d, .load ty x, tp, pos, af, gd⟩ (yielded ops ls.toArray) = true)
    (hx : evalL ls x = some (.pointer (some ⟨g, off, none⟩))) (hm : (g, c, t) ∈ l) (hs : ExtRel c off n s) (hn : s.size = n)
    (hls : ls.set d (.agg s) = ls') (h : wpT P ops (fun w => Own w0 w l) R is ⟨ls'.toArray, ds⟩) : wpT1 P ops (fun w => Own w0 w l) R is ⟨some d, .load ty x, tp, pos, af, gd⟩ ⟨ls.toArray, ds⟩ := by
  obtain ⟨d', hu, hd, hi⟩ := ht
  exact ⟨.agg s, .inl ⟨hgd, .inl fun w hC => run_loadPart rfl (eval_of hx) (hC.get hm) hu hd hi hs hn⟩, by rw [put_list, hls]; exact h⟩
theorem wpT1_one {ls' : List Value} {ty : TypeId} (ht : OneTy P ty) {d : Tmp} {g off : Nat} {c : Array Value} {v : Value} {t : TypeId} {x : Operand} (hgd : Region.wanted ⟨some d, .load ty x, tp, pos, af, gd⟩ (yielded ops ls.toArray) = true)
    (hx : evalL ls x = some (.pointer (some ⟨g, off, none⟩))) (hm : (g, c, t) ∈ l) (hs : c.toList[off]? = some v)
    (hls : ls.set d v = ls') (h : wpT P ops (fun w => Own w0 w l) R is ⟨ls'.toArray, ds⟩) : wpT1 P ops (fun w => Own w0 w l) R is ⟨some d, .load ty x, tp, pos, af, gd⟩ ⟨ls.toArray, ds⟩ := by
  obtain ⟨d', hu, hd, _⟩ := ht
  exact ⟨v, .inl ⟨hgd, .inl fun w hC => run_loadOne rfl (eval_of hx) (hC.get hm) hu hd hs⟩, by rw [put_list, hls]; exact h⟩
theorem wpT1_move {ls' : List Value} {d : Tmp} {v : Value} {x : Operand} (hgd : Region.wanted ⟨some d, .move x, tp, pos, af, gd⟩ (yielded ops ls.toArray) = true) (hx : evalL ls x = some v)
    (hls : ls.set d v = ls') (h : wpT P ops C R is ⟨ls'.toArray, ds⟩) : wpT1 P ops C R is ⟨some d, .move x, tp, pos, af, gd⟩ ⟨ls.toArray, ds⟩ :=
  ⟨v, .inl ⟨hgd, .inl fun w _ => by unfold execOp; simp only [eval_of hx]; rfl⟩, by rw [put_list, hls]; exact h⟩
theorem wpT1_assign {ls' : List Value} {d : Tmp} {v : Value} {x : Operand} (hgd : Region.wanted ⟨some d, .assign x, tp, pos, af, gd⟩ (yielded ops ls.toArray) = true) (hx : evalL ls x = some v)
    (hls : ls.set d v = ls') (h : wpT P ops C R is ⟨ls'.toArray, ds⟩) : wpT1 P ops C R is ⟨some d, .assign x, tp, pos, af, gd⟩ ⟨ls.toArray, ds⟩ :=
  ⟨v, .inl ⟨hgd, .inl fun w _ => by unfold execOp; simp only [eval_of hx]; rfl⟩, by rw [put_list, hls]; exact h⟩
theorem wpT1_pick {ls' : List Value} {d : Tmp} {b : Bool} {v : Value} {x y z : Operand} (hgd : Region.wanted ⟨some d, .pick x y z, tp, pos, af, gd⟩ (yielded ops ls.toArray) = true) (hx : evalL ls x = some (.bool b))
    (hv : evalL ls (bif b then y else z) = some v) (hls : ls.set d v = ls') (h : wpT P ops C R is ⟨ls'.toArray, ds⟩) : wpT1 P ops C R is ⟨some d, .pick x y z, tp, pos, af, gd⟩ ⟨ls.toArray, ds⟩ :=
  ⟨v, .inl ⟨hgd, .inl fun w _ => by unfold execOp; simp only [eval_of hx]; cases b <;> simpa [asBool] using (eval_of hv)⟩, by rw [put_list, hls]; exact h⟩
/-- It asks nothing of the world: the walk's simp reckons it. -/
theorem wpT1_pure {d : Tmp} {op : Op} (hgd : Region.wanted ⟨some d, op, tp, pos, af, gd⟩ (yielded ops ls.toArray) = true)
    (h : ∀ K : Value → Prop, (∀ v, wpT P ops C R is ⟨(ls.set d v).toArray, ds⟩ → K v) → ∃ v, (∀ w, (execOp (⟨ls.toArray, ds⟩ : Act).eval ⟨some d, op, tp, pos, af, gd⟩).run P w = .ok (.value v) w) ∧ K v) : wpT1 P ops C R is ⟨some d, op, tp, pos, af, gd⟩ ⟨ls.toArray, ds⟩ := by
  obtain ⟨v, h1, h2⟩ := h _ (fun _ h => h)
  exact ⟨v, .inl ⟨hgd, .inl fun w _ => h1 w⟩, by rw [put_list]; exact h2⟩
theorem wpT1_call {ls' : List Value} {f : FuncId} (hcf : ∀ (args : Array Value) w, (callFunc f args).run P w = .ok (.enter f args) w) {d : Tmp} {as : Array Operand} {ats : Array TypeId} {args : List Value} {v : Value} (hgd : Region.wanted ⟨some d, .call ⟨.value (.func f), as, ats⟩, tp, pos, af, gd⟩ (yielded ops ls.toArray) = true)
    (ha : evalAll ls as.toList = some args) (hc : ∀ w, C w → Calls P f args.toArray w fun e w' => e = .returned v ∧ Below w.heap.size w w' ∧ C w')
    (hls : ls.set d v = ls') (h : wpT P ops C R is ⟨ls'.toArray, ds⟩) : wpT1 P ops C R is ⟨some d, .call ⟨.value (.func f), as, ats⟩, tp, pos, af, gd⟩ ⟨ls.toArray, ds⟩ := by
  refine ⟨v, .inl ⟨hgd, .inr ⟨f, args.toArray, fun w => ?_, hc⟩⟩, by rw [put_list, hls]; exact h⟩
  have ha' : as.map (⟨ls.toArray, ds⟩ : Act).eval = args.toArray := by
    apply Array.toList_inj.1
    rw [Array.toList_map, evalAll_of ha]
  have hev : (⟨ls.toArray, ds⟩ : Act).eval (.func f) = .func (.func f) #[] #[] := rfl
  unfold execOp
  simp only [resolve, hev, Deferred.ofValue, ha', Sem.run_bind, Sem.run_pure, Result.andThen_ok, invoke, Array.empty_append, Array.append_empty, hcf]
theorem wpT1_skip {d : Option Tmp} {op : Op} {a : Act} (hgd : Region.wanted ⟨d, op, tp, pos, af, gd⟩ (yielded ops a.tmps) = false) (h : wpT P ops C R is (a.put d undef)) : wpT1 P ops C R is ⟨d, op, tp, pos, af, gd⟩ a :=
  ⟨undef, .inr ⟨hgd, rfl⟩, h⟩
end

theorem wpG_next {n : Nat} {L : Array Bool} {a : Act} {w : World} {rs : List Nat} (hr : Region.ready md ops L = rs) (hne : rs ≠ [])
    (h : ∀ w', Below w.heap.size w w' → C w' → ∀ i ∈ rs, wpOp P ops Q i (fun a' w'' => C w'' ∧ wpG P md ops C Q n (L.setIfInBounds i true) a' w'') a w') : wpG P md ops C Q (n + 1) L a w :=
  fun w' hb hC => ⟨fun h0 => (hne (hr ▸ h0)).elim, fun i hi => h w' hb hC i (hr ▸ hi)⟩
theorem wpG_done {n : Nat} {L : Array Bool} {a : Act} {w : World} (hr : Region.ready md ops L = []) (h : ∀ w', Below w.heap.size w w' → C w' → Q .normal a w') : wpG P md ops C Q n L a w := by
  cases n with
  | zero => exact fun w' hb hC => ⟨hr, h w' hb hC⟩
  | succ n => exact fun w' hb hC => ⟨fun _ => h w' hb hC, fun i hi => by rw [hr] at hi; exact nomatch hi⟩

theorem wpOp_value {i : Nat} {o : Oper} {a : Act} {w w' : World} {v : Value} {K : Act → World → Prop} (hi : ops.toList[i]? = some o) (hgd : o.guard = none) (hr : (execOp a.eval o).run P w = .ok (.value v) w') (h : K (a.put o.dst v) w') : wpOp P ops Q i K a w := by
  have hi' : ops[i]? = some o := by simpa using hi
  unfold wpOp
  simp only [hi']
  rw [if_pos (by simp [Region.wanted, hgd])]
  refine .inl ?_
  unfold Oper.wp
  rw [hr]
  exact h
theorem wpOp_void {i : Nat} {o : Oper} {a : Act} {w w' : World} {K : Act → World → Prop} (hi : ops.toList[i]? = some o) (hgd : o.guard = none) (hr : (execOp a.eval o).run P w = .ok .skip w') (h : K (a.put o.dst undef) w') : wpOp P ops Q i K a w := by
  have hi' : ops[i]? = some o := by simpa using hi
  unfold wpOp
  simp only [hi']
  rw [if_pos (by simp [Region.wanted, hgd])]
  refine .inl ?_
  unfold Oper.wp
  rw [hr]
  exact h
theorem wpOp_make {w0 w : World} {l : List RowT} (hR : Own w0 w l) {i : Nat} {o : Oper} {a : Act} {K : Act → World → Prop} {c : Array Value} {ty : TypeId} (hi : ops.toList[i]? = some o) (hgd : o.guard = none) (ho : o.op = .alloc ty)
    (hz : (P.info? ty).map (·.zero) = some (some (.agg c))) (h : ∀ g w', Own w0 w' ((g, c, ty) :: l) → K (a.put o.dst (.pointer (some ⟨g, 0, none⟩))) w') : wpOp P ops Q i K a w :=
  wpOp_value hi hgd (run_allocRow ho hz rfl) (h _ _ (hR.alloc c ty))
theorem wpOp_put {w0 w : World} {l l' : List RowT} (hR : Own w0 w l) {i : Nat} {o : Oper} {a : Act} {K : Act → World → Prop} {g off n : Nat} {c s c' : Array Value} {t ty : TypeId} {x y : Operand} (hi0 : ops.toList[i]? = some o) (hgd : o.guard = none)
    (ho : o.op = .store ty x y) (hx : a.eval x = .pointer (some ⟨g, off, none⟩)) (hy : a.eval y = .agg s)
    (hm : (g, c, t) ∈ l) (hi : (P.info? ty).map (·.size) = some n) (hn : s.size = n) (hl : off + n ≤ c.size) (h1 : s.all (·.oneCell') = true) (hp : PutRel c off s.toList c') (hu : Upd g c' l l')
    (h : ∀ w', Own w0 w' l' → K (a.put o.dst undef) w') : wpOp P ops Q i K a w :=
  wpOp_void hi0 hgd (run_storePart ho hx hy rfl (hR.get hm) hi hn hl h1 hp) (h _ (hR.set hu))
end

section
variable {P : Program} {ops : Array Oper} {md : Region.Mode} {C : World → Prop} {Q : Exit → Act → World → Prop}
theorem Own.swap {w0 w : World} {x y : RowT} {l : List RowT} (h : Own w0 w (x :: y :: l)) : Own w0 w (y :: x :: l) := by
  refine ⟨h.below, fun z hz => h.here z ?_, ?_⟩
  · simp only [List.mem_cons] at hz ⊢
    rcases hz with h1 | h1 | h1
    · exact .inr (.inl h1)
    · exact .inl h1
    · exact .inr (.inr h1)
  · have := h.apart
    simp only [List.map_cons, List.nodup_cons, List.mem_cons, not_or] at this ⊢
    exact ⟨⟨Ne.symm this.1.1, this.2.1⟩, this.1.2, this.2.2⟩
/-- Two new blocks, in whichever order. -/
theorem wpG_make2 {n : Nat} {L : Array Bool} {a : Act} {w0 w : World} {l : List RowT} (hR : Own w0 w l) {i j : Nat} {oi oj : Oper} {ti tj : TypeId} {ci cj : Array Value} (hr : Region.ready md ops L = [i, j]) (hi : ops.toList[i]? = some oi) (hj : ops.toList[j]? = some oj)
    (gi : oi.guard = none) (gj : oj.guard = none) (hoi : oi.op = .alloc ti) (hoj : oj.op = .alloc tj) (hzi : (P.info? ti).map (·.zero) = some (some (.agg ci))) (hzj : (P.info? tj).map (·.zero) = some (some (.agg cj)))
    (hd : ∀ d, oi.dst = some d → oj.dst ≠ some d) (hij : i ≠ j) (hr1 : Region.ready md ops (L.setIfInBounds i true) = [j]) (hr2 : Region.ready md ops (L.setIfInBounds j true) = [i]) (hC : ∀ w', Own w0 w' l → C w')
    (h : ∀ g g' w', Own w0 w' ((g', cj, tj) :: (g, ci, ti) :: l) → wpG P md ops C Q n ((L.setIfInBounds i true).setIfInBounds j true) ((a.put oi.dst (.pointer (some ⟨g, 0, none⟩))).put oj.dst (.pointer (some ⟨g', 0, none⟩))) w') :
    wpG P md ops C Q (n + 2) L a w := by
  refine wpG_next hr (by simp) ?_
  intro w1 hb1 _ k hk
  have hR1 := hR.grow hb1
  simp only [List.mem_cons, List.not_mem_nil, or_false] at hk
  rcases hk with rfl | rfl
  · refine wpOp_make hR1 hi gi hoi hzi ?_
    intro g w2 hR2
    refine ⟨hC _ hR2.tail, wpG_next hr1 (by simp) ?_⟩
    intro w3 hb3 _ k hk
    obtain rfl := List.mem_singleton.1 hk
    refine wpOp_make (hR2.grow hb3) hj gj hoj hzj ?_
    intro g' w4 hR4
    exact ⟨hC _ hR4.tail.tail, h g g' w4 hR4⟩
  · refine wpOp_make hR1 hj gj hoj hzj ?_
    intro g' w2 hR2
    refine ⟨hC _ hR2.tail, wpG_next hr2 (by simp) ?_⟩
    intro w3 hb3 _ m hm
    obtain rfl := List.mem_singleton.1 hm
    refine wpOp_make (hR2.grow hb3) hi gi hoi hzi ?_
    intro g w4 hR4
    refine ⟨hC _ hR4.tail.tail, ?_⟩
    have := h g g' w4 hR4.swap
    rw [Array.setIfInBounds_comm _ _ hij, Act.put_comm a _ _ hd] at this
    exact this
end

section
variable {P : Program} {ops : Array Oper} {md : Region.Mode} {Q : Exit → Act → World → Prop} {n : Nat} {L : Array Bool} {ls : List Value} {ds : List Deferred} {w0 w : World} {l lC : List RowT} {tp : TypeId} {pos : String} {af : Array Edge}
/-- What is left is one store. -/
theorem wpG_put (hR : Own w0 w l) {ty : TypeId} {n0 : Nat} (ht : RowTy P ty n0) {i : Nat} (hr : Region.ready md ops L = [i]) {x y : Operand} {g off : Nat} {c s c' : Array Value} {t : TypeId} {l' : List RowT} (hi : ops.toList[i]? = some ⟨none, .store ty x y, tp, pos, af, none⟩)
    (hx : evalL ls x = some (.pointer (some ⟨g, off, none⟩))) (hy : evalL ls y = some (.agg s)) (hm : (g, c, t) ∈ l) (hp : PutRel c off s.toList c') (hn : s.size = n0) (hl : off + n0 ≤ c.size) (h1 : s.all (·.oneCell') = true) (hu : Upd g c' l l') (hs : lC.Sublist l')
    (h : ∀ w', Own w0 w' l' → wpG P md ops (fun w => Own w0 w lC) Q n (L.setIfInBounds i true) ⟨ls.toArray, ds⟩ w') : wpG P md ops (fun w => Own w0 w lC) Q (n + 1) L ⟨ls.toArray, ds⟩ w := by
  refine wpG_next hr (by simp) ?_
  intro w1 hb _ k hk
  obtain rfl := List.mem_singleton.1 hk
  obtain ⟨d, _, hd, hsz⟩ := ht
  refine wpOp_put (hR.grow hb) hi rfl rfl (eval_of hx) (eval_of hy) hm hsz hn hl h1 hp hu ?_
  intro w2 hR2
  exact ⟨hR2.drop hs, h w2 hR2⟩
/-- What is left is one assignment to a slot. -/
theorem wpG_slot {ls' : List Value} (hR : Own w0 w l) {i : Nat} (hr : Region.ready md ops L = [i]) {d : Tmp} {x : Operand} {v : Value} (hi : ops.toList[i]? = some ⟨some d, .assign x, tp, pos, af, none⟩) (hx : evalL ls x = some v)
    (hls : ls.set d v = ls') (h : ∀ w', Own w0 w' l → wpG P md ops (fun w => Own w0 w lC) Q n (L.setIfInBounds i true) ⟨ls'.toArray, ds⟩ w') : wpG P md ops (fun w => Own w0 w lC) Q (n + 1) L ⟨ls.toArray, ds⟩ w := by
  refine wpG_next hr (by simp) ?_
  intro w1 hb hC k hk
  obtain rfl := List.mem_singleton.1 hk
  refine wpOp_value hi rfl (run_assignOne rfl (eval_of hx) w1) ?_
  rw [put_list, hls]
  exact ⟨hC, h w1 (hR.grow hb)⟩
/-- What is left is one new block. -/
theorem wpG_make (hR : Own w0 w l) {i : Nat} (hr : Region.ready md ops L = [i]) {d : Tmp} {ty : TypeId} {c : Array Value} (hi : ops.toList[i]? = some ⟨some d, .alloc ty, tp, pos, af, none⟩) (hz : ZeroTy P ty c)
    (h : ∀ g w', Own w0 w' ((g, c, ty) :: l) → wpG P md ops (fun w => Own w0 w lC) Q n (L.setIfInBounds i true) ⟨(ls.set d (.pointer (some ⟨g, 0, none⟩))).toArray, ds⟩ w') (hs : lC.Sublist l) : wpG P md ops (fun w => Own w0 w lC) Q (n + 1) L ⟨ls.toArray, ds⟩ w := by
  refine wpG_next hr (by simp) ?_
  intro w1 hb _ k hk
  obtain rfl := List.mem_singleton.1 hk
  refine wpOp_make (hR.grow hb) hi rfl rfl hz ?_
  intro g w2 hR2
  rw [put_list]
  exact ⟨hR2.tail.drop hs, h g w2 hR2⟩
/-- What comes next is two new blocks, in whichever order. -/
theorem wpG_pair (hR : Own w0 w l) {i j : Nat} (hr : Region.ready md ops L = [i, j]) {di dj : Tmp} {ti tj tpj : TypeId} {posj : String} {afj : Array Edge} {ci cj : Array Value} (hi : ops.toList[i]? = some ⟨some di, .alloc ti, tp, pos, af, none⟩) (hj : ops.toList[j]? = some ⟨some dj, .alloc tj, tpj, posj, afj, none⟩)
    (hzi : ZeroTy P ti ci) (hzj : ZeroTy P tj cj) (hd : di ≠ dj) (hij : i ≠ j) (hr1 : Region.ready md ops (L.setIfInBounds i true) = [j]) (hr2 : Region.ready md ops (L.setIfInBounds j true) = [i]) (hs : lC.Sublist l)
    (h : ∀ g g' w', Own w0 w' ((g', cj, tj) :: (g, ci, ti) :: l) → wpG P md ops (fun w => Own w0 w lC) Q n ((L.setIfInBounds i true).setIfInBounds j true) ⟨((ls.set di (.pointer (some ⟨g, 0, none⟩))).set dj (.pointer (some ⟨g', 0, none⟩))).toArray, ds⟩ w') :
    wpG P md ops (fun w => Own w0 w lC) Q (n + 2) L ⟨ls.toArray, ds⟩ w := by
  refine wpG_make2 hR hr hi hj rfl rfl rfl rfl hzi hzj (by simp [Ne.symm hd]) hij hr1 hr2 (fun _ h => h.drop hs) ?_
  intro g g' w' h'
  rw [put_list, put_list]
  exact h g g' w' h'
theorem wpG_end (hR : Own w0 w l) {a : Act} (hr : Region.ready md ops L = []) (h : ∀ w', Own w0 w' l → Q .normal a w') : wpG P md ops (fun w => Own w0 w lC) (NoPanic Q) n L a w :=
  wpG_done hr fun w' hb _ => NoPanic.normal (h w' (hR.grow hb))
end

/-! ### Results that lie in cells -/
theorem ret_bool {a b : Bool} (h : a = b) : Ending.returned (.bool a) = .returned (.bool b) := by rw [h]
theorem ret_int {k : IntKind} {a b : Int} (h : a = b) : Ending.returned (.int k a) = .returned (.int k b) := by rw [h]
section
variable {P : Program}
theorem results_row {fn : Func} {p : Tmp} {ty : TypeId} (h : fn.results = #[.cell p ty]) {tmps : Array Value} {w : World} {g : Nat} {t : TypeId} {cs : Array Value} {fr : Nat × Nat} {d : TypeDesc}
    (hp : tmps.getD p undef = .pointer (some ⟨g, 0, none⟩)) (hg : w.heap[g]? = some (.cells cs t fr)) (hu : P.underlying ty = some d) (hd : (match d with | .struct _ | .array _ _ => true | _ => false) = true) (hi : (P.info? ty).map (·.size) = some cs.size) :
    (results fn tmps).run P w = .ok (.agg cs) w := results_cell_row h tmps w g t cs fr d hp hg hu hd hi
theorem results_row_tmp {fn : Func} {p q : Tmp} {ty : TypeId} (h : fn.results = #[.cell p ty, .tmp q]) {tmps : Array Value} {w : World} {g : Nat} {t : TypeId} {cs : Array Value} {fr : Nat × Nat} {d : TypeDesc} {v : Value}
    (hp : tmps.getD p undef = .pointer (some ⟨g, 0, none⟩)) (hq : tmps.getD q undef = v) (hg : w.heap[g]? = some (.cells cs t fr)) (hu : P.underlying ty = some d) (hd : (match d with | .struct _ | .array _ _ => true | _ => false) = true) (hi : (P.info? ty).map (·.size) = some cs.size) :
    (results fn tmps).run P w = .ok (.tuple #[.agg cs, v]) w := by
  have hp' : tmps[p]?.getD undef = .pointer (some ⟨g, 0, none⟩) := by simpa using hp
  have hq' : tmps[q]?.getD undef = v := by simpa using hq
  simp [results, h, hp', hq', asAddr, run_loadVar_row w g t ty cs fr d hg hu hd hi]
end

theorem post_row {P : Program} {fn : Func} {R : Ending → World → Prop} {a : Act} {w0 w : World} {l : List RowT} (hR : Own w0 w l) {p : Tmp} {ty : TypeId} (h : fn.results = #[.cell p ty]) {g : Nat} {t : TypeId} {cs : Array Value} {d : TypeDesc} {n : Nat}
    (hp : a.tmps.getD p undef = .pointer (some ⟨g, 0, none⟩)) (hm : (g, cs, t) ∈ l) (hu : P.underlying ty = some d) (hd : (match d with | .struct _ | .array _ _ => true | _ => false) = true) (hi : (P.info? ty).map (·.size) = some n) (hn : cs.size = n)
    (hdf : a.defers = []) (hq : R (.returned (.agg cs)) w) : bodyPost P fn R .ret a w :=
  bodyPost_ret (results_row h hp (hR.get hm) hu hd (by rw [hi, hn])) hdf hq
theorem post_row_tmp {P : Program} {fn : Func} {R : Ending → World → Prop} {a : Act} {w0 w : World} {l : List RowT} (hR : Own w0 w l) {p q : Tmp} {ty : TypeId} (h : fn.results = #[.cell p ty, .tmp q]) {g : Nat} {t : TypeId} {cs : Array Value} {d : TypeDesc} {n : Nat} {v : Value}
    (hp : a.tmps.getD p undef = .pointer (some ⟨g, 0, none⟩)) (hq : a.tmps.getD q undef = v) (hm : (g, cs, t) ∈ l) (hu : P.underlying ty = some d) (hd : (match d with | .struct _ | .array _ _ => true | _ => false) = true) (hi : (P.info? ty).map (·.size) = some n) (hn : cs.size = n)
    (hdf : a.defers = []) (hr : R (.returned (.tuple #[.agg cs, v])) w) : bodyPost P fn R .ret a w :=
  bodyPost_ret (results_row_tmp h hp hq (hR.get hm) hu hd (by rw [hi, hn])) hdf hr

end Go.Proofs.YtjecckmcjcikdaaDoor
