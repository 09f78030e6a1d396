/- Tests that stand in a chain of '&&' and '||', told as one Bool: an operation that is asked only where a test holds leaves 'gv test value' in its slot; no way is parted. A plain region of quiet operations, too. No statement of the seat is proved here. -/
import Derived.Test.YtjecckmcjcikdaaDoorRow
namespace Go.Proofs.YtjecckmcjcikdaaDoor
open Go.ChangeShapes Go.WideShapes Go.ChangeAt Go.RowKit
set_option linter.unusedVariables false
set_option linter.unusedSimpArgs false

/-- A value that is there only where a test holds. -/
def gv (c : Bool) (v : Value) : Value := bif c then v else undef
structure Imp (c c' : Bool) : Prop where
  of : c = true → c' = true
theorem Imp.refl (c : Bool) : Imp c c := ⟨id⟩
theorem Imp.left {a b c : Bool} (h : Imp a c) : Imp (a && b) c := ⟨fun e => h.of (Bool.and_eq_true_iff.1 e).1⟩
/-- An operand's value where a test holds. -/
structure EvC (ls : List Value) (c : Bool) (x : Operand) (v : Value) : Prop where
  of : c = true → evalL ls x = some v
theorem EvC.now {ls : List Value} {c : Bool} {x : Operand} {v : Value} (h : evalL ls x = some v) : EvC ls c x v := ⟨fun _ => h⟩
theorem EvC.gv {ls : List Value} {c c' : Bool} {x : Operand} {v : Value} (h : evalL ls x = some (gv c' v)) (hi : Imp c c') : EvC ls c x v :=
  ⟨fun e => by rw [h, hi.of e]; rfl⟩
/-- What an operation's guard asks. -/
structure GdBy (ops : Array Oper) (ls : List Value) (k : Nat) (want c : Bool) : Prop where
  of : (yielded ops ls.toArray k == some want) = c
section
variable {ops : Array Oper} {ls : List Value} {k : Nat} {d : Tmp} {b c : Bool}
theorem yield_at {v : Value} (hd : (ops.toList[k]?).bind (·.dst) = some d) (hv : ls[d]? = some v) : yielded ops ls.toArray k = match v with | .bool b => some b | _ => none := by
  unfold yielded
  have h1 : (ops[k]?).bind (·.dst) = some d := by rw [← Array.getElem?_toList]; exact hd
  rw [h1]
  simp only [Option.bind_some, List.getElem?_toArray, hv]
  cases v <;> rfl
theorem GdBy.t (hd : (ops.toList[k]?).bind (·.dst) = some d) (hv : ls[d]? = some (.bool b)) : GdBy ops ls k true b := ⟨by rw [yield_at hd hv]; cases b <;> rfl⟩
theorem GdBy.f (hd : (ops.toList[k]?).bind (·.dst) = some d) (hv : ls[d]? = some (.bool b)) : GdBy ops ls k false (!b) := ⟨by rw [yield_at hd hv]; cases b <;> rfl⟩
theorem GdBy.gt (hd : (ops.toList[k]?).bind (·.dst) = some d) (hv : ls[d]? = some (gv c (.bool b))) : GdBy ops ls k true (c && b) := ⟨by rw [yield_at hd hv]; cases c <;> cases b <;> rfl⟩
theorem GdBy.gf (hd : (ops.toList[k]?).bind (·.dst) = some d) (hv : ls[d]? = some (gv c (.bool b))) : GdBy ops ls k false (c && !b) := ⟨by rw [yield_at hd hv]; cases c <;> cases b <;> rfl⟩
theorem GdBy.wanted {o : Oper} {want : Bool} (h : GdBy ops ls k want c) (hg : o.guard = some (k, want)) : Region.wanted o (yielded ops ls.toArray) = c := by
  unfold Region.wanted
  rw [hg]
  exact h.of
end

/-- What two numbers come to. -/
def numB (k : IntKind) : BinOp → Int → Int → Option Int
  | .add, a, b => some (k.wrap (a + b))
  | .sub, a, b => some (k.wrap (a - b))
  | .mul, a, b => some (k.wrap (a * b))
  | .and, a, b => some (bits .and k a b)
  | .or, a, b => some (bits .or k a b)
  | .xor, a, b => some (bits .xor k a b)
  | _, _, _ => none
/-- A comparison of numbers. -/
def cmpB : BinOp → Int → Int → Option Bool
  | .eql, a, b => some (a == b)
  | .neq, a, b => some (a != b)
  | .lss, a, b => some (decide (a < b))
  | .leq, a, b => some (decide (a ≤ b))
  | .gtr, a, b => some (decide (b < a))
  | .geq, a, b => some (decide (b ≤ a))
  | _, _, _ => none
section
variable {P : Program}
theorem run_cmp {ρ : Operand → Value} {o : Oper} {op : BinOp} {ty ty' : TypeId} {x y : Operand} {k : IntKind} {a b : Int} {t : Bool} (ho : o.op = .binOp op ty x y ty') (hx : ρ x = .int k a) (hy : ρ y = .int k b) (hc : cmpB op a b = some t) (w : World) :
    (execOp ρ o).run P w = .ok (.value (.bool t)) w := by
  unfold execOp
  simp only [ho, hx, hy]
  cases op <;> simp only [cmpB, reduceCtorEq] at hc
  all_goals
    obtain rfl := Option.some.inj hc
    simp [eqGuard, binOp, Op.intCmp]
theorem run_num {ρ : Operand → Value} {o : Oper} {op : BinOp} {ty ty' : TypeId} {x y : Operand} {k : IntKind} {a b n : Int} (ho : o.op = .binOp op ty x y ty') (hx : ρ x = .int k a) (hy : ρ y = .int k b) (hc : numB k op a b = some n) (w : World) :
    (execOp ρ o).run P w = .ok (.value (.int k n)) w := by
  unfold execOp
  simp only [ho, hx, hy]
  cases op <;> simp only [numB, reduceCtorEq] at hc
  all_goals
    obtain rfl := Option.some.inj hc
    simp [eqGuard, binOp, Op.intArith, Op.intBits, bits]
theorem run_not {ρ : Operand → Value} {o : Oper} {ty : TypeId} {x : Operand} {b : Bool} (ho : o.op = .unOp .not ty x) (hx : ρ x = .bool b) (w : World) :
    (execOp ρ o).run P w = .ok (.value (.bool (!b))) w := by
  unfold execOp
  simp only [ho, hx]
  simp [Op.unary]
theorem run_pickB {ρ : Operand → Value} {o : Oper} {c x y : Operand} {b : Bool} (ho : o.op = .pick c x y) (hc : ρ c = .bool b) (w : World) :
    (execOp ρ o).run P w = .ok (.value (bif b then ρ x else ρ y)) w := by
  unfold execOp
  simp only [ho, hc]
  cases b <;> simp [asBool]
theorem run_moveV {ρ : Operand → Value} {o : Oper} {x : Operand} {v : Value} (ho : o.op = .move x) (hx : ρ x = v) (w : World) :
    (execOp ρ o).run P w = .ok (.value v) w := by
  unfold execOp
  simp only [ho, hx]
  rfl
end

section
variable {P : Program} {ops : Array Oper} {C : World → Prop} {R : Act → Prop} {is : List Nat} {tp : TypeId} {pos : String} {af : Array Edge} {ls ls' : List Value} {ds : List Deferred} {w0 : World} {l : List RowT} {d : Tmp} {k : Nat} {want c : Bool}
/-- An operation under a guard. -/
theorem wpT1_gd {op : Op} {v : Value} (hg : GdBy ops ls k want c) (ht : c = true → Tame P C ⟨some d, op, tp, pos, af, some (k, want)⟩ ⟨ls.toArray, ds⟩ v) (hls : ls.set d (gv c v) = ls') (h : wpT P ops C R is ⟨ls'.toArray, ds⟩) :
    wpT1 P ops C R is ⟨some d, op, tp, pos, af, some (k, want)⟩ ⟨ls.toArray, ds⟩ := by
  refine ⟨gv c v, ?_, by rw [put_list, hls]; exact h⟩
  have hw := hg.wanted (o := ⟨some d, op, tp, pos, af, some (k, want)⟩) rfl
  cases hc : c
  · exact .inr ⟨by rw [← hc]; exact hw, rfl⟩
  · exact .inl ⟨by rw [← hc]; exact hw, ht hc⟩
theorem wpT1_gcmp {op : BinOp} {ty ty' : TypeId} {x y : Operand} {q : IntKind} {a b : Int} {t : Bool} (hg : GdBy ops ls k want c) (hx : EvC ls c x (.int q a)) (hy : EvC ls c y (.int q b)) (ht : cmpB op a b = some t)
    (hls : ls.set d (gv c (.bool t)) = ls') (h : wpT P ops C R is ⟨ls'.toArray, ds⟩) : wpT1 P ops C R is ⟨some d, .binOp op ty x y ty', tp, pos, af, some (k, want)⟩ ⟨ls.toArray, ds⟩ :=
  wpT1_gd hg (fun e => .inl fun w _ => run_cmp rfl (eval_of (hx.of e)) (eval_of (hy.of e)) ht w) hls h
theorem wpT1_gnum {op : BinOp} {ty ty' : TypeId} {x y : Operand} {q : IntKind} {a b m : Int} (hg : GdBy ops ls k want c) (hx : EvC ls c x (.int q a)) (hy : EvC ls c y (.int q b)) (ht : numB q op a b = some m)
    (hls : ls.set d (gv c (.int q m)) = ls') (h : wpT P ops C R is ⟨ls'.toArray, ds⟩) : wpT1 P ops C R is ⟨some d, .binOp op ty x y ty', tp, pos, af, some (k, want)⟩ ⟨ls.toArray, ds⟩ :=
  wpT1_gd hg (fun e => .inl fun w _ => run_num rfl (eval_of (hx.of e)) (eval_of (hy.of e)) ht w) hls h
theorem wpT1_gnot {ty : TypeId} {x : Operand} {b : Bool} (hg : GdBy ops ls k want c) (hx : EvC ls c x (.bool b))
    (hls : ls.set d (gv c (.bool (!b))) = ls') (h : wpT P ops C R is ⟨ls'.toArray, ds⟩) : wpT1 P ops C R is ⟨some d, .unOp .not ty x, tp, pos, af, some (k, want)⟩ ⟨ls.toArray, ds⟩ :=
  wpT1_gd hg (fun e => .inl fun w _ => run_not rfl (eval_of (hx.of e)) w) hls h
theorem wpT1_gmove {x : Operand} {v : Value} (hg : GdBy ops ls k want c) (hx : EvC ls c x v)
    (hls : ls.set d (gv c v) = ls') (h : wpT P ops C R is ⟨ls'.toArray, ds⟩) : wpT1 P ops C R is ⟨some d, .move x, tp, pos, af, some (k, want)⟩ ⟨ls.toArray, ds⟩ :=
  wpT1_gd hg (fun e => .inl fun w _ => run_moveV rfl (eval_of (hx.of e)) w) hls h
theorem wpT1_gand {x y : Operand} {b b' : Bool} (hg : GdBy ops ls k want c) (hx : EvC ls c x (.bool b)) (hy : EvC ls (c && b) y (.bool b'))
    (hls : ls.set d (gv c (.bool (b && b'))) = ls') (h : wpT P ops C R is ⟨ls'.toArray, ds⟩) : wpT1 P ops C R is ⟨some d, .pick x y (.const (.bool false)), tp, pos, af, some (k, want)⟩ ⟨ls.toArray, ds⟩ := by
  refine wpT1_gd hg (fun e => .inl fun w _ => ?_) hls h
  rw [run_pickB rfl (eval_of (hx.of e)) w]
  cases hb : b
  · rfl
  · rw [cond_true, eval_of (hy.of (by rw [e, hb]; rfl))]; rfl
theorem wpT1_gor {x y : Operand} {b b' : Bool} (hg : GdBy ops ls k want c) (hx : EvC ls c x (.bool b)) (hy : EvC ls (c && !b) y (.bool b'))
    (hls : ls.set d (gv c (.bool (b || b'))) = ls') (h : wpT P ops C R is ⟨ls'.toArray, ds⟩) : wpT1 P ops C R is ⟨some d, .pick x (.const (.bool true)) y, tp, pos, af, some (k, want)⟩ ⟨ls.toArray, ds⟩ := by
  refine wpT1_gd hg (fun e => .inl fun w _ => ?_) hls h
  rw [run_pickB rfl (eval_of (hx.of e)) w]
  cases hb : b
  · rw [cond_false, eval_of (hy.of (by rw [e, hb]; rfl))]; rfl
  · rfl
theorem wpT1_gpart {ty : TypeId} {n : Nat} (ht : RowTy P ty n) {g off : Nat} {cs s : Array Value} {t : TypeId} {x : Operand} (hg : GdBy ops ls k want c)
    (hx : EvC ls c x (.pointer (some ⟨g, off, none⟩))) (hm : (g, cs, t) ∈ l) (hs : ExtRel cs off n s) (hn : s.size = n)
    (hls : ls.set d (gv c (.agg s)) = ls') (h : wpT P ops (fun w => Own w0 w l) R is ⟨ls'.toArray, ds⟩) : wpT1 P ops (fun w => Own w0 w l) R is ⟨some d, .load ty x, tp, pos, af, some (k, want)⟩ ⟨ls.toArray, ds⟩ := by
  obtain ⟨d', hu, hd, hi⟩ := ht
  exact wpT1_gd hg (fun e => .inl fun w hC => run_loadPart rfl (eval_of (hx.of e)) (hC.get hm) hu hd hi hs hn) hls h
theorem wpT1_gone {ty : TypeId} (ht : OneTy P ty) {g off : Nat} {cs : Array Value} {v : Value} {t : TypeId} {x : Operand} (hg : GdBy ops ls k want c)
    (hx : EvC ls c x (.pointer (some ⟨g, off, none⟩))) (hm : (g, cs, t) ∈ l) (hs : cs.toList[off]? = some v)
    (hls : ls.set d (gv c v) = ls') (h : wpT P ops (fun w => Own w0 w l) R is ⟨ls'.toArray, ds⟩) : wpT1 P ops (fun w => Own w0 w l) R is ⟨some d, .load ty x, tp, pos, af, some (k, want)⟩ ⟨ls.toArray, ds⟩ := by
  obtain ⟨d', hu, hd, _⟩ := ht
  exact wpT1_gd hg (fun e => .inl fun w hC => run_loadOne rfl (eval_of (hx.of e)) (hC.get hm) hu hd hs) hls h
/-- It asks nothing of the world, and reads no slot that a guard left: the walk's simp reckons it. -/
theorem wpT1_gpure {op : Op} (hg : GdBy ops ls k want c)
    (h : ∀ K : Value → Prop, (∀ v, wpT P ops C R is ⟨(ls.set d (gv c v)).toArray, ds⟩ → K v) → ∃ v, (∀ w, (execOp (⟨ls.toArray, ds⟩ : Act).eval ⟨some d, op, tp, pos, af, some (k, want)⟩).run P w = .ok (.value v) w) ∧ K v) :
    wpT1 P ops C R is ⟨some d, op, tp, pos, af, some (k, want)⟩ ⟨ls.toArray, ds⟩ := by
  obtain ⟨v, h1, h2⟩ := h _ (fun _ h => h)
  exact wpT1_gd hg (fun _ => .inl fun w _ => h1 w) rfl h2
structure EvAll (ls : List Value) (c : Bool) (xs : List Operand) (vs : List Value) : Prop where
  of : c = true → evalAll ls xs = some vs
theorem EvAll.nil : EvAll ls c [] [] := ⟨fun _ => rfl⟩
theorem EvAll.cons {x : Operand} {v : Value} {xs : List Operand} {vs : List Value} (h : EvC ls c x v) (hs : EvAll ls c xs vs) : EvAll ls c (x :: xs) (v :: vs) :=
  ⟨fun e => by simp only [evalAll, h.of e, hs.of e]⟩
theorem wpT1_gcall {f : FuncId} (hcf : ∀ (args : Array Value) w, (callFunc f args).run P w = .ok (.enter f args) w) {as : Array Operand} {ats : Array TypeId} {args : List Value} {v : Value} (hg : GdBy ops ls k want c)
    (ha : EvAll ls c as.toList args) (hc : c = true → ∀ w, C w → Calls P f args.toArray w fun e w' => e = .returned v ∧ Below w.heap.size w w' ∧ C w')
    (hls : ls.set d (gv c v) = ls') (h : wpT P ops C R is ⟨ls'.toArray, ds⟩) : wpT1 P ops C R is ⟨some d, .call ⟨.value (.func f), as, ats⟩, tp, pos, af, some (k, want)⟩ ⟨ls.toArray, ds⟩ := by
  refine wpT1_gd hg (fun e => .inr ⟨f, args.toArray, fun w => ?_, hc e⟩) hls h
  have ha' : as.map (⟨ls.toArray, ds⟩ : Act).eval = args.toArray := by
    apply Array.toList_inj.1
    rw [Array.toList_map, evalAll_of (ha.of e)]
  have hev : (⟨ls.toArray, ds⟩ : Act).eval (.func f) = .func (.func f) #[] #[] := rfl
  unfold execOp
  simp only [resolve, hev, Deferred.ofValue, ha', Sem.run_bind, Sem.run_pure, Result.andThen_ok, invoke, Array.empty_append, Array.append_empty, hcf]

/-- Plain ones. -/
theorem wpT1_cmp {op : BinOp} {ty ty' : TypeId} {x y : Operand} {q : IntKind} {a b : Int} {t : Bool} (hx : evalL ls x = some (.int q a)) (hy : evalL ls y = some (.int q b)) (ht : cmpB op a b = some t)
    (hls : ls.set d (.bool t) = ls') (h : wpT P ops C R is ⟨ls'.toArray, ds⟩) : wpT1 P ops C R is ⟨some d, .binOp op ty x y ty', tp, pos, af, none⟩ ⟨ls.toArray, ds⟩ :=
  ⟨.bool t, .inl ⟨rfl, .inl fun w _ => run_cmp rfl (eval_of hx) (eval_of hy) ht w⟩, by rw [put_list, hls]; exact h⟩
theorem wpT1_not {ty : TypeId} {x : Operand} {b : Bool} (hx : evalL ls x = some (.bool b))
    (hls : ls.set d (.bool (!b)) = ls') (h : wpT P ops C R is ⟨ls'.toArray, ds⟩) : wpT1 P ops C R is ⟨some d, .unOp .not ty x, tp, pos, af, none⟩ ⟨ls.toArray, ds⟩ :=
  ⟨.bool (!b), .inl ⟨rfl, .inl fun w _ => run_not rfl (eval_of hx) w⟩, by rw [put_list, hls]; exact h⟩
theorem wpT1_and {x y : Operand} {b b' : Bool} (hx : evalL ls x = some (.bool b)) (hy : EvC ls b y (.bool b'))
    (hls : ls.set d (.bool (b && b')) = ls') (h : wpT P ops C R is ⟨ls'.toArray, ds⟩) : wpT1 P ops C R is ⟨some d, .pick x y (.const (.bool false)), tp, pos, af, none⟩ ⟨ls.toArray, ds⟩ := by
  refine ⟨.bool (b && b'), .inl ⟨rfl, .inl fun w _ => ?_⟩, by rw [put_list, hls]; exact h⟩
  rw [run_pickB rfl (eval_of hx) w]
  cases hb : b
  · rfl
  · rw [cond_true, eval_of (hy.of hb)]; rfl
theorem wpT1_or {x y : Operand} {b b' : Bool} (hx : evalL ls x = some (.bool b)) (hy : EvC ls (!b) y (.bool b'))
    (hls : ls.set d (.bool (b || b')) = ls') (h : wpT P ops C R is ⟨ls'.toArray, ds⟩) : wpT1 P ops C R is ⟨some d, .pick x (.const (.bool true)) y, tp, pos, af, none⟩ ⟨ls.toArray, ds⟩ := by
  refine ⟨.bool (b || b'), .inl ⟨rfl, .inl fun w _ => ?_⟩, by rw [put_list, hls]; exact h⟩
  rw [run_pickB rfl (eval_of hx) w]
  cases hb : b
  · rw [cond_false, eval_of (hy.of (by rw [hb]; rfl))]; rfl
  · rfl
end

/-! ### A field's place -/
structure FieldAt (P : Program) (s : TypeId) (k off : Nat) : Prop where
  of : ∀ (g : Nat) (w : World), (Instr.fieldAt s (.pointer (some ⟨g, 0, none⟩)) k).run P w = .ok (.pointer (some ⟨g, off, none⟩)) w
section
variable {P : Program} {ops : Array Oper} {C : World → Prop} {R : Act → Prop} {is : List Nat} {tp : TypeId} {pos : String} {af : Array Edge} {ls ls' : List Value} {ds : List Deferred} {d : Tmp} {k : Nat} {want c : Bool} {s : TypeId} {f off g : Nat} {x : Operand}
theorem run_addr {ρ : Operand → Value} {o : Oper} (hf : FieldAt P s f off) (ho : o.op = .fieldAddr s x f) (hx : ρ x = .pointer (some ⟨g, 0, none⟩)) (w : World) : (execOp ρ o).run P w = .ok (.value (.pointer (some ⟨g, off, none⟩))) w := by
  unfold execOp
  simp only [ho, hx, Sem.run_bind, hf.of g w, Result.andThen_ok, Sem.run_pure]
theorem wpT1_gaddr (hf : FieldAt P s f off) (hg : GdBy ops ls k want c) (hx : EvC ls c x (.pointer (some ⟨g, 0, none⟩)))
    (hls : ls.set d (gv c (.pointer (some ⟨g, off, none⟩))) = ls') (h : wpT P ops C R is ⟨ls'.toArray, ds⟩) : wpT1 P ops C R is ⟨some d, .fieldAddr s x f, tp, pos, af, some (k, want)⟩ ⟨ls.toArray, ds⟩ :=
  wpT1_gd hg (fun e => .inl fun w _ => run_addr hf rfl (eval_of (hx.of e)) w) hls h
theorem wpT1_addr (hf : FieldAt P s f off) (hx : evalL ls x = some (.pointer (some ⟨g, 0, none⟩)))
    (hls : ls.set d (.pointer (some ⟨g, off, none⟩)) = ls') (h : wpT P ops C R is ⟨ls'.toArray, ds⟩) : wpT1 P ops C R is ⟨some d, .fieldAddr s x f, tp, pos, af, none⟩ ⟨ls.toArray, ds⟩ :=
  ⟨_, .inl ⟨rfl, .inl fun w _ => run_addr hf rfl (eval_of hx) w⟩, by rw [put_list, hls]; exact h⟩
theorem wpList_addr {rest : List Oper} {Q : Exit → Act → World → Prop} {w : World} (hf : FieldAt P s f off) (hx : evalL ls x = some (.pointer (some ⟨g, 0, none⟩)))
    (hls : ls.set d (.pointer (some ⟨g, off, none⟩)) = ls') (h : wpList P ops Q rest ⟨ls'.toArray, ds⟩ w) : wpList P ops Q (⟨some d, .fieldAddr s x f, tp, pos, af, none⟩ :: rest) ⟨ls.toArray, ds⟩ w :=
  wpList_run_value rfl (run_addr hf rfl (eval_of hx) w) (by rw [put_list, hls]; exact h)
end

section
variable {P : Program} {ops : Array Oper} {md : Region.Mode} {Q : Exit → Act → World → Prop} {n : Nat} {L : Array Bool} {ls ls' : List Value} {ds : List Deferred} {w0 w : World} {l l' lC : List RowT} {tp : TypeId} {pos : String} {af : Array Edge} {d : Tmp} {i : Nat}
/-- What is left: a store of one cell. -/
theorem wpG_put1 (hR : Own w0 w l) {ty : TypeId} (ht : OneTy P ty) (hr : Region.ready md ops L = [i]) {x y : Operand} {g off : Nat} {c c' : Array Value} {v : Value} {t : TypeId} (hi : ops.toList[i]? = some ⟨none, .store ty x y, tp, pos, af, none⟩)
    (hx : evalL ls x = some (.pointer (some ⟨g, off, none⟩))) (hy : evalL ls y = some v) (hm : (g, c, t) ∈ l) (hp : PutRel c off [v] c') (hl : off + 1 ≤ c.size) (h1 : v.oneCell' = true) (hu : Upd g c' l l') (hs : lC.Sublist l')
    (h : ∀ w', Own w0 w' l' → wpG P md ops (fun w => Own w0 w lC) Q n (L.setIfInBounds i true) ⟨ls.toArray, ds⟩ w') : wpG P md ops (fun w => Own w0 w lC) Q (n + 1) L ⟨ls.toArray, ds⟩ w := by
  refine wpG_next hr (by simp) ?_
  intro w1 hb _ k hk
  obtain rfl := List.mem_singleton.1 hk
  obtain ⟨d, _, hd, hsz⟩ := ht
  have hR1 := hR.grow hb
  refine wpOp_void hi rfl (run_storePart (s := #[v]) rfl (eval_of hx) (eval_of hy) (cells_one h1) (hR1.get hm) hsz rfl hl (by simp [h1]) hp) ?_
  exact ⟨(hR1.set hu).drop hs, h _ (hR1.set hu)⟩
/-- .. a field's place. -/
theorem wpG_addr (hR : Own w0 w l) {s : TypeId} {f off g : Nat} {x : Operand} (hf : FieldAt P s f off) (hr : Region.ready md ops L = [i]) (hi : ops.toList[i]? = some ⟨some d, .fieldAddr s x f, tp, pos, af, none⟩) (hx : evalL ls x = some (.pointer (some ⟨g, 0, none⟩)))
    (hls : ls.set d (.pointer (some ⟨g, off, none⟩)) = ls') (h : ∀ w', Own w0 w' l → wpG P md ops (fun w => Own w0 w lC) Q n (L.setIfInBounds i true) ⟨ls'.toArray, ds⟩ w') : wpG P md ops (fun w => Own w0 w lC) Q (n + 1) L ⟨ls.toArray, ds⟩ w := by
  refine wpG_next hr (by simp) ?_
  intro w1 hb hC k hk
  obtain rfl := List.mem_singleton.1 hk
  refine wpOp_value hi rfl (run_addr hf rfl (eval_of hx) w1) ?_
  rw [put_list, hls]
  exact ⟨hC, h w1 (hR.grow hb)⟩
end

/-! ### One element of an array of numbers -/
section
variable {P : Program}
theorem run_indexOne {ρ : Operand → Value} {o : Oper} {w : World} {ty e : TypeId} {x ix : Operand} {n : Nat} {k : IntKind} {i : Int} {c : Array Value} {v : Value} (ho : o.op = .index ty x ix) (hx : ρ x = .agg c) (hi : ρ ix = .int k i)
    (hu : P.underlying ty = some (.array n e)) (ht : OneTy P e) (hj : decide (0 ≤ i ∧ i < n) = true) (hv : c.toList[i.toNat]? = some v) : (execOp ρ o).run P w = .ok (.value v) w := by
  obtain ⟨d, hue, hd, hsz⟩ := ht
  have hagg : (isAgg e).run P w = .ok false w := by
    unfold isAgg
    rw [Sem.run_bind, run_underlying hue w]
    cases d <;> simp_all
  have hv' : c[i.toNat]? = some v := by rw [← Array.getElem?_toList]; exact hv
  have hj' := of_decide_eq_true hj
  cases hq : P.info? e with
  | none => simp [hq] at hsz
  | some q =>
    have hz : q.size = 1 := by simpa [hq] using hsz
    unfold execOp
    simp only [ho, hx, hi]
    simp [Instr.index, asIntOf, run_underlying hu, hj', sizeOf, typeInfo, hq, hz, part, hagg, hv']
theorem wpList_index {ops : Array Oper} {rest : List Oper} {tp : TypeId} {pos : String} {af : Array Edge} {gd : Option (Nat × Bool)} {ls ls' : List Value} {ds : List Deferred} {w : World} {Q : Exit → Act → World → Prop} {d : Tmp}
    {ty e : TypeId} {x ix : Operand} {n : Nat} {k : IntKind} {i : Int} {c : Array Value} {v : Value} (hu : P.underlying ty = some (.array n e)) (ht : OneTy P e) (hgd : Region.wanted ⟨some d, .index ty x ix, tp, pos, af, gd⟩ (yielded ops ls.toArray) = true)
    (hx : evalL ls x = some (.agg c)) (hi : evalL ls ix = some (.int k i)) (hj : decide (0 ≤ i ∧ i < n) = true) (hv : c.toList[i.toNat]? = some v)
    (hls : ls.set d v = ls') (h : wpList P ops Q rest ⟨ls'.toArray, ds⟩ w) : wpList P ops Q (⟨some d, .index ty x ix, tp, pos, af, gd⟩ :: rest) ⟨ls.toArray, ds⟩ w :=
  wpList_run_value hgd (run_indexOne rfl (eval_of hx) (eval_of hi) hu ht hj hv) (by rw [put_list, hls]; exact h)
end

section
variable {P : Program} {ops : Array Oper} {C : World → Prop} {R : Act → Prop} {is : List Nat} {tp : TypeId} {pos : String} {af : Array Edge} {gd : Option (Nat × Bool)} {ls ls' : List Value} {ds : List Deferred} {d : Tmp}
theorem wpT1_built {t : TypeId} {c : Array Value} {parts : Array (Nat × Operand)} (hgd : Region.wanted ⟨some d, .build t parts, tp, pos, af, gd⟩ (yielded ops ls.toArray) = true) {ps : List (Nat × Value)} (hq : evalParts ls parts.toList = some ps) (hb : Built P t ps c)
    (hls : ls.set d (.agg c) = ls') (h : wpT P ops C R is ⟨ls'.toArray, ds⟩) : wpT1 P ops C R is ⟨some d, .build t parts, tp, pos, af, gd⟩ ⟨ls.toArray, ds⟩ :=
  ⟨_, .inl ⟨hgd, .inl fun w _ => run_buildRow rfl (by rw [evalParts_of hq]; exact hb.eq)⟩, by rw [put_list, hls]; exact h⟩
end

/-! ### A plain region of quiet operations -/
section
variable {P : Program} {ops : Array Oper} {C : World → Prop} {Q : Exit → Act → World → Prop}
theorem wpList_of_wpT : ∀ (rest : List Oper) (k : Nat) (a : Act) (w : World), (∀ j, rest[j]? = ops[k + j]?) → C w →
    wpT P ops C (fun a' => ∀ w', C w' → Q .normal a' w') (List.range' k rest.length) a → wpList P ops Q rest a w
  | [], _, _, w, _, hC, h => h w hC
  | o :: rest, k, a, w, hr, hC, h => by
    simp only [List.length_cons, List.range'_succ] at h
    obtain ⟨o', v, ho, hy, h⟩ := h
    have h0 : ops[k]? = some o := by simpa using (hr 0).symm
    rw [h0] at ho
    obtain rfl := Option.some.inj ho
    have ih := fun w' hC' => wpList_of_wpT rest (k + 1) (a.put o.dst v) w' (fun j => by have := hr (j + 1); simpa [Nat.add_assoc, Nat.add_comm 1 j] using this) hC' h
    refine wpList_step fun K hK => ?_
    rcases hy with ⟨hw, ht⟩ | ⟨hw, rfl⟩
    · rw [if_pos hw]
      unfold Oper.wp
      rcases ht with ht | ⟨f, args, hrun, hc⟩
      · rw [ht w hC]
        exact hK _ _ (ih w hC)
      · rw [hrun w]
        refine Calls.mono (hc w hC) fun e w' hk => ?_
        obtain ⟨rfl, _, hC'⟩ := hk
        exact hK _ _ (ih w' hC')
    · rw [if_neg (by rw [hw]; exact Bool.false_ne_true)]
      exact hK _ _ (ih w hC)
theorem wp_region_tame {id : Nat} {lo : List Oper} {a : Act} {w0 w : World} {l : List RowT} (hR : Own w0 w l) (is : List Nat) (his : List.range' 0 lo.length = is)
    (h : wpT P lo.toArray (fun w' => Own w0 w' l) (fun a' => ∀ w', Own w0 w' l → Q .normal a' w') is a) : (Code.region id lo.toArray false).wp P Q a w := by
  subst his
  exact wp_region_lit (wpList_of_wpT lo 0 a w (fun j => by simp) hR h)
end
end Go.Proofs.YtjecckmcjcikdaaDoor
