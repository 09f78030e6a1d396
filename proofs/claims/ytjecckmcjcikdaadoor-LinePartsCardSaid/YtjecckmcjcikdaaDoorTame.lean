/- The rules of a quiet operation, each told once, whether a guard stands over it or not: one rule finds the guard ('pl': none; 'gd'), one tells what the operation yields. No statement of the seat is proved here. -/
import Derived.Test.YtjecckmcjcikdaaDoorGuard
namespace Go.Proofs.YtjecckmcjcikdaaDoor
open Go.ChangeShapes Go.WideShapes Go.ChangeAt Go.RowKit
set_option linter.unusedVariables false
set_option linter.unusedSimpArgs false

theorem Imp.right {a b c : Bool} (h : Imp b c) : Imp (a && b) c := ⟨fun e => h.of (Bool.and_eq_true_iff.1 e).2⟩
/-- Where a test holds, the operation yields this value. -/
structure TIf (P : Program) (C : World → Prop) (c : Bool) (o : Oper) (a : Act) (v : Value) : Prop where
  of : c = true → Tame P C o a v
section
variable {P : Program} {ops : Array Oper} {C : World → Prop} {R : Act → Prop} {is : List Nat} {tp : TypeId} {pos : String} {af : Array Edge} {gd : Option (Nat × Bool)} {ls ls' : List Value} {ds : List Deferred} {w0 : World} {l : List RowT} {dd : Option Tmp} {d : Tmp} {k : Nat} {want c : Bool}
theorem q_pl {op : Op} {v : Value} (ht : TIf P C true ⟨some d, op, tp, pos, af, none⟩ ⟨ls.toArray, ds⟩ v) (hls : ls.set d v = ls') (h : wpT P ops C R is ⟨ls'.toArray, ds⟩) : wpT1 P ops C R is ⟨some d, op, tp, pos, af, none⟩ ⟨ls.toArray, ds⟩ :=
  ⟨v, .inl ⟨rfl, ht.of rfl⟩, by rw [put_list, hls]; exact h⟩
theorem q_gd {op : Op} {v : Value} (hg : GdBy ops ls k want c) (ht : TIf P C c ⟨some d, op, tp, pos, af, some (k, want)⟩ ⟨ls.toArray, ds⟩ v) (hls : ls.set d (gv c v) = ls') (h : wpT P ops C R is ⟨ls'.toArray, ds⟩) : wpT1 P ops C R is ⟨some d, op, tp, pos, af, some (k, want)⟩ ⟨ls.toArray, ds⟩ :=
  wpT1_gd hg ht.of hls h
/-- A guard that is known to let it through. -/
theorem q_kn {op : Op} {v : Value} (hg : Region.wanted ⟨some d, op, tp, pos, af, gd⟩ (yielded ops ls.toArray) = true) (ht : TIf P C true ⟨some d, op, tp, pos, af, gd⟩ ⟨ls.toArray, ds⟩ v) (hls : ls.set d v = ls') (h : wpT P ops C R is ⟨ls'.toArray, ds⟩) : wpT1 P ops C R is ⟨some d, op, tp, pos, af, gd⟩ ⟨ls.toArray, ds⟩ :=
  ⟨v, .inl ⟨hg, ht.of rfl⟩, by rw [put_list, hls]; exact h⟩

theorem t_addr {s : TypeId} {f off g : Nat} {x : Operand} (hf : FieldAt P s f off) (hx : EvC ls c x (.pointer (some ⟨g, 0, none⟩))) : TIf P C c ⟨dd, .fieldAddr s x f, tp, pos, af, gd⟩ ⟨ls.toArray, ds⟩ (.pointer (some ⟨g, off, none⟩)) :=
  ⟨fun e => .inl fun w _ => run_addr hf rfl (eval_of (hx.of e)) w⟩
theorem t_move {x : Operand} {v : Value} (hx : EvC ls c x v) : TIf P C c ⟨dd, .move x, tp, pos, af, gd⟩ ⟨ls.toArray, ds⟩ v := ⟨fun e => .inl fun w _ => run_moveV rfl (eval_of (hx.of e)) w⟩
theorem t_assign {x : Operand} {v : Value} (hx : EvC ls c x v) : TIf P C c ⟨dd, .assign x, tp, pos, af, gd⟩ ⟨ls.toArray, ds⟩ v := ⟨fun e => .inl fun w _ => run_assignOne rfl (eval_of (hx.of e)) w⟩
theorem t_cmp {op : BinOp} {ty ty' : TypeId} {x y : Operand} {q : IntKind} {a b : Int} {t : Bool} (hx : EvC ls c x (.int q a)) (hy : EvC ls c y (.int q b)) (ht : cmpB op a b = some t) : TIf P C c ⟨dd, .binOp op ty x y ty', tp, pos, af, gd⟩ ⟨ls.toArray, ds⟩ (.bool t) :=
  ⟨fun e => .inl fun w _ => run_cmp rfl (eval_of (hx.of e)) (eval_of (hy.of e)) ht w⟩
theorem t_num {op : BinOp} {ty ty' : TypeId} {x y : Operand} {q : IntKind} {a b m : Int} (hx : EvC ls c x (.int q a)) (hy : EvC ls c y (.int q b)) (ht : numB q op a b = some m) : TIf P C c ⟨dd, .binOp op ty x y ty', tp, pos, af, gd⟩ ⟨ls.toArray, ds⟩ (.int q m) :=
  ⟨fun e => .inl fun w _ => run_num rfl (eval_of (hx.of e)) (eval_of (hy.of e)) ht w⟩
theorem t_not {ty : TypeId} {x : Operand} {b : Bool} (hx : EvC ls c x (.bool b)) : TIf P C c ⟨dd, .unOp .not ty x, tp, pos, af, gd⟩ ⟨ls.toArray, ds⟩ (.bool (!b)) := ⟨fun e => .inl fun w _ => run_not rfl (eval_of (hx.of e)) w⟩
theorem t_and {x y : Operand} {b b' : Bool} (hx : EvC ls c x (.bool b)) (hy : EvC ls (c && b) y (.bool b')) : TIf P C c ⟨dd, .pick x y (.const (.bool false)), tp, pos, af, gd⟩ ⟨ls.toArray, ds⟩ (.bool (b && b')) := by
  refine ⟨fun e => .inl fun w _ => ?_⟩
  rw [run_pickB rfl (eval_of (hx.of e)) w]
  cases hb : b
  · rfl
  · rw [cond_true, eval_of (hy.of (by rw [e, hb]; rfl))]; rfl
theorem t_or {x y : Operand} {b b' : Bool} (hx : EvC ls c x (.bool b)) (hy : EvC ls (c && !b) y (.bool b')) : TIf P C c ⟨dd, .pick x (.const (.bool true)) y, tp, pos, af, gd⟩ ⟨ls.toArray, ds⟩ (.bool (b || b')) := by
  refine ⟨fun e => .inl fun w _ => ?_⟩
  rw [run_pickB rfl (eval_of (hx.of e)) w]
  cases hb : b
  · rw [cond_false, eval_of (hy.of (by rw [e, hb]; rfl))]; rfl
  · rfl
/-- A pick whose test is known. -/
theorem t_pick {x y z : Operand} {b : Bool} {v : Value} (hx : EvC ls c x (.bool b)) (hv : EvC ls c (bif b then y else z) v) : TIf P C c ⟨dd, .pick x y z, tp, pos, af, gd⟩ ⟨ls.toArray, ds⟩ v := by
  refine ⟨fun e => .inl fun w _ => ?_⟩
  rw [run_pickB rfl (eval_of (hx.of e)) w]
  have := eval_of (ds := ds) (hv.of e)
  cases b <;> simp only [cond_true, cond_false] at this ⊢ <;> rw [this]
theorem t_part {ty : TypeId} {n : Nat} (ht : RowTy P ty n) {g off : Nat} {cs s : Array Value} {t : TypeId} {x : Operand} (hx : EvC ls c x (.pointer (some ⟨g, off, none⟩))) (hm : (g, cs, t) ∈ l) (hs : ExtRel cs off n s) (hn : s.size = n) :
    TIf P (fun w => Own w0 w l) c ⟨dd, .load ty x, tp, pos, af, gd⟩ ⟨ls.toArray, ds⟩ (.agg s) := by
  obtain ⟨d', hu, hd, hi⟩ := ht
  exact ⟨fun e => .inl fun w hC => run_loadPart rfl (eval_of (hx.of e)) (hC.get hm) hu hd hi hs hn⟩
theorem t_one {ty : TypeId} (ht : OneTy P ty) {g off : Nat} {cs : Array Value} {v : Value} {t : TypeId} {x : Operand} (hx : EvC ls c x (.pointer (some ⟨g, off, none⟩))) (hm : (g, cs, t) ∈ l) (hs : cs.toList[off]? = some v) :
    TIf P (fun w => Own w0 w l) c ⟨dd, .load ty x, tp, pos, af, gd⟩ ⟨ls.toArray, ds⟩ v := by
  obtain ⟨d', hu, hd, _⟩ := ht
  exact ⟨fun e => .inl fun w hC => run_loadOne rfl (eval_of (hx.of e)) (hC.get hm) hu hd hs⟩
theorem t_built {t : TypeId} {cs : Array Value} {parts : Array (Nat × Operand)} {ps : List (Nat × Value)} (hq : evalParts ls parts.toList = some ps) (hb : Built P t ps cs) : TIf P C c ⟨dd, .build t parts, tp, pos, af, gd⟩ ⟨ls.toArray, ds⟩ (.agg cs) :=
  ⟨fun _ => .inl fun w _ => run_buildRow rfl (by rw [evalParts_of hq]; exact hb.eq)⟩
theorem t_call {f : FuncId} (hcf : ∀ (args : Array Value) w, (callFunc f args).run P w = .ok (.enter f args) w) {as : Array Operand} {ats : Array TypeId} {args : List Value} {v : Value} (ha : EvAll ls c as.toList args)
    (hc : c = true → ∀ w, C w → Calls P f args.toArray w fun e w' => e = .returned v ∧ Below w.heap.size w w' ∧ C w') : TIf P C c ⟨dd, .call ⟨.value (.func f), as, ats⟩, tp, pos, af, gd⟩ ⟨ls.toArray, ds⟩ v := by
  refine ⟨fun e => .inr ⟨f, args.toArray, fun w => ?_, hc e⟩⟩
  have ha' : as.map (⟨ls.toArray, ds⟩ : Act).eval = args.toArray := by
    apply Array.toList_inj.1
    rw [Array.toList_map, evalAll_of (ha.of e)]
  have hev : (⟨ls.toArray, ds⟩ : Act).eval (.func f) = .func (.func f) #[] #[] := rfl
  unfold execOp
  simp only [resolve, hev, Deferred.ofValue, ha', Sem.run_bind, Sem.run_pure, Result.andThen_ok, invoke, Array.empty_append, Array.append_empty, hcf]
/-- It asks nothing of the world, and reads no slot that a guard left: the walk's simp reckons it. -/
theorem t_pure {op : Op} {v : Value} (h : ∀ w, (execOp (⟨ls.toArray, ds⟩ : Act).eval ⟨dd, op, tp, pos, af, gd⟩).run P w = .ok (.value v) w) : TIf P C c ⟨dd, op, tp, pos, af, gd⟩ ⟨ls.toArray, ds⟩ v := ⟨fun _ => .inl fun w _ => h w⟩

/-! Which number a number is. -/
structure NumIs (n m : Int) : Prop where
  eq : n = m
end

/-! ### The same in a plain region that makes and writes, too -/
section
variable {P : Program} {ops : Array Oper} {rest : List Oper} {Q : Exit → Act → World → Prop} {tp : TypeId} {pos : String} {af : Array Edge} {gd : Option (Nat × Bool)} {ls ls' : List Value} {ds : List Deferred} {w0 w : World} {l : List RowT} {d : Tmp}
/-- A quiet operation that calls nothing, in a list of operations. -/
theorem q_ls {op : Op} {v : Value} (hR : Own w0 w l) (hg : Region.wanted ⟨some d, op, tp, pos, af, gd⟩ (yielded ops ls.toArray) = true) (ht : TIf P (fun w => Own w0 w l) true ⟨some d, op, tp, pos, af, gd⟩ ⟨ls.toArray, ds⟩ v)
    (hls : ls.set d v = ls') (h : ∀ w', Own w0 w' l → wpList P ops Q rest ⟨ls'.toArray, ds⟩ w') : wpList P ops Q (⟨some d, op, tp, pos, af, gd⟩ :: rest) ⟨ls.toArray, ds⟩ w := by
  refine wpList_step fun K hK => ?_
  rw [if_pos hg]
  unfold Oper.wp
  rcases ht.of rfl with ht | ⟨f, args, hrun, hc⟩
  · rw [ht w hR]
    refine hK _ _ ?_
    rw [put_list, hls]
    exact h w hR
  · rw [hrun w]
    refine Calls.mono (hc w hR) fun e w' hk => ?_
    obtain ⟨rfl, _, hC'⟩ := hk
    refine hK _ _ ?_
    rw [put_list, hls]
    exact h w' hC'
end
/-- An 'if', whose test is given a name. -/
theorem wp_cond_at {P : Program} {Q : Exit → Act → World → Prop} {w : World} {ls : List Value} {ds : List Deferred} {c : Operand} {x y : Code} {b nm : Bool} (hx : evalL ls c = some (.bool b)) (hn : b = nm)
    (ht : nm = true → x.wp P Q ⟨ls.toArray, ds⟩ w) (hf : nm = false → y.wp P Q ⟨ls.toArray, ds⟩ w) : (Code.cond c x y).wp P Q ⟨ls.toArray, ds⟩ w :=
  wp_cond_split (t := nm) (by rw [eval_of hx, hn]) ht hf
end Go.Proofs.YtjecckmcjcikdaaDoor
