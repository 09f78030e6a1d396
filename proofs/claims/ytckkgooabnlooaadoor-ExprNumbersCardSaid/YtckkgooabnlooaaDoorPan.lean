/- Regions that draw their order and hold calls that may panic: the rules of Row, Hand and Src where the post says something of a panic, too. No statement of the seat is proved here. -/
import Derived.Test.YtckkgooabnlooaaDoorHand
import Derived.Test.YtckkgooabnlooaaDoorSrc
namespace Go.Proofs.YtckkgooabnlooaaDoor
open Go.ChangeShapes Go.WideShapes Go.ChangeAt Go.RowKit
set_option linter.unusedVariables false
set_option linter.unusedSimpArgs false

/-- What the post says of a panic hangs on no slot. -/
structure SlotFree (Q : Exit → Act → World → Prop) : Prop where
  of : ∀ c a d v w, Q (.panic c) (Act.put a d v) w → Q (.panic c) a w
section
variable {P : Program} {ops : Array Oper} {md : Region.Mode} {C : World → Prop} {Q : Exit → Act → World → Prop}
theorem wpOp_putTameP {j : Nat} {oi oj : Oper} {v : Value} (hj : ops[j]? = some oj) (hap : oi.apart ops oj = true) (hsi : ∀ cs b, oi.op ≠ .select cs b) (hsj : ∀ cs b, oj.op ≠ .select cs b)
    (hQ : SlotFree Q) {K : Act → World → Prop} {a : Act} {w : World} (hy : TameAt P ops C oi v a) (h : wpOp P ops Q j K (a.put oi.dst v) w) :
    wpOp P ops Q j (fun a' w' => TameAt P ops C oi v a' ∧ K (a'.put oi.dst v) w') a w := by
  obtain ⟨h1, h2, h3⟩ := Oper.apart_spec hap
  have keep : ∀ u, TameAt P ops C oi v (a.put oj.dst u) := fun u => hy.of_same (execOp_put oi hsi a oj.dst u h3) (wanted_put oi a oj.dst u h3)
  have turn : ∀ {u w'}, K ((a.put oi.dst v).put oj.dst u) w' → TameAt P ops C oi v (a.put oj.dst u) ∧ K ((a.put oj.dst u).put oi.dst v) w' := fun {u w'} hk =>
    ⟨keep u, by rw [← Act.put_comm a v u h2]; exact hk⟩
  unfold wpOp at h ⊢
  simp only [hj] at h ⊢
  rw [wanted_put oj a oi.dst v h1] at h
  by_cases hw : Region.wanted oj (yielded ops a.tmps) = true
  · rw [if_pos hw] at h ⊢
    rcases h with h | ⟨hasks, hlets⟩
    · refine .inl ?_
      unfold Oper.wp at h ⊢
      rw [execOp_put oj hsj a oi.dst v h1] at h
      revert h
      generalize (execOp a.eval oj).run P w = r
      intro h
      cases r with
      | halt x w' => cases x <;> simp only [Oper.upon] at h ⊢ <;> exact hQ.of _ _ _ _ _ h
      | ok n w' =>
        cases n <;> simp only [Oper.upon] at h ⊢
        case value u => exact turn h
        case skip => exact turn h
        case enter f args =>
          refine Calls.mono h fun e w'' he => ?_
          cases e with
          | returned u => exact turn he
          | panicked c => exact hQ.of _ _ _ _ _ he
          | outgrown => exact he
        case row row args => exact Rows.mono h fun u w'' he => turn he
        case defer d =>
          refine ⟨TameAt.of_same (a := a) hy (execOp_put (a := { a with defers := d :: a.defers }) oi hsi oj.dst undef h3) (wanted_put (a := { a with defers := d :: a.defers }) oi oj.dst undef h3), ?_⟩
          rw [← Act.put_comm _ v undef h2, ← Act.put_defers]
          exact h
    · exact .inr ⟨by unfold Oper.asks at hasks ⊢; rw [execOp_put oj hsj a oi.dst v h1] at hasks; exact hasks, hlets⟩
  · rw [if_neg hw] at h ⊢
    exact turn h
theorem wpG_firstP {i : Nat} {oi : Oper} {v : Value} (hi : ops[i]? = some oi) (hsel : ∀ (j : Nat) (o : Oper) cs b, ops[j]? = some o → o.op ≠ .select cs b) (hQ : SlotFree Q) :
    ∀ (n : Nat) (L : Array Bool) (a : Act) (w : World),
      (∀ j oj, ops[j]? = some oj → j ≠ i → L.getD j true = false → (∀ e ∈ oj.after, Region.binds md e = true → e.on ≠ i) → oi.apart ops oj = true) →
      i ∈ Region.ready md ops L → TameAt P ops C oi v a →
      wpG P md ops C Q n (L.setIfInBounds i true) (a.put oi.dst v) w → wpG P md ops C Q (n + 1) L a w := by
  intro n
  induction n with
  | zero =>
    intro L a w _ hr hy H w' hb hC
    refine ⟨fun h => (by rw [h] at hr; exact nomatch hr), fun j hj => ?_⟩
    by_cases hji : j = i
    · subst hji
      exact wpOp_of_tame hi hy hC fun w2 hb2 hC2 => ⟨hC2, H.grow (below_more hb hb2)⟩
    · have := ready_mono hj hji
      rw [(H w' hb hC).1] at this
      exact nomatch this
  | succ n ih =>
    intro L a w hfree hr hy H w' hb hC
    refine ⟨fun h => (by rw [h] at hr; exact nomatch hr), fun j hj => ?_⟩
    by_cases hji : j = i
    · subst hji
      exact wpOp_of_tame hi hy hC fun w2 hb2 hC2 => ⟨hC2, H.grow (below_more hb hb2)⟩
    · obtain ⟨hjun, oj, hoj, hall⟩ := mem_ready.1 hj
      have hnot : ∀ e ∈ oj.after, Region.binds md e = true → e.on ≠ i := fun e he hbd heq => by
        have k1 := hall e he hbd
        have k0 := (mem_ready.1 hr).1
        rw [heq] at k1
        rcases Nat.lt_or_ge i L.size with h' | h'
        · simp [h'] at k0 k1; rw [k0] at k1; exact nomatch k1
        · simp [Array.getElem?_eq_none h'] at k1
      have h2 := wpOp_putTameP hoj (hfree j oj hoj hji hjun hnot) (fun cs b => hsel i oi cs b hi) (fun cs b => hsel j oj cs b hoj) hQ hy ((H w' hb hC).2 j (ready_mono hj hji))
      refine wpOp_mono (fun a' w2 h3 => ⟨h3.2.1, ih (L.setIfInBounds j true) a' w2 (fun k ok hk hki hun hno => hfree k ok hk hki ?_ hno) (ready_mono hr (Ne.symm hji)) h3.1 ?_⟩) h2
      · by_cases hjk : j = k
        · subst hjk; exact hjun
        · rw [getD_set_ne true hjk] at hun; exact hun
      · rw [Array.setIfInBounds_comm _ _ hji]
        exact h3.2.2
theorem wpG_of_wpTP (hs : Region.noSelect ops = true) (hQ : SlotFree Q) (n : Nat) (w : World) : ∀ (is : List Nat) (L : Array Bool) (a : Act), firstB md ops is L = true →
    wpT P ops C (fun a' => wpG P md ops C Q n (marks is L) a' w) is a → wpG P md ops C Q (n + is.length) L a w
  | [], _, _, _, h => h
  | i :: is, L, a, hB, h => by
    obtain ⟨o, v, ho, hy, h⟩ := h
    simp only [firstB, Bool.and_eq_true] at hB
    have := wpG_of_wpTP hs hQ n w is (L.setIfInBounds i true) (a.put o.dst v) hB.2 h
    exact wpG_firstP ho (Region.noSelect_spec hs) hQ (n + is.length) L a w (Region.free_spec ho hB.1.2) (by simpa using hB.1.1) hy this
theorem wp_region_ownP {id : Nat} {ls : List Oper} {a : Act} {w : World} (C : World → Prop) (is : List Nat) (n : Nat) (hQ : SlotFree Q) (hm : P.follows .mixedOrders = true) (hs : Region.noSelect ls.toArray = true)
    (hB : firstB .any ls.toArray is (Array.replicate ls.toArray.size false) = true) (hn : n + is.length = ls.toArray.size) (hC : C w.drew)
    (h : wpT P ls.toArray C (fun a' => wpG P .any ls.toArray C Q n (marks is (Array.replicate ls.toArray.size false)) a' w.drew) is a) : (Code.region id ls.toArray true).wp P Q a w := by
  refine wp_region_any hm ?_
  have hg := wpG_of_wpTP (md := .any) hs hQ n w.drew is _ a hB h
  rw [hn] at hg
  exact wpAny_of_wpG _ _ _ _ hC hg
theorem wp_region_someP {id : Nat} {ls : List Oper} {a : Act} {w0 w : World} {l : List RowT} (hR : Own w0 w l) (l' : List RowT) (hl : l'.Sublist l) (is : List Nat) (n : Nat) (hQ : SlotFree Q) (hm : P.follows .mixedOrders = true) (hs : Region.noSelect ls.toArray = true)
    (hB : firstB .any ls.toArray is (Array.replicate ls.toArray.size false) = true) (hn : n + is.length = ls.toArray.size)
    (h : Own w0 w.drew l → wpT P ls.toArray (fun w' => Own w0 w' l') (fun a' => wpG P .any ls.toArray (fun w' => Own w0 w' l') Q n (marks is (Array.replicate ls.toArray.size false)) a' w.drew) is a) : (Code.region id ls.toArray true).wp P Q a w :=
  wp_region_ownP (fun w' => Own w0 w' l') is n hQ hm hs hB hn (hR.drew.drop hl) (h hR.drew)
end
section
variable {P : Program} {ops : Array Oper} {md : Region.Mode} {Q : Exit → Act → World → Prop} {n : Nat} {M : Array Bool} {ls ls' : List Value} {ds : List Deferred} {w0 w : World} {l lC : List RowT} {tp : TypeId} {pos : String} {af : Array Edge} {gd : Option (Nat × Bool)} {d : Tmp} {dd : Option Tmp} {i : Nat}
theorem wpG_endP (hR : Own w0 w l) {a : Act} (hr : Region.ready md ops M = []) (h : ∀ w', Own w0 w' l → Q .normal a w') : wpG P md ops (fun w => Own w0 w lC) Q n M a w :=
  wpG_done hr fun w' hb _ => h w' (hR.grow hb)
theorem wpG_oneP {a : Act} (hR : Own w0 w l) (hr : Region.ready md ops M = [i])
    (h : ∀ w, Own w0 w l → wpOp P ops Q i (fun a' w' => Own w0 w' lC ∧ wpG P md ops (fun w => Own w0 w lC) Q n (M.setIfInBounds i true) a' w') a w) : wpG P md ops (fun w => Own w0 w lC) Q (n + 1) M a w := by
  refine wpG_next hr (by simp) ?_
  intro w1 hb _ k hk
  obtain rfl := List.mem_singleton.1 hk
  exact h w1 (hR.grow hb)
theorem wpG_threeP {j k : Nat} {a : Act} (hR : Own w0 w l) (hr : Region.ready md ops M = [i, j, k])
    (hi : ∀ w', Own w0 w' l → wpOp P ops Q i (fun a' w'' => Own w0 w'' lC ∧ wpG P md ops (fun w => Own w0 w lC) Q n (M.setIfInBounds i true) a' w'') a w')
    (hj : ∀ w', Own w0 w' l → wpOp P ops Q j (fun a' w'' => Own w0 w'' lC ∧ wpG P md ops (fun w => Own w0 w lC) Q n (M.setIfInBounds j true) a' w'') a w')
    (hk : ∀ w', Own w0 w' l → wpOp P ops Q k (fun a' w'' => Own w0 w'' lC ∧ wpG P md ops (fun w => Own w0 w lC) Q n (M.setIfInBounds k true) a' w'') a w') :
    wpG P md ops (fun w => Own w0 w lC) Q (n + 1) M a w := by
  refine wpG_next hr (by simp) ?_
  intro w1 hb _ k' hk'
  simp only [List.mem_cons, List.not_mem_nil, or_false] at hk'
  rcases hk' with rfl | rfl | rfl
  · exact hi w1 (hR.grow hb)
  · exact hj w1 (hR.grow hb)
  · exact hk w1 (hR.grow hb)
/-- A call comes next, that may write what is the call's own, or panic. -/
theorem opCallP {f : FuncId} (hcf : ∀ (args : Array Value) w, (callFunc f args).run P w = .ok (.enter f args) w) {as : Array Operand} {ats : Array TypeId} {args : List Value} {K : Act → World → Prop}
    (hi : ops.toList[i]? = some ⟨dd, .call ⟨.value (.func f), as, ats⟩, tp, pos, af, gd⟩) (hg : Region.wanted ⟨dd, .call ⟨.value (.func f), as, ats⟩, tp, pos, af, gd⟩ (yielded ops ls.toArray) = true) (ha : evalAll ls as.toList = some args)
    (hc : Calls P f args.toArray w fun en w' => (∃ v, en = .returned v ∧ K ((⟨ls.toArray, ds⟩ : Act).put dd v) w') ∨ ∃ c, en = .panicked c ∧ Q (.panic c) ⟨ls.toArray, ds⟩ w') : wpOp P ops Q i K ⟨ls.toArray, ds⟩ w := by
  have hi' : ops[i]? = some ⟨dd, .call ⟨.value (.func f), as, ats⟩, tp, pos, af, gd⟩ := by rw [← Array.getElem?_toList]; exact hi
  have ha' : as.map (⟨ls.toArray, ds⟩ : Act).eval = args.toArray := by
    apply Array.toList_inj.1
    rw [Array.toList_map, evalAll_of ha]
  have hev : (⟨ls.toArray, ds⟩ : Act).eval (.func f) = .func (.func f) #[] #[] := rfl
  have hrun : (execOp (⟨ls.toArray, ds⟩ : Act).eval ⟨dd, .call ⟨.value (.func f), as, ats⟩, tp, pos, af, gd⟩).run P w = .ok (.enter f args.toArray) w := by
    unfold execOp
    simp only [resolve, hev, Deferred.ofValue, ha', Sem.run_bind, Sem.run_pure, Result.andThen_ok, invoke, Array.empty_append, Array.append_empty, hcf]
  unfold wpOp
  simp only [hi']
  rw [if_pos hg]
  refine .inl ?_
  unfold Oper.wp
  rw [hrun]
  refine Calls.mono hc fun en w' hk => ?_
  rcases hk with ⟨v, rfl, hG⟩ | ⟨c, rfl, hG⟩
  · exact hG
  · exact hG
theorem opCallOk {f : FuncId} (hcf : ∀ (args : Array Value) w, (callFunc f args).run P w = .ok (.enter f args) w) {as : Array Operand} {ats : Array TypeId} {args : List Value} {K : Act → World → Prop}
    (hi : ops.toList[i]? = some ⟨some d, .call ⟨.value (.func f), as, ats⟩, tp, pos, af, gd⟩) (hg : Region.wanted ⟨some d, .call ⟨.value (.func f), as, ats⟩, tp, pos, af, gd⟩ (yielded ops ls.toArray) = true) (ha : evalAll ls as.toList = some args)
    (hc : Calls P f args.toArray w fun en w' => ∃ v, en = .returned v ∧ K ⟨(ls.set d v).toArray, ds⟩ w') : wpOp P ops Q i K ⟨ls.toArray, ds⟩ w :=
  opCallP hcf hi hg ha (hc.mono fun _ _ ⟨v, h1, h2⟩ => .inl ⟨v, h1, by rw [put_list]; exact h2⟩)
theorem opCallBad {f : FuncId} (hcf : ∀ (args : Array Value) w, (callFunc f args).run P w = .ok (.enter f args) w) {as : Array Operand} {ats : Array TypeId} {args : List Value} {K : Act → World → Prop}
    (hi : ops.toList[i]? = some ⟨dd, .call ⟨.value (.func f), as, ats⟩, tp, pos, af, gd⟩) (hg : Region.wanted ⟨dd, .call ⟨.value (.func f), as, ats⟩, tp, pos, af, gd⟩ (yielded ops ls.toArray) = true) (ha : evalAll ls as.toList = some args)
    (hc : Calls P f args.toArray w fun en w' => ∃ c, en = .panicked c ∧ Q (.panic c) ⟨ls.toArray, ds⟩ w') : wpOp P ops Q i K ⟨ls.toArray, ds⟩ w :=
  opCallP hcf hi hg ha (hc.mono fun _ _ h => .inr h)
/-- A closure, or a method of something: made of what lies in slots. -/
theorem opFunc {fn : Fn} {fs xs : Array Operand} {us vs : List Value} {K : Act → World → Prop}
    (hi : ops.toList[i]? = some ⟨some d, .makeFunc fn fs xs, tp, pos, af, gd⟩) (hg : Region.wanted ⟨some d, .makeFunc fn fs xs, tp, pos, af, gd⟩ (yielded ops ls.toArray) = true) (hf : evalAll ls fs.toList = some us) (hx : evalAll ls xs.toList = some vs)
    (h : K ⟨(ls.set d (.func fn us.toArray vs.toArray)).toArray, ds⟩ w) : wpOp P ops Q i K ⟨ls.toArray, ds⟩ w := by
  have ha' : xs.map (⟨ls.toArray, ds⟩ : Act).eval = vs.toArray := by
    apply Array.toList_inj.1
    rw [Array.toList_map, evalAll_of hx]
  have hb' : fs.map (⟨ls.toArray, ds⟩ : Act).eval = us.toArray := by
    apply Array.toList_inj.1
    rw [Array.toList_map, evalAll_of hf]
  refine wpOp_kn (v := .func fn us.toArray vs.toArray) (w' := w) hi hg ?_ ?_
  · unfold execOp
    simp [Instr.makeFunc, ha', hb']
  · show K ((⟨ls.toArray, ds⟩ : Act).put (some d) _) _
    rw [put_list]
    exact h
end
section
variable {P : Program} {C : World → Prop} {tp : TypeId} {pos : String} {af : Array Edge} {gd : Option (Nat × Bool)} {ls : List Value} {ds : List Deferred} {c : Bool} {dd : Option Tmp}
/-- .. as a quiet operation: where nothing is captured but what is bound first. -/
theorem t_func {fn : Fn} {fs xs : Array Operand} {us vs : List Value} (hf : EvAll ls c fs.toList us) (hx : EvAll ls c xs.toList vs) : TIf P C c ⟨dd, .makeFunc fn fs xs, tp, pos, af, gd⟩ ⟨ls.toArray, ds⟩ (.func fn us.toArray vs.toArray) := by
  refine ⟨fun e => .inl fun w _ => ?_⟩
  have ha' : xs.map (⟨ls.toArray, ds⟩ : Act).eval = vs.toArray := by
    apply Array.toList_inj.1
    rw [Array.toList_map, evalAll_of (hx.of e)]
  have hb' : fs.map (⟨ls.toArray, ds⟩ : Act).eval = us.toArray := by
    apply Array.toList_inj.1
    rw [Array.toList_map, evalAll_of (hf.of e)]
  unfold execOp
  simp [Instr.makeFunc, ha', hb']
end
section
variable {P : Program} {ops : Array Oper} {rest : List Oper} {Q : Exit → Act → World → Prop} {ls : List Value} {ds : List Deferred} {w0 w : World} {l : List RowT} {tp : TypeId} {pos : String} {af : Array Edge} {gd : Option (Nat × Bool)} {d : Tmp}
/-- A call of a function value without arguments of its own; it may panic. -/
theorem wpList_fnP {F : FuncId} (hcf : ∀ (args : Array Value) w, (callFunc F args).run P w = .ok (.enter F args) w) {x : Operand} {ats : Array TypeId} {fs cp : Array Value}
    (hgd : Region.wanted ⟨some d, .call ⟨.value x, #[], ats⟩, tp, pos, af, gd⟩ (yielded ops ls.toArray) = true) (hx : evalL ls x = some (.func (.func F) fs cp))
    (hc : Calls P F (fs ++ cp) w fun en w' => (∃ v, en = .returned v ∧ wpList P ops Q rest ⟨(ls.set d v).toArray, ds⟩ w') ∨ ∃ c, en = .panicked c ∧ Q (.panic c) ⟨ls.toArray, ds⟩ w') :
    wpList P ops Q (⟨some d, .call ⟨.value x, #[], ats⟩, tp, pos, af, gd⟩ :: rest) ⟨ls.toArray, ds⟩ w := by
  have hev : (⟨ls.toArray, ds⟩ : Act).eval x = .func (.func F) fs cp := eval_of hx
  have hrun : (execOp (⟨ls.toArray, ds⟩ : Act).eval ⟨some d, .call ⟨.value x, #[], ats⟩, tp, pos, af, gd⟩).run P w = .ok (.enter F (fs ++ cp)) w := by
    unfold execOp
    simp only [resolve, hev, Deferred.ofValue, Sem.run_bind, Sem.run_pure, Result.andThen_ok, invoke, Array.append_empty, Array.map_empty, List.map_toArray, List.map_nil, hcf]
  refine wpList_step fun K hK => ?_
  rw [if_pos hgd]
  unfold Oper.wp
  rw [hrun]
  refine Calls.mono hc fun en w' hk => ?_
  rcases hk with ⟨v, rfl, hG⟩ | ⟨c, rfl, hG⟩
  · refine hK _ _ ?_
    rw [put_list]
    exact hG
  · exact hG
end
/-- A plain region: quiet operations first, then what is left. -/
theorem wpList_quiet {P : Program} {ops : Array Oper} {C : World → Prop} {Q : Exit → Act → World → Prop} : ∀ (n : Nat) (rest : List Oper) (k : Nat) (a : Act) (w : World), n ≤ rest.length → (∀ j, rest[j]? = ops[k + j]?) → C w →
    wpT P ops C (fun a' => ∀ w', C w' → wpList P ops Q (rest.drop n) a' w') (List.range' k n) a → wpList P ops Q rest a w
  | 0, _, _, _, w, _, _, hC, h => h w hC
  | n + 1, [], _, _, _, hl, _, _, _ => absurd hl (by simp)
  | n + 1, o :: rest, k, a, w, hl, hr, hC, h => by
    simp only [List.range'_succ] at h
    obtain ⟨o', v, ho, hy, h⟩ := h
    have h0 : ops[k]? = some o := by simpa using (hr 0).symm
    rw [h0] at ho
    obtain rfl := Option.some.inj ho
    have ih := fun w' hC' => wpList_quiet n rest (k + 1) (a.put o.dst v) w' (by simpa using hl) (fun j => by have := hr (j + 1); simpa [Nat.add_assoc, Nat.add_comm 1 j] using this) hC' (by simpa using h)
    refine wpList_step fun K hK => ?_
    rcases hy with ⟨hw, ht⟩ | ⟨hw, rfl⟩
    · rw [if_pos hw]
      unfold Oper.wp
      rcases ht with ht | ⟨f, args, hrun, hc⟩
      · rw [ht w hC]
        exact hK _ _ (ih w hC)
      · rw [hrun w]
        refine Calls.mono (hc w hC) fun e w' hk => ?_
        obtain ⟨rfl, _, hC'⟩ := hk
        exact hK _ _ (ih w' hC')
    · rw [if_neg (by rw [hw]; exact Bool.false_ne_true)]
      exact hK _ _ (ih w hC)
theorem wp_region_quiet {P : Program} {Q : Exit → Act → World → Prop} {id : Nat} {lo : List Oper} {a : Act} {w0 w : World} {l : List RowT} (hR : Own w0 w l) (n : Nat) (is : List Nat) (his : List.range' 0 n = is) (hn : n ≤ lo.length)
    (h : wpT P lo.toArray (fun w' => Own w0 w' l) (fun a' => ∀ w', Own w0 w' l → wpList P lo.toArray Q (lo.drop n) a' w') is a) : (Code.region id lo.toArray false).wp P Q a w := by
  subst his
  exact wp_region_lit (wpList_quiet n lo 0 a w hn (fun j => by simp) hR h)
theorem wpList_callP {P : Program} {ops : Array Oper} {rest : List Oper} {Q : Exit → Act → World → Prop} {ls : List Value} {ds : List Deferred} {w : World} {tp : TypeId} {pos : String} {af : Array Edge} {gd : Option (Nat × Bool)} {dd : Option Tmp} {f : FuncId} (hcf : ∀ (args : Array Value) w, (callFunc f args).run P w = .ok (.enter f args) w) {as : Array Operand} {ats : Array TypeId} {args : List Value}
    (hg : Region.wanted ⟨dd, .call ⟨.value (.func f), as, ats⟩, tp, pos, af, gd⟩ (yielded ops ls.toArray) = true) (ha : evalAll ls as.toList = some args)
    (hc : Calls P f args.toArray w fun en w' => (∃ v, en = .returned v ∧ wpList P ops Q rest ((⟨ls.toArray, ds⟩ : Act).put dd v) w') ∨ ∃ c, en = .panicked c ∧ Q (.panic c) ⟨ls.toArray, ds⟩ w') :
    wpList P ops Q (⟨dd, .call ⟨.value (.func f), as, ats⟩, tp, pos, af, gd⟩ :: rest) ⟨ls.toArray, ds⟩ w := by
  have ha' : as.map (⟨ls.toArray, ds⟩ : Act).eval = args.toArray := by
    apply Array.toList_inj.1
    rw [Array.toList_map, evalAll_of ha]
  have hev : (⟨ls.toArray, ds⟩ : Act).eval (.func f) = .func (.func f) #[] #[] := rfl
  have hrun : (execOp (⟨ls.toArray, ds⟩ : Act).eval ⟨dd, .call ⟨.value (.func f), as, ats⟩, tp, pos, af, gd⟩).run P w = .ok (.enter f args.toArray) w := by
    unfold execOp
    simp only [resolve, hev, Deferred.ofValue, ha', Sem.run_bind, Sem.run_pure, Result.andThen_ok, invoke, Array.empty_append, Array.append_empty, hcf]
  refine wpList_step fun K hK => ?_
  rw [if_pos hg]
  unfold Oper.wp
  rw [hrun]
  refine Calls.mono hc fun en w' hk => ?_
  rcases hk with ⟨v, rfl, hG⟩ | ⟨c, rfl, hG⟩
  · exact hK _ _ hG
  · exact hG
/-- One of some comes next. -/
def EachOp (F : Nat → Prop) : List Nat → Prop
  | [] => True
  | i :: is => F i ∧ EachOp F is
theorem EachOp.get {F : Nat → Prop} : ∀ {is : List Nat}, EachOp F is → ∀ i ∈ is, F i
  | _ :: _, h, _, hm => by
    cases hm with
    | head => exact h.1
    | tail _ hm => exact EachOp.get h.2 _ hm
theorem wpG_many {P : Program} {ops : Array Oper} {md : Region.Mode} {Q : Exit → Act → World → Prop} {n : Nat} {M : Array Bool} {w0 w : World} {l lC : List RowT} {a : Act} {rs : List Nat} (hR : Own w0 w l) (hr : Region.ready md ops M = rs) (hne : rs.isEmpty = false)
    (h : ∀ w', Own w0 w' l → EachOp (fun i => wpOp P ops Q i (fun a' w'' => Own w0 w'' lC ∧ wpG P md ops (fun w => Own w0 w lC) Q n (M.setIfInBounds i true) a' w'') a w') rs) :
    wpG P md ops (fun w => Own w0 w lC) Q (n + 1) M a w := by
  refine wpG_next hr (by intro e; rw [e] at hne; exact nomatch hne) ?_
  intro w1 hb _ k hk
  exact (h w1 (hR.grow hb)).get k hk
end Go.Proofs.YtckkgooabnlooaaDoor
