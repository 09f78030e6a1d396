/- A region of a loop's body within a range over a function, walked by the laws of a plain one: 'wpR' (general; no defer in it). No statement of the seat is proved here. -/
import Derived.Test.YtimciiaajlfkoaaRow
import Derived.RangeFuncNested
import Derived.RangeFuncCalls
import Derived.RangeFuncLeaves
import Derived.RangeFuncBound
namespace Go.Proofs.Ytimciiaajlfkoaa
open Go.ChangeShapes Go.WideShapes Go.ChangeAt Go.RowKit
set_option linter.unusedVariables false
set_option linter.unusedSimpArgs false

/-- The wide fence, in a round or in none. -/
def wideR (r : Option Nat) : Fence := { Fence.wide with round := r }
theorem wideR_none : wideR none = Fence.wide := rfl
theorem wideR_some (l : Nat) : wideR (some l) = Fence.wide.inRound l := rfl
def NoOut (Q : Exit → Act → World → Prop) : Prop := ¬ LetsOut Q
def noDefer (ops : Array Oper) : Bool := ops.toList.all fun o => match o.op with | .defer _ => false | _ => true
theorem noDefer_at {ops : Array Oper} (h : noDefer ops = true) {i : Nat} {o : Oper} (hi : ops[i]? = some o) (c : Call) : o.op ≠ .defer c := by
  intro he
  have hm : o ∈ ops.toList := by
    rw [← Array.getElem?_toList] at hi
    exact List.mem_of_getElem? hi
  have := List.all_eq_true.1 h o hm
  rw [he] at this
  exact nomatch this
section
variable {P : Program} {r : Option Nat} {n : Nat} {Q : Exit → Act → World → Prop} {ops : Array Oper}
theorem callsR {f : FuncId} {args : Array Value} {w : World} {R : Ending → World → Prop} : CallsIn (wideR r) n P f args w R ↔ Calls P f args w R := callsIn_wide (n := n)
theorem rowsR {row : String} {args : Array Value} {w : World} {R : Value → World → Prop} (h : Rows P row args w R) : RowsIn (wideR r) n P row args w R := by
  intro c cs _
  obtain ⟨v, w', hr, hs⟩ := h c cs
  exact ⟨v, w', hr, stepsIn_wide.2 hs⟩
theorem opR {o : Oper} {a : Act} {w : World} {K K' : Act → World → Prop} (hd : ∀ c, o.op ≠ .defer c) (hK : ∀ a w, K a w → K' a w) (h : o.wp P a w K Q) : o.wpIn (wideR r) n P a w K' Q := by
  refine ⟨fun _ _ => trivial, ?_⟩
  rw [Oper.semAt_eq _ _ _ hd]
  unfold Oper.wp at h
  generalize (execOp a.eval o).run P w = res at h
  unfold Oper.upon at h
  unfold Oper.uponIn
  split at h
  · exact hK _ _ h
  · exact hK _ _ h
  · exact hK _ _ h
  · refine ⟨fun hh => (by simp [wideR, Fence.wide] at hh), callsR.2 (h.mono fun e w'' he => ?_)⟩
    cases e with
    | returned v => exact hK _ _ he
    | panicked c => exact he
    | outgrown => exact he
  · exact ⟨fun hh => (by simp [wideR, Fence.wide] at hh), rowsR (h.mono fun v w'' he => hK _ _ he)⟩
  · exact h
  · exact h.elim
theorem opsR (hQ : NoOut Q) (hd : noDefer ops = true) : ∀ (is : List Nat) (a : Act) (w : World), wpOps P ops Q is a w → wpOpsIn (wideR r) n P ops Q is a w
  | [], _, _, h => h
  | i :: is, a, w, h => by
    unfold wpOps at h
    unfold wpOpsIn
    cases hi : ops[i]? with
    | none => rw [hi] at h; exact opsR hQ hd is a w h
    | some o =>
      rw [hi] at h
      dsimp only at h ⊢
      by_cases hw : Region.wanted o (yielded ops a.tmps) = true
      · rw [if_pos hw] at h ⊢
        rcases h with h | ⟨_, h⟩
        · exact opR (noDefer_at hd hi) (fun a w hk => opsR hQ hd is a w hk) h
        · exact (hQ h).elim
      · rw [if_neg hw] at h ⊢
        exact ⟨fun _ _ => trivial, opsR hQ hd is _ w h⟩
theorem wpR_region {id : Nat} {a : Act} {w : World} (hQ : NoOut Q) (hd : noDefer ops = true) (h : wpOps P ops Q (List.range ops.size) a w) : (Code.region id ops false).wpIn (wideR r) n P Q a w :=
  wpIn_region (opsR hQ hd _ a w h)
theorem wpR_lit {id : Nat} {l : List Oper} {a : Act} {w : World} (hQ : NoOut Q) (hd : noDefer l.toArray = true) (h : wpList P l.toArray Q l a w) : (Code.region id l.toArray false).wpIn (wideR r) n P Q a w :=
  wpR_region hQ hd (by rw [List.range_eq_range', ← Array.length_toList, wpOps_eq_wpList l.toArray.toList 0 (by simp)]; simpa using h)
theorem wpR_any {id : Nat} {a : Act} {w : World} (hQ : NoOut Q) (hd : noDefer ops = true) (hm : P.follows .mixedOrders = true) (h : wpAny P .any ops Q ops.size (Array.replicate ops.size false) a w.drew) : (Code.region id ops true).wpIn (wideR r) n P Q a w :=
  wpIn_region_draw fun t => by
    simp only [Region.schedule, hm, Bool.true_or, if_true]
    exact opsR hQ hd _ a _ (wpAny_sound ops.size t _ a _ h)
theorem noOut_noPanic (hQ : NoOut Q) : NoOut (NoPanic Q) := fun ⟨a, w, h⟩ => hQ ⟨a, w, h⟩
theorem wpR_own {id : Nat} {ls : List Oper} {a : Act} {w : World} (hQ : NoOut Q) (hd : noDefer ls.toArray = true) (C : World → Prop) (is : List Nat) (m : Nat) (hm : P.follows .mixedOrders = true) (hs : Region.noSelect ls.toArray = true)
    (hB : firstB .any ls.toArray is (Array.replicate ls.toArray.size false) = true) (hn : m + is.length = ls.toArray.size) (hC : C w.drew)
    (h : wpT P ls.toArray C (fun a' => wpG P .any ls.toArray C (NoPanic Q) m (marks is (Array.replicate ls.toArray.size false)) a' w.drew) is a) : (Code.region id ls.toArray true).wpIn (wideR r) n P Q a w := by
  refine wpIn_mono (wpR_any (noOut_noPanic hQ) hd hm ?_) NoPanic.imp
  have hg := wpG_of_wpT (md := .any) hs (Q := NoPanic Q) (fun _ _ _ h => h) m w.drew is _ a hB h
  rw [hn] at hg
  exact wpAny_of_wpG _ _ _ _ hC hg
theorem wpR_some {id : Nat} {ls : List Oper} {a : Act} {w0 w : World} {l : List RowT} (hQ : NoOut Q) (hR : Own w0 w l) (l' : List RowT) (hl : l'.Sublist l) (is : List Nat) (m : Nat) (hd : noDefer ls.toArray = true) (hm : P.follows .mixedOrders = true) (hs : Region.noSelect ls.toArray = true)
    (hB : firstB .any ls.toArray is (Array.replicate ls.toArray.size false) = true) (hn : m + is.length = ls.toArray.size)
    (h : Own w0 w.drew l → wpT P ls.toArray (fun w' => Own w0 w' l') (fun a' => wpG P .any ls.toArray (fun w' => Own w0 w' l') (NoPanic Q) m (marks is (Array.replicate ls.toArray.size false)) a' w.drew) is a) : (Code.region id ls.toArray true).wpIn (wideR r) n P Q a w :=
  wpR_own hQ hd (fun w' => Own w0 w' l') is m hm hs hB hn (hR.drew.drop hl) (h hR.drew)
theorem opsList (l : List Oper) : ∀ k, (∀ j o, l[j]? = some o → ops[k + j]? = some o) → wpOps P ops Q (List.range' k l.length) = wpList P ops Q l := by
  induction l with
  | nil => intro k _; funext a w; simp [wpOps, wpList]
  | cons o l ih =>
    intro k h
    have h0 : ops[k]? = some o := h 0 o rfl
    have ih' := ih (k + 1) (fun j o' hj => by have := h (j + 1) o' hj; rwa [show k + 1 + j = k + (j + 1) by omega])
    funext a w
    simp only [List.length_cons, List.range'_succ, wpOps, h0, wpList, ih']
/-- The first operations of a plain region by the plain laws, the rest by the fence's. -/
theorem opsIn_split {is js : List Nat} : ∀ (a : Act) (w : World), wpOpsIn (wideR r) n P ops (fun e a w => e = .normal ∧ wpOpsIn (wideR r) n P ops Q js a w) is a w → wpOpsIn (wideR r) n P ops Q (is ++ js) a w := by
  have hout : NoOut (fun (e : Exit) (a : Act) (w : World) => e = .normal ∧ wpOpsIn (wideR r) n P ops Q js a w) := fun ⟨a, w, h, _⟩ => nomatch h
  induction is with
  | nil => exact fun a w h => h.2
  | cons i is ih =>
    intro a w h
    rw [List.cons_append]
    unfold wpOpsIn at h ⊢
    cases hi : ops[i]? with
    | none => rw [hi] at h; exact ih a w h
    | some o =>
      rw [hi] at h
      dsimp only at h ⊢
      by_cases hw : Region.wanted o (yielded ops a.tmps) = true
      · rw [if_pos hw] at h ⊢
        refine ⟨fun _ _ => trivial, ?_⟩
        have h2 := h.2
        generalize (o.semAt (wideR r).round a.eval).run P w = res at h2 ⊢
        unfold Oper.uponIn at h2 ⊢
        split at h2
        · exact ih _ _ h2
        · exact ih _ _ h2
        · exact ih _ _ h2
        · refine ⟨h2.1, h2.2.mono fun e w'' he => ?_⟩
          cases e with
          | returned v => exact ih _ _ he
          | panicked c => exact nomatch he.1
          | outgrown => exact absurd he hout
        · exact ⟨h2.1, h2.2.mono fun v w'' he => ih _ _ he⟩
        · refine ⟨h2.1, h2.2.mono fun e w'' he => ?_⟩
          cases e with
          | returned v => exact ih _ _ he
          | panicked c => exact nomatch he.1
          | outgrown => exact absurd he hout
        · exact nomatch h2.1
        · exact h2.elim
      · rw [if_neg hw] at h ⊢
        exact ⟨fun _ _ => trivial, ih _ _ h.2⟩
theorem wpR_take {id : Nat} {l : List Oper} {a : Act} {w : World} (m : Nat) (hm : m ≤ l.length) (hd : noDefer l.toArray = true) {js : List Nat} (hj : List.range' m (l.length - m) = js)
    (h : wpList P l.toArray (fun e a w => e = .normal ∧ wpOpsIn (wideR r) n P l.toArray Q js a w) (l.take m) a w) : (Code.region id l.toArray false).wpIn (wideR r) n P Q a w := by
  subst hj
  refine wpIn_region ?_
  have hout : NoOut (fun (e : Exit) (a : Act) (w : World) => e = .normal ∧ wpOpsIn (wideR r) n P l.toArray Q (List.range' m (l.length - m)) a w) := fun ⟨a, w, h, _⟩ => nomatch h
  have hlt : (l.take m).length = m := by rw [List.length_take]; omega
  have hr : List.range l.toArray.size = List.range' 0 (l.take m).length ++ List.range' m (l.length - m) := by
    rw [List.range_eq_range', List.size_toArray, hlt]
    have := List.range'_append (s := 0) (m := m) (n := l.length - m) (step := 1)
    rw [Nat.one_mul, Nat.zero_add] at this
    rw [this]
    congr 1
    omega
  rw [hr]
  refine opsIn_split a w (opsR hout hd _ a w ?_)
  rw [opsList (ops := l.toArray) (l.take m) 0 (fun j o hj => ?_)]
  · exact h
  · rw [Nat.zero_add, List.getElem?_toArray]
    rw [List.getElem?_take] at hj
    split at hj
    · exact hj
    · exact nomatch hj
/-- The last one of a plain region by the plain laws. -/
theorem opsR1 {i : Nat} {o : Oper} {a : Act} {w : World} (hQ : NoOut Q) (hd : noDefer ops = true) (hi : ops.toList[i]? = some o) (h : wpList P ops Q [o] a w) : wpOpsIn (wideR r) n P ops Q [i] a w := by
  refine opsR hQ hd _ a w ?_
  have := opsList (P := P) (Q := Q) (ops := ops) [o] i (fun j o' hj => by
    cases j with
    | zero => cases hj; simpa using hi
    | succ j => exact nomatch hj)
  rw [show [i] = List.range' i [o].length from rfl, this]
  exact h
theorem run_yieldOp {ρ : Operand → Value} {o : Oper} {w : World} {x y : Operand} {ats : Array TypeId} {l : Nat} {v : Value} {nx : Next} (ho : o.op = .call { callee := .value x, args := #[y], argTypes := ats }) (hx : ρ x = .func (.yield l) #[] #[]) (hy : ρ y = v)
    (h : (Instr.yield l #[v]).run P w = .ok nx w) : (execOp ρ o).run P w = .ok nx w := by
  unfold execOp
  simp only [ho, resolve, hx, Deferred.ofValue, Sem.run_bind, Sem.run_pure, Result.andThen_ok, invoke, Array.empty_append, Array.append_empty, List.map_toArray, List.map_cons, List.map_nil, hy, h]
/-- A call of yield. -/
theorem opsIn_yield {i : Nat} {rest : List Nat} {d : Tmp} {x y : Operand} {ats : Array TypeId} {tp : TypeId} {pos : String} {af : Array Edge} {l : Nat} {v : Value} {ls : List Value} {ds : List Deferred} {w : World} {R : Ending → World → Prop}
    (hi : ops.toList[i]? = some ⟨some d, .call { callee := .value x, args := #[y], argTypes := ats }, tp, pos, af, none⟩) (hx : evalL ls x = some (.func (.yield l) #[] #[])) (hy : evalL ls y = some v) (hY : YieldAt (wideR r) (n - 1) P l #[v] w R)
    (h : ∀ e w', R e w' → ∃ u, e = .returned u ∧ wpOpsIn (wideR r) n P ops Q rest ⟨(ls.set d u).toArray, ds⟩ w') : wpOpsIn (wideR r) n P ops Q (i :: rest) ⟨ls.toArray, ds⟩ w := by
  obtain ⟨fn, tmps, assign, body, hrun, hR⟩ := hY
  have hi' : ops[i]? = some ⟨some d, .call { callee := .value x, args := #[y], argTypes := ats }, tp, pos, af, none⟩ := by rw [← Array.getElem?_toList]; exact hi
  unfold wpOpsIn
  rw [hi']
  dsimp only
  rw [if_pos (by simp [Region.wanted])]
  refine ⟨fun _ _ => trivial, ?_⟩
  rw [Oper.semAt_eq _ _ _ (fun c hc => by cases hc), run_yieldOp (P := P) rfl (eval_of hx) (eval_of hy) hrun]
  refine ⟨fun hh => (by simp [wideR, Fence.wide] at hh), hR.mono fun e w' he => ?_⟩
  obtain ⟨u, rfl, hk⟩ := h e w' he
  show wpOpsIn _ _ _ _ _ _ ((⟨ls.toArray, ds⟩ : Act).put (some d) u) w'
  rw [put_list]
  exact hk
end
end Go.Proofs.Ytimciiaajlfkoaa
