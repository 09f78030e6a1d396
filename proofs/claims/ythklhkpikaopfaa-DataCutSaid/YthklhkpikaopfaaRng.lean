/- What a loop's body within a range over a function does to its own rows and leaves of all else ('Apart'): the laws of what is left of a region that draws, and of a store, with that told. No statement of the seat is proved here. -/
import Derived.Test.YthklhkpikaopfaaRnd
import Derived.Test.YthklhkpikaopfaaAppG
import Derived.Test.YthklhkpikaopfaaFnV
namespace Go.Proofs.Ythklhkpikaopfaa
open Go.ChangeShapes Go.WideShapes Go.ChangeAt Go.RowKit
set_option linter.unusedVariables false
set_option linter.unusedSimpArgs false

/-- All but the listed blocks lie as they lay. -/
structure Apart (W W' : World) (ks : List Nat) : Prop where
  os : W'.os = W.os
  tape : W'.tape = W.tape
  output : W'.output = W.output
  size : W.heap.size ≤ W'.heap.size
  same : ∀ k, k < W.heap.size → k ∉ ks → W'.heap[k]? = W.heap[k]?
theorem Apart.refl (W : World) (ks : List Nat) : Apart W W ks := ⟨rfl, rfl, rfl, Nat.le_refl _, fun _ _ _ => rfl⟩
theorem Apart.below {W w w' : World} {ks : List Nat} (h : Apart W w ks) (hb : Below w.heap.size w w') : Apart W w' ks :=
  ⟨hb.os.trans h.os, hb.tape.trans h.tape, hb.output.trans h.output, Nat.le_trans h.size hb.size, fun k hk hn => (hb.block k (Nat.lt_of_lt_of_le hk h.size)).trans (h.same k hk hn)⟩
theorem Apart.grown {W w w' : World} {ks : List Nat} {q : Option Nat} (h : Apart W w ks) (hg : w.grownBy w' q) (hq : ∀ r, q = some r → r < W.heap.size → r ∈ ks) : Apart W w' ks :=
  ⟨hg.os.trans h.os, hg.tape.trans h.tape, hg.output.trans h.output, Nat.le_trans h.size hg.size, fun k hk hn => (hg.block k (Nat.lt_of_lt_of_le hk h.size) (fun e => hn (hq k e.symm hk))).trans (h.same k hk hn)⟩
theorem Apart.setRow {W w : World} {ks : List Nat} {g : Nat} {c : Array Value} (h : Apart W w ks) (hg : g < W.heap.size → g ∈ ks) : Apart W (w.setRow g c) ks :=
  ⟨h.os, h.tape, h.output, by simpa using h.size, fun k hk hn => by
    have hne : k ≠ g := fun e => hn (e ▸ hg (e ▸ hk))
    rw [setRow_other _ _ _ _ hne]
    exact h.same k hk hn⟩
theorem Apart.drew {W w : World} {ks : List Nat} (h : Apart W w ks) : Apart W w.drew ks := h.below (Below.refl _ w).drew
/-- A block that holds cells. -/
theorem Own.isCells {w0 w : World} {l : List RowT} (h : Own w0 w l) {k : Nat} (hk : k ∈ l.map (·.1)) {o : Obj} (ho : w.heap[k]? = some o) : o.isCells = true := by
  obtain ⟨x, hx, rfl⟩ := List.mem_map.1 hk
  rw [(h.here x hx).2] at ho
  cases ho
  rfl
theorem Apart.from {W W' : World} {ks : List Nat} (B : Nat) (h : Apart W W' ks) (hc : ∀ k ∈ ks, ∀ o, W.heap[k]? = some o → o.isCells = true) : KeepsFrom B W W' :=
  ⟨h.size, fun k o _ hk ho => by
    rw [h.same k (Array.getElem?_eq_some_iff.1 hk).1 (fun hm => by rw [hc k hm o hk] at ho; exact nomatch ho)]
    exact hk⟩
theorem Own.grownNC {w0 w w' : World} {l : List RowT} {B : Nat} {row : Option Nat} (h : Own w0 w l) (hg : w.grownBy w' row) (hB : w0.heap.size ≤ B) (hr : ∀ r, row = some r → B ≤ r ∧ ∃ o : Obj, w.heap[r]? = some o ∧ o.isCells = false) : Own w0 w' l :=
  h.grown hg fun k e => by
    obtain ⟨h1, o, ho, hc⟩ := hr k e
    refine ⟨by omega, fun y hy he => ?_⟩
    have := h.isCells (k := k) (List.mem_map.2 ⟨y, hy, he⟩) ho
    rw [hc] at this
    exact nomatch this
/-- What an iterator over bytes and two variables of its own wants kept. -/
def KpR (n0 : Nat) (G : List Nat) (A B : World) : Prop := Below n0 A B ∧ ∀ g ∈ G, g < A.heap.size → B.heap[g]? = A.heap[g]?
theorem kpR_t {n0 : Nat} {G : List Nat} {A B C : World} (h : KpR n0 G A B) (k : KpR n0 G B C) : KpR n0 G A C :=
  ⟨h.1.trans k.1, fun g hg hA => (k.2 g hg (Nat.lt_of_lt_of_le hA h.1.size)).trans (h.2 g hg hA)⟩
theorem kpR_b {n0 : Nat} {G : List Nat} {w : World} (hn : n0 ≤ w.heap.size) (hG : ∀ g ∈ G, g < w.heap.size) (W : World) (l : Nat) (o o' : Obj) (hl : w.heap.size ≤ l) (h : W.heap[l]? = some o) (_ : o.isCells = false) (_ : o.isWalk = false) : KpR n0 G W (W.putObj l o') :=
  ⟨(Below.refl n0 W).grown (grownBy_putObj' W l o') (by have := (Array.getElem?_eq_some_iff.1 h).1; omega) (fun k e => by cases e; omega),
   fun g hg _ => World.putObj_heap_other (by have := hG g hg; omega)⟩
theorem Apart.kpR {W W' : World} {ks G : List Nat} {n0 : Nat} (h : Apart W W' ks) (hn : n0 ≤ W.heap.size) (hk : ∀ k ∈ ks, n0 ≤ k) (hG : ∀ g ∈ G, g ∉ ks) : KpR n0 G W W' :=
  ⟨⟨h.os, h.tape, h.output, h.size, fun k hk' => h.same k (by omega) (fun hm => by have := hk k hm; omega)⟩, fun g hg hlt => h.same g hlt (hG g hg)⟩
/-! ### What is left of a region that draws -/
section
variable {P : Program} {ops : Array Oper} {md : Region.Mode} {Q : Exit → Act → World → Prop} {n : Nat} {M : Array Bool} {ls ls' : List Value} {ds : List Deferred} {W w0 w : World} {l lC : List RowT} {ks : List Nat} {tp : TypeId} {pos : String} {af : Array Edge} {gd : Option (Nat × Bool)} {d : Tmp} {i : Nat} {a : Act} {K : Act → World → Prop}
theorem wpG_oneK (hR : Own w0 w l) (hA : Apart W w ks) (hr : Region.ready md ops M = [i])
    (hi : ∀ w', Own w0 w' l → Apart W w' ks → wpOp P ops Q i (fun a' w'' => Own w0 w'' lC ∧ wpG P md ops (fun w => Own w0 w lC) Q n (M.setIfInBounds i true) a' w'') a w') :
    wpG P md ops (fun w => Own w0 w lC) Q (n + 1) M a w := by
  refine wpG_next hr (by simp) ?_
  intro w1 hb _ k hk
  obtain rfl := List.mem_singleton.1 hk
  exact hi w1 (hR.grow hb) (hA.below hb)
theorem wpG_twoK (hR : Own w0 w l) (hA : Apart W w ks) {j : Nat} (hr : Region.ready md ops M = [i, j])
    (hi : ∀ w', Own w0 w' l → Apart W w' ks → wpOp P ops Q i (fun a' w'' => Own w0 w'' lC ∧ wpG P md ops (fun w => Own w0 w lC) Q n (M.setIfInBounds i true) a' w'') a w')
    (hj : ∀ w', Own w0 w' l → Apart W w' ks → wpOp P ops Q j (fun a' w'' => Own w0 w'' lC ∧ wpG P md ops (fun w => Own w0 w lC) Q n (M.setIfInBounds j true) a' w'') a w') :
    wpG P md ops (fun w => Own w0 w lC) Q (n + 1) M a w := by
  refine wpG_next hr (by simp) ?_
  intro w1 hb _ k hk
  simp only [List.mem_cons, List.not_mem_nil, or_false] at hk
  rcases hk with rfl | rfl
  · exact hi w1 (hR.grow hb) (hA.below hb)
  · exact hj w1 (hR.grow hb) (hA.below hb)
theorem opQK (hR : Own w0 w l) (hA : Apart W w ks) {op : Op} {v : Value} (hi : ops.toList[i]? = some ⟨some d, op, tp, pos, af, gd⟩) (hg : Region.wanted ⟨some d, op, tp, pos, af, gd⟩ (yielded ops ls.toArray) = true)
    (ht : TIf P (fun w => Own w0 w l) true ⟨some d, op, tp, pos, af, gd⟩ ⟨ls.toArray, ds⟩ v) (hls : ls.set d v = ls') (h : ∀ w', Own w0 w' l → Apart W w' ks → K ⟨ls'.toArray, ds⟩ w') : wpOp P ops Q i K ⟨ls.toArray, ds⟩ w := by
  have hi' : ops[i]? = some ⟨some d, op, tp, pos, af, gd⟩ := by simpa using hi
  unfold wpOp
  simp only [hi']
  rw [if_pos hg]
  refine .inl ?_
  unfold Oper.wp
  rcases ht.of rfl with ht | ⟨f, args, hrun, hc⟩
  · rw [ht w hR]
    show K ((⟨ls.toArray, ds⟩ : Act).put (some d) v) w
    rw [put_list, hls]
    exact h w hR hA
  · rw [hrun w]
    refine Calls.mono (hc w hR) fun e w' hk => ?_
    obtain ⟨rfl, hb, hC'⟩ := hk
    show K ((⟨ls.toArray, ds⟩ : Act).put (some d) v) w'
    rw [put_list, hls]
    exact h w' hC' (hA.below hb)
theorem opBuildK (hR : Own w0 w l) (hA : Apart W w ks) {t e : TypeId} {m : Nat} {parts : Array (Nat × Operand)} {ps : List (Nat × Value)} {c : Array Value} (hi : ops.toList[i]? = some ⟨some d, .buildSlice t m parts, tp, pos, af, gd⟩) (hg : Region.wanted ⟨some d, .buildSlice t m parts, tp, pos, af, gd⟩ (yielded ops ls.toArray) = true)
    (hq : evalParts ls parts.toList = some ps) (hb : BuiltS P t m ps e c) (h : ∀ g w', Own w0 w' ((g, c, e) :: l) → Apart W w' ks → K ⟨(ls.set d (.slice (some ⟨g, 0, none⟩) m m)).toArray, ds⟩ w') : wpOp P ops Q i K ⟨ls.toArray, ds⟩ w := by
  refine wpOp_kn hi hg (run_buildS rfl (evalParts_of hq) hb) ?_
  show K ((⟨ls.toArray, ds⟩ : Act).put (some d) _) _
  rw [put_list]
  exact h _ _ (hR.alloc c e) (hA.below ((Below.refl _ w).alloc (Nat.le_refl _) _))
theorem opAppK (hR : Own w0 w l) (hA : Apart W w ks) {L' s : List RowT} {t e : TypeId} {k b : Nat} (ht : SliceB P t e k b) {x y : Operand} {v y' : Value} {m0 m : Nat} {xs ys : List Value}
    (hi : ops.toList[i]? = some ⟨some d, .call { callee := .builtin .append, args := #[x, y], argTypes := #[t, t] }, tp, pos, af, gd⟩) (hg : Region.wanted ⟨some d, .call { callee := .builtin .append, args := #[x, y], argTypes := #[t, t] }, tp, pos, af, gd⟩ (yielded ops ls.toArray) = true)
    (hx : evalL ls x = some v) (hy : evalL ls y = some y') (hd : Les s l L') (hS : Sl e k s v m0 xs) (hP : Rd w k y' m ys) (h63 : m0 + m ≤ maxLen) (hsm : (m0 + m) * b ≤ 140737488355328) (hks : ∀ r ∈ s.map (·.1), r ∈ ks)
    (h : ∀ s' v' w', Own w0 w' (s' ++ L') → Sl e k s' v' (m0 + m) (xs ++ ys) → Apart W w' ks → K ⟨(ls.set d v').toArray, ds⟩ w') : wpOp P ops Q i K ⟨ls.toArray, ds⟩ w := by
  obtain ⟨s', v', w', hr, hO, hS', q, hgr, hq⟩ := run_appGK (o := ⟨some d, .call { callee := .builtin .append, args := #[x, y], argTypes := #[t, t] }, tp, pos, af, gd⟩) ht hR rfl (eval_of hx) (eval_of hy) hd hS hP h63 hsm
  refine wpOp_kn hi hg hr ?_
  show K ((⟨ls.toArray, ds⟩ : Act).put (some d) _) _
  rw [put_list]
  exact h s' v' w' hO hS' (hA.grown hgr fun r hr _ => hks r (hq r hr))
theorem opPutK (hR : Own w0 w l) (hA : Apart W w ks) {ty : TypeId} (ht : OneTy P ty) {x y : Operand} {g off : Nat} {c c' : Array Value} {t : TypeId} {u : Value} {l' : List RowT} (hi : ops.toList[i]? = some ⟨none, .store ty x y, tp, pos, af, gd⟩) (hg : Region.wanted ⟨none, .store ty x y, tp, pos, af, gd⟩ (yielded ops ls.toArray) = true)
    (hx : evalL ls x = some (.pointer (some ⟨g, off, none⟩))) (hy : evalL ls y = some u) (hm : (g, c, t) ∈ l) (hp : PutRel c off [u] c') (hl : off + 1 ≤ c.size) (h1 : u.oneCell' = true) (hu : Upd g c' l l') (hks : g ∈ ks)
    (h : ∀ w', Own w0 w' l' → Apart W w' ks → K ⟨ls.toArray, ds⟩ w') : wpOp P ops Q i K ⟨ls.toArray, ds⟩ w := by
  obtain ⟨_, _, hd, hsz⟩ := ht
  have hrun := run_storePart (P := P) (o := ⟨none, .store ty x y, tp, pos, af, gd⟩) (s := #[u]) (w := w) rfl (eval_of (ds := ds) hx) (eval_of (ds := ds) hy) (cells_one h1) (hR.get hm) hsz rfl hl (by simp [h1]) hp
  have hi' : ops[i]? = some ⟨none, .store ty x y, tp, pos, af, gd⟩ := by simpa using hi
  unfold wpOp
  simp only [hi']
  rw [if_pos hg]
  refine .inl ?_
  unfold Oper.wp
  rw [hrun]
  exact h _ (hR.set hu) (hA.setRow fun _ => hks)
variable {rest : List Oper}
theorem wpList_putK (hR : Own w0 w l) (hA : Apart W w ks) {ty : TypeId} (ht : OneTy P ty) {g off : Nat} {c c' : Array Value} {t : TypeId} {x y : Operand} {v : Value} {l' : List RowT} (hgd : Region.wanted ⟨none, .store ty x y, tp, pos, af, gd⟩ (yielded ops ls.toArray) = true)
    (hx : evalL ls x = some (.pointer (some ⟨g, off, none⟩))) (hy : evalL ls y = some v) (hm : (g, c, t) ∈ l) (hp : PutRel c off [v] c') (hl : off + 1 ≤ c.size) (h1 : v.oneCell' = true) (hu : Upd g c' l l') (hks : g ∈ ks)
    (h : ∀ w', Own w0 w' l' → Apart W w' ks → wpList P ops Q rest ⟨ls.toArray, ds⟩ w') : wpList P ops Q (⟨none, .store ty x y, tp, pos, af, gd⟩ :: rest) ⟨ls.toArray, ds⟩ w := by
  obtain ⟨_, _, hd, hi⟩ := ht
  exact wpList_run_skip hgd (run_storePart (s := #[v]) rfl (eval_of hx) (eval_of hy) (cells_one h1) (hR.get hm) hi rfl hl (by simp [h1]) hp) (h _ (hR.set hu) (hA.setRow fun _ => hks))
/-- A quiet operation of a plain region: the world grows at most. -/
theorem q_lsK {op : Op} {v : Value} (hR : Own w0 w l) (hA : Apart W w ks) (hg : Region.wanted ⟨some d, op, tp, pos, af, gd⟩ (yielded ops ls.toArray) = true) (ht : TIf P (fun w => Own w0 w l) true ⟨some d, op, tp, pos, af, gd⟩ ⟨ls.toArray, ds⟩ v)
    (hls : ls.set d v = ls') (h : ∀ w', Own w0 w' l → Apart W w' ks → wpList P ops Q rest ⟨ls'.toArray, ds⟩ w') : wpList P ops Q (⟨some d, op, tp, pos, af, gd⟩ :: rest) ⟨ls.toArray, ds⟩ w := by
  refine wpList_step fun K hK => ?_
  rw [if_pos hg]
  unfold Oper.wp
  rcases ht.of rfl with ht | ⟨f, args, hrun, hc⟩
  · rw [ht w hR]
    refine hK _ _ ?_
    rw [put_list, hls]
    exact h w hR hA
  · rw [hrun w]
    refine Calls.mono (hc w hR) fun e w' hk => ?_
    obtain ⟨rfl, hb, hC'⟩ := hk
    refine hK _ _ ?_
    rw [put_list, hls]
    exact h w' hC' (hA.below hb)
end
end Go.Proofs.Ythklhkpikaopfaa
