/- What a call, or a loop's body, does to its own rows and leaves of all else ('Apart'): the laws of what is left of a region that draws, and, in plain walks, laws of regions of quiet operations, of what is made and stored, of bytes out of a text. No statement of the seat is proved here. -/
import Derived.Test.YtimciiaajlfkoaaAppG
import Derived.Test.YtimciiaajlfkoaaStr
import Derived.Test.YtimciiaajlfkoaaBase
namespace Go.Proofs.Ytimciiaajlfkoaa
open Go.ChangeShapes Go.WideShapes Go.ChangeAt Go.RowKit
set_option linter.unusedVariables false
set_option linter.unusedSimpArgs false

/-- All but the listed blocks lie as they lay. -/
structure Apart (W W' : World) (ks : List Nat) : Prop where
  os : W'.os = W.os
  tape : W'.tape = W.tape
  output : W'.output = W.output
  size : W.heap.size ≤ W'.heap.size
  same : ∀ k, k < W.heap.size → k ∉ ks → W'.heap[k]? = W.heap[k]?
theorem Apart.refl (W : World) (ks : List Nat) : Apart W W ks := ⟨rfl, rfl, rfl, Nat.le_refl _, fun _ _ _ => rfl⟩
theorem Apart.below {W w w' : World} {ks : List Nat} (h : Apart W w ks) (hb : Below w.heap.size w w') : Apart W w' ks :=
  ⟨hb.os.trans h.os, hb.tape.trans h.tape, hb.output.trans h.output, Nat.le_trans h.size hb.size, fun k hk hn => (hb.block k (Nat.lt_of_lt_of_le hk h.size)).trans (h.same k hk hn)⟩
theorem Apart.grown {W w w' : World} {ks : List Nat} {q : Option Nat} (h : Apart W w ks) (hg : w.grownBy w' q) (hq : ∀ r, q = some r → r < W.heap.size → r ∈ ks) : Apart W w' ks :=
  ⟨hg.os.trans h.os, hg.tape.trans h.tape, hg.output.trans h.output, Nat.le_trans h.size hg.size, fun k hk hn => (hg.block k (Nat.lt_of_lt_of_le hk h.size) (fun e => hn (hq k e.symm hk))).trans (h.same k hk hn)⟩
theorem Apart.setRow {W w : World} {ks : List Nat} {g : Nat} {c : Array Value} (h : Apart W w ks) (hg : g < W.heap.size → g ∈ ks) : Apart W (w.setRow g c) ks :=
  ⟨h.os, h.tape, h.output, by simpa using h.size, fun k hk hn => by
    have hne : k ≠ g := fun e => hn (e ▸ hg (e ▸ hk))
    rw [setRow_other _ _ _ _ hne]
    exact h.same k hk hn⟩
theorem Apart.drew {W w : World} {ks : List Nat} (h : Apart W w ks) : Apart W w.drew ks := h.below (Below.refl _ w).drew
/-! ### What is left of a region that draws -/
section
variable {P : Program} {ops : Array Oper} {md : Region.Mode} {Q : Exit → Act → World → Prop} {n : Nat} {M : Array Bool} {ls ls' : List Value} {ds : List Deferred} {W w0 w : World} {l lC : List RowT} {ks : List Nat} {tp : TypeId} {pos : String} {af : Array Edge} {gd : Option (Nat × Bool)} {d : Tmp} {i : Nat} {a : Act} {K : Act → World → Prop}
theorem wpG_oneK (hR : Own w0 w l) (hA : Apart W w ks) (hr : Region.ready md ops M = [i])
    (hi : ∀ w', Own w0 w' l → Apart W w' ks → wpOp P ops Q i (fun a' w'' => Own w0 w'' lC ∧ wpG P md ops (fun w => Own w0 w lC) Q n (M.setIfInBounds i true) a' w'') a w') :
    wpG P md ops (fun w => Own w0 w lC) Q (n + 1) M a w := by
  refine wpG_next hr (by simp) ?_
  intro w1 hb _ k hk
  obtain rfl := List.mem_singleton.1 hk
  exact hi w1 (hR.grow hb) (hA.below hb)
theorem wpG_twoK (hR : Own w0 w l) (hA : Apart W w ks) {j : Nat} (hr : Region.ready md ops M = [i, j])
    (hi : ∀ w', Own w0 w' l → Apart W w' ks → wpOp P ops Q i (fun a' w'' => Own w0 w'' lC ∧ wpG P md ops (fun w => Own w0 w lC) Q n (M.setIfInBounds i true) a' w'') a w')
    (hj : ∀ w', Own w0 w' l → Apart W w' ks → wpOp P ops Q j (fun a' w'' => Own w0 w'' lC ∧ wpG P md ops (fun w => Own w0 w lC) Q n (M.setIfInBounds j true) a' w'') a w') :
    wpG P md ops (fun w => Own w0 w lC) Q (n + 1) M a w := by
  refine wpG_next hr (by simp) ?_
  intro w1 hb _ k hk
  simp only [List.mem_cons, List.not_mem_nil, or_false] at hk
  rcases hk with rfl | rfl
  · exact hi w1 (hR.grow hb) (hA.below hb)
  · exact hj w1 (hR.grow hb) (hA.below hb)
theorem opQK (hR : Own w0 w l) (hA : Apart W w ks) {op : Op} {v : Value} (hi : ops.toList[i]? = some ⟨some d, op, tp, pos, af, gd⟩) (hg : Region.wanted ⟨some d, op, tp, pos, af, gd⟩ (yielded ops ls.toArray) = true)
    (ht : TIf P (fun w => Own w0 w l) true ⟨some d, op, tp, pos, af, gd⟩ ⟨ls.toArray, ds⟩ v) (hls : ls.set d v = ls') (h : ∀ w', Own w0 w' l → Apart W w' ks → K ⟨ls'.toArray, ds⟩ w') : wpOp P ops Q i K ⟨ls.toArray, ds⟩ w := by
  have hi' : ops[i]? = some ⟨some d, op, tp, pos, af, gd⟩ := by simpa using hi
  unfold wpOp
  simp only [hi']
  rw [if_pos hg]
  refine .inl ?_
  unfold Oper.wp
  rcases ht.of rfl with ht | ⟨f, args, hrun, hc⟩
  · rw [ht w hR]
    show K ((⟨ls.toArray, ds⟩ : Act).put (some d) v) w
    rw [put_list, hls]
    exact h w hR hA
  · rw [hrun w]
    refine Calls.mono (hc w hR) fun e w' hk => ?_
    obtain ⟨rfl, hb, hC'⟩ := hk
    show K ((⟨ls.toArray, ds⟩ : Act).put (some d) v) w'
    rw [put_list, hls]
    exact h w' hC' (hA.below hb)
theorem opBuildK (hR : Own w0 w l) (hA : Apart W w ks) {t e : TypeId} {m : Nat} {parts : Array (Nat × Operand)} {ps : List (Nat × Value)} {c : Array Value} (hi : ops.toList[i]? = some ⟨some d, .buildSlice t m parts, tp, pos, af, gd⟩) (hg : Region.wanted ⟨some d, .buildSlice t m parts, tp, pos, af, gd⟩ (yielded ops ls.toArray) = true)
    (hq : evalParts ls parts.toList = some ps) (hb : BuiltS P t m ps e c) (h : ∀ g w', Own w0 w' ((g, c, e) :: l) → Apart W w' ks → K ⟨(ls.set d (.slice (some ⟨g, 0, none⟩) m m)).toArray, ds⟩ w') : wpOp P ops Q i K ⟨ls.toArray, ds⟩ w := by
  refine wpOp_kn hi hg (run_buildS rfl (evalParts_of hq) hb) ?_
  show K ((⟨ls.toArray, ds⟩ : Act).put (some d) _) _
  rw [put_list]
  exact h _ _ (hR.alloc c e) (hA.below ((Below.refl _ w).alloc (Nat.le_refl _) _))
theorem opAppK (hR : Own w0 w l) (hA : Apart W w ks) {L' s : List RowT} {t e : TypeId} {k b : Nat} (ht : SliceB P t e k b) {x y : Operand} {v y' : Value} {m0 m : Nat} {xs ys : List Value}
    (hi : ops.toList[i]? = some ⟨some d, .call { callee := .builtin .append, args := #[x, y], argTypes := #[t, t] }, tp, pos, af, gd⟩) (hg : Region.wanted ⟨some d, .call { callee := .builtin .append, args := #[x, y], argTypes := #[t, t] }, tp, pos, af, gd⟩ (yielded ops ls.toArray) = true)
    (hx : evalL ls x = some v) (hy : evalL ls y = some y') (hd : Les s l L') (hS : Sl e k s v m0 xs) (hP : Rd w k y' m ys) (h63 : m0 + m ≤ maxLen) (hsm : (m0 + m) * b ≤ 140737488355328) (hks : ∀ r ∈ s.map (·.1), r ∈ ks)
    (h : ∀ s' v' w', Own w0 w' (s' ++ L') → Sl e k s' v' (m0 + m) (xs ++ ys) → Apart W w' ks → K ⟨(ls.set d v').toArray, ds⟩ w') : wpOp P ops Q i K ⟨ls.toArray, ds⟩ w := by
  obtain ⟨s', v', w', hr, hO, hS', q, hgr, hq⟩ := run_appGK (o := ⟨some d, .call { callee := .builtin .append, args := #[x, y], argTypes := #[t, t] }, tp, pos, af, gd⟩) ht hR rfl (eval_of hx) (eval_of hy) hd hS hP h63 hsm
  refine wpOp_kn hi hg hr ?_
  show K ((⟨ls.toArray, ds⟩ : Act).put (some d) _) _
  rw [put_list]
  exact h s' v' w' hO hS' (hA.grown hgr fun r hr _ => hks r (hq r hr))
theorem opPutK (hR : Own w0 w l) (hA : Apart W w ks) {ty : TypeId} (ht : OneTy P ty) {x y : Operand} {g off : Nat} {c c' : Array Value} {t : TypeId} {u : Value} {l' : List RowT} (hi : ops.toList[i]? = some ⟨none, .store ty x y, tp, pos, af, gd⟩) (hg : Region.wanted ⟨none, .store ty x y, tp, pos, af, gd⟩ (yielded ops ls.toArray) = true)
    (hx : evalL ls x = some (.pointer (some ⟨g, off, none⟩))) (hy : evalL ls y = some u) (hm : (g, c, t) ∈ l) (hp : PutRel c off [u] c') (hl : off + 1 ≤ c.size) (h1 : u.oneCell' = true) (hu : Upd g c' l l') (hks : g ∈ ks)
    (h : ∀ w', Own w0 w' l' → Apart W w' ks → K ⟨ls.toArray, ds⟩ w') : wpOp P ops Q i K ⟨ls.toArray, ds⟩ w := by
  obtain ⟨_, _, hd, hsz⟩ := ht
  have hrun := run_storePart (P := P) (o := ⟨none, .store ty x y, tp, pos, af, gd⟩) (s := #[u]) (w := w) rfl (eval_of (ds := ds) hx) (eval_of (ds := ds) hy) (cells_one h1) (hR.get hm) hsz rfl hl (by simp [h1]) hp
  have hi' : ops[i]? = some ⟨none, .store ty x y, tp, pos, af, gd⟩ := by simpa using hi
  unfold wpOp
  simp only [hi']
  rw [if_pos hg]
  refine .inl ?_
  unfold Oper.wp
  rw [hrun]
  exact h _ (hR.set hu) (hA.setRow fun _ => hks)
variable {rest : List Oper}
theorem wpList_putK (hR : Own w0 w l) (hA : Apart W w ks) {ty : TypeId} (ht : OneTy P ty) {g off : Nat} {c c' : Array Value} {t : TypeId} {x y : Operand} {v : Value} {l' : List RowT} (hgd : Region.wanted ⟨none, .store ty x y, tp, pos, af, gd⟩ (yielded ops ls.toArray) = true)
    (hx : evalL ls x = some (.pointer (some ⟨g, off, none⟩))) (hy : evalL ls y = some v) (hm : (g, c, t) ∈ l) (hp : PutRel c off [v] c') (hl : off + 1 ≤ c.size) (h1 : v.oneCell' = true) (hu : Upd g c' l l') (hks : g ∈ ks)
    (h : ∀ w', Own w0 w' l' → Apart W w' ks → wpList P ops Q rest ⟨ls.toArray, ds⟩ w') : wpList P ops Q (⟨none, .store ty x y, tp, pos, af, gd⟩ :: rest) ⟨ls.toArray, ds⟩ w := by
  obtain ⟨_, _, hd, hi⟩ := ht
  exact wpList_run_skip hgd (run_storePart (s := #[v]) rfl (eval_of hx) (eval_of hy) (cells_one h1) (hR.get hm) hi rfl hl (by simp [h1]) hp) (h _ (hR.set hu) (hA.setRow fun _ => hks))
/-- A quiet operation of a plain region: the world grows at most. -/
theorem q_lsK {op : Op} {v : Value} (hR : Own w0 w l) (hA : Apart W w ks) (hg : Region.wanted ⟨some d, op, tp, pos, af, gd⟩ (yielded ops ls.toArray) = true) (ht : TIf P (fun w => Own w0 w l) true ⟨some d, op, tp, pos, af, gd⟩ ⟨ls.toArray, ds⟩ v)
    (hls : ls.set d v = ls') (h : ∀ w', Own w0 w' l → Apart W w' ks → wpList P ops Q rest ⟨ls'.toArray, ds⟩ w') : wpList P ops Q (⟨some d, op, tp, pos, af, gd⟩ :: rest) ⟨ls.toArray, ds⟩ w := by
  refine wpList_step fun K hK => ?_
  rw [if_pos hg]
  unfold Oper.wp
  rcases ht.of rfl with ht | ⟨f, args, hrun, hc⟩
  · rw [ht w hR]
    refine hK _ _ ?_
    rw [put_list, hls]
    exact h w hR hA
  · rw [hrun w]
    refine Calls.mono (hc w hR) fun e w' hk => ?_
    obtain ⟨rfl, hb, hC'⟩ := hk
    refine hK _ _ ?_
    rw [put_list, hls]
    exact h w' hC' (hA.below hb)
end
theorem Apart.trans {W w w' : World} {ks ks' : List Nat} (h : Apart W w ks) (h2 : Apart w w' ks') (hk : ∀ k ∈ ks', k < W.heap.size → k ∈ ks) : Apart W w' ks :=
  ⟨h2.os.trans h.os, h2.tape.trans h.tape, h2.output.trans h.output, Nat.le_trans h.size h2.size, fun k hlt hn => (h2.same k (Nat.lt_of_lt_of_le hlt h.size) (fun hm => hn (hk k hm hlt))).trans (h.same k hlt hn)⟩
section
variable {P : Program} {ops : Array Oper} {C : World → Prop} {Q : Exit → Act → World → Prop}
theorem wpList_of_wpTB (W : World) : ∀ (rest : List Oper) (k : Nat) (a : Act) (w : World), (∀ j, rest[j]? = ops[k + j]?) → Below W.heap.size W w → C w →
    wpT P ops C (fun a' => ∀ w', Below W.heap.size W w' → C w' → Q .normal a' w') (List.range' k rest.length) a → wpList P ops Q rest a w
  | [], _, _, w, _, hB, hC, h => h w hB hC
  | o :: rest, k, a, w, hr, hB, hC, h => by
    simp only [List.length_cons, List.range'_succ] at h
    obtain ⟨o', v, ho, hy, h⟩ := h
    have h0 : ops[k]? = some o := by simpa using (hr 0).symm
    rw [h0] at ho
    obtain rfl := Option.some.inj ho
    have ih := fun w' hB' hC' => wpList_of_wpTB W rest (k + 1) (a.put o.dst v) w' (fun j => by have := hr (j + 1); simpa [Nat.add_assoc, Nat.add_comm 1 j] using this) hB' hC' h
    refine wpList_step fun K hK => ?_
    rcases hy with ⟨hw, ht⟩ | ⟨hw, rfl⟩
    · rw [if_pos hw]
      unfold Oper.wp
      rcases ht with ht | ⟨f, args, hrun, hc⟩
      · rw [ht w hC]
        exact hK _ _ (ih w hB hC)
      · rw [hrun w]
        refine Calls.mono (hc w hC) fun e w' hk => ?_
        obtain ⟨rfl, hb, hC'⟩ := hk
        exact hK _ _ (ih w' (hB.trans (hb.mono hB.size)) hC')
    · rw [if_neg (by rw [hw]; exact Bool.false_ne_true)]
      exact hK _ _ (ih w hB hC)
theorem wpT_mono {R R' : Act → Prop} (hk : ∀ a, R a → R' a) : ∀ {is : List Nat} {a : Act}, wpT P ops C R is a → wpT P ops C R' is a
  | [], a, h => hk a h
  | i :: is, a, ⟨o, v, h1, h2, h3⟩ => ⟨o, v, h1, h2, wpT_mono hk h3⟩
theorem wp_region_tameK {id : Nat} {lo : List Oper} {a : Act} {W w0 w : World} {l : List RowT} {ks : List Nat} (hR : Own w0 w l) (hA : Apart W w ks) (is : List Nat) (his : List.range' 0 lo.length = is)
    (h : wpT P lo.toArray (fun w' => Own w0 w' l) (fun a' => ∀ w', Own w0 w' l → Apart W w' ks → Q .normal a' w') is a) : (Code.region id lo.toArray false).wp P Q a w := by
  subst his
  refine wp_region_lit (wpList_of_wpTB (C := fun w' => Own w0 w' l) w lo 0 a w (fun j => by simp) (Below.refl _ w) hR (wpT_mono ?_ h))
  intro a' h w' hB hC
  exact h w' hC (hA.below hB)
end
section
variable {P : Program} {ops : Array Oper} {Q : Exit → Act → World → Prop} {rest : List Oper} {ls ls' : List Value} {ds : List Deferred} {W w0 w : World} {l : List RowT} {ks : List Nat} {tp : TypeId} {pos : String} {af : Array Edge} {gd : Option (Nat × Bool)} {d : Tmp}
theorem wpList_makeK (hR : Own w0 w l) (hA : Apart W w ks) {ty : TypeId} {c : Array Value} (hz : ZeroTy P ty c) (hgd : Region.wanted ⟨some d, .alloc ty, tp, pos, af, gd⟩ (yielded ops ls.toArray) = true)
    (h : ∀ g w', Own w0 w' ((g, c, ty) :: l) → Apart W w' ks → w.heap.size ≤ g → wpList P ops Q rest ⟨(ls.set d (.pointer (some ⟨g, 0, none⟩))).toArray, ds⟩ w') : wpList P ops Q (⟨some d, .alloc ty, tp, pos, af, gd⟩ :: rest) ⟨ls.toArray, ds⟩ w :=
  wpList_run_value hgd (run_allocRow rfl hz rfl) (by rw [put_list]; exact h _ _ (hR.alloc c ty) (hA.below ((Below.refl _ w).alloc (Nat.le_refl _) _)) (Nat.le_refl _))
theorem wpList_putA (hR : Own w0 w l) (hA : Apart W w ks) {ty : TypeId} {n : Nat} (ht : RowTy P ty n) {g off : Nat} {c s c' : Array Value} {t : TypeId} {x y : Operand} {l' : List RowT} (hgd : Region.wanted ⟨none, .store ty x y, tp, pos, af, gd⟩ (yielded ops ls.toArray) = true)
    (hx : evalL ls x = some (.pointer (some ⟨g, off, none⟩))) (hy : evalL ls y = some (.agg s)) (hm : (g, c, t) ∈ l) (hp : PutRel c off s.toList c') (hn : s.size = n) (hl : off + n ≤ c.size) (h1 : s.all (·.oneCell') = true) (hu : Upd g c' l l') (hks : g < W.heap.size → g ∈ ks)
    (h : ∀ w', Own w0 w' l' → Apart W w' ks → wpList P ops Q rest ⟨ls.toArray, ds⟩ w') : wpList P ops Q (⟨none, .store ty x y, tp, pos, af, gd⟩ :: rest) ⟨ls.toArray, ds⟩ w := by
  obtain ⟨d, _, hd, hi⟩ := ht
  exact wpList_run_skip hgd (run_storePart rfl (eval_of hx) (eval_of hy) rfl (hR.get hm) hi hn hl h1 hp) (h _ (hR.set hu) (hA.setRow hks))
theorem wpList_put1A (hR : Own w0 w l) (hA : Apart W w ks) {ty : TypeId} (ht : OneTy P ty) {g off : Nat} {c c' : Array Value} {t : TypeId} {x y : Operand} {v : Value} {l' : List RowT} (hgd : Region.wanted ⟨none, .store ty x y, tp, pos, af, gd⟩ (yielded ops ls.toArray) = true)
    (hx : evalL ls x = some (.pointer (some ⟨g, off, none⟩))) (hy : evalL ls y = some v) (hm : (g, c, t) ∈ l) (hp : PutRel c off [v] c') (hl : off + 1 ≤ c.size) (h1 : v.oneCell' = true) (hu : Upd g c' l l') (hks : g < W.heap.size → g ∈ ks)
    (h : ∀ w', Own w0 w' l' → Apart W w' ks → wpList P ops Q rest ⟨ls.toArray, ds⟩ w') : wpList P ops Q (⟨none, .store ty x y, tp, pos, af, gd⟩ :: rest) ⟨ls.toArray, ds⟩ w := by
  obtain ⟨_, _, hd, hi⟩ := ht
  exact wpList_run_skip hgd (run_storePart (s := #[v]) rfl (eval_of hx) (eval_of hy) (cells_one h1) (hR.get hm) hi rfl hl (by simp [h1]) hp) (h _ (hR.set hu) (hA.setRow hks))
end
/-! ### An append, where its row lies then -/
section
variable {P : Program}
theorem run_appGW {ρ : Operand → Value} {o : Oper} {w0 w : World} {L L' s : List RowT} {t e : TypeId} {k b : Nat} {x y : Operand} {v y' : Value} {n m : Nat} {xs ys : List Value} (ht : SliceB P t e k b) (hR : Own w0 w L)
    (ho : o.op = .call { callee := .builtin .append, args := #[x, y], argTypes := #[t, t] }) (hx : ρ x = v) (hy : ρ y = y')
    (hd : Les s L L') (hS : Sl e k s v n xs) (hP : Rd w k y' m ys) (h63 : n + m ≤ maxLen) (hsm : (n + m) * b ≤ 140737488355328) :
    ∃ s' v' w', (execOp ρ o).run P w = .ok (.value v') w' ∧ Own w0 w' (s' ++ L') ∧ Sl e k s' v' (n + m) (xs ++ ys) ∧ (∃ q, w.grownBy w' q ∧ ∀ r, q = some r → r ∈ s.map (·.1)) ∧ ∀ r ∈ s'.map (·.1), r ∈ s.map (·.1) ∨ r = w.heap.size := by
  have hO := hR.les hd
  rcases hP.way with ⟨rfl, rfl, rfl⟩ | ⟨a, cap, rfl, hmc, hcell⟩
  · have hv : ∃ a n0 cap0, v = .slice a n0 cap0 ∧ n0 ≤ cap0 := by
      rcases hS.way with ⟨_, h2, h3⟩ | ⟨g0, cap0, cur0, h1, h2, h3, h4, h5, h6⟩
      · exact ⟨none, 0, 0, h2, Nat.le_refl _⟩
      · exact ⟨_, n, cap0, h2, h3⟩
    obtain ⟨a, n0, cap0, hv, hle⟩ := hv
    refine ⟨s, v, w, ?_, hO, hS.cast (List.append_nil _).symm, ⟨none, ⟨rfl, rfl, rfl, Nat.le_refl _, fun _ _ _ => rfl⟩, fun r hr => nomatch hr⟩, fun r hr => .inl hr⟩
    have hrun := run_append_none (P := P) (w := w) (ty := o.type) ht (a := a) hle
    rw [← hv] at hrun
    unfold execOp
    simp only [ho, resolve, invoke, builtin, Sem.run_bind, Sem.run_pure, Result.andThen_ok, List.map_toArray, List.map_cons, List.map_nil, hx, hy, hrun]
  obtain ⟨i, z, hinf, hz, hsz, hby, hzs⟩ := ht.info
  have hown : w.ownsRow w0.heap.size e k v n xs := by
    refine ⟨hS.len, ?_⟩
    rcases hS.way with ⟨_, h2, h3⟩ | ⟨g0, cap0, cur0, h1, h2, h3, h4, h5, h6⟩
    · exact .inl ⟨h2, h3⟩
    · subst h1
      exact .inr ⟨g0, cap0, cur0, h2, (hO.here _ (.head _)).1, hO.get (.head _), h3, h4, h5, h6⟩
  obtain ⟨v', w', hrun, hown', hgr, hnil, hat'⟩ := run_append_own_at (P := P) w w0.heap.size t o.type e i z k b ht.ty hinf hz hsz hby hzs ht.pos v n xs hown a m cap ys hP.len hcell
    (by have := hP.ones; simpa using this) h63 hsm hR.below.size
  have hrun' : (execOp ρ o).run P w = .ok (.value v') w' := by
    unfold execOp
    simp only [ho, resolve, invoke, builtin, Sem.run_bind, Sem.run_pure, Result.andThen_ok, List.map_toArray, List.map_cons, List.map_nil, hx, hy, hrun]
  have hb : ∀ q, v.ownBlock = some q → w0.heap.size ≤ q ∧ ∀ y ∈ L', y.1 ≠ q := by
    intro q hq
    rcases hS.way with ⟨_, h2, _⟩ | ⟨g0, cap0, cur0, h1, h2, _⟩
    · rw [h2] at hq; exact nomatch hq
    · subst h1
      rw [h2] at hq
      have : g0 = q := by simpa [Value.ownBlock] using hq
      subst this
      refine ⟨(hO.here _ (.head _)).1, fun y hy e => ?_⟩
      have hn := hO.apart
      simp only [List.cons_append, List.nil_append, List.map_cons, List.nodup_cons] at hn
      exact hn.1 (List.mem_map.2 ⟨y, hy, e⟩)
  have hO' : Own w0 w' L' := hO.right.grown hgr hb
  have hq : ∀ r, v.ownBlock = some r → r ∈ s.map (·.1) := by
    intro q hq
    rcases hS.way with ⟨_, h2, _⟩ | ⟨g0, cap0, cur0, h1, h2, _⟩
    · rw [h2] at hq; exact nomatch hq
    · subst h1
      rw [h2] at hq
      have : g0 = q := by simpa [Value.ownBlock] using hq
      subst this
      simp
  rcases hown'.2 with ⟨h2, h3⟩ | ⟨h, cap2, cur', h2, hb2, hg2, hle, hmost, hsize, htake⟩
  · exact ⟨[], v', w', hrun', hO', ⟨hown'.1, .inl ⟨rfl, h2, h3⟩⟩, ⟨_, hgr, hq⟩, fun r hr => nomatch hr⟩
  · refine ⟨[(h, cur', e)], v', w', hrun', hO'.cons hb2 hg2 fun y hy he => ?_, ⟨hown'.1, .inr ⟨h, cap2, cur', rfl, h2, hle, hmost, hsize, htake⟩⟩, ⟨_, hgr, hq⟩, fun r hr => ?_⟩
    subst h2
    rcases hat' with e1 | e1
    · exact (hb h e1.symm).2 y hy he
    · have : h = w.heap.size := by simpa [Value.ownBlock] using e1
      have := hO.lt (List.mem_append_right _ hy)
      omega
    obtain rfl : r = h := by simpa using hr
    subst h2
    rcases hat' with e1 | e1
    · exact .inl (hq _ e1.symm)
    · exact .inr (by simpa [Value.ownBlock] using e1)
end
section
variable {P : Program} {ops : Array Oper} {Q : Exit → Act → World → Prop} {ls : List Value} {ds : List Deferred} {W w0 w : World} {l : List RowT} {ks : List Nat} {tp : TypeId} {pos : String} {af : Array Edge} {gd : Option (Nat × Bool)} {d : Tmp} {i : Nat} {K : Act → World → Prop}
theorem opAppW (hR : Own w0 w l) (hA : Apart W w ks) {L' s : List RowT} {t e : TypeId} {k b : Nat} (ht : SliceB P t e k b) {x y : Operand} {v y' : Value} {m0 m : Nat} {xs ys : List Value}
    (hi : ops.toList[i]? = some ⟨some d, .call { callee := .builtin .append, args := #[x, y], argTypes := #[t, t] }, tp, pos, af, gd⟩) (hg : Region.wanted ⟨some d, .call { callee := .builtin .append, args := #[x, y], argTypes := #[t, t] }, tp, pos, af, gd⟩ (yielded ops ls.toArray) = true)
    (hx : evalL ls x = some v) (hy : evalL ls y = some y') (hd : Les s l L') (hS : Sl e k s v m0 xs) (hP : Rd w k y' m ys) (h63 : m0 + m ≤ maxLen) (hsm : (m0 + m) * b ≤ 140737488355328) (hks : ∀ r ∈ s.map (·.1), r ∈ ks)
    (h : ∀ s' v' w', Own w0 w' (s' ++ L') → Sl e k s' v' (m0 + m) (xs ++ ys) → Apart W w' ks → (∀ r ∈ s'.map (·.1), r ∈ s.map (·.1) ∨ W.heap.size ≤ r) → K ⟨(ls.set d v').toArray, ds⟩ w') : wpOp P ops Q i K ⟨ls.toArray, ds⟩ w := by
  obtain ⟨s', v', w', hr, hO, hS', ⟨q, hgr, hq⟩, hw⟩ := run_appGW (o := ⟨some d, .call { callee := .builtin .append, args := #[x, y], argTypes := #[t, t] }, tp, pos, af, gd⟩) ht hR rfl (eval_of hx) (eval_of hy) hd hS hP h63 hsm
  refine wpOp_kn hi hg hr ?_
  show K ((⟨ls.toArray, ds⟩ : Act).put (some d) _) _
  rw [put_list]
  exact h s' v' w' hO hS' (hA.grown hgr fun r hr _ => hks r (hq r hr)) fun r hr => (hw r hr).imp id fun e => by have := hA.size; omega
end
/-! ### Rows that '[]byte(s)' made -/
/-- A block, its cells and their type. -/
def MarksAt (w : World) (ms : List RowT) : Prop := ∀ m ∈ ms, w.heap[m.1]? = some (.cells m.2.1 m.2.2 (m.2.1.size, m.2.1.size + 1))
theorem MarksAt.nil (w : World) : MarksAt w [] := fun _ h => nomatch h
theorem MarksAt.append {w : World} {a b : List RowT} (ha : MarksAt w a) (hb : MarksAt w b) : MarksAt w (a ++ b) := fun m hm => by
  rcases List.mem_append.1 hm with h | h
  · exact ha m h
  · exact hb m h
/-- A block of the call's own is none of them. -/
theorem MarksAt.not_own {w0 w : World} {l ms : List RowT} (h : MarksAt w ms) (hR : Own w0 w l) {k : Nat} (hk : k ∈ l.map (·.1)) {m : RowT} (hm : m ∈ ms) : m.1 ≠ k := fun e => by
  obtain ⟨x, hx, rfl⟩ := List.mem_map.1 hk
  have h1 := h m hm
  have h2 := (hR.here x hx).2
  rw [e, h2] at h1
  injection h1 with h1
  injection h1 with _ _ h1
  injection h1 with h1 h3
  omega
theorem MarksAt.apart {w0 w w' : World} {l ms : List RowT} {ks : List Nat} (h : MarksAt w ms) (hR : Own w0 w l) (hk : ∀ k ∈ ks, k ∈ l.map (·.1)) (hA : Apart w w' ks) : MarksAt w' ms := fun m hm => by
  have h1 := h m hm
  rw [hA.same m.1 (Array.getElem?_eq_some_iff.1 h1).1 (fun hc => h.not_own hR (hk _ hc) hm rfl)]
  exact h1
theorem MarksAt.below {w w' : World} {ms : List RowT} (h : MarksAt w ms) (hb : Below w.heap.size w w') : MarksAt w' ms := fun m hm => by
  have h1 := h m hm
  rw [hb.block m.1 (Array.getElem?_eq_some_iff.1 h1).1]
  exact h1
/-- Bytes there as long as some rows of the call's own, and some that '[]byte(s)' made, are. -/
def SrcM (sr ms : List RowT) (v : Value) (bs : List Int) : Prop := ∀ (w0 w : World) (l : List RowT), Own w0 w l → (∀ r ∈ sr, r ∈ l) → MarksAt w ms → SrcW w v bs
section
variable {P : Program} {ops : Array Oper} {Q : Exit → Act → World → Prop} {rest : List Oper} {ls ls' : List Value} {ds : List Deferred} {W w0 w : World} {l : List RowT} {ks : List Nat} {tp : TypeId} {pos : String} {af : Array Edge} {gd : Option (Nat × Bool)} {d : Tmp} {src dst e : TypeId} {x : Operand} {ns : List Int}
theorem wpList_bytesK (hR : Own w0 w l) (hA : Apart W w ks) (hs : P.underlying src = some .string) (hd : P.underlying dst = some (.slice e)) (he : P.underlying e = some (.int .u8)) (hb : bytesOk ns)
    (hgd : Region.wanted ⟨some d, .convert src dst x, tp, pos, af, gd⟩ (yielded ops ls.toArray) = true) (hx : evalL ls x = some (.string (strOfNums ns)))
    (h : ∀ g cap ms w', Own w0 w' l → Apart W w' ks → MarksAt w' ms → SrcM [] ms (.slice (some ⟨g, 0, none⟩) ns.length cap) ns → wpList P ops Q rest ⟨(ls.set d (.slice (some ⟨g, 0, none⟩) ns.length cap)).toArray, ds⟩ w') :
    wpList P ops Q (⟨some d, .convert src dst x, tp, pos, af, gd⟩ :: rest) ⟨ls.toArray, ds⟩ w := by
  have hr := run_bytes_of_string (P := P) w src dst e (strOfNums ns) hs hd he
  rw [strOf_len] at hr
  generalize hc : grownCap w ns.length 0 e = cap at hr
  have hle : ns.length ≤ cap := by rw [← hc]; exact grownCap_ge _ _ _ _
  have hbl : Below w.heap.size w (w.drew.alloc (.cells (bytesRow (strOfNums ns) cap) e ((bytesRow (strOfNums ns) cap).size, (bytesRow (strOfNums ns) cap).size + 1))) := (Below.refl _ w).drew.alloc (Nat.le_refl _) _
  refine wpList_run_value (v := .slice (some ⟨w.heap.size, 0, none⟩) ns.length cap) (w' := w.drew.alloc (.cells (bytesRow (strOfNums ns) cap) e ((bytesRow (strOfNums ns) cap).size, (bytesRow (strOfNums ns) cap).size + 1))) hgd ?_ ?_
  · unfold execOp
    simp only [eval_of hx, Sem.run_bind, hr, Result.andThen_ok, Sem.run_pure]
  · rw [put_list]
    refine h _ _ [(w.heap.size, bytesRow (strOfNums ns) cap, e)] _ (hR.grow hbl) (hA.below hbl) (fun m hm => ?_) (fun wb w2 l2 _ _ hM => ⟨hb, .inr ⟨_, cap, rfl, hle, fun j u hu => ?_⟩⟩)
    · rw [List.mem_singleton.1 hm]
      show (w.heap.push _)[w.heap.size]? = _
      rw [Array.getElem?_push, if_pos rfl]
    · rw [addr_mid, cell_of_row _ _ _ _ _ _ (hM _ (.head _)), Nat.zero_add]
      exact bytesRow_at hb cap hu
end
end Go.Proofs.Ytimciiaajlfkoaa
