/- Appends to a row of the call's own, which stays a row: of what lies somewhere, of a text. No statement of the seat is proved here. -/
import Derived.Test.YtmiakniilimghaaApp
import Derived.Test.YtmiakniilimghaaStr
namespace Go.Proofs.Ytmiakniilimghaa
open Go.ChangeShapes Go.WideShapes Go.ChangeAt Go.RowKit
set_option linter.unusedVariables false
set_option linter.unusedSimpArgs false

section
variable {P : Program}
theorem run_appRd {ρ : Operand → Value} {o : Oper} {w0 w : World} {L L' : List RowT} {t e : TypeId} {k b : Nat} {x y : Operand} {g n m cap : Nat} {cur : Array Value} {y' : Value} {xs ys : List Value} (ht : SliceB P t e k b) (hR : Own w0 w L)
    (ho : o.op = .call { callee := .builtin .append, args := #[x, y], argTypes := #[t, t] }) (hx : ρ x = .slice (some ⟨g, 0, none⟩) n cap) (hy : ρ y = y')
    (hd : Les [(g, cur, e)] L L') (hS : RwIs k cur n cap xs) (hP : Rd w k y' m ys) (h63 : n + m ≤ maxLen) (hsm : (n + m) * b ≤ 140737488355328) :
    ∃ g2 cap2 cur2 w', (execOp ρ o).run P w = .ok (.value (.slice (some ⟨g2, 0, none⟩) (n + m) cap2)) w' ∧ Own w0 w' ((g2, cur2, e) :: L') ∧ RwIs k cur2 (n + m) cap2 (xs ++ ys) := by
  have hO := hR.les hd
  rcases hP.way with ⟨rfl, rfl, rfl⟩ | ⟨a, cap', rfl, hmc, hcell⟩
  · refine ⟨g, cap, cur, w, ?_, hO, hS.cast (List.append_nil _).symm⟩
    have hrun := run_append_none (P := P) (w := w) (ty := o.type) ht (a := some ⟨g, 0, none⟩) hS.le
    unfold execOp
    simp only [ho, resolve, invoke, builtin, Sem.run_bind, Sem.run_pure, Result.andThen_ok, List.map_toArray, List.map_cons, List.map_nil, hx, hy, hrun, Nat.add_zero]
  obtain ⟨i, z, hinf, hz, hsz, hby, hzs⟩ := ht.info
  have hown : w.ownsRow w0.heap.size e k (.slice (some ⟨g, 0, none⟩) n cap) n xs := ⟨hS.len, .inr ⟨g, cap, cur, rfl, (hO.here _ (.head _)).1, hO.get (.head _), hS.le, hS.most, hS.size, hS.take⟩⟩
  obtain ⟨v', w', hrun, hown', hgr, hnil, hat'⟩ := run_append_own_at (P := P) w w0.heap.size t o.type e i z k b ht.ty hinf hz hsz hby hzs ht.pos _ n xs hown a m cap' ys hP.len hcell
    (by have := hP.ones; simpa using this) h63 hsm hR.below.size
  have hrun' : (execOp ρ o).run P w = .ok (.value v') w' := by
    unfold execOp
    simp only [ho, resolve, invoke, builtin, Sem.run_bind, Sem.run_pure, Result.andThen_ok, List.map_toArray, List.map_cons, List.map_nil, hx, hy, hrun]
  have hb : ∀ q, (Value.slice (some ⟨g, 0, none⟩) n cap).ownBlock = some q → w0.heap.size ≤ q ∧ ∀ y ∈ L', y.1 ≠ q := by
    intro q hq
    have : g = q := by simpa [Value.ownBlock] using hq
    subst this
    refine ⟨(hO.here _ (.head _)).1, fun y hy e => ?_⟩
    have hn := hO.apart
    simp only [List.cons_append, List.nil_append, List.map_cons, List.nodup_cons] at hn
    exact hn.1 (List.mem_map.2 ⟨y, hy, e⟩)
  have hO' : Own w0 w' L' := hO.right.grown hgr hb
  rcases hown'.2 with ⟨h2, h3⟩ | ⟨h, cap2, cur', h2, hb2, hg2, hle, hmost, hsize, htake⟩
  · exact absurd (hnil.1 h2).1 (by simp)
  · subst h2
    refine ⟨h, cap2, cur', w', hrun', hO'.cons hb2 hg2 fun y hy he => ?_, ⟨hown'.1, hle, hmost, hsize, htake⟩⟩
    rcases hat' with e1 | e1
    · exact (hb h e1.symm).2 y hy he
    · have : h = w.heap.size := by simpa [Value.ownBlock] using e1
      have := hO.lt (List.mem_append_right _ hy)
      omega
end
section
variable {P : Program} {ops : Array Oper} {rest : List Oper} {Q : Exit → Act → World → Prop} {ls : List Value} {ds : List Deferred} {w0 w : World} {l L' : List RowT} {tp : TypeId} {pos : String} {af : Array Edge} {gd : Option (Nat × Bool)} {d : Tmp} {t u e : TypeId}
theorem wpList_appRd (hR : Own w0 w l) {k b : Nat} (ht : SliceB P t e k b) {x y : Operand} {g n m cap : Nat} {cur : Array Value} {y' : Value} {xs ys : List Value}
    (hgd : Region.wanted ⟨some d, .call { callee := .builtin .append, args := #[x, y], argTypes := #[t, t] }, tp, pos, af, gd⟩ (yielded ops ls.toArray) = true)
    (hx : evalL ls x = some (.slice (some ⟨g, 0, none⟩) n cap)) (hy : evalL ls y = some y') (hS : RwIs k cur n cap xs) (hd : Les [(g, cur, e)] l L') (hP : Rd w k y' m ys) (h63 : n + m ≤ maxLen) (hsm : (n + m) * b ≤ 140737488355328)
    (h : ∀ g2 cap2 cur2 w', Own w0 w' ((g2, cur2, e) :: L') → RwIs k cur2 (n + m) cap2 (xs ++ ys) → wpList P ops Q rest ⟨(ls.set d (.slice (some ⟨g2, 0, none⟩) (n + m) cap2)).toArray, ds⟩ w') :
    wpList P ops Q (⟨some d, .call { callee := .builtin .append, args := #[x, y], argTypes := #[t, t] }, tp, pos, af, gd⟩ :: rest) ⟨ls.toArray, ds⟩ w := by
  obtain ⟨g2, cap2, cur2, w', hr, hO, hS'⟩ := run_appRd (o := ⟨some d, .call { callee := .builtin .append, args := #[x, y], argTypes := #[t, t] }, tp, pos, af, gd⟩) ht hR rfl (eval_of hx) (eval_of hy) hd hS hP h63 hsm
  exact wpList_run_value hgd hr (by rw [put_list]; exact h g2 cap2 cur2 w' hO hS')
/-- A text is appended to bytes. -/
theorem wpList_appStrN (hR : Own w0 w l) (ht : StrTy P t u e) {x y : Operand} {g n cap : Nat} {cur : Array Value} {xs : List Value} {ns : List Int} (hb : bytesOk ns)
    (hgd : Region.wanted ⟨some d, .call { callee := .builtin .append, args := #[x, y], argTypes := #[t, u] }, tp, pos, af, gd⟩ (yielded ops ls.toArray) = true)
    (hx : evalL ls x = some (.slice (some ⟨g, 0, none⟩) n cap)) (hy : evalL ls y = some (.string (strOfNums ns))) (hS : RwIs 1 cur n cap xs) (hd : Del (g, cur, e) l L') (hsm : n + ns.length ≤ 1000000)
    (h : ∀ g2 cap2 cur2 w', Own w0 w' ((g2, cur2, e) :: L') → RwIs 1 cur2 (n + ns.length) cap2 (xs ++ cellsB ns) → wpList P ops Q rest ⟨(ls.set d (.slice (some ⟨g2, 0, none⟩) (n + ns.length) cap2)).toArray, ds⟩ w') :
    wpList P ops Q (⟨some d, .call { callee := .builtin .append, args := #[x, y], argTypes := #[t, u] }, tp, pos, af, gd⟩ :: rest) ⟨ls.toArray, ds⟩ w := by
  obtain ⟨g2, cur2, cap2, w', hr, hO, hS'⟩ := run_appStr (o := ⟨some d, .call { callee := .builtin .append, args := #[x, y], argTypes := #[t, u] }, tp, pos, af, gd⟩) ht hR rfl (eval_of hx) (eval_of hy) hd hS (by rw [strOf_len]; exact hsm)
  have hc : Lib.strCells (strOfNums ns) = cellsB ns := by
    have := strN_cells (strOfNums ns) (strOfNums ns).size
    rw [show (strOfNums ns).extract 0 (strOfNums ns).size = strOfNums ns by rw [strOf_cut, strOf_len]; simp] at this
    rw [this]
    congr 1
    have h2 := nums_strOf hb
    unfold numsS at h2
    unfold strN
    rw [List.take_of_length_le (by rw [Array.length_toList]; exact Nat.le_refl _)]
    exact h2
  rw [hc, strOf_len] at hS'
  rw [strOf_len] at hr
  exact wpList_run_value hgd hr (by rw [put_list]; exact h g2 cap2 cur2 w' hO hS')
end
end Go.Proofs.Ytmiakniilimghaa
