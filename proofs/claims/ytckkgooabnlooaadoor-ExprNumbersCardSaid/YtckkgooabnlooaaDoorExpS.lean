









/- The contracts of expr.Operand, with what it defers, and of expr.Number. No statement of the seat is proved here. -/
import Derived.Test.YtckkgooabnlooaaDoorExpR
namespace Go.Proofs.YtckkgooabnlooaaDoor
open Go.ChangeShapes Go.WideShapes Go.ChangeAt Go.RowKit
set_option linter.unusedVariables false
set_option linter.unusedSimpArgs false
set_option maxRecDepth 100000

theorem bOpd0 : Built Tryd.prog 41 [] (encOp zeroOpd) := ⟨by kernel_rfl⟩
theorem put_cellE (v u : Value) : PutRel #[v] 0 [u] #[u] := ⟨rfl⟩
theorem t_tassert2 {P : Program} {C : World → Prop} {tp : TypeId} {pos : String} {af : Array Edge} {gd : Option (Nat × Bool)} {ls : List Value} {ds : List Deferred} {c : Bool} {dd : Option Tmp} {x : Operand} {xt t : TypeId} {q : IntKind} {v : Value} (hu : P.underlying t = some (.int q)) (hx : EvC ls c x (.iface t v)) :
    TIf P C c ⟨dd, .typeAssert x xt t true, tp, pos, af, gd⟩ ⟨ls.toArray, ds⟩ (.tuple #[v, .bool true]) := by
  refine ⟨fun e => .inl fun w _ => ?_⟩
  unfold execOp
  simp [eval_of (hx.of e), Instr.typeAssert, run_underlying hu]
/-- What Operand's named results hold. -/
def twoR (go ge : Nat) (o : OpdZ) (e : Int) : List RowT := [(ge, #[.int .i64 e], 28), (go, encOp o, 41)]
set_option maxHeartbeats 4000000 in
theorem catchE_panic {w0 w : World} {go ge : Nat} {o : OpdZ} {e0 e : Int} (hO : Own w0 w (twoR go ge o e0)) :
    CallsD Tryd.prog 20 #[.pointer (some ⟨go, 0, none⟩), .pointer (some ⟨ge, 0, none⟩)] (.panicking (errCh e)) w fun en u' w' =>
      en = .returned (.tuple #[]) ∧ u' = .panicking [{ v := errV e, recovered := true }] ∧ Own w0 w' (twoR go ge zeroOpd e) := by
  refine callsD_of_wpS Tryd.func20 rfl fun c₀ cs hu => ?_
  apply wpS_seq
  apply wpS_region
  simp [wpOpsS, go_sem, recoverD, hu, errCh, errV, Tryd.ntmps20, Exit.thenS]
  refine wpS_of_wp ?_
  have hR := hO
  unfold twoR at hR
  clear hO
  show Code.wp _ _ _ ⟨[Value.pointer (some ⟨go, 0, none⟩), .pointer (some ⟨ge, 0, none⟩), undef, undef, undef, .iface 28 (.int .i64 e), undef, undef, undef, undef, undef, undef, undef].toArray, []⟩ _
  go_wp2_with (first
    | ((with_reducible apply q_ls hR); exact rfl; (with_reducible apply t_tassert2 Tryd.underlying28); (apply EvC.now; exact rfl); (simp only [cS, cZ]; exact rfl); clear hR; intro w hR)
    | ((with_reducible apply wpList_built); exact rfl; exact rfl; exact bOpd0; (simp only [cS, cZ]; exact rfl))
    | ((with_reducible apply wpList_put hR tVal); exact rfl; exact rfl; exact rfl; (focus (repeat (first | apply List.Mem.head | apply List.Mem.tail | apply List.mem_append_right))); exact put_val _ _; exact rfl; exact Nat.le_refl 6; exact one_val _; (focus (repeat (first | apply Upd.head | apply Upd.tail))); clear hR; intro w hR)
    | ((with_reducible apply wpList_put hR tOpd); exact rfl; exact rfl; exact rfl; (focus (repeat (first | apply List.Mem.head | apply List.Mem.tail | apply List.mem_append_right))); exact put_opd _ _; exact rfl; exact Nat.le_refl 12; exact one_opd _; (focus (repeat (first | apply Upd.head | apply Upd.tail))); clear hR; intro w hR)
    | ((with_reducible apply wpList_put1 hR tErrE); exact rfl; exact rfl; exact rfl; (focus (repeat (first | apply List.Mem.head | apply List.Mem.tail | apply List.mem_append_right))); exact put_cellE _ _; (simp); exact rfl; (focus (repeat (first | apply Upd.head | apply Upd.tail))); clear hR; intro w hR))
  exact ⟨rfl, _, rfl, .tuple #[], by simp [results, Tryd.results20], rfl, rfl, hR⟩
theorem catchE_idle {w0 w : World} {go ge : Nat} {o : OpdZ} {e0 : Int} (hO : Own w0 w (twoR go ge o e0)) :
    CallsD Tryd.prog 20 #[.pointer (some ⟨go, 0, none⟩), .pointer (some ⟨ge, 0, none⟩)] .returning w fun en u' w' =>
      en = .returned (.tuple #[]) ∧ u' = .returning ∧ Own w0 w' (twoR go ge o e0) := by
  refine callsD_of_wpS Tryd.func20 rfl fun c₀ cs hu => ?_
  apply wpS_seq
  apply wpS_region
  simp [wpOpsS, go_sem, recoverD, hu, Tryd.ntmps20, Exit.thenS]
  refine wpS_of_wp ?_
  show Code.wp _ _ _ ⟨[Value.pointer (some ⟨go, 0, none⟩), .pointer (some ⟨ge, 0, none⟩), undef, undef, undef, .nilIface, undef, undef, undef, undef, undef, undef, undef].toArray, []⟩ _
  go_wp2
  exact ⟨rfl, .returning, by rw [← hu], .tuple #[], by simp [results, Tryd.results20], rfl, rfl, hO⟩
theorem zErrE : (Tryd.prog.info? 28).map (·.zero) = some (some (.int .i64 0)) := by kernel_rfl
theorem cIntE : (Value.int .i64 0).cells = #[.int .i64 0] := rfl
theorem run_loadVarOneE {P : Program} {ty : TypeId} (ht : OneTy P ty) {w : World} {a : Addr} {v : Value} (hc : w.cell? a = some v) : (loadVar ty a).run P w = .ok v w := by
  obtain ⟨d', hu, hd, _⟩ := ht
  have hagg : (isAgg ty).run P w = .ok false w := by
    unfold isAgg
    rw [Sem.run_bind, run_underlying hu w]
    cases d' <;> simp_all
  simp [loadVar, Sem.run_bind, hagg, hc]
def opdV (p : OpdZ × Int) : Value := .tuple #[.agg (encOp p.1), .int .i64 p.2]
theorem results_two {w0 w : World} {go ge : Nat} {o : OpdZ} {e : Int} (hO : Own w0 w (twoR go ge o e)) {tmps : Array Value} (h4 : tmps.getD 4 undef = .pointer (some ⟨go, 0, none⟩)) (h5 : tmps.getD 5 undef = .pointer (some ⟨ge, 0, none⟩)) :
    (results Tryd.f12 tmps).run Tryd.prog w = .ok (opdV (o, e)) w := by
  have e1 := run_loadVar_row (P := Tryd.prog) w go 41 41 (encOp o) (0, 0) _ (hO.get (.tail _ (.head _))) Tryd.underlying41 rfl (by rw [iOpd]; rfl)
  have e2 : (loadVar 28 ⟨ge, 0, none⟩).run Tryd.prog w = .ok (.int .i64 e) w := run_loadVarOneE tErrE (by rw [cell_of_row _ _ _ _ _ _ (hO.get (.head _))]; rfl)
  have h4' : tmps[4]?.getD undef = .pointer (some ⟨go, 0, none⟩) := by simpa using h4
  have h5' : tmps[5]?.getD undef = .pointer (some ⟨ge, 0, none⟩) := by simpa using h5
  simp [results, Tryd.results12, h4', h5', asAddr, e1, e2, opdV]
set_option maxHeartbeats 4000000 in
theorem operE_any {w0 : World} (hT : Tabs w0) {tb : TabZ} (hB : TabIn w0 tb) {v : Value} {l : List TokZ} (hS : Toks w0 v l) (n : Nat) (hgot : (parseM tb n (.ex 1) (startS l)).got) :
    Calls Tryd.prog 12 #[v, .agg (encTb tb)] w0 fun en w' => en = .returned (opdV (opdR (parseM tb n (.ex 1) (startS l)))) ∧ Below w0.heap.size w0 w' := by
  have hmf : ∀ (fn : Fn) (first cap : Array Value) (w : World), (Instr.makeFunc fn first cap).run Tryd.prog w = .ok (.func fn first cap) w := fun _ _ _ _ => rfl
  have hR := Own.start w0
  have HW := Lib.hid (fun (w : World) (l' : List RowT) (hO : Own w0 w l') => wholeE_any (hT.own hO) (hB.own hO) (hS.own hO) n hgot)
  obtain ⟨vp, vn, vc, rfl⟩ := hS.rd.slice
  unfold opdR
  clear hT hB hS
  have hg2 : (wholeR (parseM tb n (.ex 1) (startS l))).got := by
    rcases hm : parseM tb n (.ex 1) (startS l) with ⟨p, s2⟩ | e | _
    · unfold wholeR; simp only; split
      · split <;> trivial
      · trivial
    · trivial
    · rw [hm] at hgot; exact hgot
  clear hgot
  generalize wholeR (parseM tb n (.ex 1) (startS l)) = M at *
  go_enter_defers Tryd.func12, Tryd.ntmps12
  go_upto_region 2 with (first
    | ((with_reducible apply wpList_box1 hR); exact rfl; exact rfl; exact rfl; clear hR; intro gt w hR; simp only [cS, cZ])
    | ((with_reducible apply wpList_make hR zOpd); exact rfl; clear hR; intro go w hR; simp only [cS, cZ])
    | ((with_reducible apply wpList_make1 hR zErrE cIntE); exact rfl; clear hR; intro ge w hR; simp only [cS, cZ]))
  replace hR := hR.alloc #[.int .i64 0] 28
  generalize w.heap.size = ge at *
  generalize w.alloc (Obj.cells #[.int .i64 0] 28) = w1 at *
  rcases M with ⟨o, s2⟩ | e | _
  · go_wp2_with (first
    | ((with_reducible apply q_ls hR); exact rfl; (with_reducible apply t_part tTab); (apply EvC.now; exact rfl); (focus (repeat (first | apply List.Mem.head | apply List.Mem.tail | apply List.mem_append_right))); (exact ext_tab _); exact rfl; (simp only [cS, cZ]; exact rfl); clear hR; intro w hR)
    | (go_at_call 21; refine (HW.out _ _ hR).mono ?_; rintro e w' ⟨rfl, hb⟩; replace hR := hR.grow hb; clear hb)
    | ((with_reducible apply wpList_put hR tVal); exact rfl; exact rfl; exact rfl; (focus (repeat (first | apply List.Mem.head | apply List.Mem.tail | apply List.mem_append_right))); exact put_val _ _; exact rfl; exact Nat.le_refl 6; exact one_val _; (focus (repeat (first | apply Upd.head | apply Upd.tail))); clear hR; intro w hR)
    | ((with_reducible apply wpList_put hR tOpd); exact rfl; exact rfl; exact rfl; (focus (repeat (first | apply List.Mem.head | apply List.Mem.tail | apply List.mem_append_right))); exact put_opd _ _; exact rfl; exact Nat.le_refl 12; exact one_opd _; (focus (repeat (first | apply Upd.head | apply Upd.tail))); clear hR; intro w hR)
    | ((with_reducible apply wpList_put1 hR tErrE); exact rfl; exact rfl; exact rfl; (focus (repeat (first | apply List.Mem.head | apply List.Mem.tail | apply List.mem_append_right))); exact put_cellE _ _; (simp); exact rfl; (focus (repeat (first | apply Upd.head | apply Upd.tail))); clear hR; intro w hR))
    refine leaves_cons (f := 20) (args := #[.pointer (some ⟨go, 0, none⟩), .pointer (some ⟨ge, 0, none⟩)]) (by simp) (by simp [go_sem]) ?_
    refine (catchE_idle (go := go) (ge := ge) (o := o) (e0 := 0) (hR.drop (List.Sublist.cons_cons _ (List.Sublist.cons_cons _ (List.nil_sublist _))))).mono ?_
    rintro en u' w'' ⟨rfl, rfl, hO⟩
    exact ⟨_, results_two hO rfl rfl, rfl, hO.below⟩
  · go_wp2_with (first
    | ((with_reducible apply q_ls hR); exact rfl; (with_reducible apply t_part tTab); (apply EvC.now; exact rfl); (focus (repeat (first | apply List.Mem.head | apply List.Mem.tail | apply List.mem_append_right))); (exact ext_tab _); exact rfl; (simp only [cS, cZ]; exact rfl); clear hR; intro w hR)
    | (go_at_call 21; refine (HW.out _ _ hR).mono ?_; rintro e w' ⟨rfl, hb⟩; replace hR := hR.grow hb; clear hb))
    refine leaves_cons (f := 20) (args := #[.pointer (some ⟨go, 0, none⟩), .pointer (some ⟨ge, 0, none⟩)]) (by simp) (by simp [go_sem]) ?_
    refine (catchE_panic (go := go) (ge := ge) (o := zeroOpd) (e0 := 0) (e := e) (hR.drop (List.Sublist.cons_cons _ (List.Sublist.cons_cons _ (List.nil_sublist _))))).mono ?_
    rintro en u' w'' ⟨rfl, rfl, hO⟩
    exact ⟨_, results_two hO rfl rfl, rfl, hO.below⟩
  · exact hg2.elim
/-! ### Number -/
def valV (p : ValZ × Int) : Value := .tuple #[.agg (encV p.1), .int .i64 p.2]
theorem ext_opdV (o : OpdZ) : ExtRel (encOp o) 3 6 (encV o.v) := ⟨rfl⟩
set_option maxHeartbeats 4000000 in
theorem numE_any {w0 : World} (hT : Tabs w0) {tb : TabZ} (hB : TabIn w0 tb) {v : Value} {l : List TokZ} (hS : Toks w0 v l) (n : Nat) (hgot : (parseM tb n (.ex 1) (startS l)).got) :
    Calls Tryd.prog 8 #[v, .agg (encTb tb)] w0 fun en w' => en = .returned (valV (numberR (opdR (parseM tb n (.ex 1) (startS l))))) ∧ Below w0.heap.size w0 w' := by
  have hR := Own.start w0
  have hP0 := fun (w : World) (l' : List RowT) (hO : Own w0 w l') => operE_any (hT.own hO) (hB.own hO) (hS.own hO) n hgot
  obtain ⟨vp, vn, vc, rfl⟩ := hS.rd.slice
  clear hT hB hS hgot
  generalize opdR (parseM tb n (.ex 1) (startS l)) = p at *
  obtain ⟨o, e⟩ := p
  have HP := Lib.hid hP0
  clear hP0
  unfold numberR
  by_cases he : e = 0
  · subst he
    rw [if_pos rfl]
    have HE := Lib.hid (show cmpB .neq (0 : Int) 0 = some false from rfl)
    by_cases h4 : o.kd = 4
    · rw [show (decide (o.kd = 4) || ((decide (o.kd = 5) && decide (o.rm = 8)) && decide (o.o = 0))) = true by rw [decide_eq_true h4]; rfl]
      have H4 := Lib.hid (show cmpB .eql o.kd 4 = some true by rw [h4]; rfl)
      clear h4
      go_enter Tryd.func8, Tryd.ntmps8
      go_upto_if 14 with (first
        | ((with_reducible apply q_ls hR); exact rfl; (with_reducible apply t_part tTab); (apply EvC.now; exact rfl); (focus (repeat (first | apply List.Mem.head | apply List.Mem.tail | apply List.mem_append_right))); (exact ext_tab _); exact rfl; (simp only [cS, cZ]; exact rfl); clear hR; intro w hR)
        | (go_at_call 12; refine (HP.out _ _ hR).mono ?_; rintro e w' ⟨rfl, hb⟩; replace hR := hR.grow hb; clear hb)
        | ((with_reducible apply q_ls hR); exact rfl; (with_reducible apply t_extract); (apply EvC.now; exact rfl); exact rfl; (simp only [cS, cZ]; exact rfl); clear hR; intro w hR)
        | ((with_reducible apply q_ls hR); exact rfl; (with_reducible apply t_cmp (op := .neq)); (apply EvC.now; exact rfl); (apply EvC.now; exact rfl); exact HE.out; (simp only [cS, cZ]; exact rfl); clear hR; intro w hR)
        | ((with_reducible apply wpList_box hR); exact rfl; exact rfl; clear hR; intro g w hR; simp only [cS, cZ])
        | ((with_reducible apply wpList_make hR zVal); exact rfl; clear hR; intro g w hR; simp only [cS, cZ])
        | ((with_reducible apply wpList_make hR zOpd); exact rfl; clear hR; intro g w hR; simp only [cS, cZ])
        | ((with_reducible apply q_ls hR); exact rfl; ((with_reducible first | apply t_addr fOpd0 | apply t_addr fOpd2 | apply t_addr fOpd3 | apply t_addr fOpd5 | apply t_one tIntV | apply t_part tVal) <;> (first | (focus (repeat (first | (apply EvC.gv; exact rfl; (with_reducible first | exact Imp.refl _ | (apply Imp.left; exact Imp.refl _) | (apply Imp.right; exact Imp.refl _) | (apply Imp.left; apply Imp.left; exact Imp.refl _))) | (apply EvC.now; exact rfl) | (with_reducible first | apply EvAll.cons | exact EvAll.nil))); done) | exact rfl | (first | exact ext_val _ | exact ext_partV _ | exact ext_rdrH _ _ _) | (focus (repeat (first | apply List.Mem.head | apply List.Mem.tail | apply List.mem_append_right))))); (simp only [cS, cZ]; exact rfl); clear hR; intro w hR)
        | ((with_reducible apply wpList_put hR tVal); exact rfl; exact rfl; exact rfl; (focus (repeat (first | apply List.Mem.head | apply List.Mem.tail | apply List.mem_append_right))); exact put_val _ _; exact rfl; exact Nat.le_refl 6; exact one_val _; (focus (repeat (first | apply Upd.head | apply Upd.tail))); clear hR; intro w hR)
        | ((with_reducible apply wpList_put hR tOpd); exact rfl; exact rfl; exact rfl; (focus (repeat (first | apply List.Mem.head | apply List.Mem.tail | apply List.mem_append_right))); exact put_opd _ _; exact rfl; exact Nat.le_refl 12; exact one_opd _; (focus (repeat (first | apply Upd.head | apply Upd.tail))); clear hR; intro w hR))
      refine wp_cond_at (nm := false) rfl rfl (fun h => absurd h (by decide)) (fun _ => ?_)
      go_upto_if 19 with (first
    | ((with_reducible apply q_ls hR); exact rfl; (with_reducible apply t_cmp (op := .eql)); (apply EvC.now; exact rfl); (apply EvC.now; exact rfl); exact H4.out; (simp only [cS, cZ]; exact rfl); clear hR; intro w hR)
    | ((with_reducible apply q_ls hR); exact rfl; ((with_reducible first | apply t_addr fOpd0 | apply t_addr fOpd2 | apply t_addr fOpd3 | apply t_addr fOpd5 | apply t_one tIntV | apply t_part tVal) <;> (first | (focus (repeat (first | (apply EvC.gv; exact rfl; (with_reducible first | exact Imp.refl _ | (apply Imp.left; exact Imp.refl _) | (apply Imp.right; exact Imp.refl _) | (apply Imp.left; apply Imp.left; exact Imp.refl _))) | (apply EvC.now; exact rfl) | (with_reducible first | apply EvAll.cons | exact EvAll.nil))); done) | exact rfl | (first | exact ext_val _ | exact ext_partV _ | exact ext_rdrH _ _ _) | (focus (repeat (first | apply List.Mem.head | apply List.Mem.tail | apply List.mem_append_right))))); (simp only [cS, cZ]; exact rfl); clear hR; intro w hR))
      refine wp_cond_at (nm := true) rfl rfl (fun _ => ?_) (fun h => absurd h (by decide))
      go_wp2_with (first
    | ((with_reducible apply q_ls hR); exact rfl; (with_reducible apply t_part tVal); (apply EvC.now; exact rfl); (focus (repeat (first | apply List.Mem.head | apply List.Mem.tail | apply List.mem_append_right))); (exact ext_opdV _); exact rfl; (simp only [cS, cZ]; exact rfl); clear hR; intro w hR)
    | ((with_reducible apply wpList_put hR tVal); exact rfl; exact rfl; exact rfl; (focus (repeat (first | apply List.Mem.head | apply List.Mem.tail | apply List.mem_append_right))); exact put_val _ _; exact rfl; exact Nat.le_refl 6; exact one_val _; (focus (repeat (first | apply Upd.head | apply Upd.tail))); clear hR; intro w hR)
    | ((with_reducible apply wpList_put hR tOpd); exact rfl; exact rfl; exact rfl; (focus (repeat (first | apply List.Mem.head | apply List.Mem.tail | apply List.mem_append_right))); exact put_opd _ _; exact rfl; exact Nat.le_refl 12; exact one_opd _; (focus (repeat (first | apply Upd.head | apply Upd.tail))); clear hR; intro w hR))
      (try simp only [Exit.inBlock, Exit.then])
      exact post_row_tmp hR rfl (by rfl) (by rfl) (by (focus (repeat (first | apply List.Mem.head | apply List.Mem.tail | apply List.mem_append_right)))) Tryd.underlying27 rfl iVal (by rfl) (by rfl) ⟨rfl, hR.below⟩
    · have H4 := Lib.hid (show cmpB .eql o.kd 4 = some false from congrArg some (decide_eq_false h4))
      rw [show (decide (o.kd = 4) || ((decide (o.kd = 5) && decide (o.rm = 8)) && decide (o.o = 0))) = ((decide (o.kd = 5) && decide (o.rm = 8)) && decide (o.o = 0)) by rw [decide_eq_false h4]; rfl]
      clear h4
      cases hb : ((decide (o.kd = 5) && decide (o.rm = 8)) && decide (o.o = 0))
      · have HB := Lib.hid hb
        clear hb
        go_enter Tryd.func8, Tryd.ntmps8
        go_upto_if 14 with (first
          | ((with_reducible apply q_ls hR); exact rfl; (with_reducible apply t_part tTab); (apply EvC.now; exact rfl); (focus (repeat (first | apply List.Mem.head | apply List.Mem.tail | apply List.mem_append_right))); (exact ext_tab _); exact rfl; (simp only [cS, cZ]; exact rfl); clear hR; intro w hR)
          | (go_at_call 12; refine (HP.out _ _ hR).mono ?_; rintro e w' ⟨rfl, hb⟩; replace hR := hR.grow hb; clear hb)
          | ((with_reducible apply q_ls hR); exact rfl; (with_reducible apply t_extract); (apply EvC.now; exact rfl); exact rfl; (simp only [cS, cZ]; exact rfl); clear hR; intro w hR)
          | ((with_reducible apply q_ls hR); exact rfl; (with_reducible apply t_cmp (op := .neq)); (apply EvC.now; exact rfl); (apply EvC.now; exact rfl); exact HE.out; (simp only [cS, cZ]; exact rfl); clear hR; intro w hR)
          | ((with_reducible apply wpList_box hR); exact rfl; exact rfl; clear hR; intro g w hR; simp only [cS, cZ])
          | ((with_reducible apply wpList_make hR zVal); exact rfl; clear hR; intro g w hR; simp only [cS, cZ])
          | ((with_reducible apply wpList_make hR zOpd); exact rfl; clear hR; intro g w hR; simp only [cS, cZ])
          | ((with_reducible apply q_ls hR); exact rfl; ((with_reducible first | apply t_addr fOpd0 | apply t_addr fOpd2 | apply t_addr fOpd3 | apply t_addr fOpd5 | apply t_one tIntV | apply t_part tVal) <;> (first | (focus (repeat (first | (apply EvC.gv; exact rfl; (with_reducible first | exact Imp.refl _ | (apply Imp.left; exact Imp.refl _) | (apply Imp.right; exact Imp.refl _) | (apply Imp.left; apply Imp.left; exact Imp.refl _))) | (apply EvC.now; exact rfl) | (with_reducible first | apply EvAll.cons | exact EvAll.nil))); done) | exact rfl | (first | exact ext_val _ | exact ext_partV _ | exact ext_rdrH _ _ _) | (focus (repeat (first | apply List.Mem.head | apply List.Mem.tail | apply List.mem_append_right))))); (simp only [cS, cZ]; exact rfl); clear hR; intro w hR)
          | ((with_reducible apply wpList_put hR tVal); exact rfl; exact rfl; exact rfl; (focus (repeat (first | apply List.Mem.head | apply List.Mem.tail | apply List.mem_append_right))); exact put_val _ _; exact rfl; exact Nat.le_refl 6; exact one_val _; (focus (repeat (first | apply Upd.head | apply Upd.tail))); clear hR; intro w hR)
          | ((with_reducible apply wpList_put hR tOpd); exact rfl; exact rfl; exact rfl; (focus (repeat (first | apply List.Mem.head | apply List.Mem.tail | apply List.mem_append_right))); exact put_opd _ _; exact rfl; exact Nat.le_refl 12; exact one_opd _; (focus (repeat (first | apply Upd.head | apply Upd.tail))); clear hR; intro w hR))
        refine wp_cond_at (nm := false) rfl rfl (fun h => absurd h (by decide)) (fun _ => ?_)
        go_upto_if 19 with (first
    | ((with_reducible apply q_ls hR); exact rfl; (with_reducible apply t_cmp (op := .eql)); (apply EvC.now; exact rfl); (apply EvC.now; exact rfl); exact H4.out; (simp only [cS, cZ]; exact rfl); clear hR; intro w hR)
    | ((with_reducible apply q_ls hR); exact rfl; ((with_reducible first | apply t_addr fOpd0 | apply t_addr fOpd2 | apply t_addr fOpd3 | apply t_addr fOpd5 | apply t_one tIntV | apply t_part tVal) <;> (first | (focus (repeat (first | (apply EvC.gv; exact rfl; (with_reducible first | exact Imp.refl _ | (apply Imp.left; exact Imp.refl _) | (apply Imp.right; exact Imp.refl _) | (apply Imp.left; apply Imp.left; exact Imp.refl _))) | (apply EvC.now; exact rfl) | (with_reducible first | apply EvAll.cons | exact EvAll.nil))); done) | exact rfl | (first | exact ext_val _ | exact ext_partV _ | exact ext_rdrH _ _ _) | (focus (repeat (first | apply List.Mem.head | apply List.Mem.tail | apply List.mem_append_right))))); (simp only [cS, cZ]; exact rfl); clear hR; intro w hR))
        refine wp_cond_at (nm := false) rfl rfl (fun h => absurd h (by decide)) (fun _ => ?_)
        go_upto_region 5 with fail
        refine wp_region_tame hR [0, 1, 2, 3, 4, 5, 6, 7, 8, 9, 10, 11, 12, 13] rfl ?_
        repeat (refine wpT_step rfl ?_; first
    | ((first | (with_reducible apply q_pl) | ((with_reducible apply q_gd); (first | (apply GdBy.gt; exact rfl; exact rfl) | (apply GdBy.gf; exact rfl; exact rfl) | (apply GdBy.t; exact rfl; exact rfl) | (apply GdBy.f; exact rfl; exact rfl)))); (first | ((with_reducible first | apply t_move | apply t_assign | apply t_and | apply t_or | apply t_cmp | apply t_not | apply t_addr fOpd0 | apply t_addr fOpd2 | apply t_addr fOpd3 | apply t_addr fOpd5 | apply t_one tIntV | apply t_part tVal) <;> (first | (focus (repeat (first | (apply EvC.gv; exact rfl; (with_reducible first | exact Imp.refl _ | (apply Imp.left; exact Imp.refl _) | (apply Imp.right; exact Imp.refl _) | (apply Imp.left; apply Imp.left; exact Imp.refl _))) | (apply EvC.now; exact rfl) | (with_reducible first | apply EvAll.cons | exact EvAll.nil))); done) | exact rfl | (first | exact ext_val _ | exact ext_partV _ | exact ext_rdrH _ _ _) | (focus (repeat (first | apply List.Mem.head | apply List.Mem.tail | apply List.mem_append_right)))))); (simp only [cS, cZ]; exact rfl))
    | ((with_reducible apply q_gd); (first | (apply GdBy.gt; exact rfl; exact rfl) | (apply GdBy.gf; exact rfl; exact rfl) | (apply GdBy.t; exact rfl; exact rfl) | (apply GdBy.f; exact rfl; exact rfl)); ((with_reducible apply t_num) <;> (first | (focus (repeat (first | (apply EvC.gv; exact rfl; (with_reducible first | exact Imp.refl _ | (apply Imp.left; exact Imp.refl _) | (apply Imp.right; exact Imp.refl _) | (apply Imp.left; apply Imp.left; exact Imp.refl _))) | (apply EvC.now; exact rfl) | (with_reducible first | apply EvAll.cons | exact EvAll.nil))); done) | exact rfl | (first | exact ext_val _ | exact ext_partV _ | exact ext_rdrH _ _ _) | (focus (repeat (first | apply List.Mem.head | apply List.Mem.tail | apply List.mem_append_right))))); (simp only [cS, cZ]; exact rfl))
    | ((with_reducible apply wpT1_gpure); (first | (apply GdBy.gt; exact rfl; exact rfl) | (apply GdBy.gf; exact rfl; exact rfl) | (apply GdBy.t; exact rfl; exact rfl) | (apply GdBy.f; exact rfl; exact rfl)); intro K hK; go_simp; refine hK _ ?_; clear hK K; simp only [cS, cZ])
    | ((with_reducible apply wpT1_pure); exact rfl; intro K hK; go_simp; refine hK _ ?_; clear hK K; simp only [cS, cZ]))
        refine wpT_nil ?_
        clear hR; intro w hR
        go_upto_if 19 with fail
        refine wp_cond_at (nm := false) rfl HB.out (fun h => absurd h (by decide)) (fun _ => ?_)
        go_wp2_with (first
    | ((with_reducible apply wpList_built); exact rfl; exact rfl; exact bVal0; (simp only [cS, cZ]; exact rfl))
    | ((with_reducible apply wpList_put hR tVal); exact rfl; exact rfl; exact rfl; (focus (repeat (first | apply List.Mem.head | apply List.Mem.tail | apply List.mem_append_right))); exact put_val _ _; exact rfl; exact Nat.le_refl 6; exact one_val _; (focus (repeat (first | apply Upd.head | apply Upd.tail))); clear hR; intro w hR)
    | ((with_reducible apply wpList_put hR tOpd); exact rfl; exact rfl; exact rfl; (focus (repeat (first | apply List.Mem.head | apply List.Mem.tail | apply List.mem_append_right))); exact put_opd _ _; exact rfl; exact Nat.le_refl 12; exact one_opd _; (focus (repeat (first | apply Upd.head | apply Upd.tail))); clear hR; intro w hR))
        (try simp only [Exit.inBlock, Exit.then])
        exact post_row_tmp hR rfl (by rfl) (by rfl) (by (focus (repeat (first | apply List.Mem.head | apply List.Mem.tail | apply List.mem_append_right)))) Tryd.underlying27 rfl iVal (by rfl) (by rfl) ⟨rfl, hR.below⟩
      · have HB := Lib.hid hb
        clear hb
        go_enter Tryd.func8, Tryd.ntmps8
        go_upto_if 14 with (first
          | ((with_reducible apply q_ls hR); exact rfl; (with_reducible apply t_part tTab); (apply EvC.now; exact rfl); (focus (repeat (first | apply List.Mem.head | apply List.Mem.tail | apply List.mem_append_right))); (exact ext_tab _); exact rfl; (simp only [cS, cZ]; exact rfl); clear hR; intro w hR)
          | (go_at_call 12; refine (HP.out _ _ hR).mono ?_; rintro e w' ⟨rfl, hb⟩; replace hR := hR.grow hb; clear hb)
          | ((with_reducible apply q_ls hR); exact rfl; (with_reducible apply t_extract); (apply EvC.now; exact rfl); exact rfl; (simp only [cS, cZ]; exact rfl); clear hR; intro w hR)
          | ((with_reducible apply q_ls hR); exact rfl; (with_reducible apply t_cmp (op := .neq)); (apply EvC.now; exact rfl); (apply EvC.now; exact rfl); exact HE.out; (simp only [cS, cZ]; exact rfl); clear hR; intro w hR)
          | ((with_reducible apply wpList_box hR); exact rfl; exact rfl; clear hR; intro g w hR; simp only [cS, cZ])
          | ((with_reducible apply wpList_make hR zVal); exact rfl; clear hR; intro g w hR; simp only [cS, cZ])
          | ((with_reducible apply wpList_make hR zOpd); exact rfl; clear hR; intro g w hR; simp only [cS, cZ])
          | ((with_reducible apply q_ls hR); exact rfl; ((with_reducible first | apply t_addr fOpd0 | apply t_addr fOpd2 | apply t_addr fOpd3 | apply t_addr fOpd5 | apply t_one tIntV | apply t_part tVal) <;> (first | (focus (repeat (first | (apply EvC.gv; exact rfl; (with_reducible first | exact Imp.refl _ | (apply Imp.left; exact Imp.refl _) | (apply Imp.right; exact Imp.refl _) | (apply Imp.left; apply Imp.left; exact Imp.refl _))) | (apply EvC.now; exact rfl) | (with_reducible first | apply EvAll.cons | exact EvAll.nil))); done) | exact rfl | (first | exact ext_val _ | exact ext_partV _ | exact ext_rdrH _ _ _) | (focus (repeat (first | apply List.Mem.head | apply List.Mem.tail | apply List.mem_append_right))))); (simp only [cS, cZ]; exact rfl); clear hR; intro w hR)
          | ((with_reducible apply wpList_put hR tVal); exact rfl; exact rfl; exact rfl; (focus (repeat (first | apply List.Mem.head | apply List.Mem.tail | apply List.mem_append_right))); exact put_val _ _; exact rfl; exact Nat.le_refl 6; exact one_val _; (focus (repeat (first | apply Upd.head | apply Upd.tail))); clear hR; intro w hR)
          | ((with_reducible apply wpList_put hR tOpd); exact rfl; exact rfl; exact rfl; (focus (repeat (first | apply List.Mem.head | apply List.Mem.tail | apply List.mem_append_right))); exact put_opd _ _; exact rfl; exact Nat.le_refl 12; exact one_opd _; (focus (repeat (first | apply Upd.head | apply Upd.tail))); clear hR; intro w hR))
        refine wp_cond_at (nm := false) rfl rfl (fun h => absurd h (by decide)) (fun _ => ?_)
        go_upto_if 19 with (first
    | ((with_reducible apply q_ls hR); exact rfl; (with_reducible apply t_cmp (op := .eql)); (apply EvC.now; exact rfl); (apply EvC.now; exact rfl); exact H4.out; (simp only [cS, cZ]; exact rfl); clear hR; intro w hR)
    | ((with_reducible apply q_ls hR); exact rfl; ((with_reducible first | apply t_addr fOpd0 | apply t_addr fOpd2 | apply t_addr fOpd3 | apply t_addr fOpd5 | apply t_one tIntV | apply t_part tVal) <;> (first | (focus (repeat (first | (apply EvC.gv; exact rfl; (with_reducible first | exact Imp.refl _ | (apply Imp.left; exact Imp.refl _) | (apply Imp.right; exact Imp.refl _) | (apply Imp.left; apply Imp.left; exact Imp.refl _))) | (apply EvC.now; exact rfl) | (with_reducible first | apply EvAll.cons | exact EvAll.nil))); done) | exact rfl | (first | exact ext_val _ | exact ext_partV _ | exact ext_rdrH _ _ _) | (focus (repeat (first | apply List.Mem.head | apply List.Mem.tail | apply List.mem_append_right))))); (simp only [cS, cZ]; exact rfl); clear hR; intro w hR))
        refine wp_cond_at (nm := false) rfl rfl (fun h => absurd h (by decide)) (fun _ => ?_)
        go_upto_region 5 with fail
        refine wp_region_tame hR [0, 1, 2, 3, 4, 5, 6, 7, 8, 9, 10, 11, 12, 13] rfl ?_
        repeat (refine wpT_step rfl ?_; first
    | ((first | (with_reducible apply q_pl) | ((with_reducible apply q_gd); (first | (apply GdBy.gt; exact rfl; exact rfl) | (apply GdBy.gf; exact rfl; exact rfl) | (apply GdBy.t; exact rfl; exact rfl) | (apply GdBy.f; exact rfl; exact rfl)))); (first | ((with_reducible first | apply t_move | apply t_assign | apply t_and | apply t_or | apply t_cmp | apply t_not | apply t_addr fOpd0 | apply t_addr fOpd2 | apply t_addr fOpd3 | apply t_addr fOpd5 | apply t_one tIntV | apply t_part tVal) <;> (first | (focus (repeat (first | (apply EvC.gv; exact rfl; (with_reducible first | exact Imp.refl _ | (apply Imp.left; exact Imp.refl _) | (apply Imp.right; exact Imp.refl _) | (apply Imp.left; apply Imp.left; exact Imp.refl _))) | (apply EvC.now; exact rfl) | (with_reducible first | apply EvAll.cons | exact EvAll.nil))); done) | exact rfl | (first | exact ext_val _ | exact ext_partV _ | exact ext_rdrH _ _ _) | (focus (repeat (first | apply List.Mem.head | apply List.Mem.tail | apply List.mem_append_right)))))); (simp only [cS, cZ]; exact rfl))
    | ((with_reducible apply q_gd); (first | (apply GdBy.gt; exact rfl; exact rfl) | (apply GdBy.gf; exact rfl; exact rfl) | (apply GdBy.t; exact rfl; exact rfl) | (apply GdBy.f; exact rfl; exact rfl)); ((with_reducible apply t_num) <;> (first | (focus (repeat (first | (apply EvC.gv; exact rfl; (with_reducible first | exact Imp.refl _ | (apply Imp.left; exact Imp.refl _) | (apply Imp.right; exact Imp.refl _) | (apply Imp.left; apply Imp.left; exact Imp.refl _))) | (apply EvC.now; exact rfl) | (with_reducible first | apply EvAll.cons | exact EvAll.nil))); done) | exact rfl | (first | exact ext_val _ | exact ext_partV _ | exact ext_rdrH _ _ _) | (focus (repeat (first | apply List.Mem.head | apply List.Mem.tail | apply List.mem_append_right))))); (simp only [cS, cZ]; exact rfl))
    | ((with_reducible apply wpT1_gpure); (first | (apply GdBy.gt; exact rfl; exact rfl) | (apply GdBy.gf; exact rfl; exact rfl) | (apply GdBy.t; exact rfl; exact rfl) | (apply GdBy.f; exact rfl; exact rfl)); intro K hK; go_simp; refine hK _ ?_; clear hK K; simp only [cS, cZ])
    | ((with_reducible apply wpT1_pure); exact rfl; intro K hK; go_simp; refine hK _ ?_; clear hK K; simp only [cS, cZ]))
        refine wpT_nil ?_
        clear hR; intro w hR
        go_upto_if 19 with fail
        refine wp_cond_at (nm := true) rfl HB.out (fun _ => ?_) (fun h => absurd h (by decide))
        go_wp2_with (first
    | ((with_reducible apply q_ls hR); exact rfl; (with_reducible apply t_part tVal); (apply EvC.now; exact rfl); (focus (repeat (first | apply List.Mem.head | apply List.Mem.tail | apply List.mem_append_right))); (exact ext_opdV _); exact rfl; (simp only [cS, cZ]; exact rfl); clear hR; intro w hR)
    | ((with_reducible apply wpList_put hR tVal); exact rfl; exact rfl; exact rfl; (focus (repeat (first | apply List.Mem.head | apply List.Mem.tail | apply List.mem_append_right))); exact put_val _ _; exact rfl; exact Nat.le_refl 6; exact one_val _; (focus (repeat (first | apply Upd.head | apply Upd.tail))); clear hR; intro w hR)
    | ((with_reducible apply wpList_put hR tOpd); exact rfl; exact rfl; exact rfl; (focus (repeat (first | apply List.Mem.head | apply List.Mem.tail | apply List.mem_append_right))); exact put_opd _ _; exact rfl; exact Nat.le_refl 12; exact one_opd _; (focus (repeat (first | apply Upd.head | apply Upd.tail))); clear hR; intro w hR))
        (try simp only [Exit.inBlock, Exit.then])
        exact post_row_tmp hR rfl (by rfl) (by rfl) (by (focus (repeat (first | apply List.Mem.head | apply List.Mem.tail | apply List.mem_append_right)))) Tryd.underlying27 rfl iVal (by rfl) (by rfl) ⟨rfl, hR.below⟩
  · rw [if_neg he]
    have HE := Lib.hid (show cmpB .neq e 0 = some true by show some (e != 0) = _; rw [bne_iff_ne.2 he])
    clear he
    go_enter Tryd.func8, Tryd.ntmps8
    go_upto_if 14 with (first
      | ((with_reducible apply q_ls hR); exact rfl; (with_reducible apply t_part tTab); (apply EvC.now; exact rfl); (focus (repeat (first | apply List.Mem.head | apply List.Mem.tail | apply List.mem_append_right))); (exact ext_tab _); exact rfl; (simp only [cS, cZ]; exact rfl); clear hR; intro w hR)
      | (go_at_call 12; refine (HP.out _ _ hR).mono ?_; rintro e w' ⟨rfl, hb⟩; replace hR := hR.grow hb; clear hb)
      | ((with_reducible apply q_ls hR); exact rfl; (with_reducible apply t_extract); (apply EvC.now; exact rfl); exact rfl; (simp only [cS, cZ]; exact rfl); clear hR; intro w hR)
      | ((with_reducible apply q_ls hR); exact rfl; (with_reducible apply t_cmp (op := .neq)); (apply EvC.now; exact rfl); (apply EvC.now; exact rfl); exact HE.out; (simp only [cS, cZ]; exact rfl); clear hR; intro w hR)
      | ((with_reducible apply wpList_box hR); exact rfl; exact rfl; clear hR; intro g w hR; simp only [cS, cZ])
      | ((with_reducible apply wpList_make hR zVal); exact rfl; clear hR; intro g w hR; simp only [cS, cZ])
      | ((with_reducible apply wpList_make hR zOpd); exact rfl; clear hR; intro g w hR; simp only [cS, cZ])
      | ((with_reducible apply q_ls hR); exact rfl; ((with_reducible first | apply t_addr fOpd0 | apply t_addr fOpd2 | apply t_addr fOpd3 | apply t_addr fOpd5 | apply t_one tIntV | apply t_part tVal) <;> (first | (focus (repeat (first | (apply EvC.gv; exact rfl; (with_reducible first | exact Imp.refl _ | (apply Imp.left; exact Imp.refl _) | (apply Imp.right; exact Imp.refl _) | (apply Imp.left; apply Imp.left; exact Imp.refl _))) | (apply EvC.now; exact rfl) | (with_reducible first | apply EvAll.cons | exact EvAll.nil))); done) | exact rfl | (first | exact ext_val _ | exact ext_partV _ | exact ext_rdrH _ _ _) | (focus (repeat (first | apply List.Mem.head | apply List.Mem.tail | apply List.mem_append_right))))); (simp only [cS, cZ]; exact rfl); clear hR; intro w hR)
      | ((with_reducible apply wpList_put hR tVal); exact rfl; exact rfl; exact rfl; (focus (repeat (first | apply List.Mem.head | apply List.Mem.tail | apply List.mem_append_right))); exact put_val _ _; exact rfl; exact Nat.le_refl 6; exact one_val _; (focus (repeat (first | apply Upd.head | apply Upd.tail))); clear hR; intro w hR)
      | ((with_reducible apply wpList_put hR tOpd); exact rfl; exact rfl; exact rfl; (focus (repeat (first | apply List.Mem.head | apply List.Mem.tail | apply List.mem_append_right))); exact put_opd _ _; exact rfl; exact Nat.le_refl 12; exact one_opd _; (focus (repeat (first | apply Upd.head | apply Upd.tail))); clear hR; intro w hR))
    refine wp_cond_at (nm := true) rfl rfl (fun _ => ?_) (fun h => absurd h (by decide))
    go_wp2_with (first
    | ((with_reducible apply wpList_built); exact rfl; exact rfl; exact bVal0; (simp only [cS, cZ]; exact rfl))
    | ((with_reducible apply wpList_put hR tVal); exact rfl; exact rfl; exact rfl; (focus (repeat (first | apply List.Mem.head | apply List.Mem.tail | apply List.mem_append_right))); exact put_val _ _; exact rfl; exact Nat.le_refl 6; exact one_val _; (focus (repeat (first | apply Upd.head | apply Upd.tail))); clear hR; intro w hR)
    | ((with_reducible apply wpList_put hR tOpd); exact rfl; exact rfl; exact rfl; (focus (repeat (first | apply List.Mem.head | apply List.Mem.tail | apply List.mem_append_right))); exact put_opd _ _; exact rfl; exact Nat.le_refl 12; exact one_opd _; (focus (repeat (first | apply Upd.head | apply Upd.tail))); clear hR; intro w hR))
    (try simp only [Exit.inBlock, Exit.then])
    exact post_row_tmp hR rfl (by rfl) (by rfl) (by (focus (repeat (first | apply List.Mem.head | apply List.Mem.tail | apply List.mem_append_right)))) Tryd.underlying27 rfl iVal (by rfl) (by rfl) ⟨rfl, hR.below⟩
end Go.Proofs.YtckkgooabnlooaaDoor
