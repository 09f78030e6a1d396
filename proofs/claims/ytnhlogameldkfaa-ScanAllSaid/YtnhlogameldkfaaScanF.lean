




/- The contract of scan.Get, and of what it defers. No statement of the seat is proved here. -/
import Derived.Test.YtnhlogameldkfaaScanE
namespace Go.Proofs.Ytnhlogameldkfaa
open Go.ChangeShapes Go.WideShapes Go.ChangeAt Go.RowKit
set_option linter.unusedVariables false
set_option linter.unusedSimpArgs false

theorem tErr : OneTy Try.prog 28 := .of Try.underlying28 rfl (by kernel_rfl)
theorem bInst0 : Built Try.prog 24 [] (encI zeroI) := ⟨by kernel_rfl⟩
theorem put_cell (v u : Value) : PutRel #[v] 0 [u] #[u] := ⟨rfl⟩
theorem t_tassert {P : Program} {C : World → Prop} {tp : TypeId} {pos : String} {af : Array Edge} {gd : Option (Nat × Bool)} {ls : List Value} {ds : List Deferred} {c : Bool} {dd : Option Tmp} {x : Operand} {xt t : TypeId} {q : IntKind} {v : Value} (hu : P.underlying t = some (.int q)) (hx : EvC ls c x (.iface t v)) :
    TIf P C c ⟨dd, .typeAssert x xt t false, tp, pos, af, gd⟩ ⟨ls.toArray, ds⟩ v := by
  refine ⟨fun e => .inl fun w _ => ?_⟩
  unfold execOp
  simp [eval_of (hx.of e), Instr.typeAssert, run_underlying hu]
/-- What Get's named results hold. -/
def three (gi gn ge : Nat) (i : InstZ) (n e : Int) : List RowT := [(ge, #[.int .i64 e], 28), (gn, #[.int .i64 n], 3), (gi, encI i, 24)]
theorem catch_panic {w0 w : World} {gi gn ge : Nat} {i : InstZ} {n e0 e : Int} (hO : Own w0 w (three gi gn ge i n e0)) :
    CallsD Try.prog 19 #[.pointer (some ⟨gi, 0, none⟩), .pointer (some ⟨gn, 0, none⟩), .pointer (some ⟨ge, 0, none⟩)] (.panicking (errCh e)) w fun en u' w' =>
      en = .returned (.tuple #[]) ∧ u' = .panicking [{ v := errV e, recovered := true }] ∧ Own w0 w' (three gi gn ge zeroI 0 e) := by
  refine callsD_of_wpS Try.func19 rfl fun c₀ cs hu => ?_
  apply wpS_seq
  apply wpS_region
  simp [wpOpsS, go_sem, recoverD, hu, errCh, errV, Try.ntmps19, Exit.thenS]
  refine wpS_of_wp ?_
  have hR := hO
  unfold three at hR
  clear hO
  show Code.wp _ _ _ ⟨[Value.pointer (some ⟨gi, 0, none⟩), .pointer (some ⟨gn, 0, none⟩), .pointer (some ⟨ge, 0, none⟩), .iface 28 (.int .i64 e), .iface 28 (.int .i64 e), undef, undef, undef, undef, undef].toArray, []⟩ _
  go_upto_region 2 with fail
  refine wp_region_some hR [] (by (focus (repeat (with_reducible first | exact List.Sublist.slnil | exact List.nil_sublist _ | exact List.Sublist.refl _ | exact List.sublist_append_right _ _ | apply List.Sublist.cons_cons | apply List.Sublist.cons | apply sub_right)))) [0, 1, 2] 3 (by kernel_rfl) (by kernel_rfl) (by kernel_rfl) rfl ?_
  clear hR; intro hR
  repeat (refine wpT_step rfl ?_; first
    | ((with_reducible apply q_pl); (with_reducible apply t_built); exact rfl; exact bInst0; (simp only [List.set_cons_succ, List.set_cons_zero]; exact rfl))
    | ((with_reducible apply q_pl); (with_reducible apply t_move); (apply EvC.now; exact rfl); (simp only [List.set_cons_succ, List.set_cons_zero]; exact rfl))
    | ((with_reducible apply q_pl); (with_reducible apply t_tassert Try.underlying28); (apply EvC.now; exact rfl); (simp only [List.set_cons_succ, List.set_cons_zero]; exact rfl)))
  refine wpT_nil ?_
  refine wpG_put hR tInst (i := 3) (by kernel_rfl) rfl rfl rfl (by (focus (repeat (first | apply List.Mem.head | apply List.Mem.tail | apply List.mem_append_right)))) (put_inst _ _) rfl (by simp [encI]) (one_inst _) (by (focus (repeat (first | apply Upd.head | apply Upd.tail)))) (by (focus (repeat (with_reducible first | exact List.Sublist.slnil | exact List.nil_sublist _ | exact List.Sublist.refl _ | exact List.sublist_append_right _ _ | apply List.Sublist.cons_cons | apply List.Sublist.cons | apply sub_right)))) ?_
  clear hR; intro w hR
  refine wpG_put1 hR tInt (i := 4) (by kernel_rfl) rfl rfl rfl (by (focus (repeat (first | apply List.Mem.head | apply List.Mem.tail | apply List.mem_append_right)))) (put_cell _ _) (by simp) rfl (by (focus (repeat (first | apply Upd.head | apply Upd.tail)))) (by (focus (repeat (with_reducible first | exact List.Sublist.slnil | exact List.nil_sublist _ | exact List.Sublist.refl _ | exact List.sublist_append_right _ _ | apply List.Sublist.cons_cons | apply List.Sublist.cons | apply sub_right)))) ?_
  clear hR; intro w hR
  refine wpG_put1 hR tErr (i := 5) (by kernel_rfl) rfl rfl rfl (by (focus (repeat (first | apply List.Mem.head | apply List.Mem.tail | apply List.mem_append_right)))) (put_cell _ _) (by simp) rfl (by (focus (repeat (first | apply Upd.head | apply Upd.tail)))) (by (focus (repeat (with_reducible first | exact List.Sublist.slnil | exact List.nil_sublist _ | exact List.Sublist.refl _ | exact List.sublist_append_right _ _ | apply List.Sublist.cons_cons | apply List.Sublist.cons | apply sub_right)))) ?_
  clear hR; intro w hR
  refine wpG_end hR (by kernel_rfl) ?_
  clear hR; intro w hR
  exact ⟨rfl, _, rfl, .tuple #[], by simp [results, Try.results19], rfl, rfl, hR⟩
theorem catch_idle {w0 w : World} {gi gn ge : Nat} {i : InstZ} {n e0 : Int} (hO : Own w0 w (three gi gn ge i n e0)) :
    CallsD Try.prog 19 #[.pointer (some ⟨gi, 0, none⟩), .pointer (some ⟨gn, 0, none⟩), .pointer (some ⟨ge, 0, none⟩)] .returning w fun en u' w' =>
      en = .returned (.tuple #[]) ∧ u' = .returning ∧ Own w0 w' (three gi gn ge i n e0) := by
  refine callsD_of_wpS Try.func19 rfl fun c₀ cs hu => ?_
  apply wpS_seq
  apply wpS_region
  simp [wpOpsS, go_sem, recoverD, hu, Try.ntmps19, Exit.thenS]
  refine wpS_of_wp ?_
  show Code.wp _ _ _ ⟨[Value.pointer (some ⟨gi, 0, none⟩), .pointer (some ⟨gn, 0, none⟩), .pointer (some ⟨ge, 0, none⟩), .nilIface, .nilIface, undef, undef, undef, undef, undef].toArray, []⟩ _
  go_wp2
  exact ⟨rfl, .returning, by rw [← hu], .tuple #[], by simp [results, Try.results19], rfl, rfl, hO⟩

def zRdC : Array Value := #[.slice none 0 0, .int .i64 0]
theorem zRd : ZeroTy Try.prog 50 zRdC := .of (by kernel_rfl)
theorem tRd : RowTy Try.prog 50 2 := .of Try.underlying50 rfl (by kernel_rfl)
theorem bRd {w : World} {v : Value} {bs : List Int} (h : Src w v bs) : Built Try.prog 50 [(0, v)] #[v, .int .i64 0] := by
  rcases h.way with ⟨rfl, _⟩ | ⟨a, cap, rfl, _⟩
  · exact ⟨by kernel_rfl⟩
  · exact ⟨by kernel_rfl⟩
theorem rd_all (v : Value) (bs : List Int) : rd v bs bs = #[v, .int .i64 0] := by unfold rd; rw [Nat.sub_self]; rfl
theorem put_all (v : Value) : PutRel zRdC 0 (#[v, Value.int .i64 0] : Array Value).toList #[v, .int .i64 0] := putList_all rfl
theorem one_rd {w : World} {v : Value} {bs : List Int} (h : Src w v bs) : (#[v, Value.int .i64 0] : Array Value).all (·.oneCell') = true := by
  rcases h.way with ⟨rfl, _⟩ | ⟨a, cap, rfl, _⟩ <;> simp [Value.oneCell']
theorem wpList_make1 {P : Program} {ops : Array Oper} {rest : List Oper} {tp : TypeId} {pos : String} {af : Array Edge} {gd : Option (Nat × Bool)} {ls : List Value} {ds : List Deferred} {w0 w : World} {l : List RowT} {Q : Exit → Act → World → Prop} (hR : Own w0 w l) {ty : TypeId} {z : Value} (hz : (P.info? ty).map (·.zero) = some (some z)) {c : Array Value} (hc : z.cells = c) {d : Tmp} (hgd : Region.wanted ⟨some d, .alloc ty, tp, pos, af, gd⟩ (yielded ops ls.toArray) = true)
    (h : ∀ g w', Own w0 w' ((g, c, ty) :: l) → wpList P ops Q rest ⟨(ls.set d (.pointer (some ⟨g, 0, none⟩))).toArray, ds⟩ w') : wpList P ops Q (⟨some d, .alloc ty, tp, pos, af, gd⟩ :: rest) ⟨ls.toArray, ds⟩ w :=
  wpList_run_value hgd (run_allocRow rfl hz hc) (by rw [put_list]; exact h _ _ (hR.alloc c ty))
theorem zInt : (Try.prog.info? 3).map (·.zero) = some (some (.int .i64 0)) := by kernel_rfl
theorem zErr : (Try.prog.info? 28).map (·.zero) = some (some (.int .i64 0)) := by kernel_rfl
theorem cInt : (Value.int .i64 0).cells = #[.int .i64 0] := rfl
theorem run_loadVarOne {P : Program} {ty : TypeId} (ht : OneTy P ty) {w : World} {a : Addr} {v : Value} (hc : w.cell? a = some v) : (loadVar ty a).run P w = .ok v w := by
  obtain ⟨d', hu, hd, _⟩ := ht
  have hagg : (isAgg ty).run P w = .ok false w := by
    unfold isAgg
    rw [Sem.run_bind, run_underlying hu w]
    cases d' <;> simp_all
  simp [loadVar, Sem.run_bind, hagg, hc]
theorem results_get {w0 w : World} {gi gn ge : Nat} {i : InstZ} {n e : Int} (hO : Own w0 w (three gi gn ge i n e)) {tmps : Array Value} (h2 : tmps.getD 2 undef = .pointer (some ⟨gi, 0, none⟩)) (h3 : tmps.getD 3 undef = .pointer (some ⟨gn, 0, none⟩)) (h4 : tmps.getD 4 undef = .pointer (some ⟨ge, 0, none⟩)) :
    (results Try.f8 tmps).run Try.prog w = .ok (.tuple #[.agg (encI i), .int .i64 n, .int .i64 e]) w := by
  have e1 := run_loadVar_row (P := Try.prog) w gi 24 24 (encI i) (0, 0) _ (hO.get (.tail _ (.tail _ (.head _)))) Try.underlying24 rfl (by rw [iInst]; rfl)
  have e2 : (loadVar 3 ⟨gn, 0, none⟩).run Try.prog w = .ok (.int .i64 n) w := run_loadVarOne tInt (by rw [cell_of_row _ _ _ _ _ _ (hO.get (.tail _ (.head _)))]; rfl)
  have e3 : (loadVar 28 ⟨ge, 0, none⟩).run Try.prog w = .ok (.int .i64 e) w := run_loadVarOne tErr (by rw [cell_of_row _ _ _ _ _ _ (hO.get (.head _))]; rfl)
  have h2' : tmps[2]?.getD undef = .pointer (some ⟨gi, 0, none⟩) := by simpa using h2
  have h3' : tmps[3]?.getD undef = .pointer (some ⟨gn, 0, none⟩) := by simpa using h3
  have h4' : tmps[4]?.getD undef = .pointer (some ⟨ge, 0, none⟩) := by simpa using h4
  simp [results, Try.results8, h2', h3', h4', asAddr, e1, e2, e3]
def getV (m : Sc InstZ) (n : Nat) : Value := match m with
  | .ok i r => .tuple #[.agg (encI i), .int .i64 ((n - r.length : Nat) : Int), .int .i64 0]
  | .bad e => .tuple #[.agg (encI zeroI), .int .i64 0, .int .i64 e]
set_option maxHeartbeats 4000000 in
theorem get_any {v : Value} {bs : List Int} {w0 : World} (hS : Src w0 v bs) :
    Calls Try.prog 8 #[v] w0 fun en w' => en = .returned (getV (instM bs) bs.length) ∧ Below w0.heap.size w0 w' := by
  have hmf : ∀ (fn : Fn) (first cap : Array Value) (w : World), (Instr.makeFunc fn first cap).run Try.prog w = .ok (.func fn first cap) w := fun _ _ _ _ => rfl
  have hR := Own.start w0
  go_enter_defers Try.func8, Try.ntmps8
  go_wp2_with (first
    | ((with_reducible apply wpList_make1 hR zInt cInt); exact rfl; clear hR; intro gn w hR; simp only [List.set_cons_succ, List.set_cons_zero])
    | ((with_reducible apply wpList_make1 hR zErr cInt); exact rfl; clear hR; intro ge w hR; simp only [List.set_cons_succ, List.set_cons_zero])
    | ((with_reducible apply wpList_make hR zInst); exact rfl; clear hR; intro gi w hR; simp only [List.set_cons_succ, List.set_cons_zero])
    | ((with_reducible apply wpList_make hR zRd); exact rfl; clear hR; intro gr w hR; simp only [List.set_cons_succ, List.set_cons_zero])
    | ((with_reducible apply q_ls hR); exact rfl; ((with_reducible first | apply t_addr (fRd _ (by decide)) | apply t_addr (fInst _ (by decide)) | apply t_addr (fRow _ (by decide)) | apply t_one tInt | apply t_one tWord | apply t_one tByte | apply t_one tBool | apply t_one tSlB | apply t_part tInst | apply t_part tRow) <;> (first | (apply EvC.gv; exact rfl; (with_reducible first | exact Imp.refl _ | (apply Imp.left; exact Imp.refl _) | (apply Imp.right; exact Imp.refl _) | (apply Imp.left; apply Imp.left; exact Imp.refl _))) | (apply EvC.now; exact rfl) | exact rfl | (with_reducible exact EvAll.nil) | (focus (repeat (first | apply EvAll.cons | exact EvAll.nil | (apply EvC.gv; exact rfl; (with_reducible first | exact Imp.refl _ | (apply Imp.left; exact Imp.refl _) | (apply Imp.right; exact Imp.refl _) | (apply Imp.left; apply Imp.left; exact Imp.refl _))) | (apply EvC.now; exact rfl))); done) | (first | apply ext_inst | apply ext_row) | (focus (repeat (first | apply List.Mem.head | apply List.Mem.tail | apply List.mem_append_right))))); (simp only [List.set_cons_succ, List.set_cons_zero]; exact rfl); clear hR; intro w hR)
    | ((with_reducible apply wpList_built); exact rfl; exact rfl; exact bRd hS; (simp only [List.set_cons_succ, List.set_cons_zero]; exact rfl))
    | ((with_reducible apply wpList_put hR tInst); exact rfl; exact rfl; exact rfl; (focus (repeat (first | apply List.Mem.head | apply List.Mem.tail | apply List.mem_append_right))); apply put_inst; exact rfl; simp [encI]; apply one_inst; (focus (repeat (first | apply Upd.head | apply Upd.tail))); clear hR; intro w hR)
    | ((with_reducible apply wpList_put hR tRd); exact rfl; exact rfl; exact rfl; (focus (repeat (first | apply List.Mem.head | apply List.Mem.tail | apply List.mem_append_right))); apply put_all; exact rfl; simp [zRdC]; exact one_rd hS; (focus (repeat (first | apply Upd.head | apply Upd.tail))); clear hR; intro w hR))
  have hR2 : Own w0 w ((gr, rd v bs bs, 50) :: three gi gn ge zeroI 0 0) := by rw [rd_all]; exact hR
  clear hR
  have hR := hR2
  clear hR2
  rcases hs : instM bs with ⟨i, r⟩ | e
  · have HS := Lib.hid hs
    clear hs
    refine (ans_ok (instruction_read hS (List.suffix_refl _) hR .head) HS.out).mono ?_
    rintro e w' ⟨rfl, hO⟩
    clear hR; have hR := hO; clear hO
    unfold three at hR
    go_upto_region 4 with (first
    | ((with_reducible apply wpList_make1 hR zInt cInt); exact rfl; clear hR; intro gn w hR; simp only [List.set_cons_succ, List.set_cons_zero])
    | ((with_reducible apply wpList_make1 hR zErr cInt); exact rfl; clear hR; intro ge w hR; simp only [List.set_cons_succ, List.set_cons_zero])
    | ((with_reducible apply wpList_make hR zInst); exact rfl; clear hR; intro gi w hR; simp only [List.set_cons_succ, List.set_cons_zero])
    | ((with_reducible apply wpList_make hR zRd); exact rfl; clear hR; intro gr w hR; simp only [List.set_cons_succ, List.set_cons_zero])
    | ((with_reducible apply q_ls hR); exact rfl; ((with_reducible first | apply t_addr (fRd _ (by decide)) | apply t_addr (fInst _ (by decide)) | apply t_addr (fRow _ (by decide)) | apply t_one tInt | apply t_one tWord | apply t_one tByte | apply t_one tBool | apply t_one tSlB | apply t_part tInst | apply t_part tRow) <;> (first | (apply EvC.gv; exact rfl; (with_reducible first | exact Imp.refl _ | (apply Imp.left; exact Imp.refl _) | (apply Imp.right; exact Imp.refl _) | (apply Imp.left; apply Imp.left; exact Imp.refl _))) | (apply EvC.now; exact rfl) | exact rfl | (with_reducible exact EvAll.nil) | (focus (repeat (first | apply EvAll.cons | exact EvAll.nil | (apply EvC.gv; exact rfl; (with_reducible first | exact Imp.refl _ | (apply Imp.left; exact Imp.refl _) | (apply Imp.right; exact Imp.refl _) | (apply Imp.left; apply Imp.left; exact Imp.refl _))) | (apply EvC.now; exact rfl))); done) | (first | apply ext_inst | apply ext_row) | (focus (repeat (first | apply List.Mem.head | apply List.Mem.tail | apply List.mem_append_right))))); (simp only [List.set_cons_succ, List.set_cons_zero]; exact rfl); clear hR; intro w hR)
    | ((with_reducible apply wpList_built); exact rfl; exact rfl; exact bRd hS; (simp only [List.set_cons_succ, List.set_cons_zero]; exact rfl))
    | ((with_reducible apply wpList_put hR tInst); exact rfl; exact rfl; exact rfl; (focus (repeat (first | apply List.Mem.head | apply List.Mem.tail | apply List.mem_append_right))); apply put_inst; exact rfl; simp [encI]; apply one_inst; (focus (repeat (first | apply Upd.head | apply Upd.tail))); clear hR; intro w hR)
    | ((with_reducible apply wpList_put hR tRd); exact rfl; exact rfl; exact rfl; (focus (repeat (first | apply List.Mem.head | apply List.Mem.tail | apply List.mem_append_right))); apply put_all; exact rfl; simp [zRdC]; exact one_rd hS; (focus (repeat (first | apply Upd.head | apply Upd.tail))); clear hR; intro w hR))
    refine wp_region_some hR [(gr, rd v bs r, 50), (gi, encI i, 24)] (by (focus (repeat (with_reducible first | exact List.Sublist.slnil | exact List.nil_sublist _ | exact List.Sublist.refl _ | exact List.sublist_append_right _ _ | apply List.Sublist.cons_cons | apply List.Sublist.cons | apply sub_right)))) [0, 1, 2] 3 (by kernel_rfl) (by kernel_rfl) (by kernel_rfl) rfl ?_
    clear hR; intro hR
    repeat (refine wpT_step rfl ?_; first
    | ((first | (with_reducible apply q_pl) | ((with_reducible apply q_gd); (first | (apply GdBy.gt; exact rfl; exact rfl) | (apply GdBy.gf; exact rfl; exact rfl) | (apply GdBy.t; exact rfl; exact rfl) | (apply GdBy.f; exact rfl; exact rfl)))); (first | ((with_reducible first | apply t_move | apply t_assign | apply t_and | apply t_or | apply t_cmp | apply t_not | apply t_addr (fRd _ (by decide)) | apply t_addr (fInst _ (by decide)) | apply t_addr (fRow _ (by decide)) | apply t_one tInt | apply t_one tWord | apply t_one tByte | apply t_one tBool | apply t_one tSlB | apply t_part tInst | apply t_part tRow) <;> (first | (apply EvC.gv; exact rfl; (with_reducible first | exact Imp.refl _ | (apply Imp.left; exact Imp.refl _) | (apply Imp.right; exact Imp.refl _) | (apply Imp.left; apply Imp.left; exact Imp.refl _))) | (apply EvC.now; exact rfl) | exact rfl | (with_reducible exact EvAll.nil) | (focus (repeat (first | apply EvAll.cons | exact EvAll.nil | (apply EvC.gv; exact rfl; (with_reducible first | exact Imp.refl _ | (apply Imp.left; exact Imp.refl _) | (apply Imp.right; exact Imp.refl _) | (apply Imp.left; apply Imp.left; exact Imp.refl _))) | (apply EvC.now; exact rfl))); done) | (first | apply ext_inst | apply ext_row) | (focus (repeat (first | apply List.Mem.head | apply List.Mem.tail | apply List.mem_append_right)))))); (simp only [List.set_cons_succ, List.set_cons_zero]; exact rfl)))
    refine wpT_nil ?_
    refine wpG_put hR tInst (i := 3) (by kernel_rfl) rfl rfl rfl (by (focus (repeat (first | apply List.Mem.head | apply List.Mem.tail | apply List.mem_append_right)))) (put_inst _ _) rfl (by simp [encI]) (one_inst _) (by (focus (repeat (first | apply Upd.head | apply Upd.tail)))) (by (focus (repeat (with_reducible first | exact List.Sublist.slnil | exact List.nil_sublist _ | exact List.Sublist.refl _ | exact List.sublist_append_right _ _ | apply List.Sublist.cons_cons | apply List.Sublist.cons | apply sub_right)))) ?_
    clear hR; intro w hR
    refine wpG_put1 hR tInt (i := 4) (by kernel_rfl) rfl rfl rfl (by (focus (repeat (first | apply List.Mem.head | apply List.Mem.tail | apply List.mem_append_right)))) (put_cell _ _) (by simp) rfl (by (focus (repeat (first | apply Upd.head | apply Upd.tail)))) (by (focus (repeat (with_reducible first | exact List.Sublist.slnil | exact List.nil_sublist _ | exact List.Sublist.refl _ | exact List.sublist_append_right _ _ | apply List.Sublist.cons_cons | apply List.Sublist.cons | apply sub_right)))) ?_
    clear hR; intro w hR
    refine wpG_put1 hR tErr (i := 5) (by kernel_rfl) rfl rfl rfl (by (focus (repeat (first | apply List.Mem.head | apply List.Mem.tail | apply List.mem_append_right)))) (put_cell _ _) (by simp) rfl (by (focus (repeat (first | apply Upd.head | apply Upd.tail)))) (by (focus (repeat (with_reducible first | exact List.Sublist.slnil | exact List.nil_sublist _ | exact List.Sublist.refl _ | exact List.sublist_append_right _ _ | apply List.Sublist.cons_cons | apply List.Sublist.cons | apply sub_right)))) ?_
    clear hR; intro w hR
    refine wpG_end hR (by kernel_rfl) ?_
    clear hR; intro w hR
    go_wp2
    refine leaves_cons (f := 19) (args := #[.pointer (some ⟨gi, 0, none⟩), .pointer (some ⟨gn, 0, none⟩), .pointer (some ⟨ge, 0, none⟩)]) (by simp) (by simp [go_sem]) ?_
    refine (catch_idle (hR.tail : Own w0 w (three gi gn ge i ((bs.length - r.length : Nat) : Int) 0))).mono ?_
    rintro en u' w'' ⟨rfl, rfl, hO⟩
    exact ⟨_, results_get hO rfl rfl rfl, by rw [HS.out]; rfl, hO.below⟩
  · have HS := Lib.hid hs
    clear hs
    refine (ans_bad (instruction_read hS (List.suffix_refl _) hR .head) HS.out).mono ?_
    rintro e w' ⟨rfl, hO⟩
    clear hR; have hR := hO; clear hO
    refine leaves_cons (f := 19) (args := #[.pointer (some ⟨gi, 0, none⟩), .pointer (some ⟨gn, 0, none⟩), .pointer (some ⟨ge, 0, none⟩)]) (by simp) (by simp [go_sem]) ?_
    refine (catch_panic hR).mono ?_
    rintro en u' w'' ⟨rfl, rfl, hO⟩
    exact ⟨_, results_get hO rfl rfl rfl, by rw [HS.out]; rfl, hO.below⟩
end Go.Proofs.Ytnhlogameldkfaa
