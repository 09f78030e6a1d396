





/- Contracts: slices.Contains of an array of two numbers; addr.Off, addr.Default. No statement of the seat is proved here. -/
import Derived.Test.YtenhcbaljjhhbaaDoorAddrC
import Derived.Test.YtenhcbaljjhhbaaDoorMany
import Derived.Deep.CutBlock
namespace Go.Proofs.YtenhcbaljjhhbaaDoor
open Go.ChangeShapes Go.WideShapes Go.ChangeAt Go.RowKit
set_option linter.unusedVariables false
set_option linter.unusedSimpArgs false

/-! ### Is it one of the two -/
theorem run_whole {P : Program} {ρ : Operand → Value} {o : Oper} {w : World} {t e : TypeId} {x : Operand} {g n : Nat} (hu : P.underlying t = some (.array n e)) (hz : (P.info? e).map (·.size) = some 1) (ho : o.op = .slice t x none none none)
    (hx : ρ x = .pointer (some ⟨g, 0, none⟩)) : (execOp ρ o).run P w = .ok (.value (.slice (some ⟨g, 0, none⟩) n n)) w := by
  cases hq : P.info? e with
  | none => simp [hq] at hz
  | some inf =>
    have hsz : inf.size = 1 := by simpa [hq] using hz
    have ha : (⟨g, 0, none⟩ : Addr).add 0 = ⟨g, 0, none⟩ := by simp [Addr.add]
    unfold execOp
    simp [ho, Instr.sliceAt, hx, run_underlying hu, Instr.sureAddr, Instr.sliceBounds, Instr.sliceBound, asIntOf, sizeOf, typeInfo, hq, ha]
theorem t_whole {P : Program} {C : World → Prop} {c : Bool} {dd : Option Tmp} {ls : List Value} {ds : List Deferred} {tp : TypeId} {pos : String} {af : Array Edge} {gd : Option (Nat × Bool)} {t e : TypeId} {x : Operand} {g n : Nat} (hu : P.underlying t = some (.array n e)) (hz : (P.info? e).map (·.size) = some 1) (hx : EvC ls c x (.pointer (some ⟨g, 0, none⟩))) :
    TIf P C c ⟨dd, .slice t x none none none, tp, pos, af, gd⟩ ⟨ls.toArray, ds⟩ (.slice (some ⟨g, 0, none⟩) n n) :=
  ⟨fun h => .inl fun w _ => run_whole hu hz rfl (eval_of (hx.of h))⟩
theorem iIntE : (Tryd.prog.info? 3).map (·.size) = some 1 := by kernel_rfl
def ixTwo (a b x : Int) : Int := if x = a then 0 else if x = b then 1 else -1
set_option maxHeartbeats 2000000 in
theorem index_any (a b x : Int) (w0 : World) {g : Nat} {t : TypeId} {fr : Nat × Nat} (hg : w0.heap[g]? = some (.cells (encTwo a b) t fr)) (ha : -9223372036854775808 ≤ a ∧ a ≤ 9223372036854775807) (hb : -9223372036854775808 ≤ b ∧ b ≤ 9223372036854775807) (hx : -9223372036854775808 ≤ x ∧ x ≤ 9223372036854775807) :
    Calls Tryd.prog 27 #[.slice (some ⟨g, 0, none⟩) 2 2, .int .i64 x] w0 fun e w' => e = .returned (.int .i64 (ixTwo a b x)) ∧ Below w0.heap.size w0 w' := by
  have hR := Own.start w0
  by_cases h1 : x = a
  · rw [show ixTwo a b x = 0 from if_pos h1]
    go_enter Tryd.func27, Tryd.ntmps27
    go_wp2_with (first
    | ((with_reducible apply q_ls hR); exact rfl; (with_reducible apply t_len Tryd.underlying56); (apply EvC.now; exact rfl); (simp only [List.set_cons_succ, List.set_cons_zero]; exact rfl); clear hR; intro w hR)
    | ((with_reducible apply q_ls hR); exact rfl; (with_reducible apply t_six Tryd.underlying56 iIntE); (apply EvC.now; exact rfl); (apply EvC.now; exact rfl); (constructor <;> omega); (simp only [List.set_cons_succ, List.set_cons_zero]; exact rfl); clear hR; intro w hR)
    | ((with_reducible apply q_ls hR); exact rfl; (with_reducible apply t_old tInt hg); (apply EvC.now; exact rfl); exact rfl; (simp only [List.set_cons_succ, List.set_cons_zero]; exact rfl); clear hR; intro w hR))
    refine wp_loop_rounds 3 ?_
    rw [rounds_succ]
    go_wp2_with (first
        | ((with_reducible apply q_ls hR); exact rfl; (with_reducible apply t_len Tryd.underlying56); (apply EvC.now; exact rfl); (simp only [List.set_cons_succ, List.set_cons_zero]; exact rfl); clear hR; intro w hR)
        | ((with_reducible apply q_ls hR); exact rfl; (with_reducible apply t_six Tryd.underlying56 iIntE); (apply EvC.now; exact rfl); (apply EvC.now; exact rfl); (constructor <;> omega); (simp only [List.set_cons_succ, List.set_cons_zero]; exact rfl); clear hR; intro w hR)
        | ((with_reducible apply q_ls hR); exact rfl; (with_reducible apply t_old tInt hg); (apply EvC.now; exact rfl); exact rfl; (simp only [List.set_cons_succ, List.set_cons_zero]; exact rfl); clear hR; intro w hR))
    go_ret
    exact ⟨ret_int rfl, hR.below⟩
  by_cases h2 : x = b
  · rw [show ixTwo a b x = 1 from (if_neg h1).trans (if_pos h2)]
    go_enter Tryd.func27, Tryd.ntmps27
    go_wp2_with (first
    | ((with_reducible apply q_ls hR); exact rfl; (with_reducible apply t_len Tryd.underlying56); (apply EvC.now; exact rfl); (simp only [List.set_cons_succ, List.set_cons_zero]; exact rfl); clear hR; intro w hR)
    | ((with_reducible apply q_ls hR); exact rfl; (with_reducible apply t_six Tryd.underlying56 iIntE); (apply EvC.now; exact rfl); (apply EvC.now; exact rfl); (constructor <;> omega); (simp only [List.set_cons_succ, List.set_cons_zero]; exact rfl); clear hR; intro w hR)
    | ((with_reducible apply q_ls hR); exact rfl; (with_reducible apply t_old tInt hg); (apply EvC.now; exact rfl); exact rfl; (simp only [List.set_cons_succ, List.set_cons_zero]; exact rfl); clear hR; intro w hR))
    refine wp_loop_rounds 3 ?_
    rw [rounds_succ]
    go_wp2_with (first
        | ((with_reducible apply q_ls hR); exact rfl; (with_reducible apply t_len Tryd.underlying56); (apply EvC.now; exact rfl); (simp only [List.set_cons_succ, List.set_cons_zero]; exact rfl); clear hR; intro w hR)
        | ((with_reducible apply q_ls hR); exact rfl; (with_reducible apply t_six Tryd.underlying56 iIntE); (apply EvC.now; exact rfl); (apply EvC.now; exact rfl); (constructor <;> omega); (simp only [List.set_cons_succ, List.set_cons_zero]; exact rfl); clear hR; intro w hR)
        | ((with_reducible apply q_ls hR); exact rfl; (with_reducible apply t_old tInt hg); (apply EvC.now; exact rfl); exact rfl; (simp only [List.set_cons_succ, List.set_cons_zero]; exact rfl); clear hR; intro w hR))
    rw [rounds_succ]
    go_wp2_with (first
        | ((with_reducible apply q_ls hR); exact rfl; (with_reducible apply t_len Tryd.underlying56); (apply EvC.now; exact rfl); (simp only [List.set_cons_succ, List.set_cons_zero]; exact rfl); clear hR; intro w hR)
        | ((with_reducible apply q_ls hR); exact rfl; (with_reducible apply t_six Tryd.underlying56 iIntE); (apply EvC.now; exact rfl); (apply EvC.now; exact rfl); (constructor <;> omega); (simp only [List.set_cons_succ, List.set_cons_zero]; exact rfl); clear hR; intro w hR)
        | ((with_reducible apply q_ls hR); exact rfl; (with_reducible apply t_old tInt hg); (apply EvC.now; exact rfl); exact rfl; (simp only [List.set_cons_succ, List.set_cons_zero]; exact rfl); clear hR; intro w hR))
    go_ret
    exact ⟨ret_int rfl, hR.below⟩
  · rw [show ixTwo a b x = -1 from (if_neg h1).trans (if_neg h2)]
    go_enter Tryd.func27, Tryd.ntmps27
    go_wp2_with (first
    | ((with_reducible apply q_ls hR); exact rfl; (with_reducible apply t_len Tryd.underlying56); (apply EvC.now; exact rfl); (simp only [List.set_cons_succ, List.set_cons_zero]; exact rfl); clear hR; intro w hR)
    | ((with_reducible apply q_ls hR); exact rfl; (with_reducible apply t_six Tryd.underlying56 iIntE); (apply EvC.now; exact rfl); (apply EvC.now; exact rfl); (constructor <;> omega); (simp only [List.set_cons_succ, List.set_cons_zero]; exact rfl); clear hR; intro w hR)
    | ((with_reducible apply q_ls hR); exact rfl; (with_reducible apply t_old tInt hg); (apply EvC.now; exact rfl); exact rfl; (simp only [List.set_cons_succ, List.set_cons_zero]; exact rfl); clear hR; intro w hR))
    refine wp_loop_rounds 3 ?_
    rw [rounds_succ]
    go_wp2_with (first
        | ((with_reducible apply q_ls hR); exact rfl; (with_reducible apply t_len Tryd.underlying56); (apply EvC.now; exact rfl); (simp only [List.set_cons_succ, List.set_cons_zero]; exact rfl); clear hR; intro w hR)
        | ((with_reducible apply q_ls hR); exact rfl; (with_reducible apply t_six Tryd.underlying56 iIntE); (apply EvC.now; exact rfl); (apply EvC.now; exact rfl); (constructor <;> omega); (simp only [List.set_cons_succ, List.set_cons_zero]; exact rfl); clear hR; intro w hR)
        | ((with_reducible apply q_ls hR); exact rfl; (with_reducible apply t_old tInt hg); (apply EvC.now; exact rfl); exact rfl; (simp only [List.set_cons_succ, List.set_cons_zero]; exact rfl); clear hR; intro w hR))
    rw [rounds_succ]
    go_wp2_with (first
        | ((with_reducible apply q_ls hR); exact rfl; (with_reducible apply t_len Tryd.underlying56); (apply EvC.now; exact rfl); (simp only [List.set_cons_succ, List.set_cons_zero]; exact rfl); clear hR; intro w hR)
        | ((with_reducible apply q_ls hR); exact rfl; (with_reducible apply t_six Tryd.underlying56 iIntE); (apply EvC.now; exact rfl); (apply EvC.now; exact rfl); (constructor <;> omega); (simp only [List.set_cons_succ, List.set_cons_zero]; exact rfl); clear hR; intro w hR)
        | ((with_reducible apply q_ls hR); exact rfl; (with_reducible apply t_old tInt hg); (apply EvC.now; exact rfl); exact rfl; (simp only [List.set_cons_succ, List.set_cons_zero]; exact rfl); clear hR; intro w hR))
    rw [rounds_succ]
    go_wp2_with (first
        | ((with_reducible apply q_ls hR); exact rfl; (with_reducible apply t_len Tryd.underlying56); (apply EvC.now; exact rfl); (simp only [List.set_cons_succ, List.set_cons_zero]; exact rfl); clear hR; intro w hR)
        | ((with_reducible apply q_ls hR); exact rfl; (with_reducible apply t_six Tryd.underlying56 iIntE); (apply EvC.now; exact rfl); (apply EvC.now; exact rfl); (constructor <;> omega); (simp only [List.set_cons_succ, List.set_cons_zero]; exact rfl); clear hR; intro w hR)
        | ((with_reducible apply q_ls hR); exact rfl; (with_reducible apply t_old tInt hg); (apply EvC.now; exact rfl); exact rfl; (simp only [List.set_cons_succ, List.set_cons_zero]; exact rfl); clear hR; intro w hR))
    go_ret
    exact ⟨ret_int rfl, hR.below⟩
set_option maxHeartbeats 1000000 in
theorem contains_any (a b x : Int) (w0 : World) {g : Nat} {t : TypeId} {fr : Nat × Nat} (hg : w0.heap[g]? = some (.cells (encTwo a b) t fr)) (ha : -9223372036854775808 ≤ a ∧ a ≤ 9223372036854775807) (hb : -9223372036854775808 ≤ b ∧ b ≤ 9223372036854775807) (hx : -9223372036854775808 ≤ x ∧ x ≤ 9223372036854775807) :
    Calls Tryd.prog 20 #[.slice (some ⟨g, 0, none⟩) 2 2, .int .i64 x] w0 fun e w' => e = .returned (.bool (x == a || x == b)) ∧ Below w0.heap.size w0 w' := by
  have hR := Own.start w0
  have HI := Lib.hid (index_any a b x w0 hg ha hb hx)
  have hi : -1 ≤ ixTwo a b x ∧ ixTwo a b x ≤ 1 := by unfold ixTwo; repeat' split <;> omega
  have HE0 : decide (0 ≤ ixTwo a b x) = (x == a || x == b) := by
    unfold ixTwo
    by_cases h1 : x = a
    · simp [h1]
    · by_cases h2 : x = b
      · rw [if_neg h1, if_pos h2]; simp [h2]
      · rw [if_neg h1, if_neg h2]; simp [h1, h2]
  have HE := Lib.hid HE0
  clear ha hb hx hg HE0
  generalize (x == a || x == b) = B at *
  generalize ixTwo a b x = n at *
  go_enter Tryd.func20, Tryd.ntmps20
  go_wp2_with (first
    | (go_at_call 27; refine HI.out.mono ?_; rintro e w' ⟨rfl, hb⟩; replace hR := hR.grow hb; clear hb))
  go_ret
  exact ⟨ret_bool (by rw [← HE.out]), hR.below⟩

/-! ### What is told -/
theorem cntA_bd (i : InstZ) : -1 ≤ cntA i ∧ cntA i ≤ 7 := by
  unfold cntA
  cases offBad i
  · have := offA_ways i; simp only [cond_false]; omega
  · simp only [cond_true]; exact ⟨by decide, by decide⟩
theorem cntB_bd (i : InstZ) : -1 ≤ cntB i ∧ cntB i ≤ 7 := by
  unfold cntB
  cases offBad i
  · have := offB_ways i; simp only [cond_false]; omega
  · simp only [cond_true]; exact ⟨by decide, by decide⟩
theorem get_gOf (r : RegsZ) (n : Int) (h : n ≤ 7) : rgetV r n = gOf r n := by
  unfold rgetV gOf inB
  by_cases h0 : 0 ≤ n
  · rw [if_pos (decide_eq_true ⟨h0, by omega⟩), decide_eq_true h0]; rfl
  · rw [if_neg (by simp [h0]), decide_eq_false h0]; rfl
theorem get_tOf (r : RegsZ) (n : Int) (h : n ≤ 7) : rgetT r n = tOf r n := by
  unfold rgetT tOf inB
  by_cases h0 : 0 ≤ n
  · rw [if_pos (decide_eq_true ⟨h0, by omega⟩), decide_eq_true h0]; rfl
  · rw [if_neg (by simp [h0]), decide_eq_false h0]; rfl
theorem fVal (k : Nat) (h : k < 2) : FieldAt Tryd.prog 24 k k := by
  match k, h with
  | 0, _ => exact ⟨fun g w => by simp [go_sem, Instr.fieldAt, fieldPlace]⟩
  | 1, _ => exact ⟨fun g w => by simp [go_sem, Instr.fieldAt, fieldPlace]⟩
theorem fRegs1 (k : Nat) (h : k < 1) : FieldAt Tryd.prog 28 k k := by
  match k, h with
  | 0, _ => exact ⟨fun g w => by simp [go_sem, Instr.fieldAt, fieldPlace]⟩
theorem off_eq {a b : Int} {s t : Bool} (h : a = b) (k : s = t) : Ending.returned (.tuple #[.int .u16 a, .bool s]) = .returned (.tuple #[.int .u16 b, .bool t]) := by rw [h, k]
set_option maxHeartbeats 4000000 in
theorem off_any (r : RegsZ) (i : InstZ) (w0 : World) (hr : r.ok) (hi : i.ok) (hT : Tabs w0) :
    Calls Tryd.prog 6 #[.agg (encRegs r), .agg (encI i)] w0 fun e w' => e = .returned (.tuple #[.int .u16 (offV r i), .bool (offT r i)]) ∧ Below w0.heap.size w0 w' := by
  have hR := Own.start w0
  have hc : ∀ w, Tabs w → Calls Tryd.prog 17 #[.agg (encI i)] w fun e w' => e = .returned (.tuple #[.agg (encTwo (cntA i) (cntB i)), .bool (!offBad i)]) ∧ Below w.heap.size w w' := fun w hT => counting_any i w hi hT
  have hd := hi.disp
  have bA := cntA_bd i
  have bB := cntB_bd i
  have ga := fun w => rget_any r (cntA i) w (by omega) (by omega)
  have gb := fun w => rget_any r (cntB i) w (by omega) (by omega)
  rw [get_gOf r _ bA.2, get_tOf r _ bA.2] at ga
  rw [get_gOf r _ bB.2, get_tOf r _ bB.2] at gb
  have vA := gOf_bd hr (cntA i)
  have vB := gOf_bd hr (cntB i)
  have hV : offBad i = false → offV r i = (i.disp + gOf r (cntA i) + gOf r (cntB i)) % 65536 ∧ offT r i = (!tOf r (cntA i) && !tOf r (cntB i)) := by
    intro h
    unfold offV offT cntA cntB
    rw [h]
    exact ⟨rfl, rfl⟩
  have hV1 : offBad i = true → offV r i = 0 ∧ offT r i = true := by
    intro h
    unfold offV offT
    rw [h]
    exact ⟨rfl, rfl⟩
  clear hi hr
  generalize cntA i = a at *
  generalize cntB i = b at *
  generalize offBad i = bad at *
  generalize gOf r a = x at *
  generalize gOf r b = y at *
  generalize tOf r a = s at *
  generalize tOf r b = t at *
  have HC := Lib.hid hc
  have GA := Lib.hid ga
  have GB := Lib.hid gb
  cases bad
  · obtain ⟨e1, e2⟩ := hV rfl
    rw [e1, e2]
    clear hc ga gb hV hV1 e1 e2
    cases s
    · skip
      go_enter Tryd.func6, Tryd.ntmps6
      go_wp2_with (first
          | ((with_reducible apply wpList_box hR); exact rfl; exact rfl; clear hR; intro g w hR; simp only [List.set_cons_succ, List.set_cons_zero])
          | ((with_reducible apply wpList_make hR zInst); exact rfl; clear hR; intro g7 w hR; simp only [List.set_cons_succ, List.set_cons_zero])
          | ((with_reducible apply wpList_make hR zRegs); exact rfl; clear hR; intro g1 w hR; simp only [List.set_cons_succ, List.set_cons_zero])
          | ((with_reducible apply q_ls hR); exact rfl; ((with_reducible first | apply t_addr (fInst _ (by decide)) | apply t_addr (fRegs1 _ (by decide)) | apply t_addr (fVal _ (by decide)) | apply t_one tInt | apply t_one tWord | apply t_one tByte | apply t_one tBool | apply t_part tInst | apply t_part tRegs | apply t_part tVal) <;> (first | (apply EvC.gv; exact rfl; (with_reducible first | exact Imp.refl _ | (apply Imp.left; exact Imp.refl _) | (apply Imp.right; exact Imp.refl _) | (apply Imp.left; apply Imp.left; exact Imp.refl _))) | (apply EvC.now; exact rfl) | exact rfl | (with_reducible exact EvAll.nil) | (focus (repeat (first | apply EvAll.cons | exact EvAll.nil | (apply EvC.gv; exact rfl; (with_reducible first | exact Imp.refl _ | (apply Imp.left; exact Imp.refl _) | (apply Imp.right; exact Imp.refl _) | (apply Imp.left; apply Imp.left; exact Imp.refl _))) | (apply EvC.now; exact rfl))); done) | (first | apply ext_inst | apply ext_regs | apply ext_val) | (focus (repeat (first | apply List.Mem.head | apply List.Mem.tail | apply List.mem_append_right))))); (simp only [List.set_cons_succ, List.set_cons_zero]; exact rfl); clear hR; intro w hR)
          | ((with_reducible apply wpList_put hR tInst); exact rfl; exact rfl; exact rfl; (focus (repeat (first | apply List.Mem.head | apply List.Mem.tail | apply List.mem_append_right))); apply put_inst; exact rfl; simp [encI]; apply one_inst; (focus (repeat (first | apply Upd.head | apply Upd.tail))); clear hR; intro w hR)
          | ((with_reducible apply wpList_put hR tRegs); exact rfl; exact rfl; exact rfl; (focus (repeat (first | apply List.Mem.head | apply List.Mem.tail | apply List.mem_append_right))); apply put_regs; exact rfl; simp [encRegs]; apply one_regs; (focus (repeat (first | apply Upd.head | apply Upd.tail))); clear hR; intro w hR)
          | ((with_reducible apply wpList_make hR zTwo); exact rfl; clear hR; intro g w hR; simp only [List.set_cons_succ, List.set_cons_zero])
          | ((with_reducible apply wpList_put hR tTwo); exact rfl; exact rfl; exact rfl; (focus (repeat (first | apply List.Mem.head | apply List.Mem.tail | apply List.mem_append_right))); apply put_two; exact rfl; (simp [encTwo]); apply one_two; (focus (repeat (first | apply Upd.head | apply Upd.tail))); clear hR; intro w hR)
          | ((with_reducible apply wpList_part hR tTwo); exact rfl; exact rfl; (focus (repeat (first | apply List.Mem.head | apply List.Mem.tail | apply List.mem_append_right))); apply ext_two; exact rfl; (simp only [List.set_cons_succ, List.set_cons_zero]; exact rfl))
          | (go_at_call 17; refine (HC.out _ (hT.own hR)).mono ?_; rintro e w' ⟨rfl, hb⟩; replace hR := hR.grow hb; clear hb))
      refine wp_loop_rounds 3 ?_
      rw [rounds_succ]
      go_wp2_with (first
          | ((with_reducible apply wpList_index Tryd.underlying51 tInt); exact rfl; exact rfl; exact rfl; exact rfl; exact rfl; (simp only [List.set_cons_succ, List.set_cons_zero]; exact rfl))
          | ((with_reducible apply wpList_make hR zVal); exact rfl; clear hR; intro g w hR; simp only [List.set_cons_succ, List.set_cons_zero])
          | ((with_reducible apply wpList_put hR tVal); exact rfl; exact rfl; exact rfl; (focus (repeat (first | apply List.Mem.head | apply List.Mem.tail | apply List.mem_append_right))); apply put_val; exact rfl; (simp [encVal]); apply one_val; (focus (repeat (first | apply Upd.head | apply Upd.tail))); clear hR; intro w hR)
          | (go_at_call 18; refine (GA.out _).mono ?_; rintro e w' ⟨rfl, hb⟩; replace hR := hR.grow hb; clear hb)
          | ((with_reducible apply wpList_box hR); exact rfl; exact rfl; clear hR; intro g w hR; simp only [List.set_cons_succ, List.set_cons_zero])
          | ((with_reducible apply wpList_make hR zInst); exact rfl; clear hR; intro g7 w hR; simp only [List.set_cons_succ, List.set_cons_zero])
          | ((with_reducible apply wpList_make hR zRegs); exact rfl; clear hR; intro g1 w hR; simp only [List.set_cons_succ, List.set_cons_zero])
          | ((with_reducible apply q_ls hR); exact rfl; ((with_reducible first | apply t_addr (fInst _ (by decide)) | apply t_addr (fRegs1 _ (by decide)) | apply t_addr (fVal _ (by decide)) | apply t_one tInt | apply t_one tWord | apply t_one tByte | apply t_one tBool | apply t_part tInst | apply t_part tRegs | apply t_part tVal) <;> (first | (apply EvC.gv; exact rfl; (with_reducible first | exact Imp.refl _ | (apply Imp.left; exact Imp.refl _) | (apply Imp.right; exact Imp.refl _) | (apply Imp.left; apply Imp.left; exact Imp.refl _))) | (apply EvC.now; exact rfl) | exact rfl | (with_reducible exact EvAll.nil) | (focus (repeat (first | apply EvAll.cons | exact EvAll.nil | (apply EvC.gv; exact rfl; (with_reducible first | exact Imp.refl _ | (apply Imp.left; exact Imp.refl _) | (apply Imp.right; exact Imp.refl _) | (apply Imp.left; apply Imp.left; exact Imp.refl _))) | (apply EvC.now; exact rfl))); done) | (first | apply ext_inst | apply ext_regs | apply ext_val) | (focus (repeat (first | apply List.Mem.head | apply List.Mem.tail | apply List.mem_append_right))))); (simp only [List.set_cons_succ, List.set_cons_zero]; exact rfl); clear hR; intro w hR)
          | ((with_reducible apply wpList_put hR tInst); exact rfl; exact rfl; exact rfl; (focus (repeat (first | apply List.Mem.head | apply List.Mem.tail | apply List.mem_append_right))); apply put_inst; exact rfl; simp [encI]; apply one_inst; (focus (repeat (first | apply Upd.head | apply Upd.tail))); clear hR; intro w hR)
          | ((with_reducible apply wpList_put hR tRegs); exact rfl; exact rfl; exact rfl; (focus (repeat (first | apply List.Mem.head | apply List.Mem.tail | apply List.mem_append_right))); apply put_regs; exact rfl; simp [encRegs]; apply one_regs; (focus (repeat (first | apply Upd.head | apply Upd.tail))); clear hR; intro w hR)
          | ((with_reducible apply wpList_make hR zTwo); exact rfl; clear hR; intro g w hR; simp only [List.set_cons_succ, List.set_cons_zero])
          | ((with_reducible apply wpList_put hR tTwo); exact rfl; exact rfl; exact rfl; (focus (repeat (first | apply List.Mem.head | apply List.Mem.tail | apply List.mem_append_right))); apply put_two; exact rfl; (simp [encTwo]); apply one_two; (focus (repeat (first | apply Upd.head | apply Upd.tail))); clear hR; intro w hR)
          | ((with_reducible apply wpList_part hR tTwo); exact rfl; exact rfl; (focus (repeat (first | apply List.Mem.head | apply List.Mem.tail | apply List.mem_append_right))); apply ext_two; exact rfl; (simp only [List.set_cons_succ, List.set_cons_zero]; exact rfl))
          | (go_at_call 17; refine (HC.out _ (hT.own hR)).mono ?_; rintro e w' ⟨rfl, hb⟩; replace hR := hR.grow hb; clear hb))
      rw [rounds_succ]
      go_wp2_with (first
          | ((with_reducible apply wpList_index Tryd.underlying51 tInt); exact rfl; exact rfl; exact rfl; exact rfl; exact rfl; (simp only [List.set_cons_succ, List.set_cons_zero]; exact rfl))
          | ((with_reducible apply wpList_make hR zVal); exact rfl; clear hR; intro g w hR; simp only [List.set_cons_succ, List.set_cons_zero])
          | ((with_reducible apply wpList_put hR tVal); exact rfl; exact rfl; exact rfl; (focus (repeat (first | apply List.Mem.head | apply List.Mem.tail | apply List.mem_append_right))); apply put_val; exact rfl; (simp [encVal]); apply one_val; (focus (repeat (first | apply Upd.head | apply Upd.tail))); clear hR; intro w hR)
          | (go_at_call 18; refine (GB.out _).mono ?_; rintro e w' ⟨rfl, hb⟩; replace hR := hR.grow hb; clear hb)
          | ((with_reducible apply wpList_box hR); exact rfl; exact rfl; clear hR; intro g w hR; simp only [List.set_cons_succ, List.set_cons_zero])
          | ((with_reducible apply wpList_make hR zInst); exact rfl; clear hR; intro g7 w hR; simp only [List.set_cons_succ, List.set_cons_zero])
          | ((with_reducible apply wpList_make hR zRegs); exact rfl; clear hR; intro g1 w hR; simp only [List.set_cons_succ, List.set_cons_zero])
          | ((with_reducible apply q_ls hR); exact rfl; ((with_reducible first | apply t_addr (fInst _ (by decide)) | apply t_addr (fRegs1 _ (by decide)) | apply t_addr (fVal _ (by decide)) | apply t_one tInt | apply t_one tWord | apply t_one tByte | apply t_one tBool | apply t_part tInst | apply t_part tRegs | apply t_part tVal) <;> (first | (apply EvC.gv; exact rfl; (with_reducible first | exact Imp.refl _ | (apply Imp.left; exact Imp.refl _) | (apply Imp.right; exact Imp.refl _) | (apply Imp.left; apply Imp.left; exact Imp.refl _))) | (apply EvC.now; exact rfl) | exact rfl | (with_reducible exact EvAll.nil) | (focus (repeat (first | apply EvAll.cons | exact EvAll.nil | (apply EvC.gv; exact rfl; (with_reducible first | exact Imp.refl _ | (apply Imp.left; exact Imp.refl _) | (apply Imp.right; exact Imp.refl _) | (apply Imp.left; apply Imp.left; exact Imp.refl _))) | (apply EvC.now; exact rfl))); done) | (first | apply ext_inst | apply ext_regs | apply ext_val) | (focus (repeat (first | apply List.Mem.head | apply List.Mem.tail | apply List.mem_append_right))))); (simp only [List.set_cons_succ, List.set_cons_zero]; exact rfl); clear hR; intro w hR)
          | ((with_reducible apply wpList_put hR tInst); exact rfl; exact rfl; exact rfl; (focus (repeat (first | apply List.Mem.head | apply List.Mem.tail | apply List.mem_append_right))); apply put_inst; exact rfl; simp [encI]; apply one_inst; (focus (repeat (first | apply Upd.head | apply Upd.tail))); clear hR; intro w hR)
          | ((with_reducible apply wpList_put hR tRegs); exact rfl; exact rfl; exact rfl; (focus (repeat (first | apply List.Mem.head | apply List.Mem.tail | apply List.mem_append_right))); apply put_regs; exact rfl; simp [encRegs]; apply one_regs; (focus (repeat (first | apply Upd.head | apply Upd.tail))); clear hR; intro w hR)
          | ((with_reducible apply wpList_make hR zTwo); exact rfl; clear hR; intro g w hR; simp only [List.set_cons_succ, List.set_cons_zero])
          | ((with_reducible apply wpList_put hR tTwo); exact rfl; exact rfl; exact rfl; (focus (repeat (first | apply List.Mem.head | apply List.Mem.tail | apply List.mem_append_right))); apply put_two; exact rfl; (simp [encTwo]); apply one_two; (focus (repeat (first | apply Upd.head | apply Upd.tail))); clear hR; intro w hR)
          | ((with_reducible apply wpList_part hR tTwo); exact rfl; exact rfl; (focus (repeat (first | apply List.Mem.head | apply List.Mem.tail | apply List.mem_append_right))); apply ext_two; exact rfl; (simp only [List.set_cons_succ, List.set_cons_zero]; exact rfl))
          | (go_at_call 17; refine (HC.out _ (hT.own hR)).mono ?_; rintro e w' ⟨rfl, hb⟩; replace hR := hR.grow hb; clear hb))
      rw [rounds_succ]
      go_wp2
      go_ret2
      exact ⟨off_eq (by simp only [IntKind.wrap_u16]; omega) (by cases t <;> rfl), hR.below⟩
    · skip
      go_enter Tryd.func6, Tryd.ntmps6
      go_wp2_with (first
          | ((with_reducible apply wpList_box hR); exact rfl; exact rfl; clear hR; intro g w hR; simp only [List.set_cons_succ, List.set_cons_zero])
          | ((with_reducible apply wpList_make hR zInst); exact rfl; clear hR; intro g7 w hR; simp only [List.set_cons_succ, List.set_cons_zero])
          | ((with_reducible apply wpList_make hR zRegs); exact rfl; clear hR; intro g1 w hR; simp only [List.set_cons_succ, List.set_cons_zero])
          | ((with_reducible apply q_ls hR); exact rfl; ((with_reducible first | apply t_addr (fInst _ (by decide)) | apply t_addr (fRegs1 _ (by decide)) | apply t_addr (fVal _ (by decide)) | apply t_one tInt | apply t_one tWord | apply t_one tByte | apply t_one tBool | apply t_part tInst | apply t_part tRegs | apply t_part tVal) <;> (first | (apply EvC.gv; exact rfl; (with_reducible first | exact Imp.refl _ | (apply Imp.left; exact Imp.refl _) | (apply Imp.right; exact Imp.refl _) | (apply Imp.left; apply Imp.left; exact Imp.refl _))) | (apply EvC.now; exact rfl) | exact rfl | (with_reducible exact EvAll.nil) | (focus (repeat (first | apply EvAll.cons | exact EvAll.nil | (apply EvC.gv; exact rfl; (with_reducible first | exact Imp.refl _ | (apply Imp.left; exact Imp.refl _) | (apply Imp.right; exact Imp.refl _) | (apply Imp.left; apply Imp.left; exact Imp.refl _))) | (apply EvC.now; exact rfl))); done) | (first | apply ext_inst | apply ext_regs | apply ext_val) | (focus (repeat (first | apply List.Mem.head | apply List.Mem.tail | apply List.mem_append_right))))); (simp only [List.set_cons_succ, List.set_cons_zero]; exact rfl); clear hR; intro w hR)
          | ((with_reducible apply wpList_put hR tInst); exact rfl; exact rfl; exact rfl; (focus (repeat (first | apply List.Mem.head | apply List.Mem.tail | apply List.mem_append_right))); apply put_inst; exact rfl; simp [encI]; apply one_inst; (focus (repeat (first | apply Upd.head | apply Upd.tail))); clear hR; intro w hR)
          | ((with_reducible apply wpList_put hR tRegs); exact rfl; exact rfl; exact rfl; (focus (repeat (first | apply List.Mem.head | apply List.Mem.tail | apply List.mem_append_right))); apply put_regs; exact rfl; simp [encRegs]; apply one_regs; (focus (repeat (first | apply Upd.head | apply Upd.tail))); clear hR; intro w hR)
          | ((with_reducible apply wpList_make hR zTwo); exact rfl; clear hR; intro g w hR; simp only [List.set_cons_succ, List.set_cons_zero])
          | ((with_reducible apply wpList_put hR tTwo); exact rfl; exact rfl; exact rfl; (focus (repeat (first | apply List.Mem.head | apply List.Mem.tail | apply List.mem_append_right))); apply put_two; exact rfl; (simp [encTwo]); apply one_two; (focus (repeat (first | apply Upd.head | apply Upd.tail))); clear hR; intro w hR)
          | ((with_reducible apply wpList_part hR tTwo); exact rfl; exact rfl; (focus (repeat (first | apply List.Mem.head | apply List.Mem.tail | apply List.mem_append_right))); apply ext_two; exact rfl; (simp only [List.set_cons_succ, List.set_cons_zero]; exact rfl))
          | (go_at_call 17; refine (HC.out _ (hT.own hR)).mono ?_; rintro e w' ⟨rfl, hb⟩; replace hR := hR.grow hb; clear hb))
      refine wp_loop_rounds 3 ?_
      rw [rounds_succ]
      go_wp2_with (first
          | ((with_reducible apply wpList_index Tryd.underlying51 tInt); exact rfl; exact rfl; exact rfl; exact rfl; exact rfl; (simp only [List.set_cons_succ, List.set_cons_zero]; exact rfl))
          | ((with_reducible apply wpList_make hR zVal); exact rfl; clear hR; intro g w hR; simp only [List.set_cons_succ, List.set_cons_zero])
          | ((with_reducible apply wpList_put hR tVal); exact rfl; exact rfl; exact rfl; (focus (repeat (first | apply List.Mem.head | apply List.Mem.tail | apply List.mem_append_right))); apply put_val; exact rfl; (simp [encVal]); apply one_val; (focus (repeat (first | apply Upd.head | apply Upd.tail))); clear hR; intro w hR)
          | (go_at_call 18; refine (GA.out _).mono ?_; rintro e w' ⟨rfl, hb⟩; replace hR := hR.grow hb; clear hb)
          | ((with_reducible apply wpList_box hR); exact rfl; exact rfl; clear hR; intro g w hR; simp only [List.set_cons_succ, List.set_cons_zero])
          | ((with_reducible apply wpList_make hR zInst); exact rfl; clear hR; intro g7 w hR; simp only [List.set_cons_succ, List.set_cons_zero])
          | ((with_reducible apply wpList_make hR zRegs); exact rfl; clear hR; intro g1 w hR; simp only [List.set_cons_succ, List.set_cons_zero])
          | ((with_reducible apply q_ls hR); exact rfl; ((with_reducible first | apply t_addr (fInst _ (by decide)) | apply t_addr (fRegs1 _ (by decide)) | apply t_addr (fVal _ (by decide)) | apply t_one tInt | apply t_one tWord | apply t_one tByte | apply t_one tBool | apply t_part tInst | apply t_part tRegs | apply t_part tVal) <;> (first | (apply EvC.gv; exact rfl; (with_reducible first | exact Imp.refl _ | (apply Imp.left; exact Imp.refl _) | (apply Imp.right; exact Imp.refl _) | (apply Imp.left; apply Imp.left; exact Imp.refl _))) | (apply EvC.now; exact rfl) | exact rfl | (with_reducible exact EvAll.nil) | (focus (repeat (first | apply EvAll.cons | exact EvAll.nil | (apply EvC.gv; exact rfl; (with_reducible first | exact Imp.refl _ | (apply Imp.left; exact Imp.refl _) | (apply Imp.right; exact Imp.refl _) | (apply Imp.left; apply Imp.left; exact Imp.refl _))) | (apply EvC.now; exact rfl))); done) | (first | apply ext_inst | apply ext_regs | apply ext_val) | (focus (repeat (first | apply List.Mem.head | apply List.Mem.tail | apply List.mem_append_right))))); (simp only [List.set_cons_succ, List.set_cons_zero]; exact rfl); clear hR; intro w hR)
          | ((with_reducible apply wpList_put hR tInst); exact rfl; exact rfl; exact rfl; (focus (repeat (first | apply List.Mem.head | apply List.Mem.tail | apply List.mem_append_right))); apply put_inst; exact rfl; simp [encI]; apply one_inst; (focus (repeat (first | apply Upd.head | apply Upd.tail))); clear hR; intro w hR)
          | ((with_reducible apply wpList_put hR tRegs); exact rfl; exact rfl; exact rfl; (focus (repeat (first | apply List.Mem.head | apply List.Mem.tail | apply List.mem_append_right))); apply put_regs; exact rfl; simp [encRegs]; apply one_regs; (focus (repeat (first | apply Upd.head | apply Upd.tail))); clear hR; intro w hR)
          | ((with_reducible apply wpList_make hR zTwo); exact rfl; clear hR; intro g w hR; simp only [List.set_cons_succ, List.set_cons_zero])
          | ((with_reducible apply wpList_put hR tTwo); exact rfl; exact rfl; exact rfl; (focus (repeat (first | apply List.Mem.head | apply List.Mem.tail | apply List.mem_append_right))); apply put_two; exact rfl; (simp [encTwo]); apply one_two; (focus (repeat (first | apply Upd.head | apply Upd.tail))); clear hR; intro w hR)
          | ((with_reducible apply wpList_part hR tTwo); exact rfl; exact rfl; (focus (repeat (first | apply List.Mem.head | apply List.Mem.tail | apply List.mem_append_right))); apply ext_two; exact rfl; (simp only [List.set_cons_succ, List.set_cons_zero]; exact rfl))
          | (go_at_call 17; refine (HC.out _ (hT.own hR)).mono ?_; rintro e w' ⟨rfl, hb⟩; replace hR := hR.grow hb; clear hb))
      rw [rounds_succ]
      go_wp2_with (first
          | ((with_reducible apply wpList_index Tryd.underlying51 tInt); exact rfl; exact rfl; exact rfl; exact rfl; exact rfl; (simp only [List.set_cons_succ, List.set_cons_zero]; exact rfl))
          | ((with_reducible apply wpList_make hR zVal); exact rfl; clear hR; intro g w hR; simp only [List.set_cons_succ, List.set_cons_zero])
          | ((with_reducible apply wpList_put hR tVal); exact rfl; exact rfl; exact rfl; (focus (repeat (first | apply List.Mem.head | apply List.Mem.tail | apply List.mem_append_right))); apply put_val; exact rfl; (simp [encVal]); apply one_val; (focus (repeat (first | apply Upd.head | apply Upd.tail))); clear hR; intro w hR)
          | (go_at_call 18; refine (GB.out _).mono ?_; rintro e w' ⟨rfl, hb⟩; replace hR := hR.grow hb; clear hb)
          | ((with_reducible apply wpList_box hR); exact rfl; exact rfl; clear hR; intro g w hR; simp only [List.set_cons_succ, List.set_cons_zero])
          | ((with_reducible apply wpList_make hR zInst); exact rfl; clear hR; intro g7 w hR; simp only [List.set_cons_succ, List.set_cons_zero])
          | ((with_reducible apply wpList_make hR zRegs); exact rfl; clear hR; intro g1 w hR; simp only [List.set_cons_succ, List.set_cons_zero])
          | ((with_reducible apply q_ls hR); exact rfl; ((with_reducible first | apply t_addr (fInst _ (by decide)) | apply t_addr (fRegs1 _ (by decide)) | apply t_addr (fVal _ (by decide)) | apply t_one tInt | apply t_one tWord | apply t_one tByte | apply t_one tBool | apply t_part tInst | apply t_part tRegs | apply t_part tVal) <;> (first | (apply EvC.gv; exact rfl; (with_reducible first | exact Imp.refl _ | (apply Imp.left; exact Imp.refl _) | (apply Imp.right; exact Imp.refl _) | (apply Imp.left; apply Imp.left; exact Imp.refl _))) | (apply EvC.now; exact rfl) | exact rfl | (with_reducible exact EvAll.nil) | (focus (repeat (first | apply EvAll.cons | exact EvAll.nil | (apply EvC.gv; exact rfl; (with_reducible first | exact Imp.refl _ | (apply Imp.left; exact Imp.refl _) | (apply Imp.right; exact Imp.refl _) | (apply Imp.left; apply Imp.left; exact Imp.refl _))) | (apply EvC.now; exact rfl))); done) | (first | apply ext_inst | apply ext_regs | apply ext_val) | (focus (repeat (first | apply List.Mem.head | apply List.Mem.tail | apply List.mem_append_right))))); (simp only [List.set_cons_succ, List.set_cons_zero]; exact rfl); clear hR; intro w hR)
          | ((with_reducible apply wpList_put hR tInst); exact rfl; exact rfl; exact rfl; (focus (repeat (first | apply List.Mem.head | apply List.Mem.tail | apply List.mem_append_right))); apply put_inst; exact rfl; simp [encI]; apply one_inst; (focus (repeat (first | apply Upd.head | apply Upd.tail))); clear hR; intro w hR)
          | ((with_reducible apply wpList_put hR tRegs); exact rfl; exact rfl; exact rfl; (focus (repeat (first | apply List.Mem.head | apply List.Mem.tail | apply List.mem_append_right))); apply put_regs; exact rfl; simp [encRegs]; apply one_regs; (focus (repeat (first | apply Upd.head | apply Upd.tail))); clear hR; intro w hR)
          | ((with_reducible apply wpList_make hR zTwo); exact rfl; clear hR; intro g w hR; simp only [List.set_cons_succ, List.set_cons_zero])
          | ((with_reducible apply wpList_put hR tTwo); exact rfl; exact rfl; exact rfl; (focus (repeat (first | apply List.Mem.head | apply List.Mem.tail | apply List.mem_append_right))); apply put_two; exact rfl; (simp [encTwo]); apply one_two; (focus (repeat (first | apply Upd.head | apply Upd.tail))); clear hR; intro w hR)
          | ((with_reducible apply wpList_part hR tTwo); exact rfl; exact rfl; (focus (repeat (first | apply List.Mem.head | apply List.Mem.tail | apply List.mem_append_right))); apply ext_two; exact rfl; (simp only [List.set_cons_succ, List.set_cons_zero]; exact rfl))
          | (go_at_call 17; refine (HC.out _ (hT.own hR)).mono ?_; rintro e w' ⟨rfl, hb⟩; replace hR := hR.grow hb; clear hb))
      rw [rounds_succ]
      go_wp2
      go_ret2
      exact ⟨off_eq (by simp only [IntKind.wrap_u16]; omega) (by cases t <;> rfl), hR.below⟩
  · obtain ⟨e1, e2⟩ := hV1 rfl
    rw [e1, e2]
    clear hc ga gb hV hV1 e1 e2
    go_enter Tryd.func6, Tryd.ntmps6
    go_wp2_with (first
    | ((with_reducible apply wpList_box hR); exact rfl; exact rfl; clear hR; intro g w hR; simp only [List.set_cons_succ, List.set_cons_zero])
    | ((with_reducible apply wpList_make hR zInst); exact rfl; clear hR; intro g7 w hR; simp only [List.set_cons_succ, List.set_cons_zero])
    | ((with_reducible apply wpList_make hR zRegs); exact rfl; clear hR; intro g1 w hR; simp only [List.set_cons_succ, List.set_cons_zero])
    | ((with_reducible apply q_ls hR); exact rfl; ((with_reducible first | apply t_addr (fInst _ (by decide)) | apply t_addr (fRegs1 _ (by decide)) | apply t_addr (fVal _ (by decide)) | apply t_one tInt | apply t_one tWord | apply t_one tByte | apply t_one tBool | apply t_part tInst | apply t_part tRegs | apply t_part tVal) <;> (first | (apply EvC.gv; exact rfl; (with_reducible first | exact Imp.refl _ | (apply Imp.left; exact Imp.refl _) | (apply Imp.right; exact Imp.refl _) | (apply Imp.left; apply Imp.left; exact Imp.refl _))) | (apply EvC.now; exact rfl) | exact rfl | (with_reducible exact EvAll.nil) | (focus (repeat (first | apply EvAll.cons | exact EvAll.nil | (apply EvC.gv; exact rfl; (with_reducible first | exact Imp.refl _ | (apply Imp.left; exact Imp.refl _) | (apply Imp.right; exact Imp.refl _) | (apply Imp.left; apply Imp.left; exact Imp.refl _))) | (apply EvC.now; exact rfl))); done) | (first | apply ext_inst | apply ext_regs | apply ext_val) | (focus (repeat (first | apply List.Mem.head | apply List.Mem.tail | apply List.mem_append_right))))); (simp only [List.set_cons_succ, List.set_cons_zero]; exact rfl); clear hR; intro w hR)
    | ((with_reducible apply wpList_put hR tInst); exact rfl; exact rfl; exact rfl; (focus (repeat (first | apply List.Mem.head | apply List.Mem.tail | apply List.mem_append_right))); apply put_inst; exact rfl; simp [encI]; apply one_inst; (focus (repeat (first | apply Upd.head | apply Upd.tail))); clear hR; intro w hR)
    | ((with_reducible apply wpList_put hR tRegs); exact rfl; exact rfl; exact rfl; (focus (repeat (first | apply List.Mem.head | apply List.Mem.tail | apply List.mem_append_right))); apply put_regs; exact rfl; simp [encRegs]; apply one_regs; (focus (repeat (first | apply Upd.head | apply Upd.tail))); clear hR; intro w hR)
    | ((with_reducible apply wpList_make hR zTwo); exact rfl; clear hR; intro g w hR; simp only [List.set_cons_succ, List.set_cons_zero])
    | ((with_reducible apply wpList_put hR tTwo); exact rfl; exact rfl; exact rfl; (focus (repeat (first | apply List.Mem.head | apply List.Mem.tail | apply List.mem_append_right))); apply put_two; exact rfl; (simp [encTwo]); apply one_two; (focus (repeat (first | apply Upd.head | apply Upd.tail))); clear hR; intro w hR)
    | ((with_reducible apply wpList_part hR tTwo); exact rfl; exact rfl; (focus (repeat (first | apply List.Mem.head | apply List.Mem.tail | apply List.mem_append_right))); apply ext_two; exact rfl; (simp only [List.set_cons_succ, List.set_cons_zero]; exact rfl))
    | (go_at_call 17; refine (HC.out _ (hT.own hR)).mono ?_; rintro e w' ⟨rfl, hb⟩; replace hR := hR.grow hb; clear hb))
    go_ret2
    exact ⟨rfl, hR.below⟩
end Go.Proofs.YtenhcbaljjhhbaaDoor
