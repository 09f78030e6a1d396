





/- Contracts of what package addr stands on: regs.Get and regs.Seg, slices.Contains of two numbers, addr.counting, addr.segment. No statement of the seat is proved here. -/
import Derived.Test.YtenhcbaljjhhbaaDoorAddrN
import Derived.Test.YtenhcbaljjhhbaaDoorAddrT
import Derived.Test.YtenhcbaljjhhbaaDoorNum
import Derived.Deep.CutBlock
namespace Go.Proofs.YtenhcbaljjhhbaaDoor
open Go.ChangeShapes Go.WideShapes Go.ChangeAt Go.RowKit
set_option linter.unusedVariables false
set_option linter.unusedSimpArgs false

/-! ### Registers -/
theorem isOne_any (n c : Int) (w : World) (h0 : -9223372036854775808 ≤ n) (h1 : n ≤ 9223372036854775807) (h2 : -9223372036854775808 ≤ c) (h3 : c ≤ 9223372036854775807) :
    Calls Tryd.prog 26 #[.int .i64 n, .int .i64 c] w fun e w' => e = .returned (.bool (decide (0 ≤ n ∧ n < c))) ∧ w = w' := by
  by_cases ha : 0 ≤ n
  · by_cases hb : n < c
    all_goals
      go_enter Tryd.func26, Tryd.ntmps26
      go_wp2
      go_ret
      exact ⟨ret_bool (by simp [ha, hb]), rfl⟩
  · go_enter Tryd.func26, Tryd.ntmps26
    go_wp2
    go_ret
    exact ⟨ret_bool (by simp [ha]; omega), rfl⟩
theorem isOne_yes (n c : Int) (w : World) (ha : 0 ≤ n) (hb : n < c) (h3 : c ≤ 9223372036854775807) : Calls Tryd.prog 26 #[.int .i64 n, .int .i64 c] w fun e w' => e = .returned (.bool true) ∧ w = w' :=
  (isOne_any n c w (by omega) (by omega) (by omega) h3).mono fun e w' ⟨he, hw⟩ => ⟨by rw [he, show decide (0 ≤ n ∧ n < c) = true from decide_eq_true ⟨ha, hb⟩], hw⟩
theorem isOne_no (n c : Int) (w : World) (hn : ¬ (0 ≤ n ∧ n < c)) (h0 : -9223372036854775808 ≤ n) (h1 : n ≤ 9223372036854775807) (h2 : -9223372036854775808 ≤ c) (h3 : c ≤ 9223372036854775807) :
    Calls Tryd.prog 26 #[.int .i64 n, .int .i64 c] w fun e w' => e = .returned (.bool false) ∧ w = w' :=
  (isOne_any n c w h0 h1 h2 h3).mono fun e w' ⟨he, hw⟩ => ⟨by rw [he, show decide (0 ≤ n ∧ n < c) = false from decide_eq_false hn], hw⟩
def inB (n : Int) (c : Int) : Bool := decide (0 ≤ n ∧ n < c)
def rgetV (r : RegsZ) (n : Int) : Int := if inB n 8 then r.g n.toNat else 0
def rgetT (r : RegsZ) (n : Int) : Bool := if inB n 8 then r.h n.toNat else false
def rsegV (r : RegsZ) (n : Int) : Int := if inB n 4 then r.s n.toNat else 0
def rsegT (r : RegsZ) (n : Int) : Bool := if inB n 4 then r.u n.toNat else false
theorem inB_yes {n c : Int} (a : 0 ≤ n) (b : n < c) : inB n c = true := decide_eq_true ⟨a, b⟩
theorem inB_no {n c : Int} (h : ¬ (0 ≤ n ∧ n < c)) : inB n c = false := decide_eq_false h
set_option maxHeartbeats 1000000 in
theorem rget_any (r : RegsZ) (n : Int) (w : World) (h0 : -9223372036854775808 ≤ n) (h1 : n ≤ 9223372036854775807) :
    Calls Tryd.prog 18 #[.agg (encRegs r), .int .i64 n] w fun e w' => e = .returned (.agg (encVal (rgetV r n) (rgetT r n))) ∧ Below w.heap.size w w' := by
  have hR := Own.start w
  by_cases hn : 0 ≤ n ∧ n < 8
  · obtain ⟨ha, hb⟩ := hn
    rw [show rgetV r n = r.g n.toNat from if_pos (inB_yes ha hb), show rgetT r n = r.h n.toNat from if_pos (inB_yes ha hb)]
    go_enter Tryd.func18, Tryd.ntmps18
    go_wp2_with (first
    | (go_at_call 26; refine (isOne_yes _ _ _ (by omega) (by omega) (by omega)).mono ?_; rintro e w' ⟨rfl, rfl⟩)
    | ((with_reducible apply wpList_box hR); exact rfl; exact rfl; clear hR; intro g w hR; simp only [List.set_cons_succ, List.set_cons_zero])
    | ((with_reducible apply wpList_make hR zVal); exact rfl; clear hR; intro g w hR; simp only [List.set_cons_succ, List.set_cons_zero])
    | ((with_reducible apply wpList_part hR tRegs); exact rfl; exact rfl; (focus (repeat (first | apply List.Mem.head | apply List.Mem.tail | apply List.mem_append_right))); apply ext_regs; exact rfl; (simp only [List.set_cons_succ, List.set_cons_zero]; exact rfl))
    | ((with_reducible apply wpList_part hR tVal); exact rfl; exact rfl; (focus (repeat (first | apply List.Mem.head | apply List.Mem.tail | apply List.mem_append_right))); (first | apply ext_val | (apply ext_g; omega) | (apply ext_s; omega)); exact rfl; (simp only [List.set_cons_succ, List.set_cons_zero]; exact rfl))
    | ((with_reducible apply wpList_put hR tVal); exact rfl; exact rfl; exact rfl; (focus (repeat (first | apply List.Mem.head | apply List.Mem.tail | apply List.mem_append_right))); apply put_val; exact rfl; (simp [encVal]); apply one_val; (focus (repeat (first | apply Upd.head | apply Upd.tail))); clear hR; intro w hR)
    | ((with_reducible apply wpList_built); exact rfl; exact rfl; (first | exact bVal0 | exact bVal1 _); (simp only [List.set_cons_succ, List.set_cons_zero]; exact rfl)))
    (try simp only [Exit.inBlock, Exit.then])
    exact post_row hR rfl (by rfl) (.head _) Tryd.underlying24 rfl iVal (by rfl) (by rfl) ⟨rfl, hR.below⟩
  · have HN := Lib.hid hn
    rw [show rgetV r n = 0 from if_neg (by rw [inB_no hn]; exact Bool.false_ne_true), show rgetT r n = false from if_neg (by rw [inB_no hn]; exact Bool.false_ne_true)]
    clear hn
    go_enter Tryd.func18, Tryd.ntmps18
    go_wp2_with (first
    | (go_at_call 26; refine (isOne_no _ _ _ HN.out h0 h1 (by omega) (by omega)).mono ?_; rintro e w' ⟨rfl, rfl⟩)
    | ((with_reducible apply wpList_box hR); exact rfl; exact rfl; clear hR; intro g w hR; simp only [List.set_cons_succ, List.set_cons_zero])
    | ((with_reducible apply wpList_make hR zVal); exact rfl; clear hR; intro g w hR; simp only [List.set_cons_succ, List.set_cons_zero])
    | ((with_reducible apply wpList_part hR tRegs); exact rfl; exact rfl; (focus (repeat (first | apply List.Mem.head | apply List.Mem.tail | apply List.mem_append_right))); apply ext_regs; exact rfl; (simp only [List.set_cons_succ, List.set_cons_zero]; exact rfl))
    | ((with_reducible apply wpList_part hR tVal); exact rfl; exact rfl; (focus (repeat (first | apply List.Mem.head | apply List.Mem.tail | apply List.mem_append_right))); (first | apply ext_val | (apply ext_g; omega) | (apply ext_s; omega)); exact rfl; (simp only [List.set_cons_succ, List.set_cons_zero]; exact rfl))
    | ((with_reducible apply wpList_put hR tVal); exact rfl; exact rfl; exact rfl; (focus (repeat (first | apply List.Mem.head | apply List.Mem.tail | apply List.mem_append_right))); apply put_val; exact rfl; (simp [encVal]); apply one_val; (focus (repeat (first | apply Upd.head | apply Upd.tail))); clear hR; intro w hR)
    | ((with_reducible apply wpList_built); exact rfl; exact rfl; (first | exact bVal0 | exact bVal1 _); (simp only [List.set_cons_succ, List.set_cons_zero]; exact rfl)))
    (try simp only [Exit.inBlock, Exit.then])
    exact post_row hR rfl (by rfl) (.head _) Tryd.underlying24 rfl iVal (by rfl) (by rfl) ⟨rfl, hR.below⟩

set_option maxHeartbeats 1000000 in
theorem rseg_any (r : RegsZ) (n : Int) (w : World) (h0 : -9223372036854775808 ≤ n) (h1 : n ≤ 9223372036854775807) :
    Calls Tryd.prog 19 #[.agg (encRegs r), .int .i64 n] w fun e w' => e = .returned (.agg (encVal (rsegV r n) (rsegT r n))) ∧ Below w.heap.size w w' := by
  have hR := Own.start w
  by_cases hn : 0 ≤ n ∧ n < 4
  · obtain ⟨ha, hb⟩ := hn
    rw [show rsegV r n = r.s n.toNat from if_pos (inB_yes ha hb), show rsegT r n = r.u n.toNat from if_pos (inB_yes ha hb)]
    go_enter Tryd.func19, Tryd.ntmps19
    go_wp2_with (first
    | (go_at_call 26; refine (isOne_yes _ _ _ (by omega) (by omega) (by omega)).mono ?_; rintro e w' ⟨rfl, rfl⟩)
    | ((with_reducible apply wpList_box hR); exact rfl; exact rfl; clear hR; intro g w hR; simp only [List.set_cons_succ, List.set_cons_zero])
    | ((with_reducible apply wpList_make hR zVal); exact rfl; clear hR; intro g w hR; simp only [List.set_cons_succ, List.set_cons_zero])
    | ((with_reducible apply wpList_part hR tRegs); exact rfl; exact rfl; (focus (repeat (first | apply List.Mem.head | apply List.Mem.tail | apply List.mem_append_right))); apply ext_regs; exact rfl; (simp only [List.set_cons_succ, List.set_cons_zero]; exact rfl))
    | ((with_reducible apply wpList_part hR tVal); exact rfl; exact rfl; (focus (repeat (first | apply List.Mem.head | apply List.Mem.tail | apply List.mem_append_right))); (first | apply ext_val | (apply ext_g; omega) | (apply ext_s; omega)); exact rfl; (simp only [List.set_cons_succ, List.set_cons_zero]; exact rfl))
    | ((with_reducible apply wpList_put hR tVal); exact rfl; exact rfl; exact rfl; (focus (repeat (first | apply List.Mem.head | apply List.Mem.tail | apply List.mem_append_right))); apply put_val; exact rfl; (simp [encVal]); apply one_val; (focus (repeat (first | apply Upd.head | apply Upd.tail))); clear hR; intro w hR)
    | ((with_reducible apply wpList_built); exact rfl; exact rfl; (first | exact bVal0 | exact bVal1 _); (simp only [List.set_cons_succ, List.set_cons_zero]; exact rfl)))
    (try simp only [Exit.inBlock, Exit.then])
    exact post_row hR rfl (by rfl) (.head _) Tryd.underlying24 rfl iVal (by rfl) (by rfl) ⟨rfl, hR.below⟩
  · have HN := Lib.hid hn
    rw [show rsegV r n = 0 from if_neg (by rw [inB_no hn]; exact Bool.false_ne_true), show rsegT r n = false from if_neg (by rw [inB_no hn]; exact Bool.false_ne_true)]
    clear hn
    go_enter Tryd.func19, Tryd.ntmps19
    go_wp2_with (first
    | (go_at_call 26; refine (isOne_no _ _ _ HN.out h0 h1 (by omega) (by omega)).mono ?_; rintro e w' ⟨rfl, rfl⟩)
    | ((with_reducible apply wpList_box hR); exact rfl; exact rfl; clear hR; intro g w hR; simp only [List.set_cons_succ, List.set_cons_zero])
    | ((with_reducible apply wpList_make hR zVal); exact rfl; clear hR; intro g w hR; simp only [List.set_cons_succ, List.set_cons_zero])
    | ((with_reducible apply wpList_part hR tRegs); exact rfl; exact rfl; (focus (repeat (first | apply List.Mem.head | apply List.Mem.tail | apply List.mem_append_right))); apply ext_regs; exact rfl; (simp only [List.set_cons_succ, List.set_cons_zero]; exact rfl))
    | ((with_reducible apply wpList_part hR tVal); exact rfl; exact rfl; (focus (repeat (first | apply List.Mem.head | apply List.Mem.tail | apply List.mem_append_right))); (first | apply ext_val | (apply ext_g; omega) | (apply ext_s; omega)); exact rfl; (simp only [List.set_cons_succ, List.set_cons_zero]; exact rfl))
    | ((with_reducible apply wpList_put hR tVal); exact rfl; exact rfl; exact rfl; (focus (repeat (first | apply List.Mem.head | apply List.Mem.tail | apply List.mem_append_right))); apply put_val; exact rfl; (simp [encVal]); apply one_val; (focus (repeat (first | apply Upd.head | apply Upd.tail))); clear hR; intro w hR)
    | ((with_reducible apply wpList_built); exact rfl; exact rfl; (first | exact bVal0 | exact bVal1 _); (simp only [List.set_cons_succ, List.set_cons_zero]; exact rfl)))
    (try simp only [Exit.inBlock, Exit.then])
    exact post_row hR rfl (by rfl) (.head _) Tryd.underlying24 rfl iVal (by rfl) (by rfl) ⟨rfl, hR.below⟩

/-! ### Which registers count -/
def encTwo (a b : Int) : Array Value := #[.int .i64 a, .int .i64 b]
theorem zTwo : ZeroTy Tryd.prog 51 (encTwo 0 0) := .of (by kernel_rfl)
theorem iTwo : (Tryd.prog.info? 51).map (·.size) = some 2 := by kernel_rfl
theorem tTwo : RowTy Tryd.prog 51 2 := .of Tryd.underlying51 rfl iTwo
theorem bTwo : Built Tryd.prog 51 [(0, .int .i64 (-1)), (1, .int .i64 (-1))] (encTwo (-1) (-1)) := ⟨by kernel_rfl⟩
theorem ext_two (a b : Int) : ExtRel (encTwo a b) 0 2 (encTwo a b) := extract_all rfl
theorem put_two (a b c d : Int) : PutRel (encTwo a b) 0 (encTwo c d).toList (encTwo c d) := putList_all rfl
theorem one_two (a b : Int) : (encTwo a b).all (·.oneCell') = true := by simp [encTwo, Value.oneCell']
/-- An element's place in a package-level array of rows of k cells. -/
theorem run_gixK {P : Program} {ρ : Operand → Value} {o : Oper} {w : World} {ty e : TypeId} {x ix : Operand} {b n k : Nat} {q : IntKind} {j : Int} (hu : P.underlying ty = some (.array n e)) (hz : (P.info? e).map (·.size) = some k) (ho : o.op = .indexAddr ty x ix)
    (hx : ρ x = .pointer (some ⟨b, 0, none⟩)) (hi : ρ ix = .int q j) (hj : 0 ≤ j ∧ j < n) : (execOp ρ o).run P w = .ok (.value (.pointer (some ⟨b, j.toNat * k, none⟩))) w := by
  cases hq : P.info? e with
  | none => simp [hq] at hz
  | some inf =>
    have hsz : inf.size = k := by simpa [hq] using hz
    have ha : (⟨b, 0, none⟩ : Addr).add (j.toNat * k) = ⟨b, j.toNat * k, none⟩ := by rw [addr_mid, Nat.zero_add]
    unfold execOp
    simp [ho, Instr.indexAt, hx, hi, run_underlying hu, Instr.sureAddr, asIntOf, hj, sizeOf, typeInfo, hq, hsz, ha]
theorem t_gixK {P : Program} {C : World → Prop} {c : Bool} {dd : Option Tmp} {ls : List Value} {ds : List Deferred} {tp : TypeId} {pos : String} {af : Array Edge} {gd : Option (Nat × Bool)} {ty e : TypeId} {ix : Operand} {b n k : Nat} {q : IntKind} {j : Int} (hu : P.underlying ty = some (.array n e)) (hz : (P.info? e).map (·.size) = some k) (hi : EvC ls c ix (.int q j)) (hj : 0 ≤ j ∧ j < n) :
    TIf P C c ⟨dd, .indexAddr ty (.global b) ix, tp, pos, af, gd⟩ ⟨ls.toArray, ds⟩ (.pointer (some ⟨b, j.toNat * k, none⟩)) :=
  ⟨fun h => .inl fun w _ => run_gixK hu hz rfl rfl (eval_of (hi.of h)) hj⟩
/-- Some cells of a block that was there before the call. -/
theorem t_oldPart {P : Program} {w0 : World} {l : List RowT} {c : Bool} {dd : Option Tmp} {ls : List Value} {ds : List Deferred} {tp : TypeId} {pos : String} {af : Array Edge} {gd : Option (Nat × Bool)} {ty : TypeId} {n : Nat} (ht : RowTy P ty n) {b off : Nat} {cs s : Array Value} {t : TypeId} {fr : Nat × Nat} {x : Operand} (hT : w0.heap[b]? = some (.cells cs t fr)) (hx : EvC ls c x (.pointer (some ⟨b, off, none⟩))) (hs : ExtRel cs off n s) (hn : s.size = n) :
    TIf P (fun w => Own w0 w l) c ⟨dd, .load ty x, tp, pos, af, gd⟩ ⟨ls.toArray, ds⟩ (.agg s) := by
  obtain ⟨d', hu, hd, hi⟩ := ht
  exact ⟨fun e => .inl fun w hC => run_loadPart rfl (eval_of (hx.of e)) (hC.old hT) hu hd hi hs hn⟩
theorem ext_cnt {rm : Int} (h0 : 0 ≤ rm) (h1 : rm ≤ 7) : ExtRel cntC (rm.toNat * 2) 2 (encTwo (baseA rm) (baseB rm)) := by
  constructor
  rcases (by omega : rm = 0 ∨ rm = 1 ∨ rm = 2 ∨ rm = 3 ∨ rm = 4 ∨ rm = 5 ∨ rm = 6 ∨ rm = 7) with rfl | rfl | rfl | rfl | rfl | rfl | rfl | rfl <;> rfl
def cntA (i : InstZ) : Int := bif offBad i then -1 else offA i
def cntB (i : InstZ) : Int := bif offBad i then -1 else offB i
set_option maxHeartbeats 4000000 in
theorem counting_any (i : InstZ) (w0 : World) (hi : i.ok) (hT : Tabs w0) :
    Calls Tryd.prog 17 #[.agg (encI i)] w0 fun e w' => e = .returned (.tuple #[.agg (encTwo (cntA i) (cntB i)), .bool (!offBad i)]) ∧ Below w0.heap.size w0 w' := by
  have hR := Own.start w0
  obtain ⟨tT, fT, hT0⟩ := hT.cnt
  have hmod := hi.mod
  have hrm := hi.rm
  clear hi hT
  by_cases hb : i.mod < 0 ∨ i.mod = 3 ∨ i.rm < 0 ∨ 8 ≤ i.rm
  · have hB : offBad i = true := by
      unfold offBad
      rcases hb with h | h | h | h
      · simp [h]
      · simp [h]
      · simp [h]
      · simp [show 7 < i.rm by omega]
    rw [show cntA i = -1 by unfold cntA; rw [hB]; rfl, show cntB i = -1 by unfold cntB; rw [hB]; rfl, hB]
    clear hB
    by_cases h1 : i.mod < 0
    · skip
      go_enter Tryd.func17, Tryd.ntmps17
      go_wp2_with (first
          | ((with_reducible apply wpList_box hR); exact rfl; exact rfl; clear hR; intro g w hR; simp only [List.set_cons_succ, List.set_cons_zero])
          | ((with_reducible apply wpList_make hR zTwo); exact rfl; clear hR; intro g w hR; simp only [List.set_cons_succ, List.set_cons_zero])
          | ((with_reducible apply wpList_built); exact rfl; exact rfl; exact bTwo; (simp only [List.set_cons_succ, List.set_cons_zero]; exact rfl))
          | ((with_reducible apply wpList_put hR tTwo); exact rfl; exact rfl; exact rfl; (focus (repeat (first | apply List.Mem.head | apply List.Mem.tail | apply List.mem_append_right))); apply put_two; exact rfl; (simp [encTwo]); apply one_two; (focus (repeat (first | apply Upd.head | apply Upd.tail))); clear hR; intro w hR)
          | ((with_reducible apply q_ls hR); exact rfl; (with_reducible apply t_gixK Tryd.underlying62 iTwo); (apply EvC.now; exact rfl); (constructor <;> omega); (simp only [List.set_cons_succ, List.set_cons_zero]; exact rfl); clear hR; intro w hR)
          | ((with_reducible apply q_ls hR); exact rfl; (with_reducible apply t_oldPart tTwo hT0); (apply EvC.now; exact rfl); (apply ext_cnt <;> omega); exact rfl; (simp only [List.set_cons_succ, List.set_cons_zero]; exact rfl); clear hR; intro w hR)
          | ((with_reducible apply q_ls hR); exact rfl; ((with_reducible first | apply t_addr (fInst _ (by decide)) | apply t_one tInt | apply t_one tWord | apply t_one tByte | apply t_one tBool | apply t_part tInst) <;> (first | (apply EvC.gv; exact rfl; (with_reducible first | exact Imp.refl _ | (apply Imp.left; exact Imp.refl _) | (apply Imp.right; exact Imp.refl _) | (apply Imp.left; apply Imp.left; exact Imp.refl _))) | (apply EvC.now; exact rfl) | exact rfl | (with_reducible exact EvAll.nil) | (focus (repeat (first | apply EvAll.cons | exact EvAll.nil | (apply EvC.gv; exact rfl; (with_reducible first | exact Imp.refl _ | (apply Imp.left; exact Imp.refl _) | (apply Imp.right; exact Imp.refl _) | (apply Imp.left; apply Imp.left; exact Imp.refl _))) | (apply EvC.now; exact rfl))); done) | apply ext_inst | (focus (repeat (first | apply List.Mem.head | apply List.Mem.tail | apply List.mem_append_right))))); (simp only [List.set_cons_succ, List.set_cons_zero]; exact rfl); clear hR; intro w hR))
      (try simp only [Exit.inBlock, Exit.then])
      exact post_row_tmp hR rfl (by rfl) (by rfl) (.head _) Tryd.underlying51 rfl iTwo (by rfl) (by rfl) ⟨rfl, hR.below⟩
    by_cases h2 : i.mod = 3
    · skip
      go_enter Tryd.func17, Tryd.ntmps17
      go_wp2_with (first
          | ((with_reducible apply wpList_box hR); exact rfl; exact rfl; clear hR; intro g w hR; simp only [List.set_cons_succ, List.set_cons_zero])
          | ((with_reducible apply wpList_make hR zTwo); exact rfl; clear hR; intro g w hR; simp only [List.set_cons_succ, List.set_cons_zero])
          | ((with_reducible apply wpList_built); exact rfl; exact rfl; exact bTwo; (simp only [List.set_cons_succ, List.set_cons_zero]; exact rfl))
          | ((with_reducible apply wpList_put hR tTwo); exact rfl; exact rfl; exact rfl; (focus (repeat (first | apply List.Mem.head | apply List.Mem.tail | apply List.mem_append_right))); apply put_two; exact rfl; (simp [encTwo]); apply one_two; (focus (repeat (first | apply Upd.head | apply Upd.tail))); clear hR; intro w hR)
          | ((with_reducible apply q_ls hR); exact rfl; (with_reducible apply t_gixK Tryd.underlying62 iTwo); (apply EvC.now; exact rfl); (constructor <;> omega); (simp only [List.set_cons_succ, List.set_cons_zero]; exact rfl); clear hR; intro w hR)
          | ((with_reducible apply q_ls hR); exact rfl; (with_reducible apply t_oldPart tTwo hT0); (apply EvC.now; exact rfl); (apply ext_cnt <;> omega); exact rfl; (simp only [List.set_cons_succ, List.set_cons_zero]; exact rfl); clear hR; intro w hR)
          | ((with_reducible apply q_ls hR); exact rfl; ((with_reducible first | apply t_addr (fInst _ (by decide)) | apply t_one tInt | apply t_one tWord | apply t_one tByte | apply t_one tBool | apply t_part tInst) <;> (first | (apply EvC.gv; exact rfl; (with_reducible first | exact Imp.refl _ | (apply Imp.left; exact Imp.refl _) | (apply Imp.right; exact Imp.refl _) | (apply Imp.left; apply Imp.left; exact Imp.refl _))) | (apply EvC.now; exact rfl) | exact rfl | (with_reducible exact EvAll.nil) | (focus (repeat (first | apply EvAll.cons | exact EvAll.nil | (apply EvC.gv; exact rfl; (with_reducible first | exact Imp.refl _ | (apply Imp.left; exact Imp.refl _) | (apply Imp.right; exact Imp.refl _) | (apply Imp.left; apply Imp.left; exact Imp.refl _))) | (apply EvC.now; exact rfl))); done) | apply ext_inst | (focus (repeat (first | apply List.Mem.head | apply List.Mem.tail | apply List.mem_append_right))))); (simp only [List.set_cons_succ, List.set_cons_zero]; exact rfl); clear hR; intro w hR))
      (try simp only [Exit.inBlock, Exit.then])
      exact post_row_tmp hR rfl (by rfl) (by rfl) (.head _) Tryd.underlying51 rfl iTwo (by rfl) (by rfl) ⟨rfl, hR.below⟩
    by_cases h3 : i.rm < 0
    · skip
      go_enter Tryd.func17, Tryd.ntmps17
      go_wp2_with (first
          | ((with_reducible apply wpList_box hR); exact rfl; exact rfl; clear hR; intro g w hR; simp only [List.set_cons_succ, List.set_cons_zero])
          | ((with_reducible apply wpList_make hR zTwo); exact rfl; clear hR; intro g w hR; simp only [List.set_cons_succ, List.set_cons_zero])
          | ((with_reducible apply wpList_built); exact rfl; exact rfl; exact bTwo; (simp only [List.set_cons_succ, List.set_cons_zero]; exact rfl))
          | ((with_reducible apply wpList_put hR tTwo); exact rfl; exact rfl; exact rfl; (focus (repeat (first | apply List.Mem.head | apply List.Mem.tail | apply List.mem_append_right))); apply put_two; exact rfl; (simp [encTwo]); apply one_two; (focus (repeat (first | apply Upd.head | apply Upd.tail))); clear hR; intro w hR)
          | ((with_reducible apply q_ls hR); exact rfl; (with_reducible apply t_gixK Tryd.underlying62 iTwo); (apply EvC.now; exact rfl); (constructor <;> omega); (simp only [List.set_cons_succ, List.set_cons_zero]; exact rfl); clear hR; intro w hR)
          | ((with_reducible apply q_ls hR); exact rfl; (with_reducible apply t_oldPart tTwo hT0); (apply EvC.now; exact rfl); (apply ext_cnt <;> omega); exact rfl; (simp only [List.set_cons_succ, List.set_cons_zero]; exact rfl); clear hR; intro w hR)
          | ((with_reducible apply q_ls hR); exact rfl; ((with_reducible first | apply t_addr (fInst _ (by decide)) | apply t_one tInt | apply t_one tWord | apply t_one tByte | apply t_one tBool | apply t_part tInst) <;> (first | (apply EvC.gv; exact rfl; (with_reducible first | exact Imp.refl _ | (apply Imp.left; exact Imp.refl _) | (apply Imp.right; exact Imp.refl _) | (apply Imp.left; apply Imp.left; exact Imp.refl _))) | (apply EvC.now; exact rfl) | exact rfl | (with_reducible exact EvAll.nil) | (focus (repeat (first | apply EvAll.cons | exact EvAll.nil | (apply EvC.gv; exact rfl; (with_reducible first | exact Imp.refl _ | (apply Imp.left; exact Imp.refl _) | (apply Imp.right; exact Imp.refl _) | (apply Imp.left; apply Imp.left; exact Imp.refl _))) | (apply EvC.now; exact rfl))); done) | apply ext_inst | (focus (repeat (first | apply List.Mem.head | apply List.Mem.tail | apply List.mem_append_right))))); (simp only [List.set_cons_succ, List.set_cons_zero]; exact rfl); clear hR; intro w hR))
      (try simp only [Exit.inBlock, Exit.then])
      exact post_row_tmp hR rfl (by rfl) (by rfl) (.head _) Tryd.underlying51 rfl iTwo (by rfl) (by rfl) ⟨rfl, hR.below⟩
    have h4 : 8 ≤ i.rm := by omega
    go_enter Tryd.func17, Tryd.ntmps17
    go_wp2_with (first
        | ((with_reducible apply wpList_box hR); exact rfl; exact rfl; clear hR; intro g w hR; simp only [List.set_cons_succ, List.set_cons_zero])
        | ((with_reducible apply wpList_make hR zTwo); exact rfl; clear hR; intro g w hR; simp only [List.set_cons_succ, List.set_cons_zero])
        | ((with_reducible apply wpList_built); exact rfl; exact rfl; exact bTwo; (simp only [List.set_cons_succ, List.set_cons_zero]; exact rfl))
        | ((with_reducible apply wpList_put hR tTwo); exact rfl; exact rfl; exact rfl; (focus (repeat (first | apply List.Mem.head | apply List.Mem.tail | apply List.mem_append_right))); apply put_two; exact rfl; (simp [encTwo]); apply one_two; (focus (repeat (first | apply Upd.head | apply Upd.tail))); clear hR; intro w hR)
        | ((with_reducible apply q_ls hR); exact rfl; (with_reducible apply t_gixK Tryd.underlying62 iTwo); (apply EvC.now; exact rfl); (constructor <;> omega); (simp only [List.set_cons_succ, List.set_cons_zero]; exact rfl); clear hR; intro w hR)
        | ((with_reducible apply q_ls hR); exact rfl; (with_reducible apply t_oldPart tTwo hT0); (apply EvC.now; exact rfl); (apply ext_cnt <;> omega); exact rfl; (simp only [List.set_cons_succ, List.set_cons_zero]; exact rfl); clear hR; intro w hR)
        | ((with_reducible apply q_ls hR); exact rfl; ((with_reducible first | apply t_addr (fInst _ (by decide)) | apply t_one tInt | apply t_one tWord | apply t_one tByte | apply t_one tBool | apply t_part tInst) <;> (first | (apply EvC.gv; exact rfl; (with_reducible first | exact Imp.refl _ | (apply Imp.left; exact Imp.refl _) | (apply Imp.right; exact Imp.refl _) | (apply Imp.left; apply Imp.left; exact Imp.refl _))) | (apply EvC.now; exact rfl) | exact rfl | (with_reducible exact EvAll.nil) | (focus (repeat (first | apply EvAll.cons | exact EvAll.nil | (apply EvC.gv; exact rfl; (with_reducible first | exact Imp.refl _ | (apply Imp.left; exact Imp.refl _) | (apply Imp.right; exact Imp.refl _) | (apply Imp.left; apply Imp.left; exact Imp.refl _))) | (apply EvC.now; exact rfl))); done) | apply ext_inst | (focus (repeat (first | apply List.Mem.head | apply List.Mem.tail | apply List.mem_append_right))))); (simp only [List.set_cons_succ, List.set_cons_zero]; exact rfl); clear hR; intro w hR))
    (try simp only [Exit.inBlock, Exit.then])
    exact post_row_tmp hR rfl (by rfl) (by rfl) (.head _) Tryd.underlying51 rfl iTwo (by rfl) (by rfl) ⟨rfl, hR.below⟩
  · have hB : offBad i = false := by
      unfold offBad
      simp
      omega
    obtain ⟨h1, h2, h3, h4⟩ : 0 ≤ i.mod ∧ i.mod ≠ 3 ∧ 0 ≤ i.rm ∧ i.rm ≤ 7 := by omega
    clear hb
    by_cases hz : i.mod = 0 ∧ i.rm = 6
    · rw [show cntA i = -1 by unfold cntA; rw [hB]; simp [offA, hz.1, hz.2], show cntB i = -1 by unfold cntB; rw [hB]; simp [offB, baseB, hz.2], hB]
      obtain ⟨z1, z2⟩ := hz
      clear hB h1 h2 h3 h4
      go_enter Tryd.func17, Tryd.ntmps17
      go_wp2_with (first
          | ((with_reducible apply wpList_box hR); exact rfl; exact rfl; clear hR; intro g w hR; simp only [List.set_cons_succ, List.set_cons_zero])
          | ((with_reducible apply wpList_make hR zTwo); exact rfl; clear hR; intro g w hR; simp only [List.set_cons_succ, List.set_cons_zero])
          | ((with_reducible apply wpList_built); exact rfl; exact rfl; exact bTwo; (simp only [List.set_cons_succ, List.set_cons_zero]; exact rfl))
          | ((with_reducible apply wpList_put hR tTwo); exact rfl; exact rfl; exact rfl; (focus (repeat (first | apply List.Mem.head | apply List.Mem.tail | apply List.mem_append_right))); apply put_two; exact rfl; (simp [encTwo]); apply one_two; (focus (repeat (first | apply Upd.head | apply Upd.tail))); clear hR; intro w hR)
          | ((with_reducible apply q_ls hR); exact rfl; (with_reducible apply t_gixK Tryd.underlying62 iTwo); (apply EvC.now; exact rfl); (constructor <;> omega); (simp only [List.set_cons_succ, List.set_cons_zero]; exact rfl); clear hR; intro w hR)
          | ((with_reducible apply q_ls hR); exact rfl; (with_reducible apply t_oldPart tTwo hT0); (apply EvC.now; exact rfl); (apply ext_cnt <;> omega); exact rfl; (simp only [List.set_cons_succ, List.set_cons_zero]; exact rfl); clear hR; intro w hR)
          | ((with_reducible apply q_ls hR); exact rfl; ((with_reducible first | apply t_addr (fInst _ (by decide)) | apply t_one tInt | apply t_one tWord | apply t_one tByte | apply t_one tBool | apply t_part tInst) <;> (first | (apply EvC.gv; exact rfl; (with_reducible first | exact Imp.refl _ | (apply Imp.left; exact Imp.refl _) | (apply Imp.right; exact Imp.refl _) | (apply Imp.left; apply Imp.left; exact Imp.refl _))) | (apply EvC.now; exact rfl) | exact rfl | (with_reducible exact EvAll.nil) | (focus (repeat (first | apply EvAll.cons | exact EvAll.nil | (apply EvC.gv; exact rfl; (with_reducible first | exact Imp.refl _ | (apply Imp.left; exact Imp.refl _) | (apply Imp.right; exact Imp.refl _) | (apply Imp.left; apply Imp.left; exact Imp.refl _))) | (apply EvC.now; exact rfl))); done) | apply ext_inst | (focus (repeat (first | apply List.Mem.head | apply List.Mem.tail | apply List.mem_append_right))))); (simp only [List.set_cons_succ, List.set_cons_zero]; exact rfl); clear hR; intro w hR))
      (try simp only [Exit.inBlock, Exit.then])
      exact post_row_tmp hR rfl (by rfl) (by rfl) (.head _) Tryd.underlying51 rfl iTwo (by rfl) (by rfl) ⟨rfl, hR.below⟩
    · rw [show cntA i = baseA i.rm by unfold cntA; rw [hB]; simp only [cond_false]; unfold offA; rw [show (i.rm == 6 && i.mod == 0) = false by simp; omega]; rfl, show cntB i = baseB i.rm by unfold cntB; rw [hB]; rfl, hB]
      clear hB
      by_cases z1 : i.mod = 0
      · have z2 : i.rm ≠ 6 := fun h => hz ⟨z1, h⟩
        clear hz
        go_enter Tryd.func17, Tryd.ntmps17
        go_wp2_with (first
            | ((with_reducible apply wpList_box hR); exact rfl; exact rfl; clear hR; intro g w hR; simp only [List.set_cons_succ, List.set_cons_zero])
            | ((with_reducible apply wpList_make hR zTwo); exact rfl; clear hR; intro g w hR; simp only [List.set_cons_succ, List.set_cons_zero])
            | ((with_reducible apply wpList_built); exact rfl; exact rfl; exact bTwo; (simp only [List.set_cons_succ, List.set_cons_zero]; exact rfl))
            | ((with_reducible apply wpList_put hR tTwo); exact rfl; exact rfl; exact rfl; (focus (repeat (first | apply List.Mem.head | apply List.Mem.tail | apply List.mem_append_right))); apply put_two; exact rfl; (simp [encTwo]); apply one_two; (focus (repeat (first | apply Upd.head | apply Upd.tail))); clear hR; intro w hR)
            | ((with_reducible apply q_ls hR); exact rfl; (with_reducible apply t_gixK Tryd.underlying62 iTwo); (apply EvC.now; exact rfl); (constructor <;> omega); (simp only [List.set_cons_succ, List.set_cons_zero]; exact rfl); clear hR; intro w hR)
            | ((with_reducible apply q_ls hR); exact rfl; (with_reducible apply t_oldPart tTwo hT0); (apply EvC.now; exact rfl); (apply ext_cnt <;> omega); exact rfl; (simp only [List.set_cons_succ, List.set_cons_zero]; exact rfl); clear hR; intro w hR)
            | ((with_reducible apply q_ls hR); exact rfl; ((with_reducible first | apply t_addr (fInst _ (by decide)) | apply t_one tInt | apply t_one tWord | apply t_one tByte | apply t_one tBool | apply t_part tInst) <;> (first | (apply EvC.gv; exact rfl; (with_reducible first | exact Imp.refl _ | (apply Imp.left; exact Imp.refl _) | (apply Imp.right; exact Imp.refl _) | (apply Imp.left; apply Imp.left; exact Imp.refl _))) | (apply EvC.now; exact rfl) | exact rfl | (with_reducible exact EvAll.nil) | (focus (repeat (first | apply EvAll.cons | exact EvAll.nil | (apply EvC.gv; exact rfl; (with_reducible first | exact Imp.refl _ | (apply Imp.left; exact Imp.refl _) | (apply Imp.right; exact Imp.refl _) | (apply Imp.left; apply Imp.left; exact Imp.refl _))) | (apply EvC.now; exact rfl))); done) | apply ext_inst | (focus (repeat (first | apply List.Mem.head | apply List.Mem.tail | apply List.mem_append_right))))); (simp only [List.set_cons_succ, List.set_cons_zero]; exact rfl); clear hR; intro w hR))
        (try simp only [Exit.inBlock, Exit.then])
        exact post_row_tmp hR rfl (by rfl) (by rfl) (.head _) Tryd.underlying51 rfl iTwo (by rfl) (by rfl) ⟨rfl, hR.below⟩
      · clear hz
        go_enter Tryd.func17, Tryd.ntmps17
        go_wp2_with (first
            | ((with_reducible apply wpList_box hR); exact rfl; exact rfl; clear hR; intro g w hR; simp only [List.set_cons_succ, List.set_cons_zero])
            | ((with_reducible apply wpList_make hR zTwo); exact rfl; clear hR; intro g w hR; simp only [List.set_cons_succ, List.set_cons_zero])
            | ((with_reducible apply wpList_built); exact rfl; exact rfl; exact bTwo; (simp only [List.set_cons_succ, List.set_cons_zero]; exact rfl))
            | ((with_reducible apply wpList_put hR tTwo); exact rfl; exact rfl; exact rfl; (focus (repeat (first | apply List.Mem.head | apply List.Mem.tail | apply List.mem_append_right))); apply put_two; exact rfl; (simp [encTwo]); apply one_two; (focus (repeat (first | apply Upd.head | apply Upd.tail))); clear hR; intro w hR)
            | ((with_reducible apply q_ls hR); exact rfl; (with_reducible apply t_gixK Tryd.underlying62 iTwo); (apply EvC.now; exact rfl); (constructor <;> omega); (simp only [List.set_cons_succ, List.set_cons_zero]; exact rfl); clear hR; intro w hR)
            | ((with_reducible apply q_ls hR); exact rfl; (with_reducible apply t_oldPart tTwo hT0); (apply EvC.now; exact rfl); (apply ext_cnt <;> omega); exact rfl; (simp only [List.set_cons_succ, List.set_cons_zero]; exact rfl); clear hR; intro w hR)
            | ((with_reducible apply q_ls hR); exact rfl; ((with_reducible first | apply t_addr (fInst _ (by decide)) | apply t_one tInt | apply t_one tWord | apply t_one tByte | apply t_one tBool | apply t_part tInst) <;> (first | (apply EvC.gv; exact rfl; (with_reducible first | exact Imp.refl _ | (apply Imp.left; exact Imp.refl _) | (apply Imp.right; exact Imp.refl _) | (apply Imp.left; apply Imp.left; exact Imp.refl _))) | (apply EvC.now; exact rfl) | exact rfl | (with_reducible exact EvAll.nil) | (focus (repeat (first | apply EvAll.cons | exact EvAll.nil | (apply EvC.gv; exact rfl; (with_reducible first | exact Imp.refl _ | (apply Imp.left; exact Imp.refl _) | (apply Imp.right; exact Imp.refl _) | (apply Imp.left; apply Imp.left; exact Imp.refl _))) | (apply EvC.now; exact rfl))); done) | apply ext_inst | (focus (repeat (first | apply List.Mem.head | apply List.Mem.tail | apply List.mem_append_right))))); (simp only [List.set_cons_succ, List.set_cons_zero]; exact rfl); clear hR; intro w hR))
        (try simp only [Exit.inBlock, Exit.then])
        exact post_row_tmp hR rfl (by rfl) (by rfl) (.head _) Tryd.underlying51 rfl iTwo (by rfl) (by rfl) ⟨rfl, hR.below⟩

/-! ### The segment register -/
def segOf (i : InstZ) (n : Int) : Int := bif decide (0 < i.seg) then i.seg - 1 else n
set_option maxHeartbeats 1000000 in
theorem segment_any (i : InstZ) (n : Int) (w0 : World) (hi : i.ok) (hn : -9223372036854775808 ≤ n ∧ n ≤ 9223372036854775807) :
    Calls Tryd.prog 21 #[.agg (encI i), .int .i64 n] w0 fun e w' => e = .returned (.int .i64 (segOf i n)) ∧ Below w0.heap.size w0 w' := by
  have hR := Own.start w0
  have hseg := hi.seg
  clear hi
  by_cases hs : 0 < i.seg
  · rw [show segOf i n = i.seg - 1 by unfold segOf; rw [decide_eq_true hs]; rfl]
    go_enter Tryd.func21, Tryd.ntmps21
    go_wp2_with (first
    | ((with_reducible apply wpList_box hR); exact rfl; exact rfl; clear hR; intro g w hR; simp only [List.set_cons_succ, List.set_cons_zero])
    | ((with_reducible apply q_ls hR); exact rfl; ((with_reducible first | apply t_addr (fInst _ (by decide)) | apply t_one tInt | apply t_one tWord | apply t_one tByte | apply t_one tBool | apply t_part tInst) <;> (first | (apply EvC.gv; exact rfl; (with_reducible first | exact Imp.refl _ | (apply Imp.left; exact Imp.refl _) | (apply Imp.right; exact Imp.refl _) | (apply Imp.left; apply Imp.left; exact Imp.refl _))) | (apply EvC.now; exact rfl) | exact rfl | (with_reducible exact EvAll.nil) | (focus (repeat (first | apply EvAll.cons | exact EvAll.nil | (apply EvC.gv; exact rfl; (with_reducible first | exact Imp.refl _ | (apply Imp.left; exact Imp.refl _) | (apply Imp.right; exact Imp.refl _) | (apply Imp.left; apply Imp.left; exact Imp.refl _))) | (apply EvC.now; exact rfl))); done) | apply ext_inst | (focus (repeat (first | apply List.Mem.head | apply List.Mem.tail | apply List.mem_append_right))))); (simp only [List.set_cons_succ, List.set_cons_zero]; exact rfl); clear hR; intro w hR))
    go_ret
    exact ⟨ret_int (by first | rfl | omega), hR.below⟩
  · rw [show segOf i n = n by unfold segOf; rw [decide_eq_false hs]; rfl]
    go_enter Tryd.func21, Tryd.ntmps21
    go_wp2_with (first
    | ((with_reducible apply wpList_box hR); exact rfl; exact rfl; clear hR; intro g w hR; simp only [List.set_cons_succ, List.set_cons_zero])
    | ((with_reducible apply q_ls hR); exact rfl; ((with_reducible first | apply t_addr (fInst _ (by decide)) | apply t_one tInt | apply t_one tWord | apply t_one tByte | apply t_one tBool | apply t_part tInst) <;> (first | (apply EvC.gv; exact rfl; (with_reducible first | exact Imp.refl _ | (apply Imp.left; exact Imp.refl _) | (apply Imp.right; exact Imp.refl _) | (apply Imp.left; apply Imp.left; exact Imp.refl _))) | (apply EvC.now; exact rfl) | exact rfl | (with_reducible exact EvAll.nil) | (focus (repeat (first | apply EvAll.cons | exact EvAll.nil | (apply EvC.gv; exact rfl; (with_reducible first | exact Imp.refl _ | (apply Imp.left; exact Imp.refl _) | (apply Imp.right; exact Imp.refl _) | (apply Imp.left; apply Imp.left; exact Imp.refl _))) | (apply EvC.now; exact rfl))); done) | apply ext_inst | (focus (repeat (first | apply List.Mem.head | apply List.Mem.tail | apply List.mem_append_right))))); (simp only [List.set_cons_succ, List.set_cons_zero]; exact rfl); clear hR; intro w hR))
    go_ret
    exact ⟨ret_int (by first | rfl | omega), hR.below⟩
end Go.Proofs.YtenhcbaljjhhbaaDoor
