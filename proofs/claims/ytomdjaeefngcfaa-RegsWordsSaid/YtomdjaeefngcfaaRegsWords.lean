/- Whatever the registers, the two numbers and the word, hansomlaw03.RegsWords returns true: registers are read and written, each alone, there are no others, and each argument reads afterwards as before. There is no condition on the arguments. -/
import Derived.Test.YtomdjaeefngcfaaRows
import Derived.Test.YtomdjaeefngcfaaRegsC
import Derived.WalkKit
import Derived.ProofKit
import Derived.OpenShut
import Derived.ShutString
import Derived.ChangeOld
import Derived.Below
namespace Go.Proofs.Ytomdjaeefngcfaa.regsWords
open Go.ChangeShapes Go.WideShapes Go.ChangeAt Go.RowKit
open Go.ChangeMaps (open_string shut_string)
set_option linter.unusedVariables false

theorem own : ownKnob Try.prog.godebug = none := by kernel_rfl
theorem laidOut : laidOutB Try.prog = true := by kernel_rfl



set_option maxHeartbeats 4000000 in
theorem partA (r : RegsZ) (n k v : Int) (t : Bool) (bn : -9223372036854775808 ≤ n ∧ n ≤ 9223372036854775807) (bk : -9223372036854775808 ≤ k ∧ k ≤ 9223372036854775807) (w : World)
    (hn : 0 ≤ n ∧ n < 4) (hk : (0 ≤ k ∧ k < 4) ∨ (4 ≤ k ∧ k < 8) ∨ k < 0 ∨ 8 ≤ k) :
    Calls Try.prog 3 #[.agg (encRegs r), .agg (encPair n k), .agg (encVal v t)] w fun e w' => e = .returned (.bool true) ∧ Below w.heap.size w w' := by
  have hR := Own.start w
  go_enter Try.func3, Try.ntmps3
  go_wp2_with (first
    | (apply wpList_box hR; exact rfl; exact rfl; clear hR; intro g w hR; simp only [List.set_cons_succ, List.set_cons_zero])
    | (apply wpList_make hR zRegs; exact rfl; clear hR; intro g w hR; simp only [List.set_cons_succ, List.set_cons_zero])
    | (apply wpList_make hR zVal; exact rfl; clear hR; intro g w hR; simp only [List.set_cons_succ, List.set_cons_zero])
    | (apply wpList_part hR tRegs; exact rfl; exact rfl; (focus (repeat (first | apply List.Mem.head | apply List.Mem.tail))); apply ext_regs; exact rfl; (simp only [List.set_cons_succ, List.set_cons_zero]; exact rfl))
    | (apply wpList_part hR tVal; exact rfl; exact rfl; (focus (repeat (first | apply List.Mem.head | apply List.Mem.tail))); (first | apply ext_val | (apply ext_g; omega) | (apply ext_s; omega)); exact rfl; (simp only [List.set_cons_succ, List.set_cons_zero]; exact rfl))
    | (apply wpList_one hR tWord; exact rfl; exact rfl; (focus (repeat (first | apply List.Mem.head | apply List.Mem.tail))); exact rfl; (simp only [List.set_cons_succ, List.set_cons_zero]; exact rfl))
    | (apply wpList_one hR tBool; exact rfl; exact rfl; (focus (repeat (first | apply List.Mem.head | apply List.Mem.tail))); exact rfl; (simp only [List.set_cons_succ, List.set_cons_zero]; exact rfl))
    | (apply wpList_put hR tRegs; exact rfl; exact rfl; exact rfl; (focus (repeat (first | apply List.Mem.head | apply List.Mem.tail))); apply put_regs; exact rfl; simp [encRegs]; apply one_regs; (focus (repeat (first | apply Upd.head | apply Upd.tail))); clear hR; intro w hR)
    | (apply wpList_put hR tVal; exact rfl; exact rfl; exact rfl; (focus (repeat (first | apply List.Mem.head | apply List.Mem.tail))); (first | apply put_val | (apply put_g; omega) | (apply put_s; omega)); exact rfl; (simp [encVal, encRegs] <;> omega); apply one_val; (focus (repeat (first | apply Upd.head | apply Upd.tail))); clear hR; intro w hR)
    | (apply wpList_built; exact rfl; exact rfl; (first | exact bVal0 | exact bVal1 _); (simp only [List.set_cons_succ, List.set_cons_zero]; exact rfl)))
  refine wp_region_rows hR [0, 1, 2, 3, 4, 5] 0 (by kernel_rfl) (by kernel_rfl) (by kernel_rfl) rfl ?_
  clear hR; intro hR
  repeat (refine wpT_step rfl ?_; first
    | (apply wpT1_one tInt; exact rfl; exact rfl; (focus (repeat (first | apply List.Mem.head | apply List.Mem.tail))); exact rfl; (simp only [List.set_cons_succ, List.set_cons_zero]; exact rfl))
    | (apply wpT1_move; exact rfl; exact rfl; (simp only [List.set_cons_succ, List.set_cons_zero]; exact rfl))
    | (apply wpT1_assign; exact rfl; exact rfl; (simp only [List.set_cons_succ, List.set_cons_zero]; exact rfl))
    | (apply wpT1_pick; exact rfl; exact rfl; exact rfl; (simp only [List.set_cons_succ, List.set_cons_zero]; exact rfl))
    | (apply wpT1_pure; exact rfl; intro K hK; go_simp; refine hK _ ?_; clear hK K; simp only [List.set_cons_succ, List.set_cons_zero]))
  refine wpG_end hR (by kernel_rfl) ?_
  clear hR; intro w hR
  go_wp2_with (first
    | (apply wpList_box hR; exact rfl; exact rfl; clear hR; intro g w hR; simp only [List.set_cons_succ, List.set_cons_zero])
    | (apply wpList_make hR zRegs; exact rfl; clear hR; intro g w hR; simp only [List.set_cons_succ, List.set_cons_zero])
    | (apply wpList_make hR zVal; exact rfl; clear hR; intro g w hR; simp only [List.set_cons_succ, List.set_cons_zero])
    | (apply wpList_part hR tRegs; exact rfl; exact rfl; (focus (repeat (first | apply List.Mem.head | apply List.Mem.tail))); apply ext_regs; exact rfl; (simp only [List.set_cons_succ, List.set_cons_zero]; exact rfl))
    | (apply wpList_part hR tVal; exact rfl; exact rfl; (focus (repeat (first | apply List.Mem.head | apply List.Mem.tail))); (first | apply ext_val | (apply ext_g; omega) | (apply ext_s; omega)); exact rfl; (simp only [List.set_cons_succ, List.set_cons_zero]; exact rfl))
    | (apply wpList_one hR tWord; exact rfl; exact rfl; (focus (repeat (first | apply List.Mem.head | apply List.Mem.tail))); exact rfl; (simp only [List.set_cons_succ, List.set_cons_zero]; exact rfl))
    | (apply wpList_one hR tBool; exact rfl; exact rfl; (focus (repeat (first | apply List.Mem.head | apply List.Mem.tail))); exact rfl; (simp only [List.set_cons_succ, List.set_cons_zero]; exact rfl))
    | (apply wpList_put hR tRegs; exact rfl; exact rfl; exact rfl; (focus (repeat (first | apply List.Mem.head | apply List.Mem.tail))); apply put_regs; exact rfl; simp [encRegs]; apply one_regs; (focus (repeat (first | apply Upd.head | apply Upd.tail))); clear hR; intro w hR)
    | (apply wpList_put hR tVal; exact rfl; exact rfl; exact rfl; (focus (repeat (first | apply List.Mem.head | apply List.Mem.tail))); (first | apply put_val | (apply put_g; omega) | (apply put_s; omega)); exact rfl; (simp [encVal, encRegs] <;> omega); apply one_val; (focus (repeat (first | apply Upd.head | apply Upd.tail))); clear hR; intro w hR)
    | (apply wpList_built; exact rfl; exact rfl; (first | exact bVal0 | exact bVal1 _); (simp only [List.set_cons_succ, List.set_cons_zero]; exact rfl)))
  refine wp_region_rows hR [0, 1, 2, 3, 4, 5, 6, 7] 4 (by kernel_rfl) (by kernel_rfl) (by kernel_rfl) rfl ?_
  clear hR; intro hR
  repeat (refine wpT_step rfl ?_; first
    | (apply wpT1_part tRegs; exact rfl; exact rfl; (focus (repeat (first | apply List.Mem.head | apply List.Mem.tail))); apply ext_regs; exact rfl; (simp only [List.set_cons_succ, List.set_cons_zero]; exact rfl))
    | (apply wpT1_part tVal; exact rfl; exact rfl; (focus (repeat (first | apply List.Mem.head | apply List.Mem.tail))); (first | apply ext_val | (apply ext_g; omega) | (apply ext_s; omega)); exact rfl; (simp only [List.set_cons_succ, List.set_cons_zero]; exact rfl))
    | (apply wpT1_one tWord; exact rfl; exact rfl; (focus (repeat (first | apply List.Mem.head | apply List.Mem.tail))); exact rfl; (simp only [List.set_cons_succ, List.set_cons_zero]; exact rfl))
    | (apply wpT1_one tBool; exact rfl; exact rfl; (focus (repeat (first | apply List.Mem.head | apply List.Mem.tail))); exact rfl; (simp only [List.set_cons_succ, List.set_cons_zero]; exact rfl))
    | (apply wpT1_move; exact rfl; exact rfl; (simp only [List.set_cons_succ, List.set_cons_zero]; exact rfl))
    | (apply wpT1_assign; exact rfl; exact rfl; (simp only [List.set_cons_succ, List.set_cons_zero]; exact rfl))
    | (apply wpT1_pick; exact rfl; exact rfl; exact rfl; (simp only [List.set_cons_succ, List.set_cons_zero]; exact rfl))
    | (apply wpT1_call Try.call5; exact rfl; exact rfl; (intro w hC; (first | exact tame_below (put_yes _ _ _ _ _ (by omega) (by omega)) hC | exact tame_below (put_no _ _ _ _ _ (by omega) (by omega) (by omega)) hC)); (simp only [List.set_cons_succ, List.set_cons_zero]; exact rfl))
    | (apply wpT1_call Try.call6; exact rfl; exact rfl; (intro w hC; (first | exact tame_below (putSeg_yes _ _ _ _ _ (by omega) (by omega)) hC | exact tame_below (putSeg_no _ _ _ _ _ (by omega) (by omega) (by omega)) hC)); (simp only [List.set_cons_succ, List.set_cons_zero]; exact rfl))
    | (apply wpT1_pure; exact rfl; intro K hK; go_simp; refine hK _ ?_; clear hK K; simp only [List.set_cons_succ, List.set_cons_zero]))
  refine wpG_pair hR (i := 8) (j := 9) (by kernel_rfl) rfl rfl zRegs zRegs (by decide) (by decide) (by kernel_rfl) (by kernel_rfl) (List.Sublist.refl _) ?_
  clear hR; intro gx gy w hR; simp only [List.set_cons_succ, List.set_cons_zero]
  apply wpG_put hR tRegs (i := 10) (by kernel_rfl) rfl
  · exact rfl
  · exact rfl
  · (focus (repeat (first | apply List.Mem.head | apply List.Mem.tail)))
  · apply put_regs
  · exact rfl
  · simp [encRegs]
  · apply one_regs
  · (focus (repeat (first | apply Upd.head | apply Upd.tail)))
  · (focus (repeat (first | exact List.Sublist.slnil | apply List.Sublist.cons_cons | apply List.Sublist.cons)))
  clear hR; intro w hR
  apply wpG_put hR tRegs (i := 11) (by kernel_rfl) rfl
  · exact rfl
  · exact rfl
  · (focus (repeat (first | apply List.Mem.head | apply List.Mem.tail)))
  · apply put_regs
  · exact rfl
  · simp [encRegs]
  · apply one_regs
  · (focus (repeat (first | apply Upd.head | apply Upd.tail)))
  · (focus (repeat (first | exact List.Sublist.slnil | apply List.Sublist.cons_cons | apply List.Sublist.cons)))
  clear hR; intro w hR
  refine wpG_end hR (by kernel_rfl) ?_
  clear hR; intro w hR
  go_wp2_with (first
    | (apply wpList_box hR; exact rfl; exact rfl; clear hR; intro g w hR; simp only [List.set_cons_succ, List.set_cons_zero])
    | (apply wpList_make hR zRegs; exact rfl; clear hR; intro g w hR; simp only [List.set_cons_succ, List.set_cons_zero])
    | (apply wpList_make hR zVal; exact rfl; clear hR; intro g w hR; simp only [List.set_cons_succ, List.set_cons_zero])
    | (apply wpList_part hR tRegs; exact rfl; exact rfl; (focus (repeat (first | apply List.Mem.head | apply List.Mem.tail))); apply ext_regs; exact rfl; (simp only [List.set_cons_succ, List.set_cons_zero]; exact rfl))
    | (apply wpList_part hR tVal; exact rfl; exact rfl; (focus (repeat (first | apply List.Mem.head | apply List.Mem.tail))); (first | apply ext_val | (apply ext_g; omega) | (apply ext_s; omega)); exact rfl; (simp only [List.set_cons_succ, List.set_cons_zero]; exact rfl))
    | (apply wpList_one hR tWord; exact rfl; exact rfl; (focus (repeat (first | apply List.Mem.head | apply List.Mem.tail))); exact rfl; (simp only [List.set_cons_succ, List.set_cons_zero]; exact rfl))
    | (apply wpList_one hR tBool; exact rfl; exact rfl; (focus (repeat (first | apply List.Mem.head | apply List.Mem.tail))); exact rfl; (simp only [List.set_cons_succ, List.set_cons_zero]; exact rfl))
    | (apply wpList_put hR tRegs; exact rfl; exact rfl; exact rfl; (focus (repeat (first | apply List.Mem.head | apply List.Mem.tail))); apply put_regs; exact rfl; simp [encRegs]; apply one_regs; (focus (repeat (first | apply Upd.head | apply Upd.tail))); clear hR; intro w hR)
    | (apply wpList_put hR tVal; exact rfl; exact rfl; exact rfl; (focus (repeat (first | apply List.Mem.head | apply List.Mem.tail))); (first | apply put_val | (apply put_g; omega) | (apply put_s; omega)); exact rfl; (simp [encVal, encRegs] <;> omega); apply one_val; (focus (repeat (first | apply Upd.head | apply Upd.tail))); clear hR; intro w hR)
    | (apply wpList_built; exact rfl; exact rfl; (first | exact bVal0 | exact bVal1 _); (simp only [List.set_cons_succ, List.set_cons_zero]; exact rfl)))
  refine wp_region_rows hR [0, 1] 4 (by kernel_rfl) (by kernel_rfl) (by kernel_rfl) rfl ?_
  clear hR; intro hR
  repeat (refine wpT_step rfl ?_; first
    | (apply wpT1_part tRegs; exact rfl; exact rfl; (focus (repeat (first | apply List.Mem.head | apply List.Mem.tail))); apply ext_regs; exact rfl; (simp only [List.set_cons_succ, List.set_cons_zero]; exact rfl))
    | (apply wpT1_part tVal; exact rfl; exact rfl; (focus (repeat (first | apply List.Mem.head | apply List.Mem.tail))); (first | apply ext_val | (apply ext_g; omega) | (apply ext_s; omega)); exact rfl; (simp only [List.set_cons_succ, List.set_cons_zero]; exact rfl))
    | (apply wpT1_one tWord; exact rfl; exact rfl; (focus (repeat (first | apply List.Mem.head | apply List.Mem.tail))); exact rfl; (simp only [List.set_cons_succ, List.set_cons_zero]; exact rfl))
    | (apply wpT1_one tBool; exact rfl; exact rfl; (focus (repeat (first | apply List.Mem.head | apply List.Mem.tail))); exact rfl; (simp only [List.set_cons_succ, List.set_cons_zero]; exact rfl)))
  refine wpG_pair hR (i := 2) (j := 3) (by kernel_rfl) rfl rfl zRegs zRegs (by decide) (by decide) (by kernel_rfl) (by kernel_rfl) (List.Sublist.refl _) ?_
  clear hR; intro gz gu w hR; simp only [List.set_cons_succ, List.set_cons_zero]
  apply wpG_put hR tRegs (i := 4) (by kernel_rfl) rfl
  · exact rfl
  · exact rfl
  · (focus (repeat (first | apply List.Mem.head | apply List.Mem.tail)))
  · apply put_regs
  · exact rfl
  · simp [encRegs]
  · apply one_regs
  · (focus (repeat (first | apply Upd.head | apply Upd.tail)))
  · (focus (repeat (first | exact List.Sublist.slnil | apply List.Sublist.cons_cons | apply List.Sublist.cons)))
  clear hR; intro w hR
  apply wpG_put hR tRegs (i := 5) (by kernel_rfl) rfl
  · exact rfl
  · exact rfl
  · (focus (repeat (first | apply List.Mem.head | apply List.Mem.tail)))
  · apply put_regs
  · exact rfl
  · simp [encRegs]
  · apply one_regs
  · (focus (repeat (first | apply Upd.head | apply Upd.tail)))
  · (focus (repeat (first | exact List.Sublist.slnil | apply List.Sublist.cons_cons | apply List.Sublist.cons)))
  clear hR; intro w hR
  refine wpG_end hR (by kernel_rfl) ?_
  clear hR; intro w hR
  rcases hk with hk | hk | hk | hk
  all_goals
    go_wp2_with (first
    | (apply wpList_box hR; exact rfl; exact rfl; clear hR; intro g w hR; simp only [List.set_cons_succ, List.set_cons_zero])
    | (apply wpList_make hR zRegs; exact rfl; clear hR; intro g w hR; simp only [List.set_cons_succ, List.set_cons_zero])
    | (apply wpList_make hR zVal; exact rfl; clear hR; intro g w hR; simp only [List.set_cons_succ, List.set_cons_zero])
    | (apply wpList_part hR tRegs; exact rfl; exact rfl; (focus (repeat (first | apply List.Mem.head | apply List.Mem.tail))); apply ext_regs; exact rfl; (simp only [List.set_cons_succ, List.set_cons_zero]; exact rfl))
    | (apply wpList_part hR tVal; exact rfl; exact rfl; (focus (repeat (first | apply List.Mem.head | apply List.Mem.tail))); (first | apply ext_val | (apply ext_g; omega) | (apply ext_s; omega)); exact rfl; (simp only [List.set_cons_succ, List.set_cons_zero]; exact rfl))
    | (apply wpList_one hR tWord; exact rfl; exact rfl; (focus (repeat (first | apply List.Mem.head | apply List.Mem.tail))); exact rfl; (simp only [List.set_cons_succ, List.set_cons_zero]; exact rfl))
    | (apply wpList_one hR tBool; exact rfl; exact rfl; (focus (repeat (first | apply List.Mem.head | apply List.Mem.tail))); exact rfl; (simp only [List.set_cons_succ, List.set_cons_zero]; exact rfl))
    | (apply wpList_put hR tRegs; exact rfl; exact rfl; exact rfl; (focus (repeat (first | apply List.Mem.head | apply List.Mem.tail))); apply put_regs; exact rfl; simp [encRegs]; apply one_regs; (focus (repeat (first | apply Upd.head | apply Upd.tail))); clear hR; intro w hR)
    | (apply wpList_put hR tVal; exact rfl; exact rfl; exact rfl; (focus (repeat (first | apply List.Mem.head | apply List.Mem.tail))); (first | apply put_val | (apply put_g; omega) | (apply put_s; omega)); exact rfl; (simp [encVal, encRegs] <;> omega); apply one_val; (focus (repeat (first | apply Upd.head | apply Upd.tail))); clear hR; intro w hR)
    | (apply wpList_built; exact rfl; exact rfl; (first | exact bVal0 | exact bVal1 _); (simp only [List.set_cons_succ, List.set_cons_zero]; exact rfl)))
    refine wp_region_rows hR [0, 1, 2, 3, 4, 5, 6, 7, 8, 9, 10, 11, 12, 13, 14, 15, 16, 17, 18, 19, 20, 21, 22, 23, 24, 25] 0 (by kernel_rfl) (by kernel_rfl) (by kernel_rfl) rfl ?_
    clear hR; intro hR
    repeat (refine wpT_step rfl ?_; first
    | (apply wpT1_part tRegs; exact rfl; exact rfl; (focus (repeat (first | apply List.Mem.head | apply List.Mem.tail))); apply ext_regs; exact rfl; (simp only [List.set_cons_succ, List.set_cons_zero]; exact rfl))
    | (apply wpT1_part tVal; exact rfl; exact rfl; (focus (repeat (first | apply List.Mem.head | apply List.Mem.tail))); (first | apply ext_val | (apply ext_g; omega) | (apply ext_s; omega)); exact rfl; (simp only [List.set_cons_succ, List.set_cons_zero]; exact rfl))
    | (apply wpT1_one tWord; exact rfl; exact rfl; (focus (repeat (first | apply List.Mem.head | apply List.Mem.tail))); exact rfl; (simp only [List.set_cons_succ, List.set_cons_zero]; exact rfl))
    | (apply wpT1_one tBool; exact rfl; exact rfl; (focus (repeat (first | apply List.Mem.head | apply List.Mem.tail))); exact rfl; (simp only [List.set_cons_succ, List.set_cons_zero]; exact rfl))
    | (apply wpT1_move; exact rfl; exact rfl; (simp only [List.set_cons_succ, List.set_cons_zero]; exact rfl))
    | (apply wpT1_assign; exact rfl; exact rfl; (simp only [List.set_cons_succ, List.set_cons_zero]; exact rfl))
    | (apply wpT1_pick; exact rfl; exact rfl; exact rfl; (simp only [List.set_cons_succ, List.set_cons_zero]; exact rfl))
    | (apply wpT1_same Try.eqGuardType28; exact rfl; exact rfl; exact rfl; exact fit_regs _; (simp only [List.set_cons_succ, List.set_cons_zero]; exact rfl))
    | (apply wpT1_same Try.eqGuardType24; exact rfl; exact rfl; exact rfl; exact fit_val _ _; (simp only [List.set_cons_succ, List.set_cons_zero]; exact rfl))
    | (apply wpT1_call Try.call7; exact rfl; exact rfl; (intro w hC; exact tame_below (awake03_any _) hC); (simp only [List.set_cons_succ, List.set_cons_zero]; exact rfl))
    | (apply wpT1_call Try.call8; exact rfl; exact rfl; (intro w hC; (first | exact tame_below (get_yes _ _ _ (by omega) (by omega)) hC | exact tame_below (get_no _ _ _ (by omega) (by omega) (by omega)) hC)); (simp only [List.set_cons_succ, List.set_cons_zero]; exact rfl))
    | (apply wpT1_call Try.call9; exact rfl; exact rfl; (intro w hC; (first | exact tame_below (seg_yes _ _ _ (by omega) (by omega)) hC | exact tame_below (seg_no _ _ _ (by omega) (by omega) (by omega)) hC)); (simp only [List.set_cons_succ, List.set_cons_zero]; exact rfl))
    | (apply wpT1_pure; exact rfl; intro K hK; go_simp; refine hK _ ?_; clear hK K; simp only [List.set_cons_succ, List.set_cons_zero]))
    refine wpG_end hR (by kernel_rfl) ?_
    clear hR; intro w hR
    go_wp2
    go_ret
    exact ⟨rfl, hR.below⟩
set_option maxHeartbeats 4000000 in
theorem partB (r : RegsZ) (n k v : Int) (t : Bool) (bn : -9223372036854775808 ≤ n ∧ n ≤ 9223372036854775807) (bk : -9223372036854775808 ≤ k ∧ k ≤ 9223372036854775807) (w : World)
    (hn : 4 ≤ n ∧ n < 8) (hk : (0 ≤ k ∧ k < 4) ∨ (4 ≤ k ∧ k < 8) ∨ k < 0 ∨ 8 ≤ k) :
    Calls Try.prog 3 #[.agg (encRegs r), .agg (encPair n k), .agg (encVal v t)] w fun e w' => e = .returned (.bool true) ∧ Below w.heap.size w w' := by
  have hR := Own.start w
  go_enter Try.func3, Try.ntmps3
  go_wp2_with (first
    | (apply wpList_box hR; exact rfl; exact rfl; clear hR; intro g w hR; simp only [List.set_cons_succ, List.set_cons_zero])
    | (apply wpList_make hR zRegs; exact rfl; clear hR; intro g w hR; simp only [List.set_cons_succ, List.set_cons_zero])
    | (apply wpList_make hR zVal; exact rfl; clear hR; intro g w hR; simp only [List.set_cons_succ, List.set_cons_zero])
    | (apply wpList_part hR tRegs; exact rfl; exact rfl; (focus (repeat (first | apply List.Mem.head | apply List.Mem.tail))); apply ext_regs; exact rfl; (simp only [List.set_cons_succ, List.set_cons_zero]; exact rfl))
    | (apply wpList_part hR tVal; exact rfl; exact rfl; (focus (repeat (first | apply List.Mem.head | apply List.Mem.tail))); (first | apply ext_val | (apply ext_g; omega) | (apply ext_s; omega)); exact rfl; (simp only [List.set_cons_succ, List.set_cons_zero]; exact rfl))
    | (apply wpList_one hR tWord; exact rfl; exact rfl; (focus (repeat (first | apply List.Mem.head | apply List.Mem.tail))); exact rfl; (simp only [List.set_cons_succ, List.set_cons_zero]; exact rfl))
    | (apply wpList_one hR tBool; exact rfl; exact rfl; (focus (repeat (first | apply List.Mem.head | apply List.Mem.tail))); exact rfl; (simp only [List.set_cons_succ, List.set_cons_zero]; exact rfl))
    | (apply wpList_put hR tRegs; exact rfl; exact rfl; exact rfl; (focus (repeat (first | apply List.Mem.head | apply List.Mem.tail))); apply put_regs; exact rfl; simp [encRegs]; apply one_regs; (focus (repeat (first | apply Upd.head | apply Upd.tail))); clear hR; intro w hR)
    | (apply wpList_put hR tVal; exact rfl; exact rfl; exact rfl; (focus (repeat (first | apply List.Mem.head | apply List.Mem.tail))); (first | apply put_val | (apply put_g; omega) | (apply put_s; omega)); exact rfl; (simp [encVal, encRegs] <;> omega); apply one_val; (focus (repeat (first | apply Upd.head | apply Upd.tail))); clear hR; intro w hR)
    | (apply wpList_built; exact rfl; exact rfl; (first | exact bVal0 | exact bVal1 _); (simp only [List.set_cons_succ, List.set_cons_zero]; exact rfl)))
  refine wp_region_rows hR [0, 1, 2, 3, 4, 5] 0 (by kernel_rfl) (by kernel_rfl) (by kernel_rfl) rfl ?_
  clear hR; intro hR
  repeat (refine wpT_step rfl ?_; first
    | (apply wpT1_one tInt; exact rfl; exact rfl; (focus (repeat (first | apply List.Mem.head | apply List.Mem.tail))); exact rfl; (simp only [List.set_cons_succ, List.set_cons_zero]; exact rfl))
    | (apply wpT1_move; exact rfl; exact rfl; (simp only [List.set_cons_succ, List.set_cons_zero]; exact rfl))
    | (apply wpT1_assign; exact rfl; exact rfl; (simp only [List.set_cons_succ, List.set_cons_zero]; exact rfl))
    | (apply wpT1_pick; exact rfl; exact rfl; exact rfl; (simp only [List.set_cons_succ, List.set_cons_zero]; exact rfl))
    | (apply wpT1_pure; exact rfl; intro K hK; go_simp; refine hK _ ?_; clear hK K; simp only [List.set_cons_succ, List.set_cons_zero]))
  refine wpG_end hR (by kernel_rfl) ?_
  clear hR; intro w hR
  go_wp2_with (first
    | (apply wpList_box hR; exact rfl; exact rfl; clear hR; intro g w hR; simp only [List.set_cons_succ, List.set_cons_zero])
    | (apply wpList_make hR zRegs; exact rfl; clear hR; intro g w hR; simp only [List.set_cons_succ, List.set_cons_zero])
    | (apply wpList_make hR zVal; exact rfl; clear hR; intro g w hR; simp only [List.set_cons_succ, List.set_cons_zero])
    | (apply wpList_part hR tRegs; exact rfl; exact rfl; (focus (repeat (first | apply List.Mem.head | apply List.Mem.tail))); apply ext_regs; exact rfl; (simp only [List.set_cons_succ, List.set_cons_zero]; exact rfl))
    | (apply wpList_part hR tVal; exact rfl; exact rfl; (focus (repeat (first | apply List.Mem.head | apply List.Mem.tail))); (first | apply ext_val | (apply ext_g; omega) | (apply ext_s; omega)); exact rfl; (simp only [List.set_cons_succ, List.set_cons_zero]; exact rfl))
    | (apply wpList_one hR tWord; exact rfl; exact rfl; (focus (repeat (first | apply List.Mem.head | apply List.Mem.tail))); exact rfl; (simp only [List.set_cons_succ, List.set_cons_zero]; exact rfl))
    | (apply wpList_one hR tBool; exact rfl; exact rfl; (focus (repeat (first | apply List.Mem.head | apply List.Mem.tail))); exact rfl; (simp only [List.set_cons_succ, List.set_cons_zero]; exact rfl))
    | (apply wpList_put hR tRegs; exact rfl; exact rfl; exact rfl; (focus (repeat (first | apply List.Mem.head | apply List.Mem.tail))); apply put_regs; exact rfl; simp [encRegs]; apply one_regs; (focus (repeat (first | apply Upd.head | apply Upd.tail))); clear hR; intro w hR)
    | (apply wpList_put hR tVal; exact rfl; exact rfl; exact rfl; (focus (repeat (first | apply List.Mem.head | apply List.Mem.tail))); (first | apply put_val | (apply put_g; omega) | (apply put_s; omega)); exact rfl; (simp [encVal, encRegs] <;> omega); apply one_val; (focus (repeat (first | apply Upd.head | apply Upd.tail))); clear hR; intro w hR)
    | (apply wpList_built; exact rfl; exact rfl; (first | exact bVal0 | exact bVal1 _); (simp only [List.set_cons_succ, List.set_cons_zero]; exact rfl)))
  refine wp_region_rows hR [0, 1, 2, 3, 4, 5, 6, 7] 4 (by kernel_rfl) (by kernel_rfl) (by kernel_rfl) rfl ?_
  clear hR; intro hR
  repeat (refine wpT_step rfl ?_; first
    | (apply wpT1_part tRegs; exact rfl; exact rfl; (focus (repeat (first | apply List.Mem.head | apply List.Mem.tail))); apply ext_regs; exact rfl; (simp only [List.set_cons_succ, List.set_cons_zero]; exact rfl))
    | (apply wpT1_part tVal; exact rfl; exact rfl; (focus (repeat (first | apply List.Mem.head | apply List.Mem.tail))); (first | apply ext_val | (apply ext_g; omega) | (apply ext_s; omega)); exact rfl; (simp only [List.set_cons_succ, List.set_cons_zero]; exact rfl))
    | (apply wpT1_one tWord; exact rfl; exact rfl; (focus (repeat (first | apply List.Mem.head | apply List.Mem.tail))); exact rfl; (simp only [List.set_cons_succ, List.set_cons_zero]; exact rfl))
    | (apply wpT1_one tBool; exact rfl; exact rfl; (focus (repeat (first | apply List.Mem.head | apply List.Mem.tail))); exact rfl; (simp only [List.set_cons_succ, List.set_cons_zero]; exact rfl))
    | (apply wpT1_move; exact rfl; exact rfl; (simp only [List.set_cons_succ, List.set_cons_zero]; exact rfl))
    | (apply wpT1_assign; exact rfl; exact rfl; (simp only [List.set_cons_succ, List.set_cons_zero]; exact rfl))
    | (apply wpT1_pick; exact rfl; exact rfl; exact rfl; (simp only [List.set_cons_succ, List.set_cons_zero]; exact rfl))
    | (apply wpT1_call Try.call5; exact rfl; exact rfl; (intro w hC; (first | exact tame_below (put_yes _ _ _ _ _ (by omega) (by omega)) hC | exact tame_below (put_no _ _ _ _ _ (by omega) (by omega) (by omega)) hC)); (simp only [List.set_cons_succ, List.set_cons_zero]; exact rfl))
    | (apply wpT1_call Try.call6; exact rfl; exact rfl; (intro w hC; (first | exact tame_below (putSeg_yes _ _ _ _ _ (by omega) (by omega)) hC | exact tame_below (putSeg_no _ _ _ _ _ (by omega) (by omega) (by omega)) hC)); (simp only [List.set_cons_succ, List.set_cons_zero]; exact rfl))
    | (apply wpT1_pure; exact rfl; intro K hK; go_simp; refine hK _ ?_; clear hK K; simp only [List.set_cons_succ, List.set_cons_zero]))
  refine wpG_pair hR (i := 8) (j := 9) (by kernel_rfl) rfl rfl zRegs zRegs (by decide) (by decide) (by kernel_rfl) (by kernel_rfl) (List.Sublist.refl _) ?_
  clear hR; intro gx gy w hR; simp only [List.set_cons_succ, List.set_cons_zero]
  apply wpG_put hR tRegs (i := 10) (by kernel_rfl) rfl
  · exact rfl
  · exact rfl
  · (focus (repeat (first | apply List.Mem.head | apply List.Mem.tail)))
  · apply put_regs
  · exact rfl
  · simp [encRegs]
  · apply one_regs
  · (focus (repeat (first | apply Upd.head | apply Upd.tail)))
  · (focus (repeat (first | exact List.Sublist.slnil | apply List.Sublist.cons_cons | apply List.Sublist.cons)))
  clear hR; intro w hR
  apply wpG_put hR tRegs (i := 11) (by kernel_rfl) rfl
  · exact rfl
  · exact rfl
  · (focus (repeat (first | apply List.Mem.head | apply List.Mem.tail)))
  · apply put_regs
  · exact rfl
  · simp [encRegs]
  · apply one_regs
  · (focus (repeat (first | apply Upd.head | apply Upd.tail)))
  · (focus (repeat (first | exact List.Sublist.slnil | apply List.Sublist.cons_cons | apply List.Sublist.cons)))
  clear hR; intro w hR
  refine wpG_end hR (by kernel_rfl) ?_
  clear hR; intro w hR
  go_wp2_with (first
    | (apply wpList_box hR; exact rfl; exact rfl; clear hR; intro g w hR; simp only [List.set_cons_succ, List.set_cons_zero])
    | (apply wpList_make hR zRegs; exact rfl; clear hR; intro g w hR; simp only [List.set_cons_succ, List.set_cons_zero])
    | (apply wpList_make hR zVal; exact rfl; clear hR; intro g w hR; simp only [List.set_cons_succ, List.set_cons_zero])
    | (apply wpList_part hR tRegs; exact rfl; exact rfl; (focus (repeat (first | apply List.Mem.head | apply List.Mem.tail))); apply ext_regs; exact rfl; (simp only [List.set_cons_succ, List.set_cons_zero]; exact rfl))
    | (apply wpList_part hR tVal; exact rfl; exact rfl; (focus (repeat (first | apply List.Mem.head | apply List.Mem.tail))); (first | apply ext_val | (apply ext_g; omega) | (apply ext_s; omega)); exact rfl; (simp only [List.set_cons_succ, List.set_cons_zero]; exact rfl))
    | (apply wpList_one hR tWord; exact rfl; exact rfl; (focus (repeat (first | apply List.Mem.head | apply List.Mem.tail))); exact rfl; (simp only [List.set_cons_succ, List.set_cons_zero]; exact rfl))
    | (apply wpList_one hR tBool; exact rfl; exact rfl; (focus (repeat (first | apply List.Mem.head | apply List.Mem.tail))); exact rfl; (simp only [List.set_cons_succ, List.set_cons_zero]; exact rfl))
    | (apply wpList_put hR tRegs; exact rfl; exact rfl; exact rfl; (focus (repeat (first | apply List.Mem.head | apply List.Mem.tail))); apply put_regs; exact rfl; simp [encRegs]; apply one_regs; (focus (repeat (first | apply Upd.head | apply Upd.tail))); clear hR; intro w hR)
    | (apply wpList_put hR tVal; exact rfl; exact rfl; exact rfl; (focus (repeat (first | apply List.Mem.head | apply List.Mem.tail))); (first | apply put_val | (apply put_g; omega) | (apply put_s; omega)); exact rfl; (simp [encVal, encRegs] <;> omega); apply one_val; (focus (repeat (first | apply Upd.head | apply Upd.tail))); clear hR; intro w hR)
    | (apply wpList_built; exact rfl; exact rfl; (first | exact bVal0 | exact bVal1 _); (simp only [List.set_cons_succ, List.set_cons_zero]; exact rfl)))
  refine wp_region_rows hR [0, 1] 4 (by kernel_rfl) (by kernel_rfl) (by kernel_rfl) rfl ?_
  clear hR; intro hR
  repeat (refine wpT_step rfl ?_; first
    | (apply wpT1_part tRegs; exact rfl; exact rfl; (focus (repeat (first | apply List.Mem.head | apply List.Mem.tail))); apply ext_regs; exact rfl; (simp only [List.set_cons_succ, List.set_cons_zero]; exact rfl))
    | (apply wpT1_part tVal; exact rfl; exact rfl; (focus (repeat (first | apply List.Mem.head | apply List.Mem.tail))); (first | apply ext_val | (apply ext_g; omega) | (apply ext_s; omega)); exact rfl; (simp only [List.set_cons_succ, List.set_cons_zero]; exact rfl))
    | (apply wpT1_one tWord; exact rfl; exact rfl; (focus (repeat (first | apply List.Mem.head | apply List.Mem.tail))); exact rfl; (simp only [List.set_cons_succ, List.set_cons_zero]; exact rfl))
    | (apply wpT1_one tBool; exact rfl; exact rfl; (focus (repeat (first | apply List.Mem.head | apply List.Mem.tail))); exact rfl; (simp only [List.set_cons_succ, List.set_cons_zero]; exact rfl)))
  refine wpG_pair hR (i := 2) (j := 3) (by kernel_rfl) rfl rfl zRegs zRegs (by decide) (by decide) (by kernel_rfl) (by kernel_rfl) (List.Sublist.refl _) ?_
  clear hR; intro gz gu w hR; simp only [List.set_cons_succ, List.set_cons_zero]
  apply wpG_put hR tRegs (i := 4) (by kernel_rfl) rfl
  · exact rfl
  · exact rfl
  · (focus (repeat (first | apply List.Mem.head | apply List.Mem.tail)))
  · apply put_regs
  · exact rfl
  · simp [encRegs]
  · apply one_regs
  · (focus (repeat (first | apply Upd.head | apply Upd.tail)))
  · (focus (repeat (first | exact List.Sublist.slnil | apply List.Sublist.cons_cons | apply List.Sublist.cons)))
  clear hR; intro w hR
  apply wpG_put hR tRegs (i := 5) (by kernel_rfl) rfl
  · exact rfl
  · exact rfl
  · (focus (repeat (first | apply List.Mem.head | apply List.Mem.tail)))
  · apply put_regs
  · exact rfl
  · simp [encRegs]
  · apply one_regs
  · (focus (repeat (first | apply Upd.head | apply Upd.tail)))
  · (focus (repeat (first | exact List.Sublist.slnil | apply List.Sublist.cons_cons | apply List.Sublist.cons)))
  clear hR; intro w hR
  refine wpG_end hR (by kernel_rfl) ?_
  clear hR; intro w hR
  rcases hk with hk | hk | hk | hk
  all_goals
    go_wp2_with (first
    | (apply wpList_box hR; exact rfl; exact rfl; clear hR; intro g w hR; simp only [List.set_cons_succ, List.set_cons_zero])
    | (apply wpList_make hR zRegs; exact rfl; clear hR; intro g w hR; simp only [List.set_cons_succ, List.set_cons_zero])
    | (apply wpList_make hR zVal; exact rfl; clear hR; intro g w hR; simp only [List.set_cons_succ, List.set_cons_zero])
    | (apply wpList_part hR tRegs; exact rfl; exact rfl; (focus (repeat (first | apply List.Mem.head | apply List.Mem.tail))); apply ext_regs; exact rfl; (simp only [List.set_cons_succ, List.set_cons_zero]; exact rfl))
    | (apply wpList_part hR tVal; exact rfl; exact rfl; (focus (repeat (first | apply List.Mem.head | apply List.Mem.tail))); (first | apply ext_val | (apply ext_g; omega) | (apply ext_s; omega)); exact rfl; (simp only [List.set_cons_succ, List.set_cons_zero]; exact rfl))
    | (apply wpList_one hR tWord; exact rfl; exact rfl; (focus (repeat (first | apply List.Mem.head | apply List.Mem.tail))); exact rfl; (simp only [List.set_cons_succ, List.set_cons_zero]; exact rfl))
    | (apply wpList_one hR tBool; exact rfl; exact rfl; (focus (repeat (first | apply List.Mem.head | apply List.Mem.tail))); exact rfl; (simp only [List.set_cons_succ, List.set_cons_zero]; exact rfl))
    | (apply wpList_put hR tRegs; exact rfl; exact rfl; exact rfl; (focus (repeat (first | apply List.Mem.head | apply List.Mem.tail))); apply put_regs; exact rfl; simp [encRegs]; apply one_regs; (focus (repeat (first | apply Upd.head | apply Upd.tail))); clear hR; intro w hR)
    | (apply wpList_put hR tVal; exact rfl; exact rfl; exact rfl; (focus (repeat (first | apply List.Mem.head | apply List.Mem.tail))); (first | apply put_val | (apply put_g; omega) | (apply put_s; omega)); exact rfl; (simp [encVal, encRegs] <;> omega); apply one_val; (focus (repeat (first | apply Upd.head | apply Upd.tail))); clear hR; intro w hR)
    | (apply wpList_built; exact rfl; exact rfl; (first | exact bVal0 | exact bVal1 _); (simp only [List.set_cons_succ, List.set_cons_zero]; exact rfl)))
    refine wp_region_rows hR [0, 1, 2, 3, 4, 5, 6, 7, 8, 9, 10, 11, 12, 13, 14, 15, 16, 17, 18, 19, 20, 21, 22, 23, 24, 25] 0 (by kernel_rfl) (by kernel_rfl) (by kernel_rfl) rfl ?_
    clear hR; intro hR
    repeat (refine wpT_step rfl ?_; first
    | (apply wpT1_part tRegs; exact rfl; exact rfl; (focus (repeat (first | apply List.Mem.head | apply List.Mem.tail))); apply ext_regs; exact rfl; (simp only [List.set_cons_succ, List.set_cons_zero]; exact rfl))
    | (apply wpT1_part tVal; exact rfl; exact rfl; (focus (repeat (first | apply List.Mem.head | apply List.Mem.tail))); (first | apply ext_val | (apply ext_g; omega) | (apply ext_s; omega)); exact rfl; (simp only [List.set_cons_succ, List.set_cons_zero]; exact rfl))
    | (apply wpT1_one tWord; exact rfl; exact rfl; (focus (repeat (first | apply List.Mem.head | apply List.Mem.tail))); exact rfl; (simp only [List.set_cons_succ, List.set_cons_zero]; exact rfl))
    | (apply wpT1_one tBool; exact rfl; exact rfl; (focus (repeat (first | apply List.Mem.head | apply List.Mem.tail))); exact rfl; (simp only [List.set_cons_succ, List.set_cons_zero]; exact rfl))
    | (apply wpT1_move; exact rfl; exact rfl; (simp only [List.set_cons_succ, List.set_cons_zero]; exact rfl))
    | (apply wpT1_assign; exact rfl; exact rfl; (simp only [List.set_cons_succ, List.set_cons_zero]; exact rfl))
    | (apply wpT1_pick; exact rfl; exact rfl; exact rfl; (simp only [List.set_cons_succ, List.set_cons_zero]; exact rfl))
    | (apply wpT1_same Try.eqGuardType28; exact rfl; exact rfl; exact rfl; exact fit_regs _; (simp only [List.set_cons_succ, List.set_cons_zero]; exact rfl))
    | (apply wpT1_same Try.eqGuardType24; exact rfl; exact rfl; exact rfl; exact fit_val _ _; (simp only [List.set_cons_succ, List.set_cons_zero]; exact rfl))
    | (apply wpT1_call Try.call7; exact rfl; exact rfl; (intro w hC; exact tame_below (awake03_any _) hC); (simp only [List.set_cons_succ, List.set_cons_zero]; exact rfl))
    | (apply wpT1_call Try.call8; exact rfl; exact rfl; (intro w hC; (first | exact tame_below (get_yes _ _ _ (by omega) (by omega)) hC | exact tame_below (get_no _ _ _ (by omega) (by omega) (by omega)) hC)); (simp only [List.set_cons_succ, List.set_cons_zero]; exact rfl))
    | (apply wpT1_call Try.call9; exact rfl; exact rfl; (intro w hC; (first | exact tame_below (seg_yes _ _ _ (by omega) (by omega)) hC | exact tame_below (seg_no _ _ _ (by omega) (by omega) (by omega)) hC)); (simp only [List.set_cons_succ, List.set_cons_zero]; exact rfl))
    | (apply wpT1_pure; exact rfl; intro K hK; go_simp; refine hK _ ?_; clear hK K; simp only [List.set_cons_succ, List.set_cons_zero]))
    refine wpG_end hR (by kernel_rfl) ?_
    clear hR; intro w hR
    go_wp2
    go_ret
    exact ⟨rfl, hR.below⟩
set_option maxHeartbeats 4000000 in
theorem partC (r : RegsZ) (n k v : Int) (t : Bool) (bn : -9223372036854775808 ≤ n ∧ n ≤ 9223372036854775807) (bk : -9223372036854775808 ≤ k ∧ k ≤ 9223372036854775807) (w : World)
    (hn : n < 0) (hk : (0 ≤ k ∧ k < 4) ∨ (4 ≤ k ∧ k < 8) ∨ k < 0 ∨ 8 ≤ k) :
    Calls Try.prog 3 #[.agg (encRegs r), .agg (encPair n k), .agg (encVal v t)] w fun e w' => e = .returned (.bool true) ∧ Below w.heap.size w w' := by
  have hR := Own.start w
  go_enter Try.func3, Try.ntmps3
  go_wp2_with (first
    | (apply wpList_box hR; exact rfl; exact rfl; clear hR; intro g w hR; simp only [List.set_cons_succ, List.set_cons_zero])
    | (apply wpList_make hR zRegs; exact rfl; clear hR; intro g w hR; simp only [List.set_cons_succ, List.set_cons_zero])
    | (apply wpList_make hR zVal; exact rfl; clear hR; intro g w hR; simp only [List.set_cons_succ, List.set_cons_zero])
    | (apply wpList_part hR tRegs; exact rfl; exact rfl; (focus (repeat (first | apply List.Mem.head | apply List.Mem.tail))); apply ext_regs; exact rfl; (simp only [List.set_cons_succ, List.set_cons_zero]; exact rfl))
    | (apply wpList_part hR tVal; exact rfl; exact rfl; (focus (repeat (first | apply List.Mem.head | apply List.Mem.tail))); (first | apply ext_val | (apply ext_g; omega) | (apply ext_s; omega)); exact rfl; (simp only [List.set_cons_succ, List.set_cons_zero]; exact rfl))
    | (apply wpList_one hR tWord; exact rfl; exact rfl; (focus (repeat (first | apply List.Mem.head | apply List.Mem.tail))); exact rfl; (simp only [List.set_cons_succ, List.set_cons_zero]; exact rfl))
    | (apply wpList_one hR tBool; exact rfl; exact rfl; (focus (repeat (first | apply List.Mem.head | apply List.Mem.tail))); exact rfl; (simp only [List.set_cons_succ, List.set_cons_zero]; exact rfl))
    | (apply wpList_put hR tRegs; exact rfl; exact rfl; exact rfl; (focus (repeat (first | apply List.Mem.head | apply List.Mem.tail))); apply put_regs; exact rfl; simp [encRegs]; apply one_regs; (focus (repeat (first | apply Upd.head | apply Upd.tail))); clear hR; intro w hR)
    | (apply wpList_put hR tVal; exact rfl; exact rfl; exact rfl; (focus (repeat (first | apply List.Mem.head | apply List.Mem.tail))); (first | apply put_val | (apply put_g; omega) | (apply put_s; omega)); exact rfl; (simp [encVal, encRegs] <;> omega); apply one_val; (focus (repeat (first | apply Upd.head | apply Upd.tail))); clear hR; intro w hR)
    | (apply wpList_built; exact rfl; exact rfl; (first | exact bVal0 | exact bVal1 _); (simp only [List.set_cons_succ, List.set_cons_zero]; exact rfl)))
  refine wp_region_rows hR [0, 1, 2, 3, 4, 5] 0 (by kernel_rfl) (by kernel_rfl) (by kernel_rfl) rfl ?_
  clear hR; intro hR
  repeat (refine wpT_step rfl ?_; first
    | (apply wpT1_one tInt; exact rfl; exact rfl; (focus (repeat (first | apply List.Mem.head | apply List.Mem.tail))); exact rfl; (simp only [List.set_cons_succ, List.set_cons_zero]; exact rfl))
    | (apply wpT1_move; exact rfl; exact rfl; (simp only [List.set_cons_succ, List.set_cons_zero]; exact rfl))
    | (apply wpT1_assign; exact rfl; exact rfl; (simp only [List.set_cons_succ, List.set_cons_zero]; exact rfl))
    | (apply wpT1_pick; exact rfl; exact rfl; exact rfl; (simp only [List.set_cons_succ, List.set_cons_zero]; exact rfl))
    | (apply wpT1_pure; exact rfl; intro K hK; go_simp; refine hK _ ?_; clear hK K; simp only [List.set_cons_succ, List.set_cons_zero]))
  refine wpG_end hR (by kernel_rfl) ?_
  clear hR; intro w hR
  go_wp2_with (first
    | (apply wpList_box hR; exact rfl; exact rfl; clear hR; intro g w hR; simp only [List.set_cons_succ, List.set_cons_zero])
    | (apply wpList_make hR zRegs; exact rfl; clear hR; intro g w hR; simp only [List.set_cons_succ, List.set_cons_zero])
    | (apply wpList_make hR zVal; exact rfl; clear hR; intro g w hR; simp only [List.set_cons_succ, List.set_cons_zero])
    | (apply wpList_part hR tRegs; exact rfl; exact rfl; (focus (repeat (first | apply List.Mem.head | apply List.Mem.tail))); apply ext_regs; exact rfl; (simp only [List.set_cons_succ, List.set_cons_zero]; exact rfl))
    | (apply wpList_part hR tVal; exact rfl; exact rfl; (focus (repeat (first | apply List.Mem.head | apply List.Mem.tail))); (first | apply ext_val | (apply ext_g; omega) | (apply ext_s; omega)); exact rfl; (simp only [List.set_cons_succ, List.set_cons_zero]; exact rfl))
    | (apply wpList_one hR tWord; exact rfl; exact rfl; (focus (repeat (first | apply List.Mem.head | apply List.Mem.tail))); exact rfl; (simp only [List.set_cons_succ, List.set_cons_zero]; exact rfl))
    | (apply wpList_one hR tBool; exact rfl; exact rfl; (focus (repeat (first | apply List.Mem.head | apply List.Mem.tail))); exact rfl; (simp only [List.set_cons_succ, List.set_cons_zero]; exact rfl))
    | (apply wpList_put hR tRegs; exact rfl; exact rfl; exact rfl; (focus (repeat (first | apply List.Mem.head | apply List.Mem.tail))); apply put_regs; exact rfl; simp [encRegs]; apply one_regs; (focus (repeat (first | apply Upd.head | apply Upd.tail))); clear hR; intro w hR)
    | (apply wpList_put hR tVal; exact rfl; exact rfl; exact rfl; (focus (repeat (first | apply List.Mem.head | apply List.Mem.tail))); (first | apply put_val | (apply put_g; omega) | (apply put_s; omega)); exact rfl; (simp [encVal, encRegs] <;> omega); apply one_val; (focus (repeat (first | apply Upd.head | apply Upd.tail))); clear hR; intro w hR)
    | (apply wpList_built; exact rfl; exact rfl; (first | exact bVal0 | exact bVal1 _); (simp only [List.set_cons_succ, List.set_cons_zero]; exact rfl)))
  refine wp_region_rows hR [0, 1, 2, 3, 4, 5, 6, 7] 4 (by kernel_rfl) (by kernel_rfl) (by kernel_rfl) rfl ?_
  clear hR; intro hR
  repeat (refine wpT_step rfl ?_; first
    | (apply wpT1_part tRegs; exact rfl; exact rfl; (focus (repeat (first | apply List.Mem.head | apply List.Mem.tail))); apply ext_regs; exact rfl; (simp only [List.set_cons_succ, List.set_cons_zero]; exact rfl))
    | (apply wpT1_part tVal; exact rfl; exact rfl; (focus (repeat (first | apply List.Mem.head | apply List.Mem.tail))); (first | apply ext_val | (apply ext_g; omega) | (apply ext_s; omega)); exact rfl; (simp only [List.set_cons_succ, List.set_cons_zero]; exact rfl))
    | (apply wpT1_one tWord; exact rfl; exact rfl; (focus (repeat (first | apply List.Mem.head | apply List.Mem.tail))); exact rfl; (simp only [List.set_cons_succ, List.set_cons_zero]; exact rfl))
    | (apply wpT1_one tBool; exact rfl; exact rfl; (focus (repeat (first | apply List.Mem.head | apply List.Mem.tail))); exact rfl; (simp only [List.set_cons_succ, List.set_cons_zero]; exact rfl))
    | (apply wpT1_move; exact rfl; exact rfl; (simp only [List.set_cons_succ, List.set_cons_zero]; exact rfl))
    | (apply wpT1_assign; exact rfl; exact rfl; (simp only [List.set_cons_succ, List.set_cons_zero]; exact rfl))
    | (apply wpT1_pick; exact rfl; exact rfl; exact rfl; (simp only [List.set_cons_succ, List.set_cons_zero]; exact rfl))
    | (apply wpT1_call Try.call5; exact rfl; exact rfl; (intro w hC; (first | exact tame_below (put_yes _ _ _ _ _ (by omega) (by omega)) hC | exact tame_below (put_no _ _ _ _ _ (by omega) (by omega) (by omega)) hC)); (simp only [List.set_cons_succ, List.set_cons_zero]; exact rfl))
    | (apply wpT1_call Try.call6; exact rfl; exact rfl; (intro w hC; (first | exact tame_below (putSeg_yes _ _ _ _ _ (by omega) (by omega)) hC | exact tame_below (putSeg_no _ _ _ _ _ (by omega) (by omega) (by omega)) hC)); (simp only [List.set_cons_succ, List.set_cons_zero]; exact rfl))
    | (apply wpT1_pure; exact rfl; intro K hK; go_simp; refine hK _ ?_; clear hK K; simp only [List.set_cons_succ, List.set_cons_zero]))
  refine wpG_pair hR (i := 8) (j := 9) (by kernel_rfl) rfl rfl zRegs zRegs (by decide) (by decide) (by kernel_rfl) (by kernel_rfl) (List.Sublist.refl _) ?_
  clear hR; intro gx gy w hR; simp only [List.set_cons_succ, List.set_cons_zero]
  apply wpG_put hR tRegs (i := 10) (by kernel_rfl) rfl
  · exact rfl
  · exact rfl
  · (focus (repeat (first | apply List.Mem.head | apply List.Mem.tail)))
  · apply put_regs
  · exact rfl
  · simp [encRegs]
  · apply one_regs
  · (focus (repeat (first | apply Upd.head | apply Upd.tail)))
  · (focus (repeat (first | exact List.Sublist.slnil | apply List.Sublist.cons_cons | apply List.Sublist.cons)))
  clear hR; intro w hR
  apply wpG_put hR tRegs (i := 11) (by kernel_rfl) rfl
  · exact rfl
  · exact rfl
  · (focus (repeat (first | apply List.Mem.head | apply List.Mem.tail)))
  · apply put_regs
  · exact rfl
  · simp [encRegs]
  · apply one_regs
  · (focus (repeat (first | apply Upd.head | apply Upd.tail)))
  · (focus (repeat (first | exact List.Sublist.slnil | apply List.Sublist.cons_cons | apply List.Sublist.cons)))
  clear hR; intro w hR
  refine wpG_end hR (by kernel_rfl) ?_
  clear hR; intro w hR
  go_wp2_with (first
    | (apply wpList_box hR; exact rfl; exact rfl; clear hR; intro g w hR; simp only [List.set_cons_succ, List.set_cons_zero])
    | (apply wpList_make hR zRegs; exact rfl; clear hR; intro g w hR; simp only [List.set_cons_succ, List.set_cons_zero])
    | (apply wpList_make hR zVal; exact rfl; clear hR; intro g w hR; simp only [List.set_cons_succ, List.set_cons_zero])
    | (apply wpList_part hR tRegs; exact rfl; exact rfl; (focus (repeat (first | apply List.Mem.head | apply List.Mem.tail))); apply ext_regs; exact rfl; (simp only [List.set_cons_succ, List.set_cons_zero]; exact rfl))
    | (apply wpList_part hR tVal; exact rfl; exact rfl; (focus (repeat (first | apply List.Mem.head | apply List.Mem.tail))); (first | apply ext_val | (apply ext_g; omega) | (apply ext_s; omega)); exact rfl; (simp only [List.set_cons_succ, List.set_cons_zero]; exact rfl))
    | (apply wpList_one hR tWord; exact rfl; exact rfl; (focus (repeat (first | apply List.Mem.head | apply List.Mem.tail))); exact rfl; (simp only [List.set_cons_succ, List.set_cons_zero]; exact rfl))
    | (apply wpList_one hR tBool; exact rfl; exact rfl; (focus (repeat (first | apply List.Mem.head | apply List.Mem.tail))); exact rfl; (simp only [List.set_cons_succ, List.set_cons_zero]; exact rfl))
    | (apply wpList_put hR tRegs; exact rfl; exact rfl; exact rfl; (focus (repeat (first | apply List.Mem.head | apply List.Mem.tail))); apply put_regs; exact rfl; simp [encRegs]; apply one_regs; (focus (repeat (first | apply Upd.head | apply Upd.tail))); clear hR; intro w hR)
    | (apply wpList_put hR tVal; exact rfl; exact rfl; exact rfl; (focus (repeat (first | apply List.Mem.head | apply List.Mem.tail))); (first | apply put_val | (apply put_g; omega) | (apply put_s; omega)); exact rfl; (simp [encVal, encRegs] <;> omega); apply one_val; (focus (repeat (first | apply Upd.head | apply Upd.tail))); clear hR; intro w hR)
    | (apply wpList_built; exact rfl; exact rfl; (first | exact bVal0 | exact bVal1 _); (simp only [List.set_cons_succ, List.set_cons_zero]; exact rfl)))
  refine wp_region_rows hR [0, 1] 4 (by kernel_rfl) (by kernel_rfl) (by kernel_rfl) rfl ?_
  clear hR; intro hR
  repeat (refine wpT_step rfl ?_; first
    | (apply wpT1_part tRegs; exact rfl; exact rfl; (focus (repeat (first | apply List.Mem.head | apply List.Mem.tail))); apply ext_regs; exact rfl; (simp only [List.set_cons_succ, List.set_cons_zero]; exact rfl))
    | (apply wpT1_part tVal; exact rfl; exact rfl; (focus (repeat (first | apply List.Mem.head | apply List.Mem.tail))); (first | apply ext_val | (apply ext_g; omega) | (apply ext_s; omega)); exact rfl; (simp only [List.set_cons_succ, List.set_cons_zero]; exact rfl))
    | (apply wpT1_one tWord; exact rfl; exact rfl; (focus (repeat (first | apply List.Mem.head | apply List.Mem.tail))); exact rfl; (simp only [List.set_cons_succ, List.set_cons_zero]; exact rfl))
    | (apply wpT1_one tBool; exact rfl; exact rfl; (focus (repeat (first | apply List.Mem.head | apply List.Mem.tail))); exact rfl; (simp only [List.set_cons_succ, List.set_cons_zero]; exact rfl)))
  refine wpG_pair hR (i := 2) (j := 3) (by kernel_rfl) rfl rfl zRegs zRegs (by decide) (by decide) (by kernel_rfl) (by kernel_rfl) (List.Sublist.refl _) ?_
  clear hR; intro gz gu w hR; simp only [List.set_cons_succ, List.set_cons_zero]
  apply wpG_put hR tRegs (i := 4) (by kernel_rfl) rfl
  · exact rfl
  · exact rfl
  · (focus (repeat (first | apply List.Mem.head | apply List.Mem.tail)))
  · apply put_regs
  · exact rfl
  · simp [encRegs]
  · apply one_regs
  · (focus (repeat (first | apply Upd.head | apply Upd.tail)))
  · (focus (repeat (first | exact List.Sublist.slnil | apply List.Sublist.cons_cons | apply List.Sublist.cons)))
  clear hR; intro w hR
  apply wpG_put hR tRegs (i := 5) (by kernel_rfl) rfl
  · exact rfl
  · exact rfl
  · (focus (repeat (first | apply List.Mem.head | apply List.Mem.tail)))
  · apply put_regs
  · exact rfl
  · simp [encRegs]
  · apply one_regs
  · (focus (repeat (first | apply Upd.head | apply Upd.tail)))
  · (focus (repeat (first | exact List.Sublist.slnil | apply List.Sublist.cons_cons | apply List.Sublist.cons)))
  clear hR; intro w hR
  refine wpG_end hR (by kernel_rfl) ?_
  clear hR; intro w hR
  rcases hk with hk | hk | hk | hk
  all_goals
    go_wp2_with (first
    | (apply wpList_box hR; exact rfl; exact rfl; clear hR; intro g w hR; simp only [List.set_cons_succ, List.set_cons_zero])
    | (apply wpList_make hR zRegs; exact rfl; clear hR; intro g w hR; simp only [List.set_cons_succ, List.set_cons_zero])
    | (apply wpList_make hR zVal; exact rfl; clear hR; intro g w hR; simp only [List.set_cons_succ, List.set_cons_zero])
    | (apply wpList_part hR tRegs; exact rfl; exact rfl; (focus (repeat (first | apply List.Mem.head | apply List.Mem.tail))); apply ext_regs; exact rfl; (simp only [List.set_cons_succ, List.set_cons_zero]; exact rfl))
    | (apply wpList_part hR tVal; exact rfl; exact rfl; (focus (repeat (first | apply List.Mem.head | apply List.Mem.tail))); (first | apply ext_val | (apply ext_g; omega) | (apply ext_s; omega)); exact rfl; (simp only [List.set_cons_succ, List.set_cons_zero]; exact rfl))
    | (apply wpList_one hR tWord; exact rfl; exact rfl; (focus (repeat (first | apply List.Mem.head | apply List.Mem.tail))); exact rfl; (simp only [List.set_cons_succ, List.set_cons_zero]; exact rfl))
    | (apply wpList_one hR tBool; exact rfl; exact rfl; (focus (repeat (first | apply List.Mem.head | apply List.Mem.tail))); exact rfl; (simp only [List.set_cons_succ, List.set_cons_zero]; exact rfl))
    | (apply wpList_put hR tRegs; exact rfl; exact rfl; exact rfl; (focus (repeat (first | apply List.Mem.head | apply List.Mem.tail))); apply put_regs; exact rfl; simp [encRegs]; apply one_regs; (focus (repeat (first | apply Upd.head | apply Upd.tail))); clear hR; intro w hR)
    | (apply wpList_put hR tVal; exact rfl; exact rfl; exact rfl; (focus (repeat (first | apply List.Mem.head | apply List.Mem.tail))); (first | apply put_val | (apply put_g; omega) | (apply put_s; omega)); exact rfl; (simp [encVal, encRegs] <;> omega); apply one_val; (focus (repeat (first | apply Upd.head | apply Upd.tail))); clear hR; intro w hR)
    | (apply wpList_built; exact rfl; exact rfl; (first | exact bVal0 | exact bVal1 _); (simp only [List.set_cons_succ, List.set_cons_zero]; exact rfl)))
    refine wp_region_rows hR [0, 1, 2, 3, 4, 5, 6, 7, 8, 9, 10, 11, 12, 13, 14, 15, 16, 17, 18, 19, 20, 21, 22, 23, 24, 25] 0 (by kernel_rfl) (by kernel_rfl) (by kernel_rfl) rfl ?_
    clear hR; intro hR
    repeat (refine wpT_step rfl ?_; first
    | (apply wpT1_part tRegs; exact rfl; exact rfl; (focus (repeat (first | apply List.Mem.head | apply List.Mem.tail))); apply ext_regs; exact rfl; (simp only [List.set_cons_succ, List.set_cons_zero]; exact rfl))
    | (apply wpT1_part tVal; exact rfl; exact rfl; (focus (repeat (first | apply List.Mem.head | apply List.Mem.tail))); (first | apply ext_val | (apply ext_g; omega) | (apply ext_s; omega)); exact rfl; (simp only [List.set_cons_succ, List.set_cons_zero]; exact rfl))
    | (apply wpT1_one tWord; exact rfl; exact rfl; (focus (repeat (first | apply List.Mem.head | apply List.Mem.tail))); exact rfl; (simp only [List.set_cons_succ, List.set_cons_zero]; exact rfl))
    | (apply wpT1_one tBool; exact rfl; exact rfl; (focus (repeat (first | apply List.Mem.head | apply List.Mem.tail))); exact rfl; (simp only [List.set_cons_succ, List.set_cons_zero]; exact rfl))
    | (apply wpT1_move; exact rfl; exact rfl; (simp only [List.set_cons_succ, List.set_cons_zero]; exact rfl))
    | (apply wpT1_assign; exact rfl; exact rfl; (simp only [List.set_cons_succ, List.set_cons_zero]; exact rfl))
    | (apply wpT1_pick; exact rfl; exact rfl; exact rfl; (simp only [List.set_cons_succ, List.set_cons_zero]; exact rfl))
    | (apply wpT1_same Try.eqGuardType28; exact rfl; exact rfl; exact rfl; exact fit_regs _; (simp only [List.set_cons_succ, List.set_cons_zero]; exact rfl))
    | (apply wpT1_same Try.eqGuardType24; exact rfl; exact rfl; exact rfl; exact fit_val _ _; (simp only [List.set_cons_succ, List.set_cons_zero]; exact rfl))
    | (apply wpT1_call Try.call7; exact rfl; exact rfl; (intro w hC; exact tame_below (awake03_any _) hC); (simp only [List.set_cons_succ, List.set_cons_zero]; exact rfl))
    | (apply wpT1_call Try.call8; exact rfl; exact rfl; (intro w hC; (first | exact tame_below (get_yes _ _ _ (by omega) (by omega)) hC | exact tame_below (get_no _ _ _ (by omega) (by omega) (by omega)) hC)); (simp only [List.set_cons_succ, List.set_cons_zero]; exact rfl))
    | (apply wpT1_call Try.call9; exact rfl; exact rfl; (intro w hC; (first | exact tame_below (seg_yes _ _ _ (by omega) (by omega)) hC | exact tame_below (seg_no _ _ _ (by omega) (by omega) (by omega)) hC)); (simp only [List.set_cons_succ, List.set_cons_zero]; exact rfl))
    | (apply wpT1_pure; exact rfl; intro K hK; go_simp; refine hK _ ?_; clear hK K; simp only [List.set_cons_succ, List.set_cons_zero]))
    refine wpG_end hR (by kernel_rfl) ?_
    clear hR; intro w hR
    go_wp2
    go_ret
    exact ⟨rfl, hR.below⟩
set_option maxHeartbeats 4000000 in
theorem partD (r : RegsZ) (n k v : Int) (t : Bool) (bn : -9223372036854775808 ≤ n ∧ n ≤ 9223372036854775807) (bk : -9223372036854775808 ≤ k ∧ k ≤ 9223372036854775807) (w : World)
    (hn : 8 ≤ n) (hk : (0 ≤ k ∧ k < 4) ∨ (4 ≤ k ∧ k < 8) ∨ k < 0 ∨ 8 ≤ k) :
    Calls Try.prog 3 #[.agg (encRegs r), .agg (encPair n k), .agg (encVal v t)] w fun e w' => e = .returned (.bool true) ∧ Below w.heap.size w w' := by
  have hR := Own.start w
  go_enter Try.func3, Try.ntmps3
  go_wp2_with (first
    | (apply wpList_box hR; exact rfl; exact rfl; clear hR; intro g w hR; simp only [List.set_cons_succ, List.set_cons_zero])
    | (apply wpList_make hR zRegs; exact rfl; clear hR; intro g w hR; simp only [List.set_cons_succ, List.set_cons_zero])
    | (apply wpList_make hR zVal; exact rfl; clear hR; intro g w hR; simp only [List.set_cons_succ, List.set_cons_zero])
    | (apply wpList_part hR tRegs; exact rfl; exact rfl; (focus (repeat (first | apply List.Mem.head | apply List.Mem.tail))); apply ext_regs; exact rfl; (simp only [List.set_cons_succ, List.set_cons_zero]; exact rfl))
    | (apply wpList_part hR tVal; exact rfl; exact rfl; (focus (repeat (first | apply List.Mem.head | apply List.Mem.tail))); (first | apply ext_val | (apply ext_g; omega) | (apply ext_s; omega)); exact rfl; (simp only [List.set_cons_succ, List.set_cons_zero]; exact rfl))
    | (apply wpList_one hR tWord; exact rfl; exact rfl; (focus (repeat (first | apply List.Mem.head | apply List.Mem.tail))); exact rfl; (simp only [List.set_cons_succ, List.set_cons_zero]; exact rfl))
    | (apply wpList_one hR tBool; exact rfl; exact rfl; (focus (repeat (first | apply List.Mem.head | apply List.Mem.tail))); exact rfl; (simp only [List.set_cons_succ, List.set_cons_zero]; exact rfl))
    | (apply wpList_put hR tRegs; exact rfl; exact rfl; exact rfl; (focus (repeat (first | apply List.Mem.head | apply List.Mem.tail))); apply put_regs; exact rfl; simp [encRegs]; apply one_regs; (focus (repeat (first | apply Upd.head | apply Upd.tail))); clear hR; intro w hR)
    | (apply wpList_put hR tVal; exact rfl; exact rfl; exact rfl; (focus (repeat (first | apply List.Mem.head | apply List.Mem.tail))); (first | apply put_val | (apply put_g; omega) | (apply put_s; omega)); exact rfl; (simp [encVal, encRegs] <;> omega); apply one_val; (focus (repeat (first | apply Upd.head | apply Upd.tail))); clear hR; intro w hR)
    | (apply wpList_built; exact rfl; exact rfl; (first | exact bVal0 | exact bVal1 _); (simp only [List.set_cons_succ, List.set_cons_zero]; exact rfl)))
  refine wp_region_rows hR [0, 1, 2, 3, 4, 5] 0 (by kernel_rfl) (by kernel_rfl) (by kernel_rfl) rfl ?_
  clear hR; intro hR
  repeat (refine wpT_step rfl ?_; first
    | (apply wpT1_one tInt; exact rfl; exact rfl; (focus (repeat (first | apply List.Mem.head | apply List.Mem.tail))); exact rfl; (simp only [List.set_cons_succ, List.set_cons_zero]; exact rfl))
    | (apply wpT1_move; exact rfl; exact rfl; (simp only [List.set_cons_succ, List.set_cons_zero]; exact rfl))
    | (apply wpT1_assign; exact rfl; exact rfl; (simp only [List.set_cons_succ, List.set_cons_zero]; exact rfl))
    | (apply wpT1_pick; exact rfl; exact rfl; exact rfl; (simp only [List.set_cons_succ, List.set_cons_zero]; exact rfl))
    | (apply wpT1_pure; exact rfl; intro K hK; go_simp; refine hK _ ?_; clear hK K; simp only [List.set_cons_succ, List.set_cons_zero]))
  refine wpG_end hR (by kernel_rfl) ?_
  clear hR; intro w hR
  go_wp2_with (first
    | (apply wpList_box hR; exact rfl; exact rfl; clear hR; intro g w hR; simp only [List.set_cons_succ, List.set_cons_zero])
    | (apply wpList_make hR zRegs; exact rfl; clear hR; intro g w hR; simp only [List.set_cons_succ, List.set_cons_zero])
    | (apply wpList_make hR zVal; exact rfl; clear hR; intro g w hR; simp only [List.set_cons_succ, List.set_cons_zero])
    | (apply wpList_part hR tRegs; exact rfl; exact rfl; (focus (repeat (first | apply List.Mem.head | apply List.Mem.tail))); apply ext_regs; exact rfl; (simp only [List.set_cons_succ, List.set_cons_zero]; exact rfl))
    | (apply wpList_part hR tVal; exact rfl; exact rfl; (focus (repeat (first | apply List.Mem.head | apply List.Mem.tail))); (first | apply ext_val | (apply ext_g; omega) | (apply ext_s; omega)); exact rfl; (simp only [List.set_cons_succ, List.set_cons_zero]; exact rfl))
    | (apply wpList_one hR tWord; exact rfl; exact rfl; (focus (repeat (first | apply List.Mem.head | apply List.Mem.tail))); exact rfl; (simp only [List.set_cons_succ, List.set_cons_zero]; exact rfl))
    | (apply wpList_one hR tBool; exact rfl; exact rfl; (focus (repeat (first | apply List.Mem.head | apply List.Mem.tail))); exact rfl; (simp only [List.set_cons_succ, List.set_cons_zero]; exact rfl))
    | (apply wpList_put hR tRegs; exact rfl; exact rfl; exact rfl; (focus (repeat (first | apply List.Mem.head | apply List.Mem.tail))); apply put_regs; exact rfl; simp [encRegs]; apply one_regs; (focus (repeat (first | apply Upd.head | apply Upd.tail))); clear hR; intro w hR)
    | (apply wpList_put hR tVal; exact rfl; exact rfl; exact rfl; (focus (repeat (first | apply List.Mem.head | apply List.Mem.tail))); (first | apply put_val | (apply put_g; omega) | (apply put_s; omega)); exact rfl; (simp [encVal, encRegs] <;> omega); apply one_val; (focus (repeat (first | apply Upd.head | apply Upd.tail))); clear hR; intro w hR)
    | (apply wpList_built; exact rfl; exact rfl; (first | exact bVal0 | exact bVal1 _); (simp only [List.set_cons_succ, List.set_cons_zero]; exact rfl)))
  refine wp_region_rows hR [0, 1, 2, 3, 4, 5, 6, 7] 4 (by kernel_rfl) (by kernel_rfl) (by kernel_rfl) rfl ?_
  clear hR; intro hR
  repeat (refine wpT_step rfl ?_; first
    | (apply wpT1_part tRegs; exact rfl; exact rfl; (focus (repeat (first | apply List.Mem.head | apply List.Mem.tail))); apply ext_regs; exact rfl; (simp only [List.set_cons_succ, List.set_cons_zero]; exact rfl))
    | (apply wpT1_part tVal; exact rfl; exact rfl; (focus (repeat (first | apply List.Mem.head | apply List.Mem.tail))); (first | apply ext_val | (apply ext_g; omega) | (apply ext_s; omega)); exact rfl; (simp only [List.set_cons_succ, List.set_cons_zero]; exact rfl))
    | (apply wpT1_one tWord; exact rfl; exact rfl; (focus (repeat (first | apply List.Mem.head | apply List.Mem.tail))); exact rfl; (simp only [List.set_cons_succ, List.set_cons_zero]; exact rfl))
    | (apply wpT1_one tBool; exact rfl; exact rfl; (focus (repeat (first | apply List.Mem.head | apply List.Mem.tail))); exact rfl; (simp only [List.set_cons_succ, List.set_cons_zero]; exact rfl))
    | (apply wpT1_move; exact rfl; exact rfl; (simp only [List.set_cons_succ, List.set_cons_zero]; exact rfl))
    | (apply wpT1_assign; exact rfl; exact rfl; (simp only [List.set_cons_succ, List.set_cons_zero]; exact rfl))
    | (apply wpT1_pick; exact rfl; exact rfl; exact rfl; (simp only [List.set_cons_succ, List.set_cons_zero]; exact rfl))
    | (apply wpT1_call Try.call5; exact rfl; exact rfl; (intro w hC; (first | exact tame_below (put_yes _ _ _ _ _ (by omega) (by omega)) hC | exact tame_below (put_no _ _ _ _ _ (by omega) (by omega) (by omega)) hC)); (simp only [List.set_cons_succ, List.set_cons_zero]; exact rfl))
    | (apply wpT1_call Try.call6; exact rfl; exact rfl; (intro w hC; (first | exact tame_below (putSeg_yes _ _ _ _ _ (by omega) (by omega)) hC | exact tame_below (putSeg_no _ _ _ _ _ (by omega) (by omega) (by omega)) hC)); (simp only [List.set_cons_succ, List.set_cons_zero]; exact rfl))
    | (apply wpT1_pure; exact rfl; intro K hK; go_simp; refine hK _ ?_; clear hK K; simp only [List.set_cons_succ, List.set_cons_zero]))
  refine wpG_pair hR (i := 8) (j := 9) (by kernel_rfl) rfl rfl zRegs zRegs (by decide) (by decide) (by kernel_rfl) (by kernel_rfl) (List.Sublist.refl _) ?_
  clear hR; intro gx gy w hR; simp only [List.set_cons_succ, List.set_cons_zero]
  apply wpG_put hR tRegs (i := 10) (by kernel_rfl) rfl
  · exact rfl
  · exact rfl
  · (focus (repeat (first | apply List.Mem.head | apply List.Mem.tail)))
  · apply put_regs
  · exact rfl
  · simp [encRegs]
  · apply one_regs
  · (focus (repeat (first | apply Upd.head | apply Upd.tail)))
  · (focus (repeat (first | exact List.Sublist.slnil | apply List.Sublist.cons_cons | apply List.Sublist.cons)))
  clear hR; intro w hR
  apply wpG_put hR tRegs (i := 11) (by kernel_rfl) rfl
  · exact rfl
  · exact rfl
  · (focus (repeat (first | apply List.Mem.head | apply List.Mem.tail)))
  · apply put_regs
  · exact rfl
  · simp [encRegs]
  · apply one_regs
  · (focus (repeat (first | apply Upd.head | apply Upd.tail)))
  · (focus (repeat (first | exact List.Sublist.slnil | apply List.Sublist.cons_cons | apply List.Sublist.cons)))
  clear hR; intro w hR
  refine wpG_end hR (by kernel_rfl) ?_
  clear hR; intro w hR
  go_wp2_with (first
    | (apply wpList_box hR; exact rfl; exact rfl; clear hR; intro g w hR; simp only [List.set_cons_succ, List.set_cons_zero])
    | (apply wpList_make hR zRegs; exact rfl; clear hR; intro g w hR; simp only [List.set_cons_succ, List.set_cons_zero])
    | (apply wpList_make hR zVal; exact rfl; clear hR; intro g w hR; simp only [List.set_cons_succ, List.set_cons_zero])
    | (apply wpList_part hR tRegs; exact rfl; exact rfl; (focus (repeat (first | apply List.Mem.head | apply List.Mem.tail))); apply ext_regs; exact rfl; (simp only [List.set_cons_succ, List.set_cons_zero]; exact rfl))
    | (apply wpList_part hR tVal; exact rfl; exact rfl; (focus (repeat (first | apply List.Mem.head | apply List.Mem.tail))); (first | apply ext_val | (apply ext_g; omega) | (apply ext_s; omega)); exact rfl; (simp only [List.set_cons_succ, List.set_cons_zero]; exact rfl))
    | (apply wpList_one hR tWord; exact rfl; exact rfl; (focus (repeat (first | apply List.Mem.head | apply List.Mem.tail))); exact rfl; (simp only [List.set_cons_succ, List.set_cons_zero]; exact rfl))
    | (apply wpList_one hR tBool; exact rfl; exact rfl; (focus (repeat (first | apply List.Mem.head | apply List.Mem.tail))); exact rfl; (simp only [List.set_cons_succ, List.set_cons_zero]; exact rfl))
    | (apply wpList_put hR tRegs; exact rfl; exact rfl; exact rfl; (focus (repeat (first | apply List.Mem.head | apply List.Mem.tail))); apply put_regs; exact rfl; simp [encRegs]; apply one_regs; (focus (repeat (first | apply Upd.head | apply Upd.tail))); clear hR; intro w hR)
    | (apply wpList_put hR tVal; exact rfl; exact rfl; exact rfl; (focus (repeat (first | apply List.Mem.head | apply List.Mem.tail))); (first | apply put_val | (apply put_g; omega) | (apply put_s; omega)); exact rfl; (simp [encVal, encRegs] <;> omega); apply one_val; (focus (repeat (first | apply Upd.head | apply Upd.tail))); clear hR; intro w hR)
    | (apply wpList_built; exact rfl; exact rfl; (first | exact bVal0 | exact bVal1 _); (simp only [List.set_cons_succ, List.set_cons_zero]; exact rfl)))
  refine wp_region_rows hR [0, 1] 4 (by kernel_rfl) (by kernel_rfl) (by kernel_rfl) rfl ?_
  clear hR; intro hR
  repeat (refine wpT_step rfl ?_; first
    | (apply wpT1_part tRegs; exact rfl; exact rfl; (focus (repeat (first | apply List.Mem.head | apply List.Mem.tail))); apply ext_regs; exact rfl; (simp only [List.set_cons_succ, List.set_cons_zero]; exact rfl))
    | (apply wpT1_part tVal; exact rfl; exact rfl; (focus (repeat (first | apply List.Mem.head | apply List.Mem.tail))); (first | apply ext_val | (apply ext_g; omega) | (apply ext_s; omega)); exact rfl; (simp only [List.set_cons_succ, List.set_cons_zero]; exact rfl))
    | (apply wpT1_one tWord; exact rfl; exact rfl; (focus (repeat (first | apply List.Mem.head | apply List.Mem.tail))); exact rfl; (simp only [List.set_cons_succ, List.set_cons_zero]; exact rfl))
    | (apply wpT1_one tBool; exact rfl; exact rfl; (focus (repeat (first | apply List.Mem.head | apply List.Mem.tail))); exact rfl; (simp only [List.set_cons_succ, List.set_cons_zero]; exact rfl)))
  refine wpG_pair hR (i := 2) (j := 3) (by kernel_rfl) rfl rfl zRegs zRegs (by decide) (by decide) (by kernel_rfl) (by kernel_rfl) (List.Sublist.refl _) ?_
  clear hR; intro gz gu w hR; simp only [List.set_cons_succ, List.set_cons_zero]
  apply wpG_put hR tRegs (i := 4) (by kernel_rfl) rfl
  · exact rfl
  · exact rfl
  · (focus (repeat (first | apply List.Mem.head | apply List.Mem.tail)))
  · apply put_regs
  · exact rfl
  · simp [encRegs]
  · apply one_regs
  · (focus (repeat (first | apply Upd.head | apply Upd.tail)))
  · (focus (repeat (first | exact List.Sublist.slnil | apply List.Sublist.cons_cons | apply List.Sublist.cons)))
  clear hR; intro w hR
  apply wpG_put hR tRegs (i := 5) (by kernel_rfl) rfl
  · exact rfl
  · exact rfl
  · (focus (repeat (first | apply List.Mem.head | apply List.Mem.tail)))
  · apply put_regs
  · exact rfl
  · simp [encRegs]
  · apply one_regs
  · (focus (repeat (first | apply Upd.head | apply Upd.tail)))
  · (focus (repeat (first | exact List.Sublist.slnil | apply List.Sublist.cons_cons | apply List.Sublist.cons)))
  clear hR; intro w hR
  refine wpG_end hR (by kernel_rfl) ?_
  clear hR; intro w hR
  rcases hk with hk | hk | hk | hk
  all_goals
    go_wp2_with (first
    | (apply wpList_box hR; exact rfl; exact rfl; clear hR; intro g w hR; simp only [List.set_cons_succ, List.set_cons_zero])
    | (apply wpList_make hR zRegs; exact rfl; clear hR; intro g w hR; simp only [List.set_cons_succ, List.set_cons_zero])
    | (apply wpList_make hR zVal; exact rfl; clear hR; intro g w hR; simp only [List.set_cons_succ, List.set_cons_zero])
    | (apply wpList_part hR tRegs; exact rfl; exact rfl; (focus (repeat (first | apply List.Mem.head | apply List.Mem.tail))); apply ext_regs; exact rfl; (simp only [List.set_cons_succ, List.set_cons_zero]; exact rfl))
    | (apply wpList_part hR tVal; exact rfl; exact rfl; (focus (repeat (first | apply List.Mem.head | apply List.Mem.tail))); (first | apply ext_val | (apply ext_g; omega) | (apply ext_s; omega)); exact rfl; (simp only [List.set_cons_succ, List.set_cons_zero]; exact rfl))
    | (apply wpList_one hR tWord; exact rfl; exact rfl; (focus (repeat (first | apply List.Mem.head | apply List.Mem.tail))); exact rfl; (simp only [List.set_cons_succ, List.set_cons_zero]; exact rfl))
    | (apply wpList_one hR tBool; exact rfl; exact rfl; (focus (repeat (first | apply List.Mem.head | apply List.Mem.tail))); exact rfl; (simp only [List.set_cons_succ, List.set_cons_zero]; exact rfl))
    | (apply wpList_put hR tRegs; exact rfl; exact rfl; exact rfl; (focus (repeat (first | apply List.Mem.head | apply List.Mem.tail))); apply put_regs; exact rfl; simp [encRegs]; apply one_regs; (focus (repeat (first | apply Upd.head | apply Upd.tail))); clear hR; intro w hR)
    | (apply wpList_put hR tVal; exact rfl; exact rfl; exact rfl; (focus (repeat (first | apply List.Mem.head | apply List.Mem.tail))); (first | apply put_val | (apply put_g; omega) | (apply put_s; omega)); exact rfl; (simp [encVal, encRegs] <;> omega); apply one_val; (focus (repeat (first | apply Upd.head | apply Upd.tail))); clear hR; intro w hR)
    | (apply wpList_built; exact rfl; exact rfl; (first | exact bVal0 | exact bVal1 _); (simp only [List.set_cons_succ, List.set_cons_zero]; exact rfl)))
    refine wp_region_rows hR [0, 1, 2, 3, 4, 5, 6, 7, 8, 9, 10, 11, 12, 13, 14, 15, 16, 17, 18, 19, 20, 21, 22, 23, 24, 25] 0 (by kernel_rfl) (by kernel_rfl) (by kernel_rfl) rfl ?_
    clear hR; intro hR
    repeat (refine wpT_step rfl ?_; first
    | (apply wpT1_part tRegs; exact rfl; exact rfl; (focus (repeat (first | apply List.Mem.head | apply List.Mem.tail))); apply ext_regs; exact rfl; (simp only [List.set_cons_succ, List.set_cons_zero]; exact rfl))
    | (apply wpT1_part tVal; exact rfl; exact rfl; (focus (repeat (first | apply List.Mem.head | apply List.Mem.tail))); (first | apply ext_val | (apply ext_g; omega) | (apply ext_s; omega)); exact rfl; (simp only [List.set_cons_succ, List.set_cons_zero]; exact rfl))
    | (apply wpT1_one tWord; exact rfl; exact rfl; (focus (repeat (first | apply List.Mem.head | apply List.Mem.tail))); exact rfl; (simp only [List.set_cons_succ, List.set_cons_zero]; exact rfl))
    | (apply wpT1_one tBool; exact rfl; exact rfl; (focus (repeat (first | apply List.Mem.head | apply List.Mem.tail))); exact rfl; (simp only [List.set_cons_succ, List.set_cons_zero]; exact rfl))
    | (apply wpT1_move; exact rfl; exact rfl; (simp only [List.set_cons_succ, List.set_cons_zero]; exact rfl))
    | (apply wpT1_assign; exact rfl; exact rfl; (simp only [List.set_cons_succ, List.set_cons_zero]; exact rfl))
    | (apply wpT1_pick; exact rfl; exact rfl; exact rfl; (simp only [List.set_cons_succ, List.set_cons_zero]; exact rfl))
    | (apply wpT1_same Try.eqGuardType28; exact rfl; exact rfl; exact rfl; exact fit_regs _; (simp only [List.set_cons_succ, List.set_cons_zero]; exact rfl))
    | (apply wpT1_same Try.eqGuardType24; exact rfl; exact rfl; exact rfl; exact fit_val _ _; (simp only [List.set_cons_succ, List.set_cons_zero]; exact rfl))
    | (apply wpT1_call Try.call7; exact rfl; exact rfl; (intro w hC; exact tame_below (awake03_any _) hC); (simp only [List.set_cons_succ, List.set_cons_zero]; exact rfl))
    | (apply wpT1_call Try.call8; exact rfl; exact rfl; (intro w hC; (first | exact tame_below (get_yes _ _ _ (by omega) (by omega)) hC | exact tame_below (get_no _ _ _ (by omega) (by omega) (by omega)) hC)); (simp only [List.set_cons_succ, List.set_cons_zero]; exact rfl))
    | (apply wpT1_call Try.call9; exact rfl; exact rfl; (intro w hC; (first | exact tame_below (seg_yes _ _ _ (by omega) (by omega)) hC | exact tame_below (seg_no _ _ _ (by omega) (by omega) (by omega)) hC)); (simp only [List.set_cons_succ, List.set_cons_zero]; exact rfl))
    | (apply wpT1_pure; exact rfl; intro K hK; go_simp; refine hK _ ?_; clear hK K; simp only [List.set_cons_succ, List.set_cons_zero]))
    refine wpG_end hR (by kernel_rfl) ?_
    clear hR; intro w hR
    go_wp2
    go_ret
    exact ⟨rfl, hR.below⟩

theorem walk {base : Nat} {W : World} (v0 : Value) (k0 : Value.okWide Try.prog W .any base 28 v0) (v1 : Value) (k1 : Value.okWide Try.prog W .any base 29 v1) (v2 : Value) (k2 : Value.okWide Try.prog W .any base 24 v2) (w : World) :
    Calls Try.prog 3 #[v0, v1, v2] w fun e w' => e = .returned (.bool true) ∧ Below w.heap.size w w' := by
  obtain ⟨r, _, rfl⟩ := open_regs k0
  obtain ⟨n, k, bn, bk, rfl⟩ := open_pair k1
  obtain ⟨v, t, _, rfl⟩ := open_val k2
  have hk : (0 ≤ k ∧ k < 4) ∨ (4 ≤ k ∧ k < 8) ∨ k < 0 ∨ 8 ≤ k := by omega
  rcases (show (0 ≤ n ∧ n < 4) ∨ (4 ≤ n ∧ n < 8) ∨ n < 0 ∨ 8 ≤ n by omega) with hn | hn | hn | hn
  · exact partA r n k v t bn bk w hn hk
  · exact partB r n k v t bn bk w hn hk
  · exact partC r n k v t bn bk w hn hk
  · exact partD r n k v t bn bk w hn hk

set_option maxRecDepth 100000 in
theorem lifted (os : Os) (started : os.Started) (H : Type) (enc : TypeId × Value → H) :
    ReturnsInHanded {} Try.checked os 3 .any (Rows.regsWordsSpec.pre6 enc Try.prog Try.f3 Rows.regsWordsRow.domain false) (Rows.regsWordsSpec.post enc Try.prog Try.f3 false true false false) := by
  refine returnsInHanded_of_change (C := Try.checked) own started (by kernel_rfl) Try.func3
    (ChangeSpec.witness6 (enc := enc) (C := Try.checked) false ⟨#[], #[.agg (encRegs zeroRegs), .agg (encPair 0 0), .agg (encVal 0 false)], []⟩ 8 (by kernel_rfl) (by kernel_rfl) (by kernel_rfl) (by kernel_rfl)) ?_
  intro W base args ds gs before hval0 hW hcnd _
  have hval : ∀ (j : Nat) t v, Try.f3.params[j]? = some t → args[j]? = some v → Value.okWide Try.prog W .any base t v := hval0
  have hW' := hW
  obtain ⟨p, q, hA0, hV, rfl, hfz, hnd⟩ := hW
  have hA : DataW.TrodAll enc Try.prog W 0 (fun _ => true) true Try.f3.params.toList args.toList ds p := hA0
  rw [Try.params3] at hA hval
  obtain ⟨v0, vs0, d0, ds0, p0, q0, hargs, rfl, rfl, h0, r0⟩ := trodAll_cons hA
  obtain ⟨v1, vs1, d1, ds1, p1, q1, rfl, rfl, rfl, h1, r1⟩ := trodAll_cons r0
  obtain ⟨v2, vs2, d2, ds2, p2, q2, rfl, rfl, rfl, h2, r2⟩ := trodAll_cons r1
  obtain ⟨rfl, rfl, rfl⟩ := trodAll_nil r2
  obtain rfl : args = #[v0, v1, v2] := by cases args; simp_all
  obtain ⟨rfl, rfl⟩ := trodVars_none hV
  have k0 := h0
  have lt0 : ∀ x ∈ p0, x.block < W.heap.size := by obtain ⟨m, hm⟩ := k0; exact DataW.trod_lt m _ _ _ hm
  have k1 := h1
  have lt1 : ∀ x ∈ p1, x.block < W.heap.size := by obtain ⟨m, hm⟩ := k1; exact DataW.trod_lt m _ _ _ hm
  have k2 := h2
  have lt2 : ∀ x ∈ p2, x.block < W.heap.size := by obtain ⟨m, hm⟩ := k2; exact DataW.trod_lt m _ _ _ hm
  clear hA0 hval0
  refine (walk v0 (hval 0 28 v0 rfl rfl) v1 (hval 1 29 v1 rfl rfl) v2 (hval 2 24 v2 rfl rfl) W).mono fun e W' ⟨he, bel⟩ => ?_
  subst he
  exact ⟨_, rfl, _, _, _, [], _, [], hW', trodAll_mk1 (shut_bool Try.underlying4 _), (trodAll_cons_mk (Below.trod laidOut (by kernel_rfl) (of_decide_eq_true (by kernel_rfl)) k0 bel lt0) (trodAll_cons_mk (Below.trod laidOut (by kernel_rfl) (of_decide_eq_true (by kernel_rfl)) k1 bel lt1) (trodAll_cons_mk (Below.trod laidOut (by kernel_rfl) (of_decide_eq_true (by kernel_rfl)) k2 bel lt2) trodAll_mk0))), rfl, bel.frame _, fun h => by cases h⟩

theorem over : Rows.regsWordsRow.holds Try.pinned (OpenSpec.ofChange Rows.regsWordsSpec) :=
  OpenClaim.holds_of_wide 3 Try.f3 rfl rfl rfl rfl rfl rfl rfl ⟨rfl, rfl, rfl, rfl, rfl⟩ rfl rfl rfl rfl rfl (by kernel_rfl) Try.func3 (by kernel_rfl)
    (of_decide_eq_true (by kernel_rfl)) (by unfold Func.isWrapper; first | (rw [if_pos (by decide +kernel)]; kernel_rfl) | (rw [if_neg (by decide +kernel)]; exact ⟨rfl, rfl⟩))
    (fun os started H enc _ => lifted os started H enc)

theorem proved : Rows.RegsWordsSaid := over
#print axioms proved
end Go.Proofs.Ytomdjaeefngcfaa.regsWords
