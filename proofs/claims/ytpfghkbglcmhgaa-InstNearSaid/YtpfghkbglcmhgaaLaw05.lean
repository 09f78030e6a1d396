

/- An instruction as a law's argument; 'awake' of hansomlaw05. No statement of the seat is proved here. -/
import Derived.Test.YtpfghkbglcmhgaaInstM
import Derived.Test.YtpfghkbglcmhgaaSame
namespace Go.Proofs.Ytpfghkbglcmhgaa
open Go.ChangeShapes Go.WideShapes Go.ChangeAt Go.RowKit
set_option linter.unusedVariables false
set_option linter.unusedSimpArgs false

theorem open_inst {w : World} {base : Nat} {v : Value} (h : Value.okWide Try.prog w .any base 24 v) : ∃ i : InstZ, i.ok ∧ v = .agg (encI i) := by
  obtain ⟨cs, rfl, hl, hc⟩ := open_flat (ts := [4, 3, 3, 5, 3, 3, 3, 22, 22, 22]) Try.underlying24 rfl (by kernel_rfl) (by kernel_rfl) h
  match cs, hl with
  | [c0, c1, c2, c3, c4, c5, c6, c7, c8, c9], _ =>
    obtain ⟨n0, rfl⟩ := cell_bool Try.underlying4 (hc 0 _ _ rfl rfl)
    obtain ⟨n1, rfl, b1⟩ := cell_int Try.underlying3 (hc 1 _ _ rfl rfl)
    obtain ⟨n2, rfl, b2⟩ := cell_int Try.underlying3 (hc 2 _ _ rfl rfl)
    obtain ⟨n3, rfl, b3⟩ := cell_int Try.underlying5 (hc 3 _ _ rfl rfl)
    obtain ⟨n4, rfl, b4⟩ := cell_int Try.underlying3 (hc 4 _ _ rfl rfl)
    obtain ⟨n5, rfl, b5⟩ := cell_int Try.underlying3 (hc 5 _ _ rfl rfl)
    obtain ⟨n6, rfl, b6⟩ := cell_int Try.underlying3 (hc 6 _ _ rfl rfl)
    obtain ⟨n7, rfl, b7⟩ := cell_int Try.underlying22 (hc 7 _ _ rfl rfl)
    obtain ⟨n8, rfl, b8⟩ := cell_int Try.underlying22 (hc 8 _ _ rfl rfl)
    obtain ⟨n9, rfl, b9⟩ := cell_int Try.underlying22 (hc 9 _ _ rfl rfl)
    exact ⟨⟨n0, n1, n2, n3, n4, n5, n6, n7, n8, n9⟩, ⟨b1, b2, b3, b4, b5, b6, b7, b8, b9⟩, rfl⟩

def moveI : InstZ := { zeroI with op := 184, imm := 4660 }
def prefI : InstZ := { zeroI with op := 38 }
theorem move_ok : moveI.ok := by constructor <;> decide
theorem pref_ok : prefI.ok := by constructor <;> decide
theorem move_may : mayC moveI = true := by decide +kernel
theorem pref_may : mayC prefI = false := by decide +kernel
theorem move_len : lenC moveI = 3 := by decide +kernel
theorem move_tail : tailC moveI = 1 := by decide +kernel
theorem may_move (w : World) : Calls Try.prog 11 #[.agg (encI { zeroI with op := 184, imm := 4660 })] w fun e w' => e = .returned (.bool true) ∧ Below w.heap.size w w' := by
  have := may_any moveI move_ok w
  rw [move_may] at this
  exact this
theorem may_pref (w : World) : Calls Try.prog 11 #[.agg (encI { zeroI with op := 38 })] w fun e w' => e = .returned (.bool false) ∧ Below w.heap.size w w' := by
  have := may_any prefI pref_ok w
  rw [pref_may] at this
  exact this
theorem len_move (w : World) : Calls Try.prog 12 #[.agg (encI { zeroI with op := 184, imm := 4660 })] w fun e w' => e = .returned (.int .i64 3) ∧ Below w.heap.size w w' := by
  have := len_any moveI move_ok w
  rw [move_len] at this
  exact this
theorem tail_move (w : World) : Calls Try.prog 13 #[.agg (encI { zeroI with op := 184, imm := 4660 })] w fun e w' => e = .returned (.int .i64 1) ∧ Below w.heap.size w w' := by
  have := tail_any moveI move_ok w
  rw [move_tail] at this
  exact this
theorem disps_06 (w : World) : Calls Try.prog 23 #[.int .i64 0, .int .i64 6] w fun e w' => e = .returned (.int .i64 2) ∧ w = w' := dispsC_any 0 6 w

set_option maxHeartbeats 1000000 in
theorem awake05_any (w : World) : Calls Try.prog 10 #[] w fun e w' => e = .returned (.bool true) ∧ Below w.heap.size w w' := by
  have hR := Own.start w
  go_enter Try.func10, Try.ntmps10
  go_upto_region 2 with (first
    | ((with_reducible apply wpList_addr (fInst _ (by decide))); exact rfl; (simp only [List.set_cons_succ, List.set_cons_zero]; exact rfl))
    | ((with_reducible apply wpList_addr (fRow _ (by decide))); exact rfl; (simp only [List.set_cons_succ, List.set_cons_zero]; exact rfl))
    | ((with_reducible apply wpList_box hR); exact rfl; exact rfl; clear hR; intro g w hR; simp only [List.set_cons_succ, List.set_cons_zero])
    | ((with_reducible apply wpList_make hR zInst); exact rfl; clear hR; intro g w hR; simp only [List.set_cons_succ, List.set_cons_zero])
    | ((with_reducible apply wpList_make hR zRow); exact rfl; clear hR; intro g w hR; simp only [List.set_cons_succ, List.set_cons_zero])
    | ((with_reducible apply wpList_part hR tInst); exact rfl; exact rfl; (focus (repeat (first | apply List.Mem.head | apply List.Mem.tail))); apply ext_inst; exact rfl; (simp only [List.set_cons_succ, List.set_cons_zero]; exact rfl))
    | ((with_reducible apply wpList_part hR tRow); exact rfl; exact rfl; (focus (repeat (first | apply List.Mem.head | apply List.Mem.tail))); apply ext_row; exact rfl; (simp only [List.set_cons_succ, List.set_cons_zero]; exact rfl))
    | ((with_reducible apply wpList_one hR tInt); exact rfl; exact rfl; (focus (repeat (first | apply List.Mem.head | apply List.Mem.tail))); exact rfl; (simp only [List.set_cons_succ, List.set_cons_zero]; exact rfl))
    | ((with_reducible apply wpList_one hR tWord); exact rfl; exact rfl; (focus (repeat (first | apply List.Mem.head | apply List.Mem.tail))); exact rfl; (simp only [List.set_cons_succ, List.set_cons_zero]; exact rfl))
    | ((with_reducible apply wpList_one hR tByte); exact rfl; exact rfl; (focus (repeat (first | apply List.Mem.head | apply List.Mem.tail))); exact rfl; (simp only [List.set_cons_succ, List.set_cons_zero]; exact rfl))
    | ((with_reducible apply wpList_one hR tBool); exact rfl; exact rfl; (focus (repeat (first | apply List.Mem.head | apply List.Mem.tail))); exact rfl; (simp only [List.set_cons_succ, List.set_cons_zero]; exact rfl))
    | ((with_reducible apply wpList_put hR tInst); exact rfl; exact rfl; exact rfl; (focus (repeat (first | apply List.Mem.head | apply List.Mem.tail))); apply put_inst; exact rfl; simp [encI]; apply one_inst; (focus (repeat (first | apply Upd.head | apply Upd.tail))); clear hR; intro w hR)
    | ((with_reducible apply wpList_put hR tRow); exact rfl; exact rfl; exact rfl; (focus (repeat (first | apply List.Mem.head | apply List.Mem.tail))); apply put_row; exact rfl; simp [encR]; apply one_row; (focus (repeat (first | apply Upd.head | apply Upd.tail))); clear hR; intro w hR)
    | ((with_reducible apply wpList_built); exact rfl; exact rfl; (first | exact bInst1 _ | exact bInst2 _ _ | exact bInst3 _ _ | exact bRow0); (simp only [List.set_cons_succ, List.set_cons_zero]; exact rfl)))
  refine wp_region_tame hR [0, 1, 2, 3, 4, 5, 6, 7, 8, 9, 10, 11, 12, 13, 14, 15, 16, 17, 18, 19, 20, 21] rfl ?_
  repeat (refine wpT_step rfl ?_; first
    | ((with_reducible apply wpT1_move); exact rfl; exact rfl; (simp only [List.set_cons_succ, List.set_cons_zero]; exact rfl))
    | ((with_reducible apply wpT1_assign); exact rfl; exact rfl; (simp only [List.set_cons_succ, List.set_cons_zero]; exact rfl))
    | ((with_reducible apply wpT1_pick); exact rfl; exact rfl; exact rfl; (simp only [List.set_cons_succ, List.set_cons_zero]; exact rfl))
    | ((with_reducible apply wpT1_addr (fInst _ (by decide))); exact rfl; (simp only [List.set_cons_succ, List.set_cons_zero]; exact rfl))
    | ((with_reducible apply wpT1_addr (fRow _ (by decide))); exact rfl; (simp only [List.set_cons_succ, List.set_cons_zero]; exact rfl))
    | ((with_reducible apply wpT1_one tInt); exact rfl; exact rfl; (focus (repeat (first | apply List.Mem.head | apply List.Mem.tail))); exact rfl; (simp only [List.set_cons_succ, List.set_cons_zero]; exact rfl))
    | ((with_reducible apply wpT1_one tWord); exact rfl; exact rfl; (focus (repeat (first | apply List.Mem.head | apply List.Mem.tail))); exact rfl; (simp only [List.set_cons_succ, List.set_cons_zero]; exact rfl))
    | ((with_reducible apply wpT1_one tByte); exact rfl; exact rfl; (focus (repeat (first | apply List.Mem.head | apply List.Mem.tail))); exact rfl; (simp only [List.set_cons_succ, List.set_cons_zero]; exact rfl))
    | ((with_reducible apply wpT1_one tBool); exact rfl; exact rfl; (focus (repeat (first | apply List.Mem.head | apply List.Mem.tail))); exact rfl; (simp only [List.set_cons_succ, List.set_cons_zero]; exact rfl))
    | ((with_reducible apply wpT1_part tInst); exact rfl; exact rfl; (focus (repeat (first | apply List.Mem.head | apply List.Mem.tail))); apply ext_inst; exact rfl; (simp only [List.set_cons_succ, List.set_cons_zero]; exact rfl))
    | ((with_reducible apply wpT1_part tRow); exact rfl; exact rfl; (focus (repeat (first | apply List.Mem.head | apply List.Mem.tail))); apply ext_row; exact rfl; (simp only [List.set_cons_succ, List.set_cons_zero]; exact rfl))
    | ((with_reducible apply wpT1_built); exact rfl; exact rfl; (first | exact bInst1 _ | exact bInst2 _ _ | exact bInst3 _ _ | exact bRow0); (simp only [List.set_cons_succ, List.set_cons_zero]; exact rfl))
    | ((with_reducible apply wpT1_call Try.call11); exact rfl; exact rfl; (intro w hC; (with_reducible first | exact tame_below (may_move _) hC | exact tame_below (may_pref _) hC)); (simp only [List.set_cons_succ, List.set_cons_zero]; exact rfl))
    | ((with_reducible apply wpT1_call Try.call12); exact rfl; exact rfl; (intro w hC; exact tame_below (len_move _) hC); (simp only [List.set_cons_succ, List.set_cons_zero]; exact rfl))
    | ((with_reducible apply wpT1_call Try.call13); exact rfl; exact rfl; (intro w hC; exact tame_below (tail_move _) hC); (simp only [List.set_cons_succ, List.set_cons_zero]; exact rfl))
    | ((with_reducible apply wpT1_call Try.call23); exact rfl; exact rfl; (intro w hC; exact tame_same (disps_06 _) hC); (simp only [List.set_cons_succ, List.set_cons_zero]; exact rfl))
    | ((with_reducible apply wpT1_pure); exact rfl; intro K hK; go_simp; refine hK _ ?_; clear hK K; simp only [List.set_cons_succ, List.set_cons_zero]))
  refine wpT_nil ?_
  clear hR; intro w hR
  go_wp2
  go_ret
  exact ⟨rfl, hR.below⟩
end Go.Proofs.Ytpfghkbglcmhgaa
