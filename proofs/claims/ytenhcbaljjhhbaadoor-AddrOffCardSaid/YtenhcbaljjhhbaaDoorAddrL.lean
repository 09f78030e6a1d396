





/- 'awake' of hansomlaw11. Over AddrD, which has the contracts of package addr ('off_any', 'default_any', 'place_any', 'direct_any'). No statement of the seat is proved here. -/
import Derived.Test.YtenhcbaljjhhbaaDoorAddrD
import Derived.Test.YtenhcbaljjhhbaaDoorNear
import Derived.Test.YtenhcbaljjhhbaaDoorOpen
import Derived.Test.YtenhcbaljjhhbaaDoorNum
import Derived.Deep.DeepCutAuto
import Derived.Deep.CutBlock
namespace Go.Proofs.YtenhcbaljjhhbaaDoor
open Go.ChangeShapes Go.WideShapes Go.ChangeAt Go.RowKit
set_option linter.unusedVariables false
set_option linter.unusedSimpArgs false

theorem fRegs (k : Nat) (h : k < 1) : FieldAt Tryd.prog 28 k k := by
  match k, h with
  | 0, _ => exact ⟨fun g w => by simp [go_sem, Instr.fieldAt, fieldPlace]⟩
def awakeI : InstZ := ⟨false, 0, 0, 139, 1, 0, 6, 2, 0, 0⟩
def awakeJ : InstZ := ⟨false, 0, 0, 0, 1, 0, 6, 0, 0, 0⟩
def awakeK : InstZ := ⟨false, 0, 0, 0, 0, 0, 6, 0, 0, 0⟩
theorem bInst4 : Built Tryd.prog 30 [(3, .int .u8 139), (4, .int .i64 1), (6, .int .i64 6), (7, .int .u16 2)] (encI awakeI) := ⟨by kernel_rfl⟩
theorem bInst5 : Built Tryd.prog 30 [(4, .int .i64 1), (6, .int .i64 6)] (encI awakeJ) := ⟨by kernel_rfl⟩
theorem bInst6 : Built Tryd.prog 30 [(6, .int .i64 6)] (encI awakeK) := ⟨by kernel_rfl⟩
theorem bRegs0 : Built Tryd.prog 28 [] (encRegs zeroRegs) := ⟨by kernel_rfl⟩
theorem zero_regs_ok (n v : Int) (k : Nat) (hv : 0 ≤ v ∧ v ≤ 65535) : (zeroRegs.putG k v false).ok := by
  have z : (0 : Int) ≤ 0 ∧ (0 : Int) ≤ 65535 := ⟨by decide, by decide⟩
  refine ⟨fun j => ?_, fun _ => z, z, z⟩
  show 0 ≤ (if j = k then v else 0) ∧ (if j = k then v else 0) ≤ 65535
  split
  · exact hv
  · exact z
theorem small {a b m : Int} (h : a = m) (h1 : b ≤ m) (h2 : m ≤ 9223372036854775807) : b ≤ a := by omega
theorem awake_ok (i : InstZ) (h : i = awakeI ∨ i = awakeJ ∨ i = awakeK) : i.ok := by
  rcases h with rfl | rfl | rfl <;> exact ⟨⟨by decide, by decide⟩, ⟨by decide, by decide⟩, ⟨by decide, by decide⟩, ⟨by decide, by decide⟩, ⟨by decide, by decide⟩, ⟨by decide, by decide⟩, ⟨by decide, by decide⟩, ⟨by decide, by decide⟩, ⟨by decide, by decide⟩⟩
theorem off_awake (w : World) (hT : Tabs w) : Calls Tryd.prog 6 #[.agg (encRegs (zeroRegs.putG 5 7 false)), .agg (encI awakeI)] w fun e w' => e = .returned (.tuple #[.int .u16 9, .bool true]) ∧ Below w.heap.size w w' := by
  have h := off_any (zeroRegs.putG 5 7 false) awakeI w (zero_regs_ok 0 7 5 ⟨by decide, by decide⟩) (awake_ok _ (.inl rfl)) hT
  rw [show offV (zeroRegs.putG 5 7 false) awakeI = 9 by decide +kernel, show offT (zeroRegs.putG 5 7 false) awakeI = true by decide +kernel] at h
  exact h
theorem def_awakeJ (w : World) (hT : Tabs w) : Calls Tryd.prog 9 #[.agg (encI awakeJ)] w fun e w' => e = .returned (.int .i64 2) ∧ Below w.heap.size w w' := by
  have h := default_any awakeJ w (awake_ok _ (.inr (.inl rfl))) (by decide) (by decide) hT
  rw [show defZ awakeJ = 2 by decide +kernel] at h
  exact h
theorem def_awakeK (w : World) (hT : Tabs w) : Calls Tryd.prog 9 #[.agg (encI awakeK)] w fun e w' => e = .returned (.int .i64 3) ∧ Below w.heap.size w w' := by
  have h := default_any awakeK w (awake_ok _ (.inr (.inr rfl))) (by decide) (by decide) hT
  rw [show defZ awakeK = 3 by decide +kernel] at h
  exact h
set_option maxHeartbeats 2000000 in
theorem awake11_any (w0 : World) (hT : Tabs w0) :
    Calls Tryd.prog 7 #[] w0 fun e w' => e = .returned (.bool true) ∧ Below w0.heap.size w0 w' := by
  have hR := Own.start w0
  go_enter Tryd.func7, Tryd.ntmps7
  go_wp2_with (first
    | ((with_reducible apply wpList_box hR); exact rfl; exact rfl; clear hR; intro g w hR; simp only [List.set_cons_succ, List.set_cons_zero])
    | ((with_reducible apply wpList_make hR zInst); exact rfl; clear hR; intro g7 w hR; simp only [List.set_cons_succ, List.set_cons_zero])
    | ((with_reducible apply wpList_make hR zRegs); exact rfl; clear hR; intro g1 w hR; simp only [List.set_cons_succ, List.set_cons_zero])
    | ((with_reducible apply q_ls hR); exact rfl; ((with_reducible first | apply t_addr (fInst _ (by decide)) | apply t_addr (fRegs _ (by decide)) | apply t_one tInt | apply t_one tWord | apply t_one tByte | apply t_one tBool | apply t_part tInst | apply t_part tRegs) <;> (first | (apply EvC.gv; exact rfl; (with_reducible first | exact Imp.refl _ | (apply Imp.left; exact Imp.refl _) | (apply Imp.right; exact Imp.refl _) | (apply Imp.left; apply Imp.left; exact Imp.refl _))) | (apply EvC.now; exact rfl) | exact rfl | (with_reducible exact EvAll.nil) | (focus (repeat (first | apply EvAll.cons | exact EvAll.nil | (apply EvC.gv; exact rfl; (with_reducible first | exact Imp.refl _ | (apply Imp.left; exact Imp.refl _) | (apply Imp.right; exact Imp.refl _) | (apply Imp.left; apply Imp.left; exact Imp.refl _))) | (apply EvC.now; exact rfl))); done) | (first | apply ext_inst | apply ext_regs) | (focus (repeat (first | apply List.Mem.head | apply List.Mem.tail | apply List.mem_append_right))))); (simp only [List.set_cons_succ, List.set_cons_zero]; exact rfl); clear hR; intro w hR)
    | ((with_reducible apply wpList_put hR tInst); exact rfl; exact rfl; exact rfl; (focus (repeat (first | apply List.Mem.head | apply List.Mem.tail | apply List.mem_append_right))); apply put_inst; exact rfl; simp [encI]; apply one_inst; (focus (repeat (first | apply Upd.head | apply Upd.tail))); clear hR; intro w hR)
    | ((with_reducible apply wpList_put hR tRegs); exact rfl; exact rfl; exact rfl; (focus (repeat (first | apply List.Mem.head | apply List.Mem.tail | apply List.mem_append_right))); apply put_regs; exact rfl; simp [encRegs]; apply one_regs; (focus (repeat (first | apply Upd.head | apply Upd.tail))); clear hR; intro w hR)
    | ((with_reducible apply wpList_put hR tVal); exact rfl; exact rfl; exact rfl; (focus (repeat (first | apply List.Mem.head | apply List.Mem.tail | apply List.mem_append_right))); exact put_g _ 5 _ _ (by decide); exact rfl; (simp [encVal, encRegs]); apply one_val; (focus (repeat (first | apply Upd.head | apply Upd.tail))); clear hR; intro w hR)
    | ((with_reducible apply wpList_built); exact rfl; exact rfl; (first | exact bInst4 | exact bInst5 | exact bInst6 | exact bRegs0 | exact bVal1 _); (simp only [List.set_cons_succ, List.set_cons_zero]; exact rfl)))
  refine (off_awake _ (hT.own hR)).mono ?_
  rintro e w' ⟨rfl, hb⟩
  replace hR := hR.grow hb
  clear hb
  go_wp2_with (first
    | ((with_reducible apply wpList_box hR); exact rfl; exact rfl; clear hR; intro g w hR; simp only [List.set_cons_succ, List.set_cons_zero])
    | ((with_reducible apply wpList_make hR zInst); exact rfl; clear hR; intro g7 w hR; simp only [List.set_cons_succ, List.set_cons_zero])
    | ((with_reducible apply wpList_make hR zRegs); exact rfl; clear hR; intro g1 w hR; simp only [List.set_cons_succ, List.set_cons_zero])
    | ((with_reducible apply q_ls hR); exact rfl; ((with_reducible first | apply t_addr (fInst _ (by decide)) | apply t_addr (fRegs _ (by decide)) | apply t_one tInt | apply t_one tWord | apply t_one tByte | apply t_one tBool | apply t_part tInst | apply t_part tRegs) <;> (first | (apply EvC.gv; exact rfl; (with_reducible first | exact Imp.refl _ | (apply Imp.left; exact Imp.refl _) | (apply Imp.right; exact Imp.refl _) | (apply Imp.left; apply Imp.left; exact Imp.refl _))) | (apply EvC.now; exact rfl) | exact rfl | (with_reducible exact EvAll.nil) | (focus (repeat (first | apply EvAll.cons | exact EvAll.nil | (apply EvC.gv; exact rfl; (with_reducible first | exact Imp.refl _ | (apply Imp.left; exact Imp.refl _) | (apply Imp.right; exact Imp.refl _) | (apply Imp.left; apply Imp.left; exact Imp.refl _))) | (apply EvC.now; exact rfl))); done) | (first | apply ext_inst | apply ext_regs) | (focus (repeat (first | apply List.Mem.head | apply List.Mem.tail | apply List.mem_append_right))))); (simp only [List.set_cons_succ, List.set_cons_zero]; exact rfl); clear hR; intro w hR)
    | ((with_reducible apply wpList_put hR tInst); exact rfl; exact rfl; exact rfl; (focus (repeat (first | apply List.Mem.head | apply List.Mem.tail | apply List.mem_append_right))); apply put_inst; exact rfl; simp [encI]; apply one_inst; (focus (repeat (first | apply Upd.head | apply Upd.tail))); clear hR; intro w hR)
    | ((with_reducible apply wpList_put hR tRegs); exact rfl; exact rfl; exact rfl; (focus (repeat (first | apply List.Mem.head | apply List.Mem.tail | apply List.mem_append_right))); apply put_regs; exact rfl; simp [encRegs]; apply one_regs; (focus (repeat (first | apply Upd.head | apply Upd.tail))); clear hR; intro w hR)
    | ((with_reducible apply wpList_built); exact rfl; exact rfl; (first | exact bInst4 | exact bInst5 | exact bInst6 | exact bRegs0 | exact bVal1 _); (simp only [List.set_cons_succ, List.set_cons_zero]; exact rfl)))
  refine (def_awakeJ _ (hT.own hR)).mono ?_
  rintro e w' ⟨rfl, hb⟩
  replace hR := hR.grow hb
  clear hb
  go_wp2_with (first
    | ((with_reducible apply wpList_box hR); exact rfl; exact rfl; clear hR; intro g w hR; simp only [List.set_cons_succ, List.set_cons_zero])
    | ((with_reducible apply wpList_make hR zInst); exact rfl; clear hR; intro g7 w hR; simp only [List.set_cons_succ, List.set_cons_zero])
    | ((with_reducible apply wpList_make hR zRegs); exact rfl; clear hR; intro g1 w hR; simp only [List.set_cons_succ, List.set_cons_zero])
    | ((with_reducible apply q_ls hR); exact rfl; ((with_reducible first | apply t_addr (fInst _ (by decide)) | apply t_addr (fRegs _ (by decide)) | apply t_one tInt | apply t_one tWord | apply t_one tByte | apply t_one tBool | apply t_part tInst | apply t_part tRegs) <;> (first | (apply EvC.gv; exact rfl; (with_reducible first | exact Imp.refl _ | (apply Imp.left; exact Imp.refl _) | (apply Imp.right; exact Imp.refl _) | (apply Imp.left; apply Imp.left; exact Imp.refl _))) | (apply EvC.now; exact rfl) | exact rfl | (with_reducible exact EvAll.nil) | (focus (repeat (first | apply EvAll.cons | exact EvAll.nil | (apply EvC.gv; exact rfl; (with_reducible first | exact Imp.refl _ | (apply Imp.left; exact Imp.refl _) | (apply Imp.right; exact Imp.refl _) | (apply Imp.left; apply Imp.left; exact Imp.refl _))) | (apply EvC.now; exact rfl))); done) | (first | apply ext_inst | apply ext_regs) | (focus (repeat (first | apply List.Mem.head | apply List.Mem.tail | apply List.mem_append_right))))); (simp only [List.set_cons_succ, List.set_cons_zero]; exact rfl); clear hR; intro w hR)
    | ((with_reducible apply wpList_put hR tInst); exact rfl; exact rfl; exact rfl; (focus (repeat (first | apply List.Mem.head | apply List.Mem.tail | apply List.mem_append_right))); apply put_inst; exact rfl; simp [encI]; apply one_inst; (focus (repeat (first | apply Upd.head | apply Upd.tail))); clear hR; intro w hR)
    | ((with_reducible apply wpList_put hR tRegs); exact rfl; exact rfl; exact rfl; (focus (repeat (first | apply List.Mem.head | apply List.Mem.tail | apply List.mem_append_right))); apply put_regs; exact rfl; simp [encRegs]; apply one_regs; (focus (repeat (first | apply Upd.head | apply Upd.tail))); clear hR; intro w hR)
    | ((with_reducible apply wpList_built); exact rfl; exact rfl; (first | exact bInst4 | exact bInst5 | exact bInst6 | exact bRegs0 | exact bVal1 _); (simp only [List.set_cons_succ, List.set_cons_zero]; exact rfl)))
  refine (def_awakeK _ (hT.own hR)).mono ?_
  rintro e w' ⟨rfl, hb⟩
  replace hR := hR.grow hb
  clear hb
  go_wp2_with fail
  go_ret
  exact ⟨rfl, hR.below⟩
end Go.Proofs.YtenhcbaljjhhbaaDoor
