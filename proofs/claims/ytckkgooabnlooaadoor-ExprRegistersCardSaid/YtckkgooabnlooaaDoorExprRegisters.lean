/- The law ExprRegisters (x) returns true whatever the arguments, in a state in which the listed package-level tables hold what the program lays them with (the card ties that to its text), and each argument reads afterwards as before. There is no condition on the arguments. -/
import Derived.Test.YtckkgooabnlooaaDoorRows
import Derived.Test.YtckkgooabnlooaaDoorReg30
import Derived.WalkKit
import Derived.ProofKit
import Derived.OpenShut
import Derived.ShutString
import Derived.ChangeOld
import Derived.Below
import Derived.Test.YtckkgooabnlooaaDoorTie
import Derived.Test.YtckkgooabnlooaaDoorCards
import Derived.Test.YtckkgooabnlooaaDoorExpTab
import Derived.SevenTiedAt
namespace Go.Proofs.YtckkgooabnlooaaDoor.exprRegisters
open Go.ChangeShapes Go.WideShapes Go.ChangeAt Go.RowKit
open Go.ChangeMaps (open_string shut_string)
set_option linter.unusedVariables false
set_option linter.unusedSimpArgs false

theorem own : ownKnob Tryd.prog.godebug = none := by kernel_rfl
theorem laidOut : laidOutB Tryd.prog = true := by kernel_rfl



















set_option maxHeartbeats 1000000 in
set_option maxRecDepth 100000 in
theorem walk (a0 : Int) (hw0 : (Lit.int .i64 a0).wf = true) (w0 : World) (hT : Tabs w0) :
    Calls Tryd.prog 5 #[.int .i64 a0] w0 fun e w' => e = .returned (.bool true) ∧ Below w0.heap.size w0 w' := by
  have hR := Own.start w0
  obtain ⟨k, hk, hk20⟩ : ∃ k : Nat, (a0 % 256).tmod 20 = (k : Int) ∧ k < 20 := ⟨((a0 % 256) % 20).toNat, by rw [rem_in (by omega)]; omega, by omega⟩
  have HA := Lib.hid (show bits .and .i64 a0 255 = a0 % 256 from i64_and255 a0)
  have HK := Lib.hid hk
  obtain ⟨s, hreg⟩ := reg_k hk20
  go_enter Tryd.func5, Tryd.ntmps5
  go_upto_region 3 with (first
    | ((with_reducible apply wpList_buildS hR); exact rfl; exact rfl; (exact bStr20 _ _ _ _ _ _ _ _ _ _ _ _ _ _ _ _ _ _ _ _); clear hR; intro gs w hR; simp only [cS, cZ])
    | ((with_reducible apply q_ls hR); exact rfl; (with_reducible apply t_numE (op := .and)); (apply EvC.now; exact rfl); (apply EvC.now; exact rfl); exact rfl; exact HA.out; (simp only [cS, cZ]; exact rfl); clear hR; intro w hR)
    | ((with_reducible apply q_ls hR); exact rfl; (with_reducible apply t_rem); (apply EvC.now; exact rfl); (apply EvC.now; exact rfl); (decide); exact HK.out; (simp only [cS, cZ]; exact rfl); clear hR; intro w hR))
  have hSt : Strs w (.slice (some ⟨gs, 0, none⟩) 20 20) regsZ := strs_row hR (by (focus (repeat (first | apply List.Mem.head | apply List.Mem.tail | apply List.mem_append_right)))) rfl rfl (by obtain ⟨_, _, _, _, h2⟩ := hT.reg; exact h2.ok) (by decide)
  have hC0 := hSt.cell hreg.el
  clear hk hw0 hSt
  replace hT := hT.own hR
  have hZ2 := (Since.start w0).own hR
  have hR2 := hR.fresh
  clear hR
  try clear hZ
  have hZ := hZ2
  have hR := hR2
  clear hZ2 hR2
  have HC := Lib.hid (show w.cell? ((⟨gs, 0, none⟩ : Addr).add ((k : Int).toNat * 1)) = some (.string (strOfNums s)) by rw [Nat.mul_one]; exact hC0)
  have HKB := Lib.hid (show (0 : Int) ≤ k ∧ (k : Int) < (20 : Nat) by omega)
  clear hC0
  have hA1 : ToksAre [s] [tkA s] := .cons hreg.tok .nil
  have hA3 : ToksAre [s, [43], [35, 49]] [tkA s, tkS 43, tkN 1] := .cons hreg.tok (.cons (.sign (by decide) (by decide) (by decide)) (.cons (.num (digs_one ⟨by decide, by decide⟩ rfl)) .nil))
  have hP1 : opdR (parseM zTab 40 (.ex 1) (startS [tkA s])) = (namedOZ k, 0) := hreg.p1
  have hP3 := hreg.p2
  have hN1 : numberR (opdR (parseM zTab 40 (.ex 1) (startS [tkA s]))) = (zeroVal, 3) := by rw [hP1]; exact hreg.n1
  have hG1 := hreg.g1
  have hG3 := hreg.g2
  have HEQ := Lib.hid (show cmpB .eql (regIx s) (k : Int) = some true by rw [hreg.ix]; exact cmp_selfS _)
  have HXX := Lib.hid (show cmpB .eql (regIx sXX) (-1 : Int) = some true from by rw [ix_xx]; rfl)
  have hso : bytesOk s := hreg.tok.okS
  clear hreg
  obtain ⟨o, ho⟩ : ∃ o, namedOZ k = o := ⟨_, rfl⟩
  rw [ho] at hP1
  go_upto_region 4 with (first
    | ((with_reducible apply q_ls hR); exact rfl; (with_reducible apply t_six Tryd.underlying23 iStrE); (apply EvC.now; exact rfl); (apply EvC.now; exact rfl); exact HKB.out; (simp only [cS, cZ]; exact rfl); clear hR; intro w hR)
    | ((with_reducible apply q_ls hR); exact rfl; (with_reducible apply t_oldOne tStrE); (apply EvC.now; exact rfl); (exact HC.out); exact rfl; (simp only [cS, cZ]; exact rfl); clear hR; intro w hR)
    | ((with_reducible apply wpList_buildS hR); exact rfl; exact rfl; (exact bStr1 _); clear hR; intro gs w hR; simp only [cS, cZ])
    | (go_at_call 9; refine (toksE_any hA1 (strs_row hR (by (focus (repeat (first | apply List.Mem.head | apply List.Mem.tail | apply List.mem_append_right)))) rfl rfl hA1.okS (Nat.le_of_ble_eq_true rfl)) (Nat.le_of_ble_eq_true rfl)).mono ?_; rintro e w' ⟨vt, rfl, hb, hTk⟩; replace hR := hR.grow hb; clear hb)
    | ((with_reducible apply wpList_built); exact rfl; exact rfl; exact bTab0; (simp only [cS, cZ]; exact rfl))
    | (go_at_call 12; (refine (operE_any (hT.own hR) (zTab_in _) hTk _ (hG1)).mono ?_; rintro e w' ⟨rfl, hb⟩; replace hR := hR.grow hb; clear hb; rw [hP1]))
    | ((with_reducible apply q_ls hR); exact rfl; (with_reducible apply t_extract); (apply EvC.now; exact rfl); exact rfl; (simp only [cS, cZ]; exact rfl); clear hR; intro w hR)
    | ((with_reducible apply wpList_box hR); exact rfl; exact rfl; clear hR; intro g w hR; simp only [cS, cZ])
    | ((with_reducible apply wpList_make hR zVal); exact rfl; clear hR; intro g w hR; simp only [cS, cZ])
    | ((with_reducible apply wpList_make hR zOpd); exact rfl; clear hR; intro g w hR; simp only [cS, cZ])
    | ((with_reducible apply q_ls hR); exact rfl; ((with_reducible first | apply t_one tStrE | apply t_part tOpd) <;> (first | (focus (repeat (first | (apply EvC.gv; exact rfl; (with_reducible first | exact Imp.refl _ | (apply Imp.left; exact Imp.refl _) | (apply Imp.right; exact Imp.refl _) | (apply Imp.left; apply Imp.left; exact Imp.refl _))) | (apply EvC.now; exact rfl) | (with_reducible first | apply EvAll.cons | exact EvAll.nil))); done) | exact rfl | exact ext_opd _ | (focus (repeat (first | apply List.Mem.head | apply List.Mem.tail | apply List.mem_append_right))))); (simp only [cS, cZ]; exact rfl); clear hR; intro w hR)
    | ((with_reducible apply wpList_put hR tVal); exact rfl; exact rfl; exact rfl; (focus (repeat (first | apply List.Mem.head | apply List.Mem.tail | apply List.mem_append_right))); exact put_val _ _; exact rfl; exact Nat.le_refl 6; exact one_val _; (focus (repeat (first | apply Upd.head | apply Upd.tail))); clear hR; intro w hR)
    | ((with_reducible apply wpList_put hR tOpd); exact rfl; exact rfl; exact rfl; (focus (repeat (first | apply List.Mem.head | apply List.Mem.tail | apply List.mem_append_right))); exact put_opd _ _; exact rfl; exact Nat.le_refl 12; exact one_opd _; (focus (repeat (first | apply Upd.head | apply Upd.tail))); clear hR; intro w hR))
  go_upto_region 5 with (first
    | ((with_reducible apply q_ls hR); exact rfl; (with_reducible apply t_six Tryd.underlying23 iStrE); (apply EvC.now; exact rfl); (apply EvC.now; exact rfl); exact HKB.out; (simp only [cS, cZ]; exact rfl); clear hR; intro w hR)
    | ((with_reducible apply q_ls hR); exact rfl; (with_reducible apply t_oldOne tStrE); (apply EvC.now; exact rfl); (exact HC.out); exact rfl; (simp only [cS, cZ]; exact rfl); clear hR; intro w hR)
    | ((with_reducible apply wpList_buildS hR); exact rfl; exact rfl; (exact bStr3 _ _ _); clear hR; intro gs w hR; simp only [cS, cZ])
    | (go_at_call 9; refine (toksE_any hA3 (strs_row hR (by (focus (repeat (first | apply List.Mem.head | apply List.Mem.tail | apply List.mem_append_right)))) rfl rfl hA3.okS (Nat.le_of_ble_eq_true rfl)) (Nat.le_of_ble_eq_true rfl)).mono ?_; rintro e w' ⟨vt, rfl, hb, hTk⟩; replace hR := hR.grow hb; clear hb)
    | ((with_reducible apply wpList_built); exact rfl; exact rfl; exact bTab0; (simp only [cS, cZ]; exact rfl))
    | (go_at_call 12; (refine (operE_any (hT.own hR) (zTab_in _) hTk _ (hG3)).mono ?_; rintro e w' ⟨rfl, hb⟩; replace hR := hR.grow hb; clear hb; rw [hP3]))
    | ((with_reducible apply q_ls hR); exact rfl; (with_reducible apply t_extract); (apply EvC.now; exact rfl); exact rfl; (simp only [cS, cZ]; exact rfl); clear hR; intro w hR)
    | ((with_reducible apply wpList_box hR); exact rfl; exact rfl; clear hR; intro g w hR; simp only [cS, cZ])
    | ((with_reducible apply wpList_make hR zVal); exact rfl; clear hR; intro g w hR; simp only [cS, cZ])
    | ((with_reducible apply wpList_make hR zOpd); exact rfl; clear hR; intro g w hR; simp only [cS, cZ])
    | ((with_reducible apply q_ls hR); exact rfl; ((with_reducible first | apply t_one tStrE | apply t_part tOpd) <;> (first | (focus (repeat (first | (apply EvC.gv; exact rfl; (with_reducible first | exact Imp.refl _ | (apply Imp.left; exact Imp.refl _) | (apply Imp.right; exact Imp.refl _) | (apply Imp.left; apply Imp.left; exact Imp.refl _))) | (apply EvC.now; exact rfl) | (with_reducible first | apply EvAll.cons | exact EvAll.nil))); done) | exact rfl | exact ext_opd _ | (focus (repeat (first | apply List.Mem.head | apply List.Mem.tail | apply List.mem_append_right))))); (simp only [cS, cZ]; exact rfl); clear hR; intro w hR)
    | ((with_reducible apply wpList_put hR tVal); exact rfl; exact rfl; exact rfl; (focus (repeat (first | apply List.Mem.head | apply List.Mem.tail | apply List.mem_append_right))); exact put_val _ _; exact rfl; exact Nat.le_refl 6; exact one_val _; (focus (repeat (first | apply Upd.head | apply Upd.tail))); clear hR; intro w hR)
    | ((with_reducible apply wpList_put hR tOpd); exact rfl; exact rfl; exact rfl; (focus (repeat (first | apply List.Mem.head | apply List.Mem.tail | apply List.mem_append_right))); exact put_opd _ _; exact rfl; exact Nat.le_refl 12; exact one_opd _; (focus (repeat (first | apply Upd.head | apply Upd.tail))); clear hR; intro w hR))
  go_upto_region 6 with (first
    | ((with_reducible apply q_ls hR); exact rfl; (with_reducible apply t_six Tryd.underlying23 iStrE); (apply EvC.now; exact rfl); (apply EvC.now; exact rfl); exact HKB.out; (simp only [cS, cZ]; exact rfl); clear hR; intro w hR)
    | ((with_reducible apply q_ls hR); exact rfl; (with_reducible apply t_oldOne tStrE); (apply EvC.now; exact rfl); (exact HC.out); exact rfl; (simp only [cS, cZ]; exact rfl); clear hR; intro w hR)
    | ((with_reducible apply wpList_buildS hR); exact rfl; exact rfl; (exact bStr1 _); clear hR; intro gs w hR; simp only [cS, cZ])
    | (go_at_call 9; refine (toksE_any hA1 (strs_row hR (by (focus (repeat (first | apply List.Mem.head | apply List.Mem.tail | apply List.mem_append_right)))) rfl rfl hA1.okS (Nat.le_of_ble_eq_true rfl)) (Nat.le_of_ble_eq_true rfl)).mono ?_; rintro e w' ⟨vt, rfl, hb, hTk⟩; replace hR := hR.grow hb; clear hb)
    | ((with_reducible apply wpList_built); exact rfl; exact rfl; exact bTab0; (simp only [cS, cZ]; exact rfl))
    | (go_at_call 8; refine (numE_any (hT.own hR) (zTab_in _) hTk _ (hG1)).mono ?_; rintro e w' ⟨rfl, hb⟩; replace hR := hR.grow hb; clear hb; rw [hN1])
    | ((with_reducible apply q_ls hR); exact rfl; (with_reducible apply t_extract); (apply EvC.now; exact rfl); exact rfl; (simp only [cS, cZ]; exact rfl); clear hR; intro w hR)
    | ((with_reducible apply wpList_box hR); exact rfl; exact rfl; clear hR; intro g w hR; simp only [cS, cZ])
    | ((with_reducible apply wpList_make hR zVal); exact rfl; clear hR; intro g w hR; simp only [cS, cZ])
    | ((with_reducible apply wpList_make hR zOpd); exact rfl; clear hR; intro g w hR; simp only [cS, cZ])
    | ((with_reducible apply q_ls hR); exact rfl; ((with_reducible first | apply t_one tStrE | apply t_part tOpd) <;> (first | (focus (repeat (first | (apply EvC.gv; exact rfl; (with_reducible first | exact Imp.refl _ | (apply Imp.left; exact Imp.refl _) | (apply Imp.right; exact Imp.refl _) | (apply Imp.left; apply Imp.left; exact Imp.refl _))) | (apply EvC.now; exact rfl) | (with_reducible first | apply EvAll.cons | exact EvAll.nil))); done) | exact rfl | exact ext_opd _ | (focus (repeat (first | apply List.Mem.head | apply List.Mem.tail | apply List.mem_append_right))))); (simp only [cS, cZ]; exact rfl); clear hR; intro w hR)
    | ((with_reducible apply wpList_put hR tVal); exact rfl; exact rfl; exact rfl; (focus (repeat (first | apply List.Mem.head | apply List.Mem.tail | apply List.mem_append_right))); exact put_val _ _; exact rfl; exact Nat.le_refl 6; exact one_val _; (focus (repeat (first | apply Upd.head | apply Upd.tail))); clear hR; intro w hR)
    | ((with_reducible apply wpList_put hR tOpd); exact rfl; exact rfl; exact rfl; (focus (repeat (first | apply List.Mem.head | apply List.Mem.tail | apply List.mem_append_right))); exact put_opd _ _; exact rfl; exact Nat.le_refl 12; exact one_opd _; (focus (repeat (first | apply Upd.head | apply Upd.tail))); clear hR; intro w hR))
  clear hP1 hP3 hN1 hG1 hG3 hA1 hA3 HA HK
  go_upto_region 7 with (first
    | ((with_reducible apply wpList_built); exact rfl; exact rfl; exact bOpd2 _ _; (simp only [cS, cZ]; exact rfl))
    | ((with_reducible apply wpList_box hR); exact rfl; exact rfl; clear hR; intro g w hR; simp only [cS, cZ])
    | ((with_reducible apply wpList_make hR zVal); exact rfl; clear hR; intro g w hR; simp only [cS, cZ])
    | ((with_reducible apply wpList_make hR zOpd); exact rfl; clear hR; intro g w hR; simp only [cS, cZ])
    | ((with_reducible apply q_ls hR); exact rfl; ((with_reducible first | apply t_one tStrE | apply t_part tOpd) <;> (first | (focus (repeat (first | (apply EvC.gv; exact rfl; (with_reducible first | exact Imp.refl _ | (apply Imp.left; exact Imp.refl _) | (apply Imp.right; exact Imp.refl _) | (apply Imp.left; apply Imp.left; exact Imp.refl _))) | (apply EvC.now; exact rfl) | (with_reducible first | apply EvAll.cons | exact EvAll.nil))); done) | exact rfl | exact ext_opd _ | (focus (repeat (first | apply List.Mem.head | apply List.Mem.tail | apply List.mem_append_right))))); (simp only [cS, cZ]; exact rfl); clear hR; intro w hR)
    | ((with_reducible apply wpList_put hR tVal); exact rfl; exact rfl; exact rfl; (focus (repeat (first | apply List.Mem.head | apply List.Mem.tail | apply List.mem_append_right))); exact put_val _ _; exact rfl; exact Nat.le_refl 6; exact one_val _; (focus (repeat (first | apply Upd.head | apply Upd.tail))); clear hR; intro w hR)
    | ((with_reducible apply wpList_put hR tOpd); exact rfl; exact rfl; exact rfl; (focus (repeat (first | apply List.Mem.head | apply List.Mem.tail | apply List.mem_append_right))); exact put_opd _ _; exact rfl; exact Nat.le_refl 12; exact one_opd _; (focus (repeat (first | apply Upd.head | apply Upd.tail))); clear hR; intro w hR))
  by_cases h8 : k < 8
  · have e : namedOZ k = ⟨1, k, 0, zeroVal, 0, 0, false⟩ := by
      unfold namedOZ; rw [if_neg (by omega), if_neg (by omega)]
    rw [e] at ho
    subst ho
    have H8 := Lib.hid (show cmpB .geq (k : Int) 8 = some false from congrArg some (decide_eq_false (by omega)))
    have H16 := Lib.hid (show cmpB .geq (k : Int) 16 = some false from congrArg some (decide_eq_false (by omega)))
    clear e h8 hk20
    go_upto_region 11 with (first
        | ((with_reducible apply q_ls hR); exact rfl; (with_reducible apply t_cmp (op := .geq)); (apply EvC.now; exact rfl); (apply EvC.now; exact rfl); (with_reducible first | exact H8.out | exact H16.out); (simp only [cS, cZ]; exact rfl); clear hR; intro w hR)
        | ((with_reducible apply q_ls hR); exact rfl; (with_reducible apply t_numE); (apply EvC.now; exact rfl); (apply EvC.now; exact rfl); exact rfl; (with_reducible first | exact HS8.out | exact HS16.out); (simp only [cS, cZ]; exact rfl); clear hR; intro w hR)
        | ((with_reducible apply wpList_built); exact rfl; exact rfl; exact bOpd2 _ _; (simp only [cS, cZ]; exact rfl))
        | ((with_reducible apply wpList_put hR tVal); exact rfl; exact rfl; exact rfl; (focus (repeat (first | apply List.Mem.head | apply List.Mem.tail | apply List.mem_append_right))); exact put_val _ _; exact rfl; exact Nat.le_refl 6; exact one_val _; (focus (repeat (first | apply Upd.head | apply Upd.tail))); clear hR; intro w hR)
        | ((with_reducible apply wpList_put hR tOpd); exact rfl; exact rfl; exact rfl; (focus (repeat (first | apply List.Mem.head | apply List.Mem.tail | apply List.mem_append_right))); exact put_opd _ _; exact rfl; exact Nat.le_refl 12; exact one_opd _; (focus (repeat (first | apply Upd.head | apply Upd.tail))); clear hR; intro w hR))
    refine wp_region_tame hR [0, 1, 2, 3, 4, 5, 6, 7, 8, 9, 10, 11, 12, 13, 14, 15, 16, 17, 18, 19, 20, 21, 22, 23, 24, 25, 26, 27, 28, 29, 30, 31] rfl ?_
    repeat (refine wpT_step rfl ?_; first
        | ((with_reducible apply q_kn); exact rfl; (with_reducible apply t_call Tryd.call10); (first | (focus (repeat (first | (apply EvC.gv; exact rfl; (with_reducible first | exact Imp.refl _ | (apply Imp.left; exact Imp.refl _) | (apply Imp.right; exact Imp.refl _) | (apply Imp.left; apply Imp.left; exact Imp.refl _))) | (apply EvC.now; exact rfl) | (with_reducible first | apply EvAll.cons | exact EvAll.nil))); done) | exact rfl | exact ext_opd _ | (focus (repeat (first | apply List.Mem.head | apply List.Mem.tail | apply List.mem_append_right)))); (intro hcc w hC; exact tame_below (awake_any (hT.own hC)) hC); (simp only [cS, cZ]; exact rfl))
        | ((with_reducible apply q_kn); exact rfl; (with_reducible apply t_call Tryd.call13); (apply EvAll.cons; (exact lit_now lsXX); exact EvAll.nil); (intro hcc w hC; exact tame_below (registerE_any (hT.own hC) oksXX) hC); (simp only [cS, cZ]; exact rfl))
        | ((with_reducible apply q_kn); exact rfl; (with_reducible apply t_call Tryd.call13); (apply EvAll.cons; (apply EvC.now; exact rfl); exact EvAll.nil); (intro hcc w hC; exact tame_below (registerE_any (hT.own hC) hso) hC); (simp only [cS, cZ]; exact rfl))
        | ((with_reducible apply q_kn); exact rfl; (with_reducible apply t_eql gOpd); (apply EvC.now; exact rfl); (apply EvC.now; exact rfl); exact eqO_self _; (simp only [cS, cZ]; exact rfl))
        | ((with_reducible apply q_kn); exact rfl; (with_reducible apply t_six Tryd.underlying23 iStrE); (apply EvC.now; exact rfl); (apply EvC.now; exact rfl); exact HKB.out; (simp only [cS, cZ]; exact rfl))
        | ((with_reducible apply q_kn); exact rfl; (with_reducible apply t_oldOne tStrE); (apply EvC.now; exact rfl); (exact HC.out); exact rfl; (simp only [cS, cZ]; exact rfl))
        | ((with_reducible apply q_kn); exact rfl; (with_reducible apply t_cmp (op := .eql)); (apply EvC.now; exact rfl); (apply EvC.now; exact rfl); (first | (with_reducible exact HEQ.out) | (with_reducible exact HXX.out) | exact rfl); (simp only [cS, cZ]; exact rfl))
        | ((with_reducible apply q_kn); exact rfl; (first | ((with_reducible first | apply t_move | apply t_assign | apply t_one tStrE | apply t_part tOpd) <;> (first | (focus (repeat (first | (apply EvC.gv; exact rfl; (with_reducible first | exact Imp.refl _ | (apply Imp.left; exact Imp.refl _) | (apply Imp.right; exact Imp.refl _) | (apply Imp.left; apply Imp.left; exact Imp.refl _))) | (apply EvC.now; exact rfl) | (with_reducible first | apply EvAll.cons | exact EvAll.nil))); done) | exact rfl | exact ext_opd _ | (focus (repeat (first | apply List.Mem.head | apply List.Mem.tail | apply List.mem_append_right))))) | ((with_reducible apply t_pick); (apply EvC.now; exact rfl); (apply EvC.now; exact rfl))); (simp only [cS, cZ]; exact rfl))
        | ((with_reducible apply wpT1_skipL); exact rfl; (simp only [cS, cZ]; exact rfl)))
    refine wpT_nil ?_
    clear hR; intro w hR
    go_wp2_with fail
    go_ret
    exact ⟨ret_bool (by kernel_rfl), (hZ.own hR).below⟩
  · have H8 := Lib.hid (show cmpB .geq (k : Int) 8 = some true from congrArg some (decide_eq_true (by omega)))
    have HS8 := Lib.hid (show IntKind.i64.wrap ((k : Int) - 8) = (k : Int) - 8 from IntWalk.i64_in _ (by omega))
    by_cases h16 : k < 16
    · have e : namedOZ k = ⟨2, (k : Int) - 8, 0, zeroVal, 0, 0, false⟩ := by
        unfold namedOZ; rw [if_neg (by omega), if_pos (by omega), show wrap64 ((k : Int) - 8) = (k : Int) - 8 from (IntWalk.i64_left _).symm.trans HS8.out]
      rw [e] at ho
      subst ho
      have H16 := Lib.hid (show cmpB .geq (k : Int) 16 = some false from congrArg some (decide_eq_false (by omega)))
      clear e h8 h16 hk20
      go_upto_region 11 with (first
          | ((with_reducible apply q_ls hR); exact rfl; (with_reducible apply t_cmp (op := .geq)); (apply EvC.now; exact rfl); (apply EvC.now; exact rfl); (with_reducible first | exact H8.out | exact H16.out); (simp only [cS, cZ]; exact rfl); clear hR; intro w hR)
          | ((with_reducible apply q_ls hR); exact rfl; (with_reducible apply t_numE); (apply EvC.now; exact rfl); (apply EvC.now; exact rfl); exact rfl; (with_reducible first | exact HS8.out | exact HS16.out); (simp only [cS, cZ]; exact rfl); clear hR; intro w hR)
          | ((with_reducible apply wpList_built); exact rfl; exact rfl; exact bOpd2 _ _; (simp only [cS, cZ]; exact rfl))
          | ((with_reducible apply wpList_put hR tVal); exact rfl; exact rfl; exact rfl; (focus (repeat (first | apply List.Mem.head | apply List.Mem.tail | apply List.mem_append_right))); exact put_val _ _; exact rfl; exact Nat.le_refl 6; exact one_val _; (focus (repeat (first | apply Upd.head | apply Upd.tail))); clear hR; intro w hR)
          | ((with_reducible apply wpList_put hR tOpd); exact rfl; exact rfl; exact rfl; (focus (repeat (first | apply List.Mem.head | apply List.Mem.tail | apply List.mem_append_right))); exact put_opd _ _; exact rfl; exact Nat.le_refl 12; exact one_opd _; (focus (repeat (first | apply Upd.head | apply Upd.tail))); clear hR; intro w hR))
      refine wp_region_tame hR [0, 1, 2, 3, 4, 5, 6, 7, 8, 9, 10, 11, 12, 13, 14, 15, 16, 17, 18, 19, 20, 21, 22, 23, 24, 25, 26, 27, 28, 29, 30, 31] rfl ?_
      repeat (refine wpT_step rfl ?_; first
          | ((with_reducible apply q_kn); exact rfl; (with_reducible apply t_call Tryd.call10); (first | (focus (repeat (first | (apply EvC.gv; exact rfl; (with_reducible first | exact Imp.refl _ | (apply Imp.left; exact Imp.refl _) | (apply Imp.right; exact Imp.refl _) | (apply Imp.left; apply Imp.left; exact Imp.refl _))) | (apply EvC.now; exact rfl) | (with_reducible first | apply EvAll.cons | exact EvAll.nil))); done) | exact rfl | exact ext_opd _ | (focus (repeat (first | apply List.Mem.head | apply List.Mem.tail | apply List.mem_append_right)))); (intro hcc w hC; exact tame_below (awake_any (hT.own hC)) hC); (simp only [cS, cZ]; exact rfl))
          | ((with_reducible apply q_kn); exact rfl; (with_reducible apply t_call Tryd.call13); (apply EvAll.cons; (exact lit_now lsXX); exact EvAll.nil); (intro hcc w hC; exact tame_below (registerE_any (hT.own hC) oksXX) hC); (simp only [cS, cZ]; exact rfl))
          | ((with_reducible apply q_kn); exact rfl; (with_reducible apply t_call Tryd.call13); (apply EvAll.cons; (apply EvC.now; exact rfl); exact EvAll.nil); (intro hcc w hC; exact tame_below (registerE_any (hT.own hC) hso) hC); (simp only [cS, cZ]; exact rfl))
          | ((with_reducible apply q_kn); exact rfl; (with_reducible apply t_eql gOpd); (apply EvC.now; exact rfl); (apply EvC.now; exact rfl); exact eqO_self _; (simp only [cS, cZ]; exact rfl))
          | ((with_reducible apply q_kn); exact rfl; (with_reducible apply t_six Tryd.underlying23 iStrE); (apply EvC.now; exact rfl); (apply EvC.now; exact rfl); exact HKB.out; (simp only [cS, cZ]; exact rfl))
          | ((with_reducible apply q_kn); exact rfl; (with_reducible apply t_oldOne tStrE); (apply EvC.now; exact rfl); (exact HC.out); exact rfl; (simp only [cS, cZ]; exact rfl))
          | ((with_reducible apply q_kn); exact rfl; (with_reducible apply t_cmp (op := .eql)); (apply EvC.now; exact rfl); (apply EvC.now; exact rfl); (first | (with_reducible exact HEQ.out) | (with_reducible exact HXX.out) | exact rfl); (simp only [cS, cZ]; exact rfl))
          | ((with_reducible apply q_kn); exact rfl; (first | ((with_reducible first | apply t_move | apply t_assign | apply t_one tStrE | apply t_part tOpd) <;> (first | (focus (repeat (first | (apply EvC.gv; exact rfl; (with_reducible first | exact Imp.refl _ | (apply Imp.left; exact Imp.refl _) | (apply Imp.right; exact Imp.refl _) | (apply Imp.left; apply Imp.left; exact Imp.refl _))) | (apply EvC.now; exact rfl) | (with_reducible first | apply EvAll.cons | exact EvAll.nil))); done) | exact rfl | exact ext_opd _ | (focus (repeat (first | apply List.Mem.head | apply List.Mem.tail | apply List.mem_append_right))))) | ((with_reducible apply t_pick); (apply EvC.now; exact rfl); (apply EvC.now; exact rfl))); (simp only [cS, cZ]; exact rfl))
          | ((with_reducible apply wpT1_skipL); exact rfl; (simp only [cS, cZ]; exact rfl)))
      refine wpT_nil ?_
      clear hR; intro w hR
      go_wp2_with fail
      go_ret
      exact ⟨ret_bool (by kernel_rfl), (hZ.own hR).below⟩
    · have HS16 := Lib.hid (show IntKind.i64.wrap ((k : Int) - 16) = (k : Int) - 16 from IntWalk.i64_in _ (by omega))
      have e : namedOZ k = ⟨3, (k : Int) - 16, 0, zeroVal, 0, 0, false⟩ := by
        unfold namedOZ; rw [if_pos (by omega), show wrap64 ((k : Int) - 16) = (k : Int) - 16 from (IntWalk.i64_left _).symm.trans HS16.out]
      rw [e] at ho
      subst ho
      have H16 := Lib.hid (show cmpB .geq (k : Int) 16 = some true from congrArg some (decide_eq_true (by omega)))
      clear e h8 h16 hk20
      go_upto_region 11 with (first
          | ((with_reducible apply q_ls hR); exact rfl; (with_reducible apply t_cmp (op := .geq)); (apply EvC.now; exact rfl); (apply EvC.now; exact rfl); (with_reducible first | exact H8.out | exact H16.out); (simp only [cS, cZ]; exact rfl); clear hR; intro w hR)
          | ((with_reducible apply q_ls hR); exact rfl; (with_reducible apply t_numE); (apply EvC.now; exact rfl); (apply EvC.now; exact rfl); exact rfl; (with_reducible first | exact HS8.out | exact HS16.out); (simp only [cS, cZ]; exact rfl); clear hR; intro w hR)
          | ((with_reducible apply wpList_built); exact rfl; exact rfl; exact bOpd2 _ _; (simp only [cS, cZ]; exact rfl))
          | ((with_reducible apply wpList_put hR tVal); exact rfl; exact rfl; exact rfl; (focus (repeat (first | apply List.Mem.head | apply List.Mem.tail | apply List.mem_append_right))); exact put_val _ _; exact rfl; exact Nat.le_refl 6; exact one_val _; (focus (repeat (first | apply Upd.head | apply Upd.tail))); clear hR; intro w hR)
          | ((with_reducible apply wpList_put hR tOpd); exact rfl; exact rfl; exact rfl; (focus (repeat (first | apply List.Mem.head | apply List.Mem.tail | apply List.mem_append_right))); exact put_opd _ _; exact rfl; exact Nat.le_refl 12; exact one_opd _; (focus (repeat (first | apply Upd.head | apply Upd.tail))); clear hR; intro w hR))
      refine wp_region_tame hR [0, 1, 2, 3, 4, 5, 6, 7, 8, 9, 10, 11, 12, 13, 14, 15, 16, 17, 18, 19, 20, 21, 22, 23, 24, 25, 26, 27, 28, 29, 30, 31] rfl ?_
      repeat (refine wpT_step rfl ?_; first
          | ((with_reducible apply q_kn); exact rfl; (with_reducible apply t_call Tryd.call10); (first | (focus (repeat (first | (apply EvC.gv; exact rfl; (with_reducible first | exact Imp.refl _ | (apply Imp.left; exact Imp.refl _) | (apply Imp.right; exact Imp.refl _) | (apply Imp.left; apply Imp.left; exact Imp.refl _))) | (apply EvC.now; exact rfl) | (with_reducible first | apply EvAll.cons | exact EvAll.nil))); done) | exact rfl | exact ext_opd _ | (focus (repeat (first | apply List.Mem.head | apply List.Mem.tail | apply List.mem_append_right)))); (intro hcc w hC; exact tame_below (awake_any (hT.own hC)) hC); (simp only [cS, cZ]; exact rfl))
          | ((with_reducible apply q_kn); exact rfl; (with_reducible apply t_call Tryd.call13); (apply EvAll.cons; (exact lit_now lsXX); exact EvAll.nil); (intro hcc w hC; exact tame_below (registerE_any (hT.own hC) oksXX) hC); (simp only [cS, cZ]; exact rfl))
          | ((with_reducible apply q_kn); exact rfl; (with_reducible apply t_call Tryd.call13); (apply EvAll.cons; (apply EvC.now; exact rfl); exact EvAll.nil); (intro hcc w hC; exact tame_below (registerE_any (hT.own hC) hso) hC); (simp only [cS, cZ]; exact rfl))
          | ((with_reducible apply q_kn); exact rfl; (with_reducible apply t_eql gOpd); (apply EvC.now; exact rfl); (apply EvC.now; exact rfl); exact eqO_self _; (simp only [cS, cZ]; exact rfl))
          | ((with_reducible apply q_kn); exact rfl; (with_reducible apply t_six Tryd.underlying23 iStrE); (apply EvC.now; exact rfl); (apply EvC.now; exact rfl); exact HKB.out; (simp only [cS, cZ]; exact rfl))
          | ((with_reducible apply q_kn); exact rfl; (with_reducible apply t_oldOne tStrE); (apply EvC.now; exact rfl); (exact HC.out); exact rfl; (simp only [cS, cZ]; exact rfl))
          | ((with_reducible apply q_kn); exact rfl; (with_reducible apply t_cmp (op := .eql)); (apply EvC.now; exact rfl); (apply EvC.now; exact rfl); (first | (with_reducible exact HEQ.out) | (with_reducible exact HXX.out) | exact rfl); (simp only [cS, cZ]; exact rfl))
          | ((with_reducible apply q_kn); exact rfl; (first | ((with_reducible first | apply t_move | apply t_assign | apply t_one tStrE | apply t_part tOpd) <;> (first | (focus (repeat (first | (apply EvC.gv; exact rfl; (with_reducible first | exact Imp.refl _ | (apply Imp.left; exact Imp.refl _) | (apply Imp.right; exact Imp.refl _) | (apply Imp.left; apply Imp.left; exact Imp.refl _))) | (apply EvC.now; exact rfl) | (with_reducible first | apply EvAll.cons | exact EvAll.nil))); done) | exact rfl | exact ext_opd _ | (focus (repeat (first | apply List.Mem.head | apply List.Mem.tail | apply List.mem_append_right))))) | ((with_reducible apply t_pick); (apply EvC.now; exact rfl); (apply EvC.now; exact rfl))); (simp only [cS, cZ]; exact rfl))
          | ((with_reducible apply wpT1_skipL); exact rfl; (simp only [cS, cZ]; exact rfl)))
      refine wpT_nil ?_
      clear hR; intro w hR
      go_wp2_with fail
      go_ret
      exact ⟨ret_bool (by kernel_rfl), (hZ.own hR).below⟩

set_option maxRecDepth 100000 in
theorem lifted (os : Os) (started : os.Started) (H : Type) (enc : TypeId × Value → H) :
    ReturnsInHanded {} Tryd.checked os 5 .any (fun w args => (Rows.exprRegistersSpec.pre enc Tryd.prog Tryd.f5 [] false w args ∧ laidMetH Tryd.prog laid2 w) ∧ sizedMet enc Tryd.prog Tryd.f5 (OpenSpec.ofChange Rows.exprRegistersSpec) false w args)
      (Rows.exprRegistersSpec.post enc Tryd.prog Tryd.f5 false true false false) := by
  refine returnsInHanded_of_change_and (C := Tryd.checked) (X := fun w _ => laidMetH Tryd.prog laid2 w) (fun _ _ _ hh h => h.of_heap hh) own started (by kernel_rfl) Tryd.func5
    (ChangeSpec.witness_shaped (enc := enc) (C := Tryd.checked) (os := os) (X := fun w _ => laidMetH Tryd.prog laid2 w) false (World.doorLaid Tryd.prog 400 os) #[.int .i64 0] 8 rfl (World.shaped_of_RefB (by kernel_rfl) (by kernel_rfl)) (by kernel_rfl) (by kernel_rfl) (by kernel_rfl) (door_met os _)) ?_
  intro W base args ds gs before hval0 hW _ _ hL _
  have hval : ∀ (j : Nat) t v, Tryd.f5.params[j]? = some t → args[j]? = some v → Value.okWide Tryd.prog W .any base t v := hval0
  have hW' := hW
  obtain ⟨p, q, hA0, hV, rfl, hfz, hnd⟩ := hW
  have hA : DataW.TrodAll enc Tryd.prog W 0 (fun _ => true) true Tryd.f5.params.toList args.toList ds p := hA0
  rw [Tryd.params5] at hA hval
  obtain ⟨v0, vs0, d0, ds0, p0, q0, hargs, rfl, rfl, h0, r0⟩ := trodAll_cons hA
  obtain ⟨rfl, rfl, rfl⟩ := trodAll_nil r0
  obtain rfl : args = #[v0] := by cases args; simp_all
  obtain ⟨rfl, rfl⟩ := trodVars_none hV
  obtain ⟨a0, rfl, rfl, rfl, w0⟩ := open_int Tryd.underlying3 (hval 0 3 v0 rfl rfl) h0
  clear hA0 hval0
  refine (walk a0 w0 W (of_laid hL)).mono fun e W' ⟨he, bel⟩ => ?_
  subst he
  exact ⟨_, rfl, _, _, _, [], _, [], hW', trodAll_mk1 (shut_bool Tryd.underlying4 _), (trodAll_cons_mk (shut_int Tryd.underlying3 w0) trodAll_mk0), rfl, bel.frame _, fun h => by cases h⟩

theorem over : Rows.exprRegistersRow.holds Tryd.pinned (OpenSpec.ofChange Rows.exprRegistersSpec) :=
  OpenClaim.holds_of_wide 5 Tryd.f5 rfl rfl rfl rfl rfl rfl rfl ⟨rfl, rfl, rfl, rfl, rfl⟩ rfl rfl rfl rfl rfl (by kernel_rfl) Tryd.func5 (by kernel_rfl)
    (of_decide_eq_true (by kernel_rfl)) (by unfold Func.isWrapper; first | (rw [if_pos (by decide +kernel)]; kernel_rfl) | (rw [if_neg (by decide +kernel)]; exact ⟨rfl, rfl⟩))
    (fun os started H enc _ => lifted os started H enc)

theorem proved : Rows.ExprRegistersCardSaid :=
  Claim7.holds_tied_plain_at .later [] [.data, .data, .data, .widerDeep, .data, .sentinel, .sentinel] true Rows.exprRegistersCard.stood.harness Rows.exprRegistersCard.stood.looks
    over (fun _ h => by cases h) (by kernel_rfl) (fun _ h => by cases h) exprRegisters_row_tie rfl ⟨rfl, rfl⟩ (by kernel_rfl) rfl
    (fun f fn hf hfn => by
      obtain rfl : f = 5 := Option.some.inj ((show Tryd.prog.funcNamed "hansom/hansomlaw30.ExprRegisters" = some 5 by kernel_rfl).symm.trans hf) |>.symm
      obtain rfl : fn = Tryd.f5 := (Option.some.inj (Tryd.func5.symm.trans hfn)).symm
      exact ⟨by kernel_rfl, fun j t ht => by
        rw [Tryd.params5] at ht
        have hm : t ∈ [3] := by simpa using Array.mem_of_getElem? ht
        have hall : ([3].all fun u => !Tryd.prog.wantsStandIn u) = true := by kernel_rfl
        exact (show Tryd.prog.wantsStandIn t = false by simpa using List.all_eq_true.1 hall t hm)⟩)
    (by kernel_rfl)
#print axioms proved
end Go.Proofs.YtckkgooabnlooaaDoor.exprRegisters
