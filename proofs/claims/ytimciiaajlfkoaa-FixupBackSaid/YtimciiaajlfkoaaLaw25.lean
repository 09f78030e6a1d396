








/- 'awake' of hansomlaw25, over the contracts of package fixup. No statement of the seat is proved here. -/
import Derived.Test.YtimciiaajlfkoaaFix
import Derived.Test.YtimciiaajlfkoaaNear25
import Derived.Test.YtimciiaajlfkoaaStrs
namespace Go.Proofs.Ytimciiaajlfkoaa
open Go.ChangeShapes Go.WideShapes Go.ChangeAt Go.RowKit
set_option linter.unusedVariables false
set_option linter.unusedSimpArgs false

def fA : FixZ := ⟨300, 1, false, 5, 0, 2, 3, 9⟩
theorem bFA : Built Try.prog 24 [(0, .int .i64 300), (1, .int .i64 1), (3, .int .i64 5), (5, .int .i64 2), (6, .int .i64 3), (7, .int .u16 9)] (encF fA) := ⟨by kernel_rfl⟩
theorem fA_may : MayF fA 400 := (mayF_iff fA 400).1 rfl
theorem sizeF_3 : sizeF 3 = 4 := rfl
theorem fixSize_3 (w : World) : Calls Try.prog 13 #[.int .i64 3] w fun e w' => e = .returned (.int .i64 4) ∧ Below w.heap.size w w' := fixSize_any 3 w ⟨by decide, by decide⟩
set_option maxHeartbeats 1000000 in
theorem awake25_any (w0 : World) :
    Calls Try.prog 9 #[] w0 fun e w' => e = .returned (.bool true) ∧ Below w0.heap.size w0 w' := by
  have hR := Own.start w0
  go_enter Try.func9, Try.ntmps9
  go_wp2_with (first
    | ((with_reducible apply wpList_built); exact rfl; exact rfl; exact bFA; (simp only [List.set_cons_succ, List.set_cons_zero]; exact rfl))
    | ((with_reducible apply wpList_make hR zFix); exact rfl; clear hR; intro g1 w hR; simp only [List.set_cons_succ, List.set_cons_zero])
    | ((with_reducible apply wpList_put hR tFix); exact rfl; exact rfl; exact rfl; (focus (repeat (first | apply List.Mem.head | apply List.Mem.tail | apply List.mem_append_right))); exact put_fix _ _; exact rfl; simp [encF]; exact one_fix _; (focus (repeat (first | apply Upd.head | apply Upd.tail))); clear hR; intro w hR)
    | ((with_reducible apply q_ls hR); exact rfl; ((with_reducible first | apply t_addr (fRec _ (by decide)) | apply t_addr (fFix _ (by decide)) | apply t_one tByteR | apply t_one tSlR | apply t_one tIntR | apply t_one tWordF | apply t_one tBoolF | apply t_part tFix) <;> (first | (apply EvC.gv; exact rfl; (with_reducible first | exact Imp.refl _ | (apply Imp.left; exact Imp.refl _) | (apply Imp.right; exact Imp.refl _) | (apply Imp.left; apply Imp.left; exact Imp.refl _))) | (apply EvC.now; exact rfl) | exact rfl | (with_reducible exact EvAll.nil) | (focus (repeat (first | apply EvAll.cons | exact EvAll.nil | (apply EvC.gv; exact rfl; (with_reducible first | exact Imp.refl _ | (apply Imp.left; exact Imp.refl _) | (apply Imp.right; exact Imp.refl _) | (apply Imp.left; apply Imp.left; exact Imp.refl _))) | (apply EvC.now; exact rfl))); done) | exact ext_fix _ | (focus (repeat (first | apply List.Mem.head | apply List.Mem.tail | apply List.mem_append_right))))); (simp only [List.set_cons_succ, List.set_cons_zero]; exact rfl); clear hR; intro w hR))
  refine (fixPut_any fA 400 _ fA_may (by decide)).mono ?_
  rintro e w1 h1
  obtain ⟨v1, rfl, hb, hV⟩ := h1.now
  have hAt := (hR.at (g := g1) (cs := encF fA) (t := 24) (by (focus (repeat (first | apply List.Mem.head | apply List.Mem.tail | apply List.mem_append_right))))).keep hb
  clear h1
  replace hR := hR.grow hb
  have hZ2 := (Since.start w0).own hR
  clear hR hb
  try clear hZ
  have hZ := hZ2
  clear hZ2
  have hR := Own.start w1
  go_wp2_with (first
    | ((with_reducible apply wpList_built); exact rfl; exact rfl; exact bThs0; (simp only [List.set_cons_succ, List.set_cons_zero]; exact rfl))
    | ((with_reducible apply q_ls hR); exact rfl; ((with_reducible first | apply t_addr (fRec _ (by decide)) | apply t_addr (fFix _ (by decide)) | apply t_one tByteR | apply t_one tSlR | apply t_one tIntR | apply t_one tWordF | apply t_one tBoolF | apply t_part tFix) <;> (first | (apply EvC.gv; exact rfl; (with_reducible first | exact Imp.refl _ | (apply Imp.left; exact Imp.refl _) | (apply Imp.right; exact Imp.refl _) | (apply Imp.left; apply Imp.left; exact Imp.refl _))) | (apply EvC.now; exact rfl) | exact rfl | (with_reducible exact EvAll.nil) | (focus (repeat (first | apply EvAll.cons | exact EvAll.nil | (apply EvC.gv; exact rfl; (with_reducible first | exact Imp.refl _ | (apply Imp.left; exact Imp.refl _) | (apply Imp.right; exact Imp.refl _) | (apply Imp.left; apply Imp.left; exact Imp.refl _))) | (apply EvC.now; exact rfl))); done) | exact ext_fix _ | (focus (repeat (first | apply List.Mem.head | apply List.Mem.tail | apply List.mem_append_right))))); (simp only [List.set_cons_succ, List.set_cons_zero]; exact rfl); clear hR; intro w hR))
  refine (fixGet_any 400 ths0 (hV.own hR) (by have := (putF_len fA).2; omega) (by decide) ths0_ok).mono ?_
  rw [getF_one fA_may (by decide)]
  rintro e w2 ⟨v2, rfl, hb, hG⟩
  replace hAt := (hAt.own hR).keep hb
  replace hR := hR.grow hb
  have hZ2 := (hZ).own hR
  clear hR hb
  try clear hZ
  have hZ := hZ2
  clear hZ2
  have hR := Own.start w2
  have hT := hAt.get
  obtain ⟨a, cap, rfl, hc⟩ := hG.el cellsF_len (i := 0) (z := fA) rfl
  have HC := Lib.hid (show ∀ j u, (encF fA).toList[j]? = some u → w2.cell? ((a.add ((0 : Int).toNat * 8)).add j) = some u from hc)
  go_upto_region 3 with (first
    | ((with_reducible apply wpList_make hR zThs); exact rfl; clear hR; intro g3 w hR; simp only [List.set_cons_succ, List.set_cons_zero])
    | ((with_reducible apply wpList_put hR tThs); exact rfl; exact rfl; exact rfl; (focus (repeat (first | apply List.Mem.head | apply List.Mem.tail | apply List.mem_append_right))); exact put_ths _ rfl ths0_ok; exact rfl; simp [encThs, cellsThs_len ths0_ok]; exact one_ths _; (focus (repeat (first | apply Upd.head | apply Upd.tail))); clear hR; intro w hR))
  refine wp_region_rows hR [0, 1, 2, 3, 4, 5, 6, 7, 8, 9, 10, 11, 12, 13, 14, 15, 16, 17, 18] 0 (by kernel_rfl) (by kernel_rfl) (by kernel_rfl) rfl ?_
  clear hR; intro hR
  repeat (refine wpT_step rfl ?_; first
    | ((with_reducible apply q_kn); exact rfl; (with_reducible apply t_call Try.call13); (first | (apply EvC.gv; exact rfl; (with_reducible first | exact Imp.refl _ | (apply Imp.left; exact Imp.refl _) | (apply Imp.right; exact Imp.refl _) | (apply Imp.left; apply Imp.left; exact Imp.refl _))) | (apply EvC.now; exact rfl) | exact rfl | (with_reducible exact EvAll.nil) | (focus (repeat (first | apply EvAll.cons | exact EvAll.nil | (apply EvC.gv; exact rfl; (with_reducible first | exact Imp.refl _ | (apply Imp.left; exact Imp.refl _) | (apply Imp.right; exact Imp.refl _) | (apply Imp.left; apply Imp.left; exact Imp.refl _))) | (apply EvC.now; exact rfl))); done) | exact ext_fix _ | (focus (repeat (first | apply List.Mem.head | apply List.Mem.tail | apply List.mem_append_right)))); (intro hcc w hC; exact tame_below (fixSize_3 _) hC); (simp only [List.set_cons_succ, List.set_cons_zero]; exact rfl))
    | ((with_reducible apply q_kn); exact rfl; (with_reducible apply t_lenRd Try.underlying34); (apply EvC.now; exact rfl); exact hG; (simp only [List.set_cons_succ, List.set_cons_zero]; exact rfl))
    | ((with_reducible apply q_kn); exact rfl; (with_reducible apply t_six Try.underlying34 iFix); (apply EvC.now; exact rfl); (apply EvC.now; exact rfl); (constructor <;> simp); (simp only [List.set_cons_succ, List.set_cons_zero]; exact rfl))
    | ((with_reducible apply q_kn); exact rfl; (with_reducible apply t_oldMany tFix); (apply EvC.now; exact rfl); exact HC.out; exact rfl; (simp only [List.set_cons_succ, List.set_cons_zero]; exact rfl))
    | ((with_reducible apply q_kn); exact rfl; (with_reducible apply t_oldRow tFix hT); (apply EvC.now; exact rfl); exact ext_fix _; exact rfl; (simp only [List.set_cons_succ, List.set_cons_zero]; exact rfl))
    | ((with_reducible apply q_kn); exact rfl; (with_reducible apply t_eql gFix); (apply EvC.now; exact rfl); (apply EvC.now; exact rfl); exact eqF_self _; (simp only [List.set_cons_succ, List.set_cons_zero]; exact rfl))
    | ((with_reducible apply q_kn); exact rfl; (with_reducible apply t_cmp); (apply EvC.now; exact rfl); (apply EvC.now; exact rfl); exact cmp_selfS _; (simp only [List.set_cons_succ, List.set_cons_zero]; exact rfl))
    | ((with_reducible apply q_kn); exact rfl; (first | ((with_reducible first | apply t_move | apply t_assign | apply t_addr (fRec _ (by decide)) | apply t_addr (fFix _ (by decide)) | apply t_one tByteR | apply t_one tSlR | apply t_one tIntR | apply t_one tWordF | apply t_one tBoolF | apply t_part tFix) <;> (first | (apply EvC.gv; exact rfl; (with_reducible first | exact Imp.refl _ | (apply Imp.left; exact Imp.refl _) | (apply Imp.right; exact Imp.refl _) | (apply Imp.left; apply Imp.left; exact Imp.refl _))) | (apply EvC.now; exact rfl) | exact rfl | (with_reducible exact EvAll.nil) | (focus (repeat (first | apply EvAll.cons | exact EvAll.nil | (apply EvC.gv; exact rfl; (with_reducible first | exact Imp.refl _ | (apply Imp.left; exact Imp.refl _) | (apply Imp.right; exact Imp.refl _) | (apply Imp.left; apply Imp.left; exact Imp.refl _))) | (apply EvC.now; exact rfl))); done) | exact ext_fix _ | (focus (repeat (first | apply List.Mem.head | apply List.Mem.tail | apply List.mem_append_right))))) | ((with_reducible apply t_pick); (apply EvC.now; exact rfl); (apply EvC.now; exact rfl))); (simp only [List.set_cons_succ, List.set_cons_zero]; exact rfl)))
  refine wpG_end hR (by kernel_rfl) ?_
  clear hR; intro w hR
  go_wp2_with fail
  go_ret
  exact ⟨rfl, (hZ.own hR).below⟩
end Go.Proofs.Ytimciiaajlfkoaa
