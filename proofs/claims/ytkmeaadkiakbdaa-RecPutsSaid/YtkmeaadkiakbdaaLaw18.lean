






/- Records as values; 'awake' of hansomlaw18, over the contracts of package rec. No statement of the seat is proved here. -/
import Derived.Test.YtkmeaadkiakbdaaRec
import Derived.Test.YtkmeaadkiakbdaaStr
import Derived.Deep.DeepCutAuto
import Derived.Deep.CutBlock
namespace Go.Proofs.Ytkmeaadkiakbdaa
open Go.ChangeShapes Go.WideShapes Go.ChangeAt Go.RowKit
set_option linter.unusedVariables false
set_option linter.unusedSimpArgs false

theorem bB2x : BuiltS Try.prog 22 2 [(0, .int .u8 1), (1, .int .u8 65)] 5 #[.int .u8 1, .int .u8 65] := bB2 1 65
theorem ok165 : bytesOk [1, 65] := .cons (by decide) (.cons (by decide) .nil)
theorem ok12 : bytesOk [1, 2] := .cons (by decide) (.cons (by decide) .nil)
theorem put165 : putR 128 [1, 65] = recN 128 [1, 65] := rfl
theorem get165 : getR (recN 128 [1, 65]) = ⟨128, [1, 65], 6, 0⟩ := by
  have := get_rec 128 [1, 65] [] (by decide)
  rwa [List.append_nil] at this
theorem sum12 : sumN [1, 2] = 253 := by decide
theorem lit165 : (⟨#[1, 65]⟩ : ByteArray) = strOfNums [1, 65] := rfl
set_option maxHeartbeats 1000000 in
theorem awake18_any (w0 : World) :
    Calls Try.prog 9 #[] w0 fun e w' => e = .returned (.bool true) ∧ Below w0.heap.size w0 w' := by
  have hR := Own.start w0
  go_enter Try.func9, Try.ntmps9
  go_wp2_with (first
    | ((with_reducible apply wpList_buildS hR); exact rfl; exact rfl; (exact bB2 _ _); clear hR; intro gb w hR; simp only [List.set_cons_succ, List.set_cons_zero]; (have hS := src_row hR (.head _) rfl ok165 (by decide)))
    | ((with_reducible apply wpList_built); exact rfl; exact rfl; exact bRec _ hS; (simp only [List.set_cons_succ, List.set_cons_zero]; exact rfl)))
  refine (recput_any (by decide) hS (by decide)).mono ?_
  rw [put165]
  rintro e w1 ⟨vb, rfl, hb, hB⟩
  replace hR := hR.grow hb
  have hZ2 := (Since.start w0).own hR
  clear hR hb
  try clear hZ
  have hZ := hZ2
  clear hZ2
  have hR := Own.start w1
  go_wp2_with fail
  refine (recget_any (hB.own hR) (by decide)).mono ?_
  rw [get165]
  rintro e w2 ⟨vr, rfl, hb, hV⟩
  replace hR := hR.grow hb
  have hZ2 := (hZ).own hR
  clear hR hb
  try clear hZ
  have hZ := hZ2
  clear hZ2
  have hR := Own.start w2
  go_wp2_with (first
    | ((with_reducible apply wpList_make hR zRec); exact rfl; clear hR; intro g w hR; simp only [List.set_cons_succ, List.set_cons_zero])
    | ((with_reducible apply wpList_put hR tRec); exact rfl; exact rfl; exact rfl; (focus (repeat (first | apply List.Mem.head | apply List.Mem.tail | apply List.mem_append_right))); exact put_rec _ _ _ _; exact rfl; simp; exact one_rec _ hV; (focus (repeat (first | apply Upd.head | apply Upd.tail))); clear hR; intro w hR)
    | ((with_reducible apply wpList_buildS hR); exact rfl; exact rfl; (exact bB2 _ _); clear hR; intro gb w hR; simp only [List.set_cons_succ, List.set_cons_zero]; (have hS := src_row hR (.head _) rfl ok12 (by decide)))
    | (go_at_call 10; refine (recsum_any hS (by decide)).mono ?_; rw [sum12]; rintro e w' ⟨rfl, hb⟩; replace hR := hR.grow hb; clear hb)
    | ((with_reducible apply q_ls hR); exact rfl; (with_reducible apply t_eqN ok165 ok165); (apply EvC.now; exact rfl); exact lit_now lit165; (simp only [List.set_cons_succ, List.set_cons_zero]; exact rfl); clear hR; intro w hR)
    | ((with_reducible apply q_ls hR); exact rfl; (with_reducible apply t_strW tTextN); (apply EvC.now; exact rfl); (exact fun w hC => hV.own hC); (simp only [List.set_cons_succ, List.set_cons_zero]; exact rfl); clear hR; intro w hR)
    | ((with_reducible apply q_ls hR); exact rfl; ((with_reducible first | apply t_addr (fRec _ (by decide)) | apply t_one tByteR | apply t_one tSlR | apply t_one tIntR) <;> (first | (apply EvC.gv; exact rfl; (with_reducible first | exact Imp.refl _ | (apply Imp.left; exact Imp.refl _) | (apply Imp.right; exact Imp.refl _) | (apply Imp.left; apply Imp.left; exact Imp.refl _))) | (apply EvC.now; exact rfl) | exact rfl | (with_reducible exact EvAll.nil) | (focus (repeat (first | apply EvAll.cons | exact EvAll.nil | (apply EvC.gv; exact rfl; (with_reducible first | exact Imp.refl _ | (apply Imp.left; exact Imp.refl _) | (apply Imp.right; exact Imp.refl _) | (apply Imp.left; apply Imp.left; exact Imp.refl _))) | (apply EvC.now; exact rfl))); done) | exact rfl | (focus (repeat (first | apply List.Mem.head | apply List.Mem.tail | apply List.mem_append_right))))); (simp only [List.set_cons_succ, List.set_cons_zero]; exact rfl); clear hR; intro w hR))

  go_ret
  exact ⟨by simp, (hZ.own hR).below⟩
end Go.Proofs.Ytkmeaadkiakbdaa
