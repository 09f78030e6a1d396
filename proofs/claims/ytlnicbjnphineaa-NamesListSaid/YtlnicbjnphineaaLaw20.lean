






/- 'awake' of hansomlaw20, over the contracts of package names. No statement of the seat is proved here. -/
import Derived.Test.YtlnicbjnphineaaNam
import Derived.Test.YtlnicbjnphineaaStrs
import Derived.Test.YtlnicbjnphineaaRecT
import Derived.Deep.DeepCutAuto
import Derived.Deep.CutBlock
namespace Go.Proofs.Ytlnicbjnphineaa
open Go.ChangeShapes Go.WideShapes Go.ChangeAt Go.RowKit
set_option linter.unusedVariables false
set_option linter.unusedSimpArgs false

theorem lit6566 : (⟨#[65, 66]⟩ : ByteArray) = strOfNums [65, 66] := rfl
theorem ok6566 : bytesOk [65, 66] := .cons (by decide) (.cons (by decide) .nil)
theorem hdrAwake : hdrR (nam18 [65, 66]) = ([65, 66], 0) := hdr_back (by decide)
set_option maxHeartbeats 1000000 in
theorem awake20_any (w0 : World) :
    Calls Try.prog 8 #[] w0 fun e w' => e = .returned (.bool true) ∧ Below w0.heap.size w0 w' := by
  have hR := Own.start w0
  go_enter Try.func8, Try.ntmps8
  go_wp2_with fail
  refine (namHeader_any [65, 66] w0 ok6566 (by decide)).mono ?_
  rintro e w1 h1
  obtain ⟨v1, rfl, hb, hV⟩ := h1.now
  clear h1
  replace hR := hR.grow hb
  have hZ2 := (Since.start w0).own hR
  clear hR hb
  try clear hZ
  have hZ := hZ2
  clear hZ2
  have hR := Own.start w1
  go_wp2_with (first
    | ((with_reducible apply q_ls hR); exact rfl; (with_reducible apply t_fieldV (fvRec _ _)); (apply EvC.now; exact rfl); (simp only [List.set_cons_succ, List.set_cons_zero]; exact rfl); clear hR; intro w hR))
  refine (namName_any (hV.own hR) (by decide)).mono ?_
  rw [hdrAwake]
  rintro e w2 ⟨rfl, hb⟩
  replace hR := hR.grow hb
  clear hb
  go_wp2_with (first
    | (go_at_call 6; refine (namHeader_any [65, 66] _ ok6566 (by decide)).mono ?_; rintro e w' h3; obtain ⟨v3, rfl, hb, hV3⟩ := h3.now; clear h3 hV3; replace hR := hR.grow hb; clear hb)
    | ((with_reducible apply q_ls hR); exact rfl; (with_reducible apply t_fieldV (fvRec0 _ _)); (apply EvC.now; exact rfl); (simp only [List.set_cons_succ, List.set_cons_zero]; exact rfl); clear hR; intro w hR)
    | ((with_reducible apply q_ls hR); exact rfl; (with_reducible apply t_eqN ok6566 ok6566); (apply EvC.now; exact rfl); exact lit_now lit6566; (simp only [List.set_cons_succ, List.set_cons_zero]; exact rfl); clear hR; intro w hR)
    | ((with_reducible apply q_ls hR); exact rfl; ((with_reducible first | apply t_addr (fRec _ (by decide)) | apply t_one tByteR | apply t_one tSlR | apply t_one tIntR) <;> (first | (apply EvC.gv; exact rfl; (with_reducible first | exact Imp.refl _ | (apply Imp.left; exact Imp.refl _) | (apply Imp.right; exact Imp.refl _) | (apply Imp.left; apply Imp.left; exact Imp.refl _))) | (apply EvC.now; exact rfl) | exact rfl | (with_reducible exact EvAll.nil) | (focus (repeat (first | apply EvAll.cons | exact EvAll.nil | (apply EvC.gv; exact rfl; (with_reducible first | exact Imp.refl _ | (apply Imp.left; exact Imp.refl _) | (apply Imp.right; exact Imp.refl _) | (apply Imp.left; apply Imp.left; exact Imp.refl _))) | (apply EvC.now; exact rfl))); done) | exact rfl | (focus (repeat (first | apply List.Mem.head | apply List.Mem.tail | apply List.mem_append_right))))); (simp only [List.set_cons_succ, List.set_cons_zero]; exact rfl); clear hR; intro w hR))

  go_ret
  exact ⟨by simp, (hZ.own hR).below⟩
end Go.Proofs.Ytlnicbjnphineaa
