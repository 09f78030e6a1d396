









/- Contracts of package line's tests on words and pieces, of deep and part. No statement of the seat is proved here. -/
import Derived.Test.YtjecckmcjcikdaaDoorLinM
import Derived.Deep.DeepCutAuto
import Derived.Deep.CutBlock
import Derived.WalkSmall
namespace Go.Proofs.YtjecckmcjcikdaaDoor
open Go.ChangeShapes Go.WideShapes Go.ChangeAt Go.RowKit
set_option linter.unusedVariables false
set_option linter.unusedSimpArgs false
set_option maxRecDepth 100000

theorem lsSEGMENT : (⟨#[83, 69, 71, 77, 69, 78, 84]⟩ : ByteArray) = strOfNums sSEGMENT := rfl
theorem oksSEGMENT : bytesOk sSEGMENT := ascii.ok (ascii_of rfl)
theorem lsENDS : (⟨#[69, 78, 68, 83]⟩ : ByteArray) = strOfNums sENDS := rfl
theorem oksENDS : bytesOk sENDS := ascii.ok (ascii_of rfl)
theorem lsGROUP : (⟨#[71, 82, 79, 85, 80]⟩ : ByteArray) = strOfNums sGROUP := rfl
theorem oksGROUP : bytesOk sGROUP := ascii.ok (ascii_of rfl)
theorem lsEQU : (⟨#[69, 81, 85]⟩ : ByteArray) = strOfNums sEQU := rfl
theorem oksEQU : bytesOk sEQU := ascii.ok (ascii_of rfl)
theorem lsIS : (⟨#[61]⟩ : ByteArray) = strOfNums sIS := rfl
theorem oksIS : bytesOk sIS := ascii.ok (ascii_of rfl)
theorem lsPROC : (⟨#[80, 82, 79, 67]⟩ : ByteArray) = strOfNums sPROC := rfl
theorem oksPROC : bytesOk sPROC := ascii.ok (ascii_of rfl)
theorem lsENDP : (⟨#[69, 78, 68, 80]⟩ : ByteArray) = strOfNums sENDP := rfl
theorem oksENDP : bytesOk sENDP := ascii.ok (ascii_of rfl)
theorem lsDB : (⟨#[68, 66]⟩ : ByteArray) = strOfNums sDB := rfl
theorem oksDB : bytesOk sDB := ascii.ok (ascii_of rfl)
theorem lsDW : (⟨#[68, 87]⟩ : ByteArray) = strOfNums sDW := rfl
theorem oksDW : bytesOk sDW := ascii.ok (ascii_of rfl)
theorem lsDD : (⟨#[68, 68]⟩ : ByteArray) = strOfNums sDD := rfl
theorem oksDD : bytesOk sDD := ascii.ok (ascii_of rfl)
theorem lsDQ : (⟨#[68, 81]⟩ : ByteArray) = strOfNums sDQ := rfl
theorem oksDQ : bytesOk sDQ := ascii.ok (ascii_of rfl)
theorem lsLOCK : (⟨#[76, 79, 67, 75]⟩ : ByteArray) = strOfNums sLOCK := rfl
theorem oksLOCK : bytesOk sLOCK := ascii.ok (ascii_of rfl)
theorem lsREP : (⟨#[82, 69, 80]⟩ : ByteArray) = strOfNums sREP := rfl
theorem oksREP : bytesOk sREP := ascii.ok (ascii_of rfl)
theorem lsREPE : (⟨#[82, 69, 80, 69]⟩ : ByteArray) = strOfNums sREPE := rfl
theorem oksREPE : bytesOk sREPE := ascii.ok (ascii_of rfl)
theorem lsREPZ : (⟨#[82, 69, 80, 90]⟩ : ByteArray) = strOfNums sREPZ := rfl
theorem oksREPZ : bytesOk sREPZ := ascii.ok (ascii_of rfl)
theorem lsREPNE : (⟨#[82, 69, 80, 78, 69]⟩ : ByteArray) = strOfNums sREPNE := rfl
theorem oksREPNE : bytesOk sREPNE := ascii.ok (ascii_of rfl)
theorem lsREPNZ : (⟨#[82, 69, 80, 78, 90]⟩ : ByteArray) = strOfNums sREPNZ := rfl
theorem oksREPNZ : bytesOk sREPNZ := ascii.ok (ascii_of rfl)
theorem lsOPEN : (⟨#[40]⟩ : ByteArray) = strOfNums sOPEN := rfl
theorem oksOPEN : bytesOk sOPEN := ascii.ok (ascii_of rfl)
theorem lsCLOSE : (⟨#[41]⟩ : ByteArray) = strOfNums sCLOSE := rfl
theorem oksCLOSE : bytesOk sCLOSE := ascii.ok (ascii_of rfl)
theorem lsIN : (⟨#[91]⟩ : ByteArray) = strOfNums sIN := rfl
theorem oksIN : bytesOk sIN := ascii.ok (ascii_of rfl)
theorem lsEND : (⟨#[93]⟩ : ByteArray) = strOfNums sEND := rfl
theorem oksEND : bytesOk sEND := ascii.ok (ascii_of rfl)
theorem lsCOLON : (⟨#[58]⟩ : ByteArray) = strOfNums sCOLON := rfl
theorem oksCOLON : bytesOk sCOLON := ascii.ok (ascii_of rfl)
theorem lsCOMMA : (⟨#[44]⟩ : ByteArray) = strOfNums sCOMMA := rfl
theorem oksCOMMA : bytesOk sCOMMA := ascii.ok (ascii_of rfl)
/-- A text held against a word. -/
theorem t_word {P : Program} {C : World → Prop} {tp : TypeId} {pos : String} {af : Array Edge} {gd : Option (Nat × Bool)} {ls : List Value} {ds : List Deferred} {c : Bool} {dd : Option Tmp} {ty ty' : TypeId} {x : Operand} {ns ms : List Int} {s : ByteArray} (hl : s = strOfNums ms) (hb : bytesOk ms) (ha : bytesOk ns) (hx : EvC ls c x (.string (strOfNums ns))) :
    TIf P C c ⟨dd, .binOp .eql ty x (.const (.string s)) ty', tp, pos, af, gd⟩ ⟨ls.toArray, ds⟩ (.bool (decide (ns = ms))) := by
  subst hl; exact t_eqN ha hb hx (EvC.now rfl)
theorem tame_same' {P : Program} {f : FuncId} {args : Array Value} {w0 w : World} {l : List RowT} {v : Value} (h : Calls P f args w fun e w' => e = .returned v ∧ w' = w) (hC : Own w0 w l) : Calls P f args w fun e w' => e = .returned v ∧ Below w.heap.size w w' ∧ Own w0 w' l :=
  h.mono fun _ _ h => by obtain ⟨h1, rfl⟩ := h; exact ⟨h1, Below.refl _ _, hC⟩
set_option maxHeartbeats 4000000 in
theorem namedS_any {s : List Int} (hs : bytesOk s) (w0 : World) : Calls Tryd.prog 9 #[.string (strOfNums s)] w0 fun e w' => e = .returned (.bool (namedW s)) ∧ w' = w0 := by
  go_enter Tryd.func9, Tryd.ntmps9
  go_wp2_with (first
    | ((with_reducible apply q_ls0); exact rfl; (with_reducible apply t_word lsSEGMENT oksSEGMENT hs); (apply EvC.now; exact rfl); (simp only [List.set_cons_succ, List.set_cons_zero]; exact rfl))
    | ((with_reducible apply q_ls0); exact rfl; (with_reducible apply t_word lsENDS oksENDS hs); (apply EvC.now; exact rfl); (simp only [List.set_cons_succ, List.set_cons_zero]; exact rfl))
    | ((with_reducible apply q_ls0); exact rfl; (with_reducible apply t_word lsGROUP oksGROUP hs); (apply EvC.now; exact rfl); (simp only [List.set_cons_succ, List.set_cons_zero]; exact rfl))
    | ((with_reducible apply q_ls0); exact rfl; (with_reducible apply t_word lsEQU oksEQU hs); (apply EvC.now; exact rfl); (simp only [List.set_cons_succ, List.set_cons_zero]; exact rfl))
    | ((with_reducible apply q_ls0); exact rfl; (with_reducible apply t_word lsIS oksIS hs); (apply EvC.now; exact rfl); (simp only [List.set_cons_succ, List.set_cons_zero]; exact rfl))
    | ((with_reducible apply q_ls0); exact rfl; (with_reducible apply t_word lsPROC oksPROC hs); (apply EvC.now; exact rfl); (simp only [List.set_cons_succ, List.set_cons_zero]; exact rfl))
    | ((with_reducible apply q_ls0); exact rfl; (with_reducible apply t_word lsENDP oksENDP hs); (apply EvC.now; exact rfl); (simp only [List.set_cons_succ, List.set_cons_zero]; exact rfl))
    | ((with_reducible apply q_ls0); exact rfl; (with_reducible apply t_word lsDB oksDB hs); (apply EvC.now; exact rfl); (simp only [List.set_cons_succ, List.set_cons_zero]; exact rfl))
    | ((with_reducible apply q_ls0); exact rfl; (with_reducible apply t_word lsDW oksDW hs); (apply EvC.now; exact rfl); (simp only [List.set_cons_succ, List.set_cons_zero]; exact rfl))
    | ((with_reducible apply q_ls0); exact rfl; (with_reducible apply t_word lsDD oksDD hs); (apply EvC.now; exact rfl); (simp only [List.set_cons_succ, List.set_cons_zero]; exact rfl))
    | ((with_reducible apply q_ls0); exact rfl; (with_reducible apply t_word lsDQ oksDQ hs); (apply EvC.now; exact rfl); (simp only [List.set_cons_succ, List.set_cons_zero]; exact rfl)))
  all_goals go_ret
  all_goals refine ⟨?_, rfl⟩
  all_goals (unfold namedW; repeat' split)
  all_goals (first | rfl | contradiction)
set_option maxHeartbeats 4000000 in
theorem prefS_any {s : List Int} (hs : bytesOk s) (w0 : World) : Calls Tryd.prog 12 #[.string (strOfNums s)] w0 fun e w' => e = .returned (.bool (prefW s)) ∧ w' = w0 := by
  go_enter Tryd.func12, Tryd.ntmps12
  go_wp2_with (first
    | ((with_reducible apply q_ls0); exact rfl; (with_reducible apply t_word lsLOCK oksLOCK hs); (apply EvC.now; exact rfl); (simp only [List.set_cons_succ, List.set_cons_zero]; exact rfl))
    | ((with_reducible apply q_ls0); exact rfl; (with_reducible apply t_word lsREP oksREP hs); (apply EvC.now; exact rfl); (simp only [List.set_cons_succ, List.set_cons_zero]; exact rfl))
    | ((with_reducible apply q_ls0); exact rfl; (with_reducible apply t_word lsREPE oksREPE hs); (apply EvC.now; exact rfl); (simp only [List.set_cons_succ, List.set_cons_zero]; exact rfl))
    | ((with_reducible apply q_ls0); exact rfl; (with_reducible apply t_word lsREPZ oksREPZ hs); (apply EvC.now; exact rfl); (simp only [List.set_cons_succ, List.set_cons_zero]; exact rfl))
    | ((with_reducible apply q_ls0); exact rfl; (with_reducible apply t_word lsREPNE oksREPNE hs); (apply EvC.now; exact rfl); (simp only [List.set_cons_succ, List.set_cons_zero]; exact rfl))
    | ((with_reducible apply q_ls0); exact rfl; (with_reducible apply t_word lsREPNZ oksREPNZ hs); (apply EvC.now; exact rfl); (simp only [List.set_cons_succ, List.set_cons_zero]; exact rfl)))
  all_goals go_ret
  all_goals refine ⟨?_, rfl⟩
  all_goals (unfold prefW; repeat' split)
  all_goals (first | rfl | contradiction)
theorem signL_any {t : TokZ} {a : List Int} (hs : bytesOk t.s) (ha : bytesOk a) (w0 : World) : Calls Tryd.prog 18 #[.agg (encTok t), .string (strOfNums a)] w0 fun e w' => e = .returned (.bool (signT t a)) ∧ Below w0.heap.size w0 w' := by
  have hR := Own.start w0
  go_enter Tryd.func18, Tryd.ntmps18
  go_upto_region 1 with (first
    | ((with_reducible apply wpList_box hR); exact rfl; exact rfl; clear hR; intro g w hR; simp only [List.set_cons_succ, List.set_cons_zero])
    | ((with_reducible apply q_ls hR); exact rfl; ((with_reducible first | apply t_addr (fTok _ (by decide)) | apply t_addr (fStm _ (by decide)) | apply t_one tIntL | apply t_one tStrO | apply t_one tBoolL | apply t_one tStrsL | apply t_one tPartsL | apply t_part tTok | apply t_part tStm) <;> (first | (apply EvC.gv; exact rfl; (with_reducible first | exact Imp.refl _ | (apply Imp.left; exact Imp.refl _) | (apply Imp.right; exact Imp.refl _) | (apply Imp.left; apply Imp.left; exact Imp.refl _))) | (apply EvC.now; exact rfl) | exact rfl | (with_reducible exact EvAll.nil) | (focus (repeat (first | apply EvAll.cons | exact EvAll.nil | (apply EvC.gv; exact rfl; (with_reducible first | exact Imp.refl _ | (apply Imp.left; exact Imp.refl _) | (apply Imp.right; exact Imp.refl _) | (apply Imp.left; apply Imp.left; exact Imp.refl _))) | (apply EvC.now; exact rfl))); done) | (first | exact ext_tok _ | exact ext_stm _ _ _) | (focus (repeat (first | apply List.Mem.head | apply List.Mem.tail | apply List.mem_append_right))))); (simp only [List.set_cons_succ, List.set_cons_zero]; exact rfl); clear hR; intro w hR))
  refine wp_region_tame hR [0, 1, 2, 3, 4, 5, 6, 7, 8, 9] rfl ?_
  repeat (refine wpT_step rfl ?_; first
    | ((first | (with_reducible apply q_pl) | ((with_reducible apply q_gd); (first | (apply GdBy.gt; exact rfl; exact rfl) | (apply GdBy.gf; exact rfl; exact rfl) | (apply GdBy.t; exact rfl; exact rfl) | (apply GdBy.f; exact rfl; exact rfl)))); (with_reducible apply t_eqN hs ha); (first | (apply EvC.gv; exact rfl; (with_reducible first | exact Imp.refl _ | (apply Imp.left; exact Imp.refl _) | (apply Imp.right; exact Imp.refl _) | (apply Imp.left; apply Imp.left; exact Imp.refl _))) | (apply EvC.now; exact rfl) | exact rfl | (with_reducible exact EvAll.nil) | (focus (repeat (first | apply EvAll.cons | exact EvAll.nil | (apply EvC.gv; exact rfl; (with_reducible first | exact Imp.refl _ | (apply Imp.left; exact Imp.refl _) | (apply Imp.right; exact Imp.refl _) | (apply Imp.left; apply Imp.left; exact Imp.refl _))) | (apply EvC.now; exact rfl))); done) | (first | exact ext_tok _ | exact ext_stm _ _ _) | (focus (repeat (first | apply List.Mem.head | apply List.Mem.tail | apply List.mem_append_right)))); (first | (apply EvC.gv; exact rfl; (with_reducible first | exact Imp.refl _ | (apply Imp.left; exact Imp.refl _) | (apply Imp.right; exact Imp.refl _) | (apply Imp.left; apply Imp.left; exact Imp.refl _))) | (apply EvC.now; exact rfl) | exact rfl | (with_reducible exact EvAll.nil) | (focus (repeat (first | apply EvAll.cons | exact EvAll.nil | (apply EvC.gv; exact rfl; (with_reducible first | exact Imp.refl _ | (apply Imp.left; exact Imp.refl _) | (apply Imp.right; exact Imp.refl _) | (apply Imp.left; apply Imp.left; exact Imp.refl _))) | (apply EvC.now; exact rfl))); done) | (first | exact ext_tok _ | exact ext_stm _ _ _) | (focus (repeat (first | apply List.Mem.head | apply List.Mem.tail | apply List.mem_append_right)))); (simp only [List.set_cons_succ, List.set_cons_zero]; exact rfl))
    | ((first | (with_reducible apply q_pl) | ((with_reducible apply q_gd); (first | (apply GdBy.gt; exact rfl; exact rfl) | (apply GdBy.gf; exact rfl; exact rfl) | (apply GdBy.t; exact rfl; exact rfl) | (apply GdBy.f; exact rfl; exact rfl)))); (first | ((with_reducible first | apply t_move | apply t_assign | apply t_and | apply t_or | apply t_cmp | apply t_not | apply t_addr (fTok _ (by decide)) | apply t_addr (fStm _ (by decide)) | apply t_one tIntL | apply t_one tStrO | apply t_one tBoolL | apply t_one tStrsL | apply t_one tPartsL | apply t_part tTok | apply t_part tStm) <;> (first | (apply EvC.gv; exact rfl; (with_reducible first | exact Imp.refl _ | (apply Imp.left; exact Imp.refl _) | (apply Imp.right; exact Imp.refl _) | (apply Imp.left; apply Imp.left; exact Imp.refl _))) | (apply EvC.now; exact rfl) | exact rfl | (with_reducible exact EvAll.nil) | (focus (repeat (first | apply EvAll.cons | exact EvAll.nil | (apply EvC.gv; exact rfl; (with_reducible first | exact Imp.refl _ | (apply Imp.left; exact Imp.refl _) | (apply Imp.right; exact Imp.refl _) | (apply Imp.left; apply Imp.left; exact Imp.refl _))) | (apply EvC.now; exact rfl))); done) | (first | exact ext_tok _ | exact ext_stm _ _ _) | (focus (repeat (first | apply List.Mem.head | apply List.Mem.tail | apply List.mem_append_right)))))); (simp only [List.set_cons_succ, List.set_cons_zero]; exact rfl))
    | ((with_reducible apply q_gd); (first | (apply GdBy.gt; exact rfl; exact rfl) | (apply GdBy.gf; exact rfl; exact rfl) | (apply GdBy.t; exact rfl; exact rfl) | (apply GdBy.f; exact rfl; exact rfl)); ((with_reducible apply t_num) <;> (first | (apply EvC.gv; exact rfl; (with_reducible first | exact Imp.refl _ | (apply Imp.left; exact Imp.refl _) | (apply Imp.right; exact Imp.refl _) | (apply Imp.left; apply Imp.left; exact Imp.refl _))) | (apply EvC.now; exact rfl) | exact rfl | (with_reducible exact EvAll.nil) | (focus (repeat (first | apply EvAll.cons | exact EvAll.nil | (apply EvC.gv; exact rfl; (with_reducible first | exact Imp.refl _ | (apply Imp.left; exact Imp.refl _) | (apply Imp.right; exact Imp.refl _) | (apply Imp.left; apply Imp.left; exact Imp.refl _))) | (apply EvC.now; exact rfl))); done) | (first | exact ext_tok _ | exact ext_stm _ _ _) | (focus (repeat (first | apply List.Mem.head | apply List.Mem.tail | apply List.mem_append_right))))); (simp only [List.set_cons_succ, List.set_cons_zero]; exact rfl))
    | ((with_reducible apply wpT1_gpure); (first | (apply GdBy.gt; exact rfl; exact rfl) | (apply GdBy.gf; exact rfl; exact rfl) | (apply GdBy.t; exact rfl; exact rfl) | (apply GdBy.f; exact rfl; exact rfl)); intro K hK; go_simp; refine hK _ ?_; clear hK K; simp only [List.set_cons_succ, List.set_cons_zero])
    | ((with_reducible apply wpT1_pure); exact rfl; intro K hK; go_simp; refine hK _ ?_; clear hK K; simp only [List.set_cons_succ, List.set_cons_zero]))
  refine wpT_nil ?_
  clear hR; intro w hR
  go_wp2_with fail
  go_ret
  exact ⟨rfl, hR.below⟩
/-- The same, the sign being a constant of the program. -/
theorem signC_any {t : TokZ} {a : List Int} {s : ByteArray} (hl : s = strOfNums a) (hs : bytesOk t.s) (ha : bytesOk a) (w0 : World) : Calls Tryd.prog 18 #[.agg (encTok t), .string s] w0 fun e w' => e = .returned (.bool (signT t a)) ∧ Below w0.heap.size w0 w' := by
  subst hl; exact signL_any hs ha w0
theorem wordL_any {t : TokZ} (hs : bytesOk t.s) (w0 : World) : Calls Tryd.prog 16 #[.agg (encTok t)] w0 fun e w' => e = .returned (.bool (wordT t)) ∧ Below w0.heap.size w0 w' := by
  have hR := Own.start w0
  go_enter Tryd.func16, Tryd.ntmps16
  go_upto_region 1 with (first
    | ((with_reducible apply wpList_box hR); exact rfl; exact rfl; clear hR; intro g w hR; simp only [List.set_cons_succ, List.set_cons_zero])
    | ((with_reducible apply q_ls hR); exact rfl; ((with_reducible first | apply t_addr (fTok _ (by decide)) | apply t_addr (fStm _ (by decide)) | apply t_one tIntL | apply t_one tStrO | apply t_one tBoolL | apply t_one tStrsL | apply t_one tPartsL | apply t_part tTok | apply t_part tStm) <;> (first | (apply EvC.gv; exact rfl; (with_reducible first | exact Imp.refl _ | (apply Imp.left; exact Imp.refl _) | (apply Imp.right; exact Imp.refl _) | (apply Imp.left; apply Imp.left; exact Imp.refl _))) | (apply EvC.now; exact rfl) | exact rfl | (with_reducible exact EvAll.nil) | (focus (repeat (first | apply EvAll.cons | exact EvAll.nil | (apply EvC.gv; exact rfl; (with_reducible first | exact Imp.refl _ | (apply Imp.left; exact Imp.refl _) | (apply Imp.right; exact Imp.refl _) | (apply Imp.left; apply Imp.left; exact Imp.refl _))) | (apply EvC.now; exact rfl))); done) | (first | exact ext_tok _ | exact ext_stm _ _ _) | (focus (repeat (first | apply List.Mem.head | apply List.Mem.tail | apply List.mem_append_right))))); (simp only [List.set_cons_succ, List.set_cons_zero]; exact rfl); clear hR; intro w hR))
  refine wp_region_tame hR [0, 1, 2, 3, 4, 5, 6, 7] rfl ?_
  repeat (refine wpT_step rfl ?_; first
    | ((first | (with_reducible apply q_pl) | ((with_reducible apply q_gd); (first | (apply GdBy.gt; exact rfl; exact rfl) | (apply GdBy.gf; exact rfl; exact rfl) | (apply GdBy.t; exact rfl; exact rfl) | (apply GdBy.f; exact rfl; exact rfl)))); (first | ((with_reducible first | apply t_move | apply t_assign | apply t_and | apply t_or | apply t_cmp | apply t_not | apply t_addr (fTok _ (by decide)) | apply t_addr (fStm _ (by decide)) | apply t_one tIntL | apply t_one tStrO | apply t_one tBoolL | apply t_one tStrsL | apply t_one tPartsL | apply t_part tTok | apply t_part tStm) <;> (first | (apply EvC.gv; exact rfl; (with_reducible first | exact Imp.refl _ | (apply Imp.left; exact Imp.refl _) | (apply Imp.right; exact Imp.refl _) | (apply Imp.left; apply Imp.left; exact Imp.refl _))) | (apply EvC.now; exact rfl) | exact rfl | (with_reducible exact EvAll.nil) | (focus (repeat (first | apply EvAll.cons | exact EvAll.nil | (apply EvC.gv; exact rfl; (with_reducible first | exact Imp.refl _ | (apply Imp.left; exact Imp.refl _) | (apply Imp.right; exact Imp.refl _) | (apply Imp.left; apply Imp.left; exact Imp.refl _))) | (apply EvC.now; exact rfl))); done) | (first | exact ext_tok _ | exact ext_stm _ _ _) | (focus (repeat (first | apply List.Mem.head | apply List.Mem.tail | apply List.mem_append_right)))))); (simp only [List.set_cons_succ, List.set_cons_zero]; exact rfl))
    | ((first | (with_reducible apply q_pl) | ((with_reducible apply q_gd); (first | (apply GdBy.gt; exact rfl; exact rfl) | (apply GdBy.gf; exact rfl; exact rfl) | (apply GdBy.t; exact rfl; exact rfl) | (apply GdBy.f; exact rfl; exact rfl)))); (with_reducible apply t_call Tryd.call18); (first | (apply EvC.gv; exact rfl; (with_reducible first | exact Imp.refl _ | (apply Imp.left; exact Imp.refl _) | (apply Imp.right; exact Imp.refl _) | (apply Imp.left; apply Imp.left; exact Imp.refl _))) | (apply EvC.now; exact rfl) | exact rfl | (with_reducible exact EvAll.nil) | (focus (repeat (first | apply EvAll.cons | exact EvAll.nil | (apply EvC.gv; exact rfl; (with_reducible first | exact Imp.refl _ | (apply Imp.left; exact Imp.refl _) | (apply Imp.right; exact Imp.refl _) | (apply Imp.left; apply Imp.left; exact Imp.refl _))) | (apply EvC.now; exact rfl))); done) | (first | exact ext_tok _ | exact ext_stm _ _ _) | (focus (repeat (first | apply List.Mem.head | apply List.Mem.tail | apply List.mem_append_right)))); (intro hcc w hC; exact tame_below (signC_any lsIS hs oksIS _) hC); (simp only [List.set_cons_succ, List.set_cons_zero]; exact rfl))
    | ((with_reducible apply q_gd); (first | (apply GdBy.gt; exact rfl; exact rfl) | (apply GdBy.gf; exact rfl; exact rfl) | (apply GdBy.t; exact rfl; exact rfl) | (apply GdBy.f; exact rfl; exact rfl)); ((with_reducible apply t_num) <;> (first | (apply EvC.gv; exact rfl; (with_reducible first | exact Imp.refl _ | (apply Imp.left; exact Imp.refl _) | (apply Imp.right; exact Imp.refl _) | (apply Imp.left; apply Imp.left; exact Imp.refl _))) | (apply EvC.now; exact rfl) | exact rfl | (with_reducible exact EvAll.nil) | (focus (repeat (first | apply EvAll.cons | exact EvAll.nil | (apply EvC.gv; exact rfl; (with_reducible first | exact Imp.refl _ | (apply Imp.left; exact Imp.refl _) | (apply Imp.right; exact Imp.refl _) | (apply Imp.left; apply Imp.left; exact Imp.refl _))) | (apply EvC.now; exact rfl))); done) | (first | exact ext_tok _ | exact ext_stm _ _ _) | (focus (repeat (first | apply List.Mem.head | apply List.Mem.tail | apply List.mem_append_right))))); (simp only [List.set_cons_succ, List.set_cons_zero]; exact rfl))
    | ((with_reducible apply wpT1_gpure); (first | (apply GdBy.gt; exact rfl; exact rfl) | (apply GdBy.gf; exact rfl; exact rfl) | (apply GdBy.t; exact rfl; exact rfl) | (apply GdBy.f; exact rfl; exact rfl)); intro K hK; go_simp; refine hK _ ?_; clear hK K; simp only [List.set_cons_succ, List.set_cons_zero])
    | ((with_reducible apply wpT1_pure); exact rfl; intro K hK; go_simp; refine hK _ ?_; clear hK K; simp only [List.set_cons_succ, List.set_cons_zero]))
  refine wpT_nil ?_
  clear hR; intro w hR
  go_wp2_with fail
  go_ret
  exact ⟨rfl, hR.below⟩
theorem deepZ_le (n : Nat) (t : TokZ) : deepZ n t ≤ n + 1 := by unfold deepZ; split <;> (try split) <;> (try split) <;> omega
theorem deepL_any {t : TokZ} (hs : bytesOk t.s) {n : Nat} (hn : n ≤ 1000000) (w0 : World) : Calls Tryd.prog 17 #[.int .i64 n, .agg (encTok t)] w0 fun e w' => e = .returned (.int .i64 (deepZ n t)) ∧ Below w0.heap.size w0 w' := by
  have hR := Own.start w0
  have HA := Lib.hid (show IntKind.i64.wrap ((n : Int) + 1) = ((n + 1 : Nat) : Int) by rw [IntWalk.i64_in _ (by omega)]; omega)
  have HO := Lib.hid (signC_any lsOPEN hs oksOPEN)
  have HI := Lib.hid (signC_any lsIN hs oksIN)
  have HC := Lib.hid (signC_any lsCLOSE hs oksCLOSE)
  have HE := Lib.hid (signC_any lsEND hs oksEND)
  unfold deepZ
  cases h1 : signT t sOPEN with
  | true =>
    rw [h1] at HO
    rw [if_pos rfl]
    go_enter Tryd.func17, Tryd.ntmps17
    go_wp2_with (first
    | ((with_reducible apply wpList_box hR); exact rfl; exact rfl; clear hR; intro g w hR; simp only [List.set_cons_succ, List.set_cons_zero])
    | ((with_reducible apply q_ls hR); exact rfl; ((with_reducible first | apply t_addr (fTok _ (by decide)) | apply t_addr (fStm _ (by decide)) | apply t_one tIntL | apply t_one tStrO | apply t_one tBoolL | apply t_one tStrsL | apply t_one tPartsL | apply t_part tTok | apply t_part tStm) <;> (first | (apply EvC.gv; exact rfl; (with_reducible first | exact Imp.refl _ | (apply Imp.left; exact Imp.refl _) | (apply Imp.right; exact Imp.refl _) | (apply Imp.left; apply Imp.left; exact Imp.refl _))) | (apply EvC.now; exact rfl) | exact rfl | (with_reducible exact EvAll.nil) | (focus (repeat (first | apply EvAll.cons | exact EvAll.nil | (apply EvC.gv; exact rfl; (with_reducible first | exact Imp.refl _ | (apply Imp.left; exact Imp.refl _) | (apply Imp.right; exact Imp.refl _) | (apply Imp.left; apply Imp.left; exact Imp.refl _))) | (apply EvC.now; exact rfl))); done) | (first | exact ext_tok _ | exact ext_stm _ _ _) | (focus (repeat (first | apply List.Mem.head | apply List.Mem.tail | apply List.mem_append_right))))); (simp only [List.set_cons_succ, List.set_cons_zero]; exact rfl); clear hR; intro w hR)
    | (go_at_call 18; refine (HO.out _).mono ?_; rintro e w' ⟨rfl, hb⟩; replace hR := hR.grow hb; clear hb)
    | ((with_reducible apply q_ls hR); exact rfl; (with_reducible apply t_numE (op := .add)); (apply EvC.now; exact rfl); (apply EvC.now; exact rfl); exact rfl; exact HA.out; (simp only [List.set_cons_succ, List.set_cons_zero]; exact rfl); clear hR; intro w hR))
    go_ret
    exact ⟨rfl, hR.below⟩
  | false =>
  rw [h1] at HO
  rw [if_neg (by decide)]
  cases h2 : signT t sIN with
  | true =>
    rw [h2] at HI
    rw [if_pos rfl]
    go_enter Tryd.func17, Tryd.ntmps17
    go_upto_region 2 with (first
    | ((with_reducible apply wpList_box hR); exact rfl; exact rfl; clear hR; intro g w hR; simp only [List.set_cons_succ, List.set_cons_zero])
    | ((with_reducible apply q_ls hR); exact rfl; ((with_reducible first | apply t_addr (fTok _ (by decide)) | apply t_addr (fStm _ (by decide)) | apply t_one tIntL | apply t_one tStrO | apply t_one tBoolL | apply t_one tStrsL | apply t_one tPartsL | apply t_part tTok | apply t_part tStm) <;> (first | (apply EvC.gv; exact rfl; (with_reducible first | exact Imp.refl _ | (apply Imp.left; exact Imp.refl _) | (apply Imp.right; exact Imp.refl _) | (apply Imp.left; apply Imp.left; exact Imp.refl _))) | (apply EvC.now; exact rfl) | exact rfl | (with_reducible exact EvAll.nil) | (focus (repeat (first | apply EvAll.cons | exact EvAll.nil | (apply EvC.gv; exact rfl; (with_reducible first | exact Imp.refl _ | (apply Imp.left; exact Imp.refl _) | (apply Imp.right; exact Imp.refl _) | (apply Imp.left; apply Imp.left; exact Imp.refl _))) | (apply EvC.now; exact rfl))); done) | (first | exact ext_tok _ | exact ext_stm _ _ _) | (focus (repeat (first | apply List.Mem.head | apply List.Mem.tail | apply List.mem_append_right))))); (simp only [List.set_cons_succ, List.set_cons_zero]; exact rfl); clear hR; intro w hR)
    | (go_at_call 18; refine (HO.out _).mono ?_; rintro e w' ⟨rfl, hb⟩; replace hR := hR.grow hb; clear hb))
    go_wp2_with (first
    | ((with_reducible apply wpList_box hR); exact rfl; exact rfl; clear hR; intro g w hR; simp only [List.set_cons_succ, List.set_cons_zero])
    | ((with_reducible apply q_ls hR); exact rfl; ((with_reducible first | apply t_addr (fTok _ (by decide)) | apply t_addr (fStm _ (by decide)) | apply t_one tIntL | apply t_one tStrO | apply t_one tBoolL | apply t_one tStrsL | apply t_one tPartsL | apply t_part tTok | apply t_part tStm) <;> (first | (apply EvC.gv; exact rfl; (with_reducible first | exact Imp.refl _ | (apply Imp.left; exact Imp.refl _) | (apply Imp.right; exact Imp.refl _) | (apply Imp.left; apply Imp.left; exact Imp.refl _))) | (apply EvC.now; exact rfl) | exact rfl | (with_reducible exact EvAll.nil) | (focus (repeat (first | apply EvAll.cons | exact EvAll.nil | (apply EvC.gv; exact rfl; (with_reducible first | exact Imp.refl _ | (apply Imp.left; exact Imp.refl _) | (apply Imp.right; exact Imp.refl _) | (apply Imp.left; apply Imp.left; exact Imp.refl _))) | (apply EvC.now; exact rfl))); done) | (first | exact ext_tok _ | exact ext_stm _ _ _) | (focus (repeat (first | apply List.Mem.head | apply List.Mem.tail | apply List.mem_append_right))))); (simp only [List.set_cons_succ, List.set_cons_zero]; exact rfl); clear hR; intro w hR)
    | (go_at_call 18; refine (HI.out _).mono ?_; rintro e w' ⟨rfl, hb⟩; replace hR := hR.grow hb; clear hb)
    | ((with_reducible apply q_ls hR); exact rfl; (with_reducible apply t_numE (op := .add)); (apply EvC.now; exact rfl); (apply EvC.now; exact rfl); exact rfl; exact HA.out; (simp only [List.set_cons_succ, List.set_cons_zero]; exact rfl); clear hR; intro w hR))
    go_ret
    exact ⟨rfl, hR.below⟩
  | false =>
  rw [h2] at HI
  rw [if_neg (by decide)]
  by_cases h0 : 0 < n
  · have HG := Lib.hid (show cmpB .gtr (n : Int) 0 = some true from congrArg some (decide_eq_true (by omega)))
    have HS := Lib.hid (show IntKind.i64.wrap ((n : Int) - 1) = ((n - 1 : Nat) : Int) by rw [IntWalk.i64_in _ (by omega)]; omega)
    obtain ⟨q1, h3⟩ : ∃ q, signT t sCLOSE = q := ⟨_, rfl⟩
    obtain ⟨q2, h4⟩ : ∃ q, signT t sEND = q := ⟨_, rfl⟩
    rw [h3] at HC
    rw [h4] at HE
    rw [h3, h4]
    go_enter Tryd.func17, Tryd.ntmps17
    go_upto_region 2 with (first
    | ((with_reducible apply wpList_box hR); exact rfl; exact rfl; clear hR; intro g w hR; simp only [List.set_cons_succ, List.set_cons_zero])
    | ((with_reducible apply q_ls hR); exact rfl; ((with_reducible first | apply t_addr (fTok _ (by decide)) | apply t_addr (fStm _ (by decide)) | apply t_one tIntL | apply t_one tStrO | apply t_one tBoolL | apply t_one tStrsL | apply t_one tPartsL | apply t_part tTok | apply t_part tStm) <;> (first | (apply EvC.gv; exact rfl; (with_reducible first | exact Imp.refl _ | (apply Imp.left; exact Imp.refl _) | (apply Imp.right; exact Imp.refl _) | (apply Imp.left; apply Imp.left; exact Imp.refl _))) | (apply EvC.now; exact rfl) | exact rfl | (with_reducible exact EvAll.nil) | (focus (repeat (first | apply EvAll.cons | exact EvAll.nil | (apply EvC.gv; exact rfl; (with_reducible first | exact Imp.refl _ | (apply Imp.left; exact Imp.refl _) | (apply Imp.right; exact Imp.refl _) | (apply Imp.left; apply Imp.left; exact Imp.refl _))) | (apply EvC.now; exact rfl))); done) | (first | exact ext_tok _ | exact ext_stm _ _ _) | (focus (repeat (first | apply List.Mem.head | apply List.Mem.tail | apply List.mem_append_right))))); (simp only [List.set_cons_succ, List.set_cons_zero]; exact rfl); clear hR; intro w hR)
    | (go_at_call 18; refine (HO.out _).mono ?_; rintro e w' ⟨rfl, hb⟩; replace hR := hR.grow hb; clear hb))
    go_upto_region 4 with (first
    | ((with_reducible apply wpList_box hR); exact rfl; exact rfl; clear hR; intro g w hR; simp only [List.set_cons_succ, List.set_cons_zero])
    | ((with_reducible apply q_ls hR); exact rfl; ((with_reducible first | apply t_addr (fTok _ (by decide)) | apply t_addr (fStm _ (by decide)) | apply t_one tIntL | apply t_one tStrO | apply t_one tBoolL | apply t_one tStrsL | apply t_one tPartsL | apply t_part tTok | apply t_part tStm) <;> (first | (apply EvC.gv; exact rfl; (with_reducible first | exact Imp.refl _ | (apply Imp.left; exact Imp.refl _) | (apply Imp.right; exact Imp.refl _) | (apply Imp.left; apply Imp.left; exact Imp.refl _))) | (apply EvC.now; exact rfl) | exact rfl | (with_reducible exact EvAll.nil) | (focus (repeat (first | apply EvAll.cons | exact EvAll.nil | (apply EvC.gv; exact rfl; (with_reducible first | exact Imp.refl _ | (apply Imp.left; exact Imp.refl _) | (apply Imp.right; exact Imp.refl _) | (apply Imp.left; apply Imp.left; exact Imp.refl _))) | (apply EvC.now; exact rfl))); done) | (first | exact ext_tok _ | exact ext_stm _ _ _) | (focus (repeat (first | apply List.Mem.head | apply List.Mem.tail | apply List.mem_append_right))))); (simp only [List.set_cons_succ, List.set_cons_zero]; exact rfl); clear hR; intro w hR)
    | (go_at_call 18; refine (HI.out _).mono ?_; rintro e w' ⟨rfl, hb⟩; replace hR := hR.grow hb; clear hb))
    refine wp_region_tame hR [0, 1, 2, 3, 4, 5, 6, 7, 8, 9, 10] rfl ?_
    repeat (refine wpT_step rfl ?_; first
    | ((with_reducible apply q_pl); (with_reducible apply t_cmp (op := .gtr)); (apply EvC.now; exact rfl); (apply EvC.now; exact rfl); exact HG.out; (simp only [List.set_cons_succ, List.set_cons_zero]; exact rfl))
    | ((first | (with_reducible apply q_pl) | ((with_reducible apply q_gd); (first | (apply GdBy.gt; exact rfl; exact rfl) | (apply GdBy.gf; exact rfl; exact rfl) | (apply GdBy.t; exact rfl; exact rfl) | (apply GdBy.f; exact rfl; exact rfl)))); (first | ((with_reducible first | apply t_move | apply t_assign | apply t_and | apply t_or | apply t_cmp | apply t_not | apply t_addr (fTok _ (by decide)) | apply t_addr (fStm _ (by decide)) | apply t_one tIntL | apply t_one tStrO | apply t_one tBoolL | apply t_one tStrsL | apply t_one tPartsL | apply t_part tTok | apply t_part tStm) <;> (first | (apply EvC.gv; exact rfl; (with_reducible first | exact Imp.refl _ | (apply Imp.left; exact Imp.refl _) | (apply Imp.right; exact Imp.refl _) | (apply Imp.left; apply Imp.left; exact Imp.refl _))) | (apply EvC.now; exact rfl) | exact rfl | (with_reducible exact EvAll.nil) | (focus (repeat (first | apply EvAll.cons | exact EvAll.nil | (apply EvC.gv; exact rfl; (with_reducible first | exact Imp.refl _ | (apply Imp.left; exact Imp.refl _) | (apply Imp.right; exact Imp.refl _) | (apply Imp.left; apply Imp.left; exact Imp.refl _))) | (apply EvC.now; exact rfl))); done) | (first | exact ext_tok _ | exact ext_stm _ _ _) | (focus (repeat (first | apply List.Mem.head | apply List.Mem.tail | apply List.mem_append_right)))))); (simp only [List.set_cons_succ, List.set_cons_zero]; exact rfl))
    | ((first | (with_reducible apply q_pl) | ((with_reducible apply q_gd); (first | (apply GdBy.gt; exact rfl; exact rfl) | (apply GdBy.gf; exact rfl; exact rfl) | (apply GdBy.t; exact rfl; exact rfl) | (apply GdBy.f; exact rfl; exact rfl)))); (with_reducible apply t_call Tryd.call18); (first | (apply EvC.gv; exact rfl; (with_reducible first | exact Imp.refl _ | (apply Imp.left; exact Imp.refl _) | (apply Imp.right; exact Imp.refl _) | (apply Imp.left; apply Imp.left; exact Imp.refl _))) | (apply EvC.now; exact rfl) | exact rfl | (with_reducible exact EvAll.nil) | (focus (repeat (first | apply EvAll.cons | exact EvAll.nil | (apply EvC.gv; exact rfl; (with_reducible first | exact Imp.refl _ | (apply Imp.left; exact Imp.refl _) | (apply Imp.right; exact Imp.refl _) | (apply Imp.left; apply Imp.left; exact Imp.refl _))) | (apply EvC.now; exact rfl))); done) | (first | exact ext_tok _ | exact ext_stm _ _ _) | (focus (repeat (first | apply List.Mem.head | apply List.Mem.tail | apply List.mem_append_right)))); (intro hcc w hC; with_reducible first | exact tame_below (HC.out _) hC | exact tame_below (HE.out _) hC); (simp only [List.set_cons_succ, List.set_cons_zero]; exact rfl))
    | ((with_reducible apply q_gd); (first | (apply GdBy.gt; exact rfl; exact rfl) | (apply GdBy.gf; exact rfl; exact rfl) | (apply GdBy.t; exact rfl; exact rfl) | (apply GdBy.f; exact rfl; exact rfl)); ((with_reducible apply t_num) <;> (first | (apply EvC.gv; exact rfl; (with_reducible first | exact Imp.refl _ | (apply Imp.left; exact Imp.refl _) | (apply Imp.right; exact Imp.refl _) | (apply Imp.left; apply Imp.left; exact Imp.refl _))) | (apply EvC.now; exact rfl) | exact rfl | (with_reducible exact EvAll.nil) | (focus (repeat (first | apply EvAll.cons | exact EvAll.nil | (apply EvC.gv; exact rfl; (with_reducible first | exact Imp.refl _ | (apply Imp.left; exact Imp.refl _) | (apply Imp.right; exact Imp.refl _) | (apply Imp.left; apply Imp.left; exact Imp.refl _))) | (apply EvC.now; exact rfl))); done) | (first | exact ext_tok _ | exact ext_stm _ _ _) | (focus (repeat (first | apply List.Mem.head | apply List.Mem.tail | apply List.mem_append_right))))); (simp only [List.set_cons_succ, List.set_cons_zero]; exact rfl))
    | ((with_reducible apply wpT1_gpure); (first | (apply GdBy.gt; exact rfl; exact rfl) | (apply GdBy.gf; exact rfl; exact rfl) | (apply GdBy.t; exact rfl; exact rfl) | (apply GdBy.f; exact rfl; exact rfl)); intro K hK; go_simp; refine hK _ ?_; clear hK K; simp only [List.set_cons_succ, List.set_cons_zero])
    | ((with_reducible apply wpT1_pure); exact rfl; intro K hK; go_simp; refine hK _ ?_; clear hK K; simp only [List.set_cons_succ, List.set_cons_zero]))
    refine wpT_nil ?_
    clear hR; intro w hR
    cases q1 <;> cases q2
    all_goals (go_wp2_with (first
    | ((with_reducible apply q_ls hR); exact rfl; (with_reducible apply t_numE (op := .sub)); (apply EvC.now; exact rfl); (apply EvC.now; exact rfl); exact rfl; exact HS.out; (simp only [List.set_cons_succ, List.set_cons_zero]; exact rfl); clear hR; intro w hR)))
    all_goals go_ret
    all_goals exact ⟨by simp [h0], hR.below⟩
  · have HG := Lib.hid (show cmpB .gtr (n : Int) 0 = some false from congrArg some (decide_eq_false (by omega)))
    rw [if_neg (fun h => h0 h.1)]
    go_enter Tryd.func17, Tryd.ntmps17
    go_upto_region 2 with (first
    | ((with_reducible apply wpList_box hR); exact rfl; exact rfl; clear hR; intro g w hR; simp only [List.set_cons_succ, List.set_cons_zero])
    | ((with_reducible apply q_ls hR); exact rfl; ((with_reducible first | apply t_addr (fTok _ (by decide)) | apply t_addr (fStm _ (by decide)) | apply t_one tIntL | apply t_one tStrO | apply t_one tBoolL | apply t_one tStrsL | apply t_one tPartsL | apply t_part tTok | apply t_part tStm) <;> (first | (apply EvC.gv; exact rfl; (with_reducible first | exact Imp.refl _ | (apply Imp.left; exact Imp.refl _) | (apply Imp.right; exact Imp.refl _) | (apply Imp.left; apply Imp.left; exact Imp.refl _))) | (apply EvC.now; exact rfl) | exact rfl | (with_reducible exact EvAll.nil) | (focus (repeat (first | apply EvAll.cons | exact EvAll.nil | (apply EvC.gv; exact rfl; (with_reducible first | exact Imp.refl _ | (apply Imp.left; exact Imp.refl _) | (apply Imp.right; exact Imp.refl _) | (apply Imp.left; apply Imp.left; exact Imp.refl _))) | (apply EvC.now; exact rfl))); done) | (first | exact ext_tok _ | exact ext_stm _ _ _) | (focus (repeat (first | apply List.Mem.head | apply List.Mem.tail | apply List.mem_append_right))))); (simp only [List.set_cons_succ, List.set_cons_zero]; exact rfl); clear hR; intro w hR)
    | (go_at_call 18; refine (HO.out _).mono ?_; rintro e w' ⟨rfl, hb⟩; replace hR := hR.grow hb; clear hb))
    go_wp2_with (first
    | ((with_reducible apply wpList_box hR); exact rfl; exact rfl; clear hR; intro g w hR; simp only [List.set_cons_succ, List.set_cons_zero])
    | ((with_reducible apply q_ls hR); exact rfl; ((with_reducible first | apply t_addr (fTok _ (by decide)) | apply t_addr (fStm _ (by decide)) | apply t_one tIntL | apply t_one tStrO | apply t_one tBoolL | apply t_one tStrsL | apply t_one tPartsL | apply t_part tTok | apply t_part tStm) <;> (first | (apply EvC.gv; exact rfl; (with_reducible first | exact Imp.refl _ | (apply Imp.left; exact Imp.refl _) | (apply Imp.right; exact Imp.refl _) | (apply Imp.left; apply Imp.left; exact Imp.refl _))) | (apply EvC.now; exact rfl) | exact rfl | (with_reducible exact EvAll.nil) | (focus (repeat (first | apply EvAll.cons | exact EvAll.nil | (apply EvC.gv; exact rfl; (with_reducible first | exact Imp.refl _ | (apply Imp.left; exact Imp.refl _) | (apply Imp.right; exact Imp.refl _) | (apply Imp.left; apply Imp.left; exact Imp.refl _))) | (apply EvC.now; exact rfl))); done) | (first | exact ext_tok _ | exact ext_stm _ _ _) | (focus (repeat (first | apply List.Mem.head | apply List.Mem.tail | apply List.mem_append_right))))); (simp only [List.set_cons_succ, List.set_cons_zero]; exact rfl); clear hR; intro w hR)
    | (go_at_call 18; refine (HI.out _).mono ?_; rintro e w' ⟨rfl, hb⟩; replace hR := hR.grow hb; clear hb)
    | ((with_reducible apply q_ls hR); exact rfl; (with_reducible apply t_cmp (op := .gtr)); (apply EvC.now; exact rfl); (apply EvC.now; exact rfl); exact HG.out; (simp only [List.set_cons_succ, List.set_cons_zero]; exact rfl); clear hR; intro w hR))
    go_ret
    exact ⟨rfl, hR.below⟩
/-- Pieces of one's own. -/
theorem partL_any {w0 : World} {v : Value} {l : List TokZ} (h : TokL w0 v l) (hl : l.length ≤ 1000000) : Calls Tryd.prog 19 #[v] w0 fun e w' => ∃ s v', e = .returned v' ∧ Own w0 w' s ∧ Sl 30 4 s v' l.length (l.flatMap cellsTok) := by
  have hR := Own.start w0
  have hrd := h.rd
  unfold RowsAt at hrd
  have hS := Sl.nil 30 4
  have hn : 0 + l.length = l.length := Nat.zero_add _
  have HN := Lib.hid hn
  clear hn
  go_enter Tryd.func19, Tryd.ntmps19
  go_wp2_with (first
    | ((with_reducible apply wpList_appG hR tToksB); exact rfl; exact rfl; exact rfl; exact hS; (exact Les.head (s := [])); (exact hrd.own hR); (simp only [maxLen]; omega); omega; clear hR hS; intro s v2 w hR hS; simp only [List.set_cons_succ, List.set_cons_zero]))
  go_ret
  rw [List.append_nil] at hR
  exact ⟨s, v2, rfl, hR, by rw [HN.out] at hS; exact hS⟩
end Go.Proofs.YtjecckmcjcikdaaDoor
