









/- Contracts of package expr's tests on words. No statement of the seat is proved here. -/
import Derived.Test.YtckkgooabnlooaaDoorExpM
import Derived.Deep.DeepCutAuto
import Derived.Deep.CutBlock
import Derived.WalkSmall
namespace Go.Proofs.YtckkgooabnlooaaDoor
open Go.ChangeShapes Go.WideShapes Go.ChangeAt Go.RowKit
set_option linter.unusedVariables false
set_option linter.unusedSimpArgs false
set_option maxRecDepth 100000

theorem needE_yes (w : World) : Calls Tryd.prog 30 #[.bool true] w fun e w' => e = .returned (.tuple #[]) ∧ w' = w := by
  go_enter Tryd.func30, Tryd.ntmps30
  go_wp2
  go_end0
  exact ⟨rfl, rfl⟩
theorem needE_no (w : World) : Calls Tryd.prog 30 #[.bool false] w fun e w' => e = .panicked (errCh 3) ∧ w' = w := by
  go_enter Tryd.func30, Tryd.ntmps30
  go_wp2
  exact ⟨rfl, rfl, rfl⟩
theorem lsPLUS : (⟨#[43]⟩ : ByteArray) = strOfNums sPLUS := rfl
theorem oksPLUS : bytesOk sPLUS := ascii.ok (ascii_of rfl)
theorem lsMINUS : (⟨#[45]⟩ : ByteArray) = strOfNums sMINUS := rfl
theorem oksMINUS : bytesOk sMINUS := ascii.ok (ascii_of rfl)
theorem lsSTAR : (⟨#[42]⟩ : ByteArray) = strOfNums sSTAR := rfl
theorem oksSTAR : bytesOk sSTAR := ascii.ok (ascii_of rfl)
theorem lsDIV : (⟨#[47]⟩ : ByteArray) = strOfNums sDIV := rfl
theorem oksDIV : bytesOk sDIV := ascii.ok (ascii_of rfl)
theorem lsOPEN : (⟨#[40]⟩ : ByteArray) = strOfNums sOPEN := rfl
theorem oksOPEN : bytesOk sOPEN := ascii.ok (ascii_of rfl)
theorem lsCLOSE : (⟨#[41]⟩ : ByteArray) = strOfNums sCLOSE := rfl
theorem oksCLOSE : bytesOk sCLOSE := ascii.ok (ascii_of rfl)
theorem lsIN : (⟨#[91]⟩ : ByteArray) = strOfNums sIN := rfl
theorem oksIN : bytesOk sIN := ascii.ok (ascii_of rfl)
theorem lsEND : (⟨#[93]⟩ : ByteArray) = strOfNums sEND := rfl
theorem oksEND : bytesOk sEND := ascii.ok (ascii_of rfl)
theorem lsCOLON : (⟨#[58]⟩ : ByteArray) = strOfNums sCOLON := rfl
theorem oksCOLON : bytesOk sCOLON := ascii.ok (ascii_of rfl)
theorem lsDOLLAR : (⟨#[36]⟩ : ByteArray) = strOfNums sDOLLAR := rfl
theorem oksDOLLAR : bytesOk sDOLLAR := ascii.ok (ascii_of rfl)
theorem lsPTR : (⟨#[80, 84, 82]⟩ : ByteArray) = strOfNums sPTR := rfl
theorem oksPTR : bytesOk sPTR := ascii.ok (ascii_of rfl)
theorem lsNOT : (⟨#[78, 79, 84]⟩ : ByteArray) = strOfNums sNOT := rfl
theorem oksNOT : bytesOk sNOT := ascii.ok (ascii_of rfl)
theorem lsOFFSET : (⟨#[79, 70, 70, 83, 69, 84]⟩ : ByteArray) = strOfNums sOFFSET := rfl
theorem oksOFFSET : bytesOk sOFFSET := ascii.ok (ascii_of rfl)
theorem lsSEG : (⟨#[83, 69, 71]⟩ : ByteArray) = strOfNums sSEG := rfl
theorem oksSEG : bytesOk sSEG := ascii.ok (ascii_of rfl)
theorem lsSHORT : (⟨#[83, 72, 79, 82, 84]⟩ : ByteArray) = strOfNums sSHORT := rfl
theorem oksSHORT : bytesOk sSHORT := ascii.ok (ascii_of rfl)
theorem lsOR : (⟨#[79, 82]⟩ : ByteArray) = strOfNums sOR := rfl
theorem oksOR : bytesOk sOR := ascii.ok (ascii_of rfl)
theorem lsXOR : (⟨#[88, 79, 82]⟩ : ByteArray) = strOfNums sXOR := rfl
theorem oksXOR : bytesOk sXOR := ascii.ok (ascii_of rfl)
theorem lsAND : (⟨#[65, 78, 68]⟩ : ByteArray) = strOfNums sAND := rfl
theorem oksAND : bytesOk sAND := ascii.ok (ascii_of rfl)
theorem lsEQ : (⟨#[69, 81]⟩ : ByteArray) = strOfNums sEQ := rfl
theorem oksEQ : bytesOk sEQ := ascii.ok (ascii_of rfl)
theorem lsNE : (⟨#[78, 69]⟩ : ByteArray) = strOfNums sNE := rfl
theorem oksNE : bytesOk sNE := ascii.ok (ascii_of rfl)
theorem lsLT : (⟨#[76, 84]⟩ : ByteArray) = strOfNums sLT := rfl
theorem oksLT : bytesOk sLT := ascii.ok (ascii_of rfl)
theorem lsLE : (⟨#[76, 69]⟩ : ByteArray) = strOfNums sLE := rfl
theorem oksLE : bytesOk sLE := ascii.ok (ascii_of rfl)
theorem lsGT : (⟨#[71, 84]⟩ : ByteArray) = strOfNums sGT := rfl
theorem oksGT : bytesOk sGT := ascii.ok (ascii_of rfl)
theorem lsGE : (⟨#[71, 69]⟩ : ByteArray) = strOfNums sGE := rfl
theorem oksGE : bytesOk sGE := ascii.ok (ascii_of rfl)
theorem lsMOD : (⟨#[77, 79, 68]⟩ : ByteArray) = strOfNums sMOD := rfl
theorem oksMOD : bytesOk sMOD := ascii.ok (ascii_of rfl)
theorem lsSHL : (⟨#[83, 72, 76]⟩ : ByteArray) = strOfNums sSHL := rfl
theorem oksSHL : bytesOk sSHL := ascii.ok (ascii_of rfl)
theorem lsSHR : (⟨#[83, 72, 82]⟩ : ByteArray) = strOfNums sSHR := rfl
theorem oksSHR : bytesOk sSHR := ascii.ok (ascii_of rfl)
theorem lsBYTE : (⟨#[66, 89, 84, 69]⟩ : ByteArray) = strOfNums sBYTE := rfl
theorem oksBYTE : bytesOk sBYTE := ascii.ok (ascii_of rfl)
theorem lsWORD : (⟨#[87, 79, 82, 68]⟩ : ByteArray) = strOfNums sWORD := rfl
theorem oksWORD : bytesOk sWORD := ascii.ok (ascii_of rfl)
theorem lsDWORD : (⟨#[68, 87, 79, 82, 68]⟩ : ByteArray) = strOfNums sDWORD := rfl
theorem oksDWORD : bytesOk sDWORD := ascii.ok (ascii_of rfl)
theorem lsNEAR : (⟨#[78, 69, 65, 82]⟩ : ByteArray) = strOfNums sNEAR := rfl
theorem oksNEAR : bytesOk sNEAR := ascii.ok (ascii_of rfl)
theorem lsFAR : (⟨#[70, 65, 82]⟩ : ByteArray) = strOfNums sFAR := rfl
theorem oksFAR : bytesOk sFAR := ascii.ok (ascii_of rfl)
theorem lsBX : (⟨#[66, 88]⟩ : ByteArray) = strOfNums sBX := rfl
theorem oksBX : bytesOk sBX := ascii.ok (ascii_of rfl)
theorem lsBP : (⟨#[66, 80]⟩ : ByteArray) = strOfNums sBP := rfl
theorem oksBP : bytesOk sBP := ascii.ok (ascii_of rfl)
theorem lsSI : (⟨#[83, 73]⟩ : ByteArray) = strOfNums sSI := rfl
theorem oksSI : bytesOk sSI := ascii.ok (ascii_of rfl)
theorem lsDI : (⟨#[68, 73]⟩ : ByteArray) = strOfNums sDI := rfl
theorem oksDI : bytesOk sDI := ascii.ok (ascii_of rfl)
/-- A text held against a word. -/
theorem t_word {P : Program} {C : World → Prop} {tp : TypeId} {pos : String} {af : Array Edge} {gd : Option (Nat × Bool)} {ls : List Value} {ds : List Deferred} {c : Bool} {dd : Option Tmp} {ty ty' : TypeId} {x : Operand} {ns ms : List Int} {s : ByteArray} (hl : s = strOfNums ms) (hb : bytesOk ms) (ha : bytesOk ns) (hx : EvC ls c x (.string (strOfNums ns))) :
    TIf P C c ⟨dd, .binOp .eql ty x (.const (.string s)) ty', tp, pos, af, gd⟩ ⟨ls.toArray, ds⟩ (.bool (decide (ns = ms))) := by
  subst hl; exact t_eqN ha hb hx (EvC.now rfl)
theorem t_wordN {P : Program} {C : World → Prop} {tp : TypeId} {pos : String} {af : Array Edge} {gd : Option (Nat × Bool)} {ls : List Value} {ds : List Deferred} {c : Bool} {dd : Option Tmp} {ty ty' : TypeId} {x : Operand} {ns ms : List Int} {s : ByteArray} (hl : s = strOfNums ms) (hb : bytesOk ms) (ha : bytesOk ns) (hx : EvC ls c x (.string (strOfNums ns))) :
    TIf P C c ⟨dd, .binOp .neq ty x (.const (.string s)) ty', tp, pos, af, gd⟩ ⟨ls.toArray, ds⟩ (.bool (!decide (ns = ms))) := by
  subst hl; exact t_neN ha hb hx (EvC.now rfl)
theorem signE_any {s : List Int} (hs : bytesOk s) (w0 : World) : Calls Tryd.prog 60 #[.string (strOfNums s)] w0 fun e w' => e = .returned (.int .i64 (signStrZ s)) ∧ w' = w0 := by
  go_enter Tryd.func60, Tryd.ntmps60
  go_wp2_with (first
    | ((with_reducible apply q_ls0); exact rfl; (with_reducible apply t_word lsPLUS oksPLUS hs); (apply EvC.now; exact rfl); (simp only [cS, cZ]; exact rfl))
    | ((with_reducible apply q_ls0); exact rfl; (with_reducible apply t_word lsMINUS oksMINUS hs); (apply EvC.now; exact rfl); (simp only [cS, cZ]; exact rfl))
    | ((with_reducible apply q_ls0); exact rfl; (with_reducible apply t_word lsSTAR oksSTAR hs); (apply EvC.now; exact rfl); (simp only [cS, cZ]; exact rfl))
    | ((with_reducible apply q_ls0); exact rfl; (with_reducible apply t_word lsDIV oksDIV hs); (apply EvC.now; exact rfl); (simp only [cS, cZ]; exact rfl)))
  all_goals go_ret
  all_goals refine ⟨?_, rfl⟩
  all_goals (unfold signStrZ; repeat' split)
  all_goals (first | rfl | contradiction)
set_option maxHeartbeats 4000000 in
theorem wordE_any {s : List Int} (hs : bytesOk s) (w0 : World) : Calls Tryd.prog 61 #[.string (strOfNums s)] w0 fun e w' => e = .returned (.int .i64 (wordStrZ s)) ∧ w' = w0 := by
  go_enter Tryd.func61, Tryd.ntmps61
  go_wp2_with (first
    | ((with_reducible apply q_ls0); exact rfl; (with_reducible apply t_word lsOR oksOR hs); (apply EvC.now; exact rfl); (simp only [cS, cZ]; exact rfl))
    | ((with_reducible apply q_ls0); exact rfl; (with_reducible apply t_word lsXOR oksXOR hs); (apply EvC.now; exact rfl); (simp only [cS, cZ]; exact rfl))
    | ((with_reducible apply q_ls0); exact rfl; (with_reducible apply t_word lsAND oksAND hs); (apply EvC.now; exact rfl); (simp only [cS, cZ]; exact rfl))
    | ((with_reducible apply q_ls0); exact rfl; (with_reducible apply t_word lsEQ oksEQ hs); (apply EvC.now; exact rfl); (simp only [cS, cZ]; exact rfl))
    | ((with_reducible apply q_ls0); exact rfl; (with_reducible apply t_word lsNE oksNE hs); (apply EvC.now; exact rfl); (simp only [cS, cZ]; exact rfl))
    | ((with_reducible apply q_ls0); exact rfl; (with_reducible apply t_word lsLT oksLT hs); (apply EvC.now; exact rfl); (simp only [cS, cZ]; exact rfl))
    | ((with_reducible apply q_ls0); exact rfl; (with_reducible apply t_word lsLE oksLE hs); (apply EvC.now; exact rfl); (simp only [cS, cZ]; exact rfl))
    | ((with_reducible apply q_ls0); exact rfl; (with_reducible apply t_word lsGT oksGT hs); (apply EvC.now; exact rfl); (simp only [cS, cZ]; exact rfl))
    | ((with_reducible apply q_ls0); exact rfl; (with_reducible apply t_word lsGE oksGE hs); (apply EvC.now; exact rfl); (simp only [cS, cZ]; exact rfl))
    | ((with_reducible apply q_ls0); exact rfl; (with_reducible apply t_word lsMOD oksMOD hs); (apply EvC.now; exact rfl); (simp only [cS, cZ]; exact rfl))
    | ((with_reducible apply q_ls0); exact rfl; (with_reducible apply t_word lsSHL oksSHL hs); (apply EvC.now; exact rfl); (simp only [cS, cZ]; exact rfl))
    | ((with_reducible apply q_ls0); exact rfl; (with_reducible apply t_word lsSHR oksSHR hs); (apply EvC.now; exact rfl); (simp only [cS, cZ]; exact rfl)))
  all_goals go_ret
  all_goals refine ⟨?_, rfl⟩
  all_goals (unfold wordStrZ; repeat' split)
  all_goals (first | rfl | contradiction)
theorem pointE_any {s : List Int} (hs : bytesOk s) (w0 : World) : Calls Tryd.prog 55 #[.string (strOfNums s)] w0 fun e w' => e = .returned (.int .i64 (pointedZ s)) ∧ w' = w0 := by
  go_enter Tryd.func55, Tryd.ntmps55
  go_wp2_with (first
    | ((with_reducible apply q_ls0); exact rfl; (with_reducible apply t_word lsBYTE oksBYTE hs); (apply EvC.now; exact rfl); (simp only [cS, cZ]; exact rfl))
    | ((with_reducible apply q_ls0); exact rfl; (with_reducible apply t_word lsWORD oksWORD hs); (apply EvC.now; exact rfl); (simp only [cS, cZ]; exact rfl))
    | ((with_reducible apply q_ls0); exact rfl; (with_reducible apply t_word lsDWORD oksDWORD hs); (apply EvC.now; exact rfl); (simp only [cS, cZ]; exact rfl))
    | ((with_reducible apply q_ls0); exact rfl; (with_reducible apply t_word lsNEAR oksNEAR hs); (apply EvC.now; exact rfl); (simp only [cS, cZ]; exact rfl))
    | ((with_reducible apply q_ls0); exact rfl; (with_reducible apply t_word lsFAR oksFAR hs); (apply EvC.now; exact rfl); (simp only [cS, cZ]; exact rfl)))
  all_goals go_ret
  all_goals refine ⟨?_, rfl⟩
  all_goals (unfold pointedZ; repeat' split)
  all_goals (first | rfl | contradiction)
theorem strengthE_any {t : TokZ} (hs : bytesOk t.s) (w0 : World) : Calls Tryd.prog 41 #[.agg (encTok t)] w0 fun e w' => e = .returned (.int .i64 (strengthZ t)) ∧ Below w0.heap.size w0 w' := by
  have hR := Own.start w0
  obtain ⟨k, s, n, d⟩ := t
  by_cases h4 : k = 4
  · subst h4
    go_enter Tryd.func41, Tryd.ntmps41
    go_wp2_with (first
    | ((with_reducible apply wpList_box hR); exact rfl; exact rfl; clear hR; intro g w hR; simp only [cS, cZ])
    | ((with_reducible apply q_ls hR); exact rfl; ((with_reducible first | apply t_addr (fTok _ (by decide)) | apply t_one tIntV | apply t_one tStrE) <;> (first | (focus (repeat (first | (apply EvC.gv; exact rfl; (with_reducible first | exact Imp.refl _ | (apply Imp.left; exact Imp.refl _) | (apply Imp.right; exact Imp.refl _) | (apply Imp.left; apply Imp.left; exact Imp.refl _))) | (apply EvC.now; exact rfl) | (with_reducible first | apply EvAll.cons | exact EvAll.nil))); done) | exact rfl | fail | (focus (repeat (first | apply List.Mem.head | apply List.Mem.tail | apply List.mem_append_right))))); (simp only [cS, cZ]; exact rfl); clear hR; intro w hR)
    | (go_at_call 60; refine (signE_any hs _).mono ?_; rintro e w' ⟨rfl, rfl⟩))
    (try simp only [Exit.inBlock, Exit.then])
    go_ret
    exact ⟨rfl, hR.below⟩
  by_cases h1 : k = 1
  · subst h1
    go_enter Tryd.func41, Tryd.ntmps41
    go_wp2_with (first
    | ((with_reducible apply wpList_box hR); exact rfl; exact rfl; clear hR; intro g w hR; simp only [cS, cZ])
    | ((with_reducible apply q_ls hR); exact rfl; ((with_reducible first | apply t_addr (fTok _ (by decide)) | apply t_one tIntV | apply t_one tStrE) <;> (first | (focus (repeat (first | (apply EvC.gv; exact rfl; (with_reducible first | exact Imp.refl _ | (apply Imp.left; exact Imp.refl _) | (apply Imp.right; exact Imp.refl _) | (apply Imp.left; apply Imp.left; exact Imp.refl _))) | (apply EvC.now; exact rfl) | (with_reducible first | apply EvAll.cons | exact EvAll.nil))); done) | exact rfl | fail | (focus (repeat (first | apply List.Mem.head | apply List.Mem.tail | apply List.mem_append_right))))); (simp only [cS, cZ]; exact rfl); clear hR; intro w hR)
    | (go_at_call 61; refine (wordE_any hs _).mono ?_; rintro e w' ⟨rfl, rfl⟩))
    (try simp only [Exit.inBlock, Exit.then])
    go_ret
    exact ⟨rfl, hR.below⟩
  · have hz : strengthZ ⟨k, s, n, d⟩ = 0 := by unfold strengthZ; rw [if_neg h4, if_neg h1]
    rw [hz]
    clear hz
    go_enter Tryd.func41, Tryd.ntmps41
    go_wp2_with (first
    | ((with_reducible apply wpList_box hR); exact rfl; exact rfl; clear hR; intro g w hR; simp only [cS, cZ])
    | ((with_reducible apply q_ls hR); exact rfl; ((with_reducible first | apply t_addr (fTok _ (by decide)) | apply t_one tIntV | apply t_one tStrE) <;> (first | (focus (repeat (first | (apply EvC.gv; exact rfl; (with_reducible first | exact Imp.refl _ | (apply Imp.left; exact Imp.refl _) | (apply Imp.right; exact Imp.refl _) | (apply Imp.left; apply Imp.left; exact Imp.refl _))) | (apply EvC.now; exact rfl) | (with_reducible first | apply EvAll.cons | exact EvAll.nil))); done) | exact rfl | fail | (focus (repeat (first | apply List.Mem.head | apply List.Mem.tail | apply List.mem_append_right))))); (simp only [cS, cZ]; exact rfl); clear hR; intro w hR))
    (try simp only [Exit.inBlock, Exit.then])
    go_ret
    exact ⟨rfl, hR.below⟩
theorem isE_any {t : TokZ} (k : Int) {a : List Int} (hs : bytesOk t.s) (ha : bytesOk a) (w0 : World) : Calls Tryd.prog 56 #[.agg (encTok t), .int .i64 k, .string (strOfNums a)] w0 fun e w' => e = .returned (.bool (isZ t k a)) ∧ Below w0.heap.size w0 w' := by
  have hR := Own.start w0
  go_enter Tryd.func56, Tryd.ntmps56
  go_upto_region 1 with (first
    | ((with_reducible apply wpList_box hR); exact rfl; exact rfl; clear hR; intro g w hR; simp only [cS, cZ])
    | ((with_reducible apply q_ls hR); exact rfl; ((with_reducible first | apply t_addr (fTok _ (by decide)) | apply t_one tIntV | apply t_one tStrE) <;> (first | (focus (repeat (first | (apply EvC.gv; exact rfl; (with_reducible first | exact Imp.refl _ | (apply Imp.left; exact Imp.refl _) | (apply Imp.right; exact Imp.refl _) | (apply Imp.left; apply Imp.left; exact Imp.refl _))) | (apply EvC.now; exact rfl) | (with_reducible first | apply EvAll.cons | exact EvAll.nil))); done) | exact rfl | fail | (focus (repeat (first | apply List.Mem.head | apply List.Mem.tail | apply List.mem_append_right))))); (simp only [cS, cZ]; exact rfl); clear hR; intro w hR))
  refine wp_region_tame hR [0, 1, 2, 3, 4, 5, 6, 7, 8, 9, 10] rfl ?_
  repeat (refine wpT_step rfl ?_; first
    | ((first | (with_reducible apply q_pl) | ((with_reducible apply q_gd); (first | (apply GdBy.gt; exact rfl; exact rfl) | (apply GdBy.gf; exact rfl; exact rfl) | (apply GdBy.t; exact rfl; exact rfl) | (apply GdBy.f; exact rfl; exact rfl)))); (with_reducible apply t_eqN hs ha); (first | (focus (repeat (first | (apply EvC.gv; exact rfl; (with_reducible first | exact Imp.refl _ | (apply Imp.left; exact Imp.refl _) | (apply Imp.right; exact Imp.refl _) | (apply Imp.left; apply Imp.left; exact Imp.refl _))) | (apply EvC.now; exact rfl) | (with_reducible first | apply EvAll.cons | exact EvAll.nil))); done) | exact rfl | fail | (focus (repeat (first | apply List.Mem.head | apply List.Mem.tail | apply List.mem_append_right)))); (first | (focus (repeat (first | (apply EvC.gv; exact rfl; (with_reducible first | exact Imp.refl _ | (apply Imp.left; exact Imp.refl _) | (apply Imp.right; exact Imp.refl _) | (apply Imp.left; apply Imp.left; exact Imp.refl _))) | (apply EvC.now; exact rfl) | (with_reducible first | apply EvAll.cons | exact EvAll.nil))); done) | exact rfl | fail | (focus (repeat (first | apply List.Mem.head | apply List.Mem.tail | apply List.mem_append_right)))); (simp only [cS, cZ]; exact rfl))
    | ((first | (with_reducible apply q_pl) | ((with_reducible apply q_gd); (first | (apply GdBy.gt; exact rfl; exact rfl) | (apply GdBy.gf; exact rfl; exact rfl) | (apply GdBy.t; exact rfl; exact rfl) | (apply GdBy.f; exact rfl; exact rfl)))); (first | ((with_reducible first | apply t_move | apply t_assign | apply t_and | apply t_or | apply t_cmp | apply t_not | apply t_addr (fTok _ (by decide)) | apply t_one tIntV | apply t_one tStrE) <;> (first | (focus (repeat (first | (apply EvC.gv; exact rfl; (with_reducible first | exact Imp.refl _ | (apply Imp.left; exact Imp.refl _) | (apply Imp.right; exact Imp.refl _) | (apply Imp.left; apply Imp.left; exact Imp.refl _))) | (apply EvC.now; exact rfl) | (with_reducible first | apply EvAll.cons | exact EvAll.nil))); done) | exact rfl | fail | (focus (repeat (first | apply List.Mem.head | apply List.Mem.tail | apply List.mem_append_right)))))); (simp only [cS, cZ]; exact rfl))
    | ((with_reducible apply q_gd); (first | (apply GdBy.gt; exact rfl; exact rfl) | (apply GdBy.gf; exact rfl; exact rfl) | (apply GdBy.t; exact rfl; exact rfl) | (apply GdBy.f; exact rfl; exact rfl)); ((with_reducible apply t_num) <;> (first | (focus (repeat (first | (apply EvC.gv; exact rfl; (with_reducible first | exact Imp.refl _ | (apply Imp.left; exact Imp.refl _) | (apply Imp.right; exact Imp.refl _) | (apply Imp.left; apply Imp.left; exact Imp.refl _))) | (apply EvC.now; exact rfl) | (with_reducible first | apply EvAll.cons | exact EvAll.nil))); done) | exact rfl | fail | (focus (repeat (first | apply List.Mem.head | apply List.Mem.tail | apply List.mem_append_right))))); (simp only [cS, cZ]; exact rfl))
    | ((with_reducible apply wpT1_gpure); (first | (apply GdBy.gt; exact rfl; exact rfl) | (apply GdBy.gf; exact rfl; exact rfl) | (apply GdBy.t; exact rfl; exact rfl) | (apply GdBy.f; exact rfl; exact rfl)); intro K hK; go_simp; refine hK _ ?_; clear hK K; simp only [cS, cZ])
    | ((with_reducible apply wpT1_pure); exact rfl; intro K hK; go_simp; refine hK _ ?_; clear hK K; simp only [cS, cZ]))
  refine wpT_nil ?_
  clear hR; intro w hR
  go_wp2_with fail
  go_ret
  exact ⟨rfl, hR.below⟩
theorem leadsE_any {t : TokZ} (hs : bytesOk t.s) (w0 : World) : Calls Tryd.prog 52 #[.agg (encTok t)] w0 fun e w' => e = .returned (.bool (leadsZ t)) ∧ Below w0.heap.size w0 w' := by
  have hR := Own.start w0
  obtain ⟨k, s, n, d⟩ := t
  by_cases h4 : k = 4
  · subst h4
    go_enter Tryd.func52, Tryd.ntmps52
    go_wp2_with (first
    | ((with_reducible apply wpList_box hR); exact rfl; exact rfl; clear hR; intro g w hR; simp only [cS, cZ])
    | ((with_reducible apply q_ls hR); exact rfl; ((with_reducible first | apply t_addr (fTok _ (by decide)) | apply t_one tIntV | apply t_one tStrE) <;> (first | (focus (repeat (first | (apply EvC.gv; exact rfl; (with_reducible first | exact Imp.refl _ | (apply Imp.left; exact Imp.refl _) | (apply Imp.right; exact Imp.refl _) | (apply Imp.left; apply Imp.left; exact Imp.refl _))) | (apply EvC.now; exact rfl) | (with_reducible first | apply EvAll.cons | exact EvAll.nil))); done) | exact rfl | fail | (focus (repeat (first | apply List.Mem.head | apply List.Mem.tail | apply List.mem_append_right))))); (simp only [cS, cZ]; exact rfl); clear hR; intro w hR)
    | (go_at_call 60; refine (signE_any hs _).mono ?_; rintro e w' ⟨rfl, rfl⟩))
    (try simp only [Exit.inBlock, Exit.then])
    go_ret
    exact ⟨rfl, hR.below⟩
  by_cases h1 : k = 1
  · subst h1
    go_enter Tryd.func52, Tryd.ntmps52
    go_upto_region 5 with (first
    | ((with_reducible apply wpList_box hR); exact rfl; exact rfl; clear hR; intro g w hR; simp only [cS, cZ])
    | ((with_reducible apply q_ls hR); exact rfl; ((with_reducible first | apply t_addr (fTok _ (by decide)) | apply t_one tIntV | apply t_one tStrE) <;> (first | (focus (repeat (first | (apply EvC.gv; exact rfl; (with_reducible first | exact Imp.refl _ | (apply Imp.left; exact Imp.refl _) | (apply Imp.right; exact Imp.refl _) | (apply Imp.left; apply Imp.left; exact Imp.refl _))) | (apply EvC.now; exact rfl) | (with_reducible first | apply EvAll.cons | exact EvAll.nil))); done) | exact rfl | fail | (focus (repeat (first | apply List.Mem.head | apply List.Mem.tail | apply List.mem_append_right))))); (simp only [cS, cZ]; exact rfl); clear hR; intro w hR))
    refine wp_region_tame hR [0, 1, 2, 3, 4, 5, 6, 7, 8, 9, 10, 11, 12, 13, 14, 15, 16, 17, 18] rfl ?_
    repeat (refine wpT_step rfl ?_; first
    | ((first | (with_reducible apply q_pl) | ((with_reducible apply q_gd); (first | (apply GdBy.gt; exact rfl; exact rfl) | (apply GdBy.gf; exact rfl; exact rfl) | (apply GdBy.t; exact rfl; exact rfl) | (apply GdBy.f; exact rfl; exact rfl)))); (with_reducible apply t_word lsOFFSET oksOFFSET hs); (first | (focus (repeat (first | (apply EvC.gv; exact rfl; (with_reducible first | exact Imp.refl _ | (apply Imp.left; exact Imp.refl _) | (apply Imp.right; exact Imp.refl _) | (apply Imp.left; apply Imp.left; exact Imp.refl _))) | (apply EvC.now; exact rfl) | (with_reducible first | apply EvAll.cons | exact EvAll.nil))); done) | exact rfl | fail | (focus (repeat (first | apply List.Mem.head | apply List.Mem.tail | apply List.mem_append_right)))); (simp only [cS, cZ]; exact rfl))
    | ((first | (with_reducible apply q_pl) | ((with_reducible apply q_gd); (first | (apply GdBy.gt; exact rfl; exact rfl) | (apply GdBy.gf; exact rfl; exact rfl) | (apply GdBy.t; exact rfl; exact rfl) | (apply GdBy.f; exact rfl; exact rfl)))); (with_reducible apply t_word lsSEG oksSEG hs); (first | (focus (repeat (first | (apply EvC.gv; exact rfl; (with_reducible first | exact Imp.refl _ | (apply Imp.left; exact Imp.refl _) | (apply Imp.right; exact Imp.refl _) | (apply Imp.left; apply Imp.left; exact Imp.refl _))) | (apply EvC.now; exact rfl) | (with_reducible first | apply EvAll.cons | exact EvAll.nil))); done) | exact rfl | fail | (focus (repeat (first | apply List.Mem.head | apply List.Mem.tail | apply List.mem_append_right)))); (simp only [cS, cZ]; exact rfl))
    | ((first | (with_reducible apply q_pl) | ((with_reducible apply q_gd); (first | (apply GdBy.gt; exact rfl; exact rfl) | (apply GdBy.gf; exact rfl; exact rfl) | (apply GdBy.t; exact rfl; exact rfl) | (apply GdBy.f; exact rfl; exact rfl)))); (with_reducible apply t_word lsNOT oksNOT hs); (first | (focus (repeat (first | (apply EvC.gv; exact rfl; (with_reducible first | exact Imp.refl _ | (apply Imp.left; exact Imp.refl _) | (apply Imp.right; exact Imp.refl _) | (apply Imp.left; apply Imp.left; exact Imp.refl _))) | (apply EvC.now; exact rfl) | (with_reducible first | apply EvAll.cons | exact EvAll.nil))); done) | exact rfl | fail | (focus (repeat (first | apply List.Mem.head | apply List.Mem.tail | apply List.mem_append_right)))); (simp only [cS, cZ]; exact rfl))
    | ((first | (with_reducible apply q_pl) | ((with_reducible apply q_gd); (first | (apply GdBy.gt; exact rfl; exact rfl) | (apply GdBy.gf; exact rfl; exact rfl) | (apply GdBy.t; exact rfl; exact rfl) | (apply GdBy.f; exact rfl; exact rfl)))); (with_reducible apply t_word lsSHORT oksSHORT hs); (first | (focus (repeat (first | (apply EvC.gv; exact rfl; (with_reducible first | exact Imp.refl _ | (apply Imp.left; exact Imp.refl _) | (apply Imp.right; exact Imp.refl _) | (apply Imp.left; apply Imp.left; exact Imp.refl _))) | (apply EvC.now; exact rfl) | (with_reducible first | apply EvAll.cons | exact EvAll.nil))); done) | exact rfl | fail | (focus (repeat (first | apply List.Mem.head | apply List.Mem.tail | apply List.mem_append_right)))); (simp only [cS, cZ]; exact rfl))
    | ((first | (with_reducible apply q_pl) | ((with_reducible apply q_gd); (first | (apply GdBy.gt; exact rfl; exact rfl) | (apply GdBy.gf; exact rfl; exact rfl) | (apply GdBy.t; exact rfl; exact rfl) | (apply GdBy.f; exact rfl; exact rfl)))); (first | ((with_reducible first | apply t_move | apply t_assign | apply t_and | apply t_or | apply t_cmp | apply t_not | apply t_addr (fTok _ (by decide)) | apply t_one tIntV | apply t_one tStrE) <;> (first | (focus (repeat (first | (apply EvC.gv; exact rfl; (with_reducible first | exact Imp.refl _ | (apply Imp.left; exact Imp.refl _) | (apply Imp.right; exact Imp.refl _) | (apply Imp.left; apply Imp.left; exact Imp.refl _))) | (apply EvC.now; exact rfl) | (with_reducible first | apply EvAll.cons | exact EvAll.nil))); done) | exact rfl | fail | (focus (repeat (first | apply List.Mem.head | apply List.Mem.tail | apply List.mem_append_right)))))); (simp only [cS, cZ]; exact rfl))
    | ((with_reducible apply q_gd); (first | (apply GdBy.gt; exact rfl; exact rfl) | (apply GdBy.gf; exact rfl; exact rfl) | (apply GdBy.t; exact rfl; exact rfl) | (apply GdBy.f; exact rfl; exact rfl)); ((with_reducible apply t_num) <;> (first | (focus (repeat (first | (apply EvC.gv; exact rfl; (with_reducible first | exact Imp.refl _ | (apply Imp.left; exact Imp.refl _) | (apply Imp.right; exact Imp.refl _) | (apply Imp.left; apply Imp.left; exact Imp.refl _))) | (apply EvC.now; exact rfl) | (with_reducible first | apply EvAll.cons | exact EvAll.nil))); done) | exact rfl | fail | (focus (repeat (first | apply List.Mem.head | apply List.Mem.tail | apply List.mem_append_right))))); (simp only [cS, cZ]; exact rfl))
    | ((with_reducible apply wpT1_gpure); (first | (apply GdBy.gt; exact rfl; exact rfl) | (apply GdBy.gf; exact rfl; exact rfl) | (apply GdBy.t; exact rfl; exact rfl) | (apply GdBy.f; exact rfl; exact rfl)); intro K hK; go_simp; refine hK _ ?_; clear hK K; simp only [cS, cZ])
    | ((with_reducible apply wpT1_pure); exact rfl; intro K hK; go_simp; refine hK _ ?_; clear hK K; simp only [cS, cZ]))
    refine wpT_nil ?_
    clear hR; intro w hR
    go_wp2_with fail
    (try simp only [Exit.inBlock, Exit.then])
    go_ret
    exact ⟨rfl, hR.below⟩
  · have hz : leadsZ ⟨k, s, n, d⟩ = false := by unfold leadsZ; rw [if_neg h4, if_neg h1]
    rw [hz]
    clear hz
    go_enter Tryd.func52, Tryd.ntmps52
    go_wp2_with (first
    | ((with_reducible apply wpList_box hR); exact rfl; exact rfl; clear hR; intro g w hR; simp only [cS, cZ])
    | ((with_reducible apply q_ls hR); exact rfl; ((with_reducible first | apply t_addr (fTok _ (by decide)) | apply t_one tIntV | apply t_one tStrE) <;> (first | (focus (repeat (first | (apply EvC.gv; exact rfl; (with_reducible first | exact Imp.refl _ | (apply Imp.left; exact Imp.refl _) | (apply Imp.right; exact Imp.refl _) | (apply Imp.left; apply Imp.left; exact Imp.refl _))) | (apply EvC.now; exact rfl) | (with_reducible first | apply EvAll.cons | exact EvAll.nil))); done) | exact rfl | fail | (focus (repeat (first | apply List.Mem.head | apply List.Mem.tail | apply List.mem_append_right))))); (simp only [cS, cZ]; exact rfl); clear hR; intro w hR))
    (try simp only [Exit.inBlock, Exit.then])
    go_ret
    exact ⟨rfl, hR.below⟩
end Go.Proofs.YtckkgooabnlooaaDoor
