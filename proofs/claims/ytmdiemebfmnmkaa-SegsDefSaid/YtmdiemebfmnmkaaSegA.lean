









/- The contracts of package segs: which segments may be, and steps. No statement of the seat is proved here. -/
import Derived.Test.YtmdiemebfmnmkaaR21
import Derived.Test.YtmdiemebfmnmkaaIdx
import Derived.Deep.DeepCutAuto
import Derived.Deep.CutBlock
namespace Go.Proofs.Ytmdiemebfmnmkaa
open Go.ChangeShapes Go.WideShapes Go.ChangeAt Go.RowKit
set_option linter.unusedVariables false
set_option linter.unusedSimpArgs false

def encArr (a b c : Int) : Array Value := #[.int .i64 a, .int .i64 b, .int .i64 c]
theorem iArr : (Try.prog.info? 51).map (·.size) = some 3 := by kernel_rfl
theorem tArr : RowTy Try.prog 51 3 := .of Try.underlying51 rfl iArr
theorem zArr : ZeroTy Try.prog 51 (encArr 0 0 0) := .of (by kernel_rfl)
theorem bArr (a b c : Int) : Built Try.prog 51 [(0, .int .i64 a), (1, .int .i64 b), (2, .int .i64 c)] (encArr a b c) := ⟨by kernel_rfl⟩
theorem put_arr (a b c d e f : Int) : PutRel (encArr a b c) 0 (encArr d e f).toList (encArr d e f) := putList_all rfl
theorem one_arr (a b c : Int) : (encArr a b c).all (·.oneCell') = true := by simp [encArr, Value.oneCell']
theorem segIndices_any (s : SegZ) (w0 : World) : Calls Try.prog 19 #[.agg (encSeg s)] w0 fun e w' => e = .returned (.agg (encArr s.n s.k s.v)) ∧ Below w0.heap.size w0 w' := by
  have hR := Own.start w0
  go_enter Try.func19, Try.ntmps19
  go_wp2_with (first
    | ((with_reducible apply wpList_box hR); exact rfl; exact rfl; clear hR; intro g w hR; simp only [List.set_cons_succ, List.set_cons_zero])
    | ((with_reducible apply wpList_make hR zArr); exact rfl; clear hR; intro g w hR; simp only [List.set_cons_succ, List.set_cons_zero])
    | ((with_reducible apply wpList_built); exact rfl; exact rfl; exact bArr _ _ _; (simp only [List.set_cons_succ, List.set_cons_zero]; exact rfl))
    | ((with_reducible apply wpList_put hR tArr); exact rfl; exact rfl; exact rfl; (focus (repeat (first | apply List.Mem.head | apply List.Mem.tail | apply List.mem_append_right))); exact put_arr _ _ _ _ _ _; exact rfl; simp [encArr]; exact one_arr _ _ _; (focus (repeat (first | apply Upd.head | apply Upd.tail))); clear hR; intro w hR)
    | ((with_reducible apply q_ls hR); exact rfl; ((with_reducible first | apply t_addr (fRec _ (by decide)) | apply t_addr (fSeg _ (by decide)) | apply t_one tByteR | apply t_one tSlR | apply t_one tIntR | apply t_one tWordS | apply t_part tSeg) <;> (first | (apply EvC.gv; exact rfl; (with_reducible first | exact Imp.refl _ | (apply Imp.left; exact Imp.refl _) | (apply Imp.right; exact Imp.refl _) | (apply Imp.left; apply Imp.left; exact Imp.refl _))) | (apply EvC.now; exact rfl) | exact rfl | (with_reducible exact EvAll.nil) | (focus (repeat (first | apply EvAll.cons | exact EvAll.nil | (apply EvC.gv; exact rfl; (with_reducible first | exact Imp.refl _ | (apply Imp.left; exact Imp.refl _) | (apply Imp.right; exact Imp.refl _) | (apply Imp.left; apply Imp.left; exact Imp.refl _))) | (apply EvC.now; exact rfl))); done) | exact ext_seg _ | (focus (repeat (first | apply List.Mem.head | apply List.Mem.tail | apply List.mem_append_right))))); (simp only [List.set_cons_succ, List.set_cons_zero]; exact rfl); clear hR; intro w hR))
  (try simp only [Exit.inBlock, Exit.then])
  exact post_row hR rfl (by rfl) (by (focus (repeat (first | apply List.Mem.head | apply List.Mem.tail | apply List.mem_append_right)))) Try.underlying51 rfl iArr (by rfl) (by rfl) ⟨rfl, hR.below⟩
theorem segAligns_any (n : Int) (w0 : World) : Calls Try.prog 21 #[.int .i64 n] w0 fun e w' => e = .returned (.bool (decide (0 ≤ n) && decide (n ≤ 4))) ∧ Below w0.heap.size w0 w' := by
  have hR := Own.start w0
  go_enter Try.func21, Try.ntmps21
  go_upto_region 1 with fail
  refine wp_region_tame hR [0, 1, 2, 3, 4, 5, 6] rfl ?_
  repeat (refine wpT_step rfl ?_; first
    | ((first | (with_reducible apply q_pl) | ((with_reducible apply q_gd); (first | (apply GdBy.gt; exact rfl; exact rfl) | (apply GdBy.gf; exact rfl; exact rfl) | (apply GdBy.t; exact rfl; exact rfl) | (apply GdBy.f; exact rfl; exact rfl)))); (first | ((with_reducible first | apply t_move | apply t_assign | apply t_and | apply t_or | apply t_cmp | apply t_not | apply t_addr (fRec _ (by decide)) | apply t_addr (fSeg _ (by decide)) | apply t_one tByteR | apply t_one tSlR | apply t_one tIntR | apply t_one tWordS | apply t_part tSeg) <;> (first | (apply EvC.gv; exact rfl; (with_reducible first | exact Imp.refl _ | (apply Imp.left; exact Imp.refl _) | (apply Imp.right; exact Imp.refl _) | (apply Imp.left; apply Imp.left; exact Imp.refl _))) | (apply EvC.now; exact rfl) | exact rfl | (with_reducible exact EvAll.nil) | (focus (repeat (first | apply EvAll.cons | exact EvAll.nil | (apply EvC.gv; exact rfl; (with_reducible first | exact Imp.refl _ | (apply Imp.left; exact Imp.refl _) | (apply Imp.right; exact Imp.refl _) | (apply Imp.left; apply Imp.left; exact Imp.refl _))) | (apply EvC.now; exact rfl))); done) | exact ext_seg _ | (focus (repeat (first | apply List.Mem.head | apply List.Mem.tail | apply List.mem_append_right)))))); (simp only [List.set_cons_succ, List.set_cons_zero]; exact rfl))
    | ((with_reducible apply q_gd); (first | (apply GdBy.gt; exact rfl; exact rfl) | (apply GdBy.gf; exact rfl; exact rfl) | (apply GdBy.t; exact rfl; exact rfl) | (apply GdBy.f; exact rfl; exact rfl)); ((with_reducible apply t_num) <;> (first | (apply EvC.gv; exact rfl; (with_reducible first | exact Imp.refl _ | (apply Imp.left; exact Imp.refl _) | (apply Imp.right; exact Imp.refl _) | (apply Imp.left; apply Imp.left; exact Imp.refl _))) | (apply EvC.now; exact rfl) | exact rfl | (with_reducible exact EvAll.nil) | (focus (repeat (first | apply EvAll.cons | exact EvAll.nil | (apply EvC.gv; exact rfl; (with_reducible first | exact Imp.refl _ | (apply Imp.left; exact Imp.refl _) | (apply Imp.right; exact Imp.refl _) | (apply Imp.left; apply Imp.left; exact Imp.refl _))) | (apply EvC.now; exact rfl))); done) | exact ext_seg _ | (focus (repeat (first | apply List.Mem.head | apply List.Mem.tail | apply List.mem_append_right))))); (simp only [List.set_cons_succ, List.set_cons_zero]; exact rfl))
    | ((with_reducible apply wpT1_gpure); (first | (apply GdBy.gt; exact rfl; exact rfl) | (apply GdBy.gf; exact rfl; exact rfl) | (apply GdBy.t; exact rfl; exact rfl) | (apply GdBy.f; exact rfl; exact rfl)); intro K hK; go_simp; refine hK _ ?_; clear hK K; simp only [List.set_cons_succ, List.set_cons_zero])
    | ((with_reducible apply wpT1_pure); exact rfl; intro K hK; go_simp; refine hK _ ?_; clear hK K; simp only [List.set_cons_succ, List.set_cons_zero]))
  refine wpT_nil ?_
  clear hR; intro w hR
  go_wp2_with fail
  go_ret
  exact ⟨rfl, hR.below⟩
theorem segCombines_any (n : Int) (w : World) : Calls Try.prog 22 #[.int .i64 n] w fun e w' => e = .returned (.bool (comS n)) ∧ Below w.heap.size w w' := by
  go_enter Try.func22, Try.ntmps22
  go_wp2
  all_goals go_ret
  all_goals refine ⟨?_, Below.refl _ _⟩
  all_goals simp_all [comS]
theorem segStep_any (n : Int) (w : World) : Calls Try.prog 16 #[.int .i64 n] w fun e w' => e = .returned (.int .i64 (stepS n)) ∧ Below w.heap.size w w' := by
  go_enter Try.func16, Try.ntmps16
  go_wp2
  all_goals go_ret
  all_goals refine ⟨?_, Below.refl _ _⟩
  all_goals simp_all [stepS]
/-! ### A segment's first byte -/
theorem first_or {a c : Int} (ha : 0 ≤ a ∧ a ≤ 4) (hc : c = 0 ∨ c = 2 ∨ c = 5 ∨ c = 6) : bits .or .i64 (a * 2 ^ 5) (c * 2 ^ 2) = 32 * a + 4 * c := by
  rcases (by omega : a = 0 ∨ a = 1 ∨ a = 2 ∨ a = 3 ∨ a = 4) with rfl | rfl | rfl | rfl | rfl <;> rcases hc with rfl | rfl | rfl | rfl <;> decide
theorem first_two {x : Int} {a c : Int} (hx : x = 32 * a + 4 * c) (ha : 0 ≤ a ∧ a ≤ 4) (hc : c = 0 ∨ c = 2 ∨ c = 5 ∨ c = 6) : bits .or .u8 x 2 = x + 2 := by
  subst hx
  rcases (by omega : a = 0 ∨ a = 1 ∨ a = 2 ∨ a = 3 ∨ a = 4) with rfl | rfl | rfl | rfl | rfl <;> rcases hc with rfl | rfl | rfl | rfl <;> decide
theorem segFirst_any (s : SegZ) (h : MayS s) (w0 : World) : Calls Try.prog 17 #[.agg (encSeg s)] w0 fun e w' => e = .returned (.int .u8 (firstS s)) ∧ Below w0.heap.size w0 w' := by
  have hR := Own.start w0
  have ha := h.a; have hc := h.c
  obtain ⟨p, hp⟩ : ∃ p, s.a * 2 ^ 5 = p := ⟨_, rfl⟩
  obtain ⟨q, hq⟩ : ∃ q, s.c * 2 ^ 2 = q := ⟨_, rfl⟩
  obtain ⟨x, hx⟩ : ∃ x, 32 * s.a + 4 * s.c = x := ⟨_, rfl⟩
  have H5 := Lib.hid (show IntKind.i64.wrap (s.a * 2 ^ 5) = p from (IntWalk.i64_in _ (by omega)).trans hp)
  have H2 := Lib.hid (show IntKind.i64.wrap (s.c * 2 ^ 2) = q from (IntWalk.i64_in _ (by omega)).trans hq)
  have HO := Lib.hid (show bits .or .i64 p q = x by rw [← hp, ← hq, ← hx]; exact first_or ha hc)
  have HT := Lib.hid (show bits .or .u8 x 2 = x + 2 from first_two hx.symm ha hc)
  have HF := Lib.hid (show firstS s = x + (if s.l = 65536 then 2 else 0) by rw [← hx]; rfl)
  have HC := Lib.hid (show IntKind.u8.wrap x = x from IntWalk.u8_in _ (by omega))
  clear ha hc hp hq hx
  go_enter Try.func17, Try.ntmps17
  by_cases hl : s.l = 65536
  · have HE := Lib.hid (show cmpB .eql s.l 65536 = some true by simp [cmpB, hl])
    have HV := Lib.hid (show firstS s = x + 2 by rw [HF.out, if_pos hl])
    clear hl
    go_wp2_with (first
    | ((with_reducible apply wpList_box hR); exact rfl; exact rfl; clear hR; intro g w hR; simp only [List.set_cons_succ, List.set_cons_zero])
    | ((with_reducible apply q_ls hR); exact rfl; (with_reducible apply t_shlE (k := 5)); (apply EvC.now; exact rfl); (apply EvC.now; exact rfl); exact rfl; (decide); exact H5.out; (simp only [List.set_cons_succ, List.set_cons_zero]; exact rfl); clear hR; intro w hR)
    | ((with_reducible apply q_ls hR); exact rfl; (with_reducible apply t_shlE (k := 2)); (apply EvC.now; exact rfl); (apply EvC.now; exact rfl); exact rfl; (decide); exact H2.out; (simp only [List.set_cons_succ, List.set_cons_zero]; exact rfl); clear hR; intro w hR)
    | ((with_reducible apply q_ls hR); exact rfl; (with_reducible apply t_numE (op := .or)); (apply EvC.now; exact rfl); (apply EvC.now; exact rfl); exact rfl; (with_reducible first | exact HO.out | exact HT.out); (simp only [List.set_cons_succ, List.set_cons_zero]; exact rfl); clear hR; intro w hR)
    | ((with_reducible apply q_ls hR); exact rfl; (with_reducible apply t_conv Try.underlying3 Try.underlying5); (apply EvC.now; exact rfl); exact HC.out; (simp only [List.set_cons_succ, List.set_cons_zero]; exact rfl); clear hR; intro w hR)
    | ((with_reducible apply q_ls hR); exact rfl; (with_reducible apply t_cmp); (apply EvC.now; exact rfl); (apply EvC.now; exact rfl); exact HE.out; (simp only [List.set_cons_succ, List.set_cons_zero]; exact rfl); clear hR; intro w hR)
    | ((with_reducible apply q_ls hR); exact rfl; ((with_reducible first | apply t_addr (fRec _ (by decide)) | apply t_addr (fSeg _ (by decide)) | apply t_one tByteR | apply t_one tSlR | apply t_one tIntR | apply t_one tWordS | apply t_part tSeg) <;> (first | (apply EvC.gv; exact rfl; (with_reducible first | exact Imp.refl _ | (apply Imp.left; exact Imp.refl _) | (apply Imp.right; exact Imp.refl _) | (apply Imp.left; apply Imp.left; exact Imp.refl _))) | (apply EvC.now; exact rfl) | exact rfl | (with_reducible exact EvAll.nil) | (focus (repeat (first | apply EvAll.cons | exact EvAll.nil | (apply EvC.gv; exact rfl; (with_reducible first | exact Imp.refl _ | (apply Imp.left; exact Imp.refl _) | (apply Imp.right; exact Imp.refl _) | (apply Imp.left; apply Imp.left; exact Imp.refl _))) | (apply EvC.now; exact rfl))); done) | exact ext_seg _ | (focus (repeat (first | apply List.Mem.head | apply List.Mem.tail | apply List.mem_append_right))))); (simp only [List.set_cons_succ, List.set_cons_zero]; exact rfl); clear hR; intro w hR))
    go_ret
    rw [HV.out]
    exact ⟨rfl, hR.below⟩
  · have HE := Lib.hid (show cmpB .eql s.l 65536 = some false by simp [cmpB, hl])
    have HV := Lib.hid (show firstS s = x by rw [HF.out, if_neg hl, Int.add_zero])
    clear hl
    go_wp2_with (first
    | ((with_reducible apply wpList_box hR); exact rfl; exact rfl; clear hR; intro g w hR; simp only [List.set_cons_succ, List.set_cons_zero])
    | ((with_reducible apply q_ls hR); exact rfl; (with_reducible apply t_shlE (k := 5)); (apply EvC.now; exact rfl); (apply EvC.now; exact rfl); exact rfl; (decide); exact H5.out; (simp only [List.set_cons_succ, List.set_cons_zero]; exact rfl); clear hR; intro w hR)
    | ((with_reducible apply q_ls hR); exact rfl; (with_reducible apply t_shlE (k := 2)); (apply EvC.now; exact rfl); (apply EvC.now; exact rfl); exact rfl; (decide); exact H2.out; (simp only [List.set_cons_succ, List.set_cons_zero]; exact rfl); clear hR; intro w hR)
    | ((with_reducible apply q_ls hR); exact rfl; (with_reducible apply t_numE (op := .or)); (apply EvC.now; exact rfl); (apply EvC.now; exact rfl); exact rfl; (with_reducible first | exact HO.out | exact HT.out); (simp only [List.set_cons_succ, List.set_cons_zero]; exact rfl); clear hR; intro w hR)
    | ((with_reducible apply q_ls hR); exact rfl; (with_reducible apply t_conv Try.underlying3 Try.underlying5); (apply EvC.now; exact rfl); exact HC.out; (simp only [List.set_cons_succ, List.set_cons_zero]; exact rfl); clear hR; intro w hR)
    | ((with_reducible apply q_ls hR); exact rfl; (with_reducible apply t_cmp); (apply EvC.now; exact rfl); (apply EvC.now; exact rfl); exact HE.out; (simp only [List.set_cons_succ, List.set_cons_zero]; exact rfl); clear hR; intro w hR)
    | ((with_reducible apply q_ls hR); exact rfl; ((with_reducible first | apply t_addr (fRec _ (by decide)) | apply t_addr (fSeg _ (by decide)) | apply t_one tByteR | apply t_one tSlR | apply t_one tIntR | apply t_one tWordS | apply t_part tSeg) <;> (first | (apply EvC.gv; exact rfl; (with_reducible first | exact Imp.refl _ | (apply Imp.left; exact Imp.refl _) | (apply Imp.right; exact Imp.refl _) | (apply Imp.left; apply Imp.left; exact Imp.refl _))) | (apply EvC.now; exact rfl) | exact rfl | (with_reducible exact EvAll.nil) | (focus (repeat (first | apply EvAll.cons | exact EvAll.nil | (apply EvC.gv; exact rfl; (with_reducible first | exact Imp.refl _ | (apply Imp.left; exact Imp.refl _) | (apply Imp.right; exact Imp.refl _) | (apply Imp.left; apply Imp.left; exact Imp.refl _))) | (apply EvC.now; exact rfl))); done) | exact ext_seg _ | (focus (repeat (first | apply List.Mem.head | apply List.Mem.tail | apply List.mem_append_right))))); (simp only [List.set_cons_succ, List.set_cons_zero]; exact rfl); clear hR; intro w hR))
    go_ret
    rw [HV.out]
    exact ⟨rfl, hR.below⟩
end Go.Proofs.Ytmdiemebfmnmkaa
