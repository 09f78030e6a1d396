









/- Contracts of package expr's letters, meaning and named. No statement of the seat is proved here. -/
import Derived.Test.YtckkgooabnlooaaDoorExpH
namespace Go.Proofs.YtckkgooabnlooaaDoor
open Go.ChangeShapes Go.WideShapes Go.ChangeAt Go.RowKit
set_option linter.unusedVariables false
set_option linter.unusedSimpArgs false
set_option maxRecDepth 100000

/-! ### Letters -/
theorem tByteE : OneTy Tryd.prog 5 := .of Tryd.underlying5 rfl (by kernel_rfl)
theorem iByteE : (Tryd.prog.info? 5).map (·.size) = some 1 := by kernel_rfl
def lettersO (s : List Int) : Option Int := bif decide (s.length = 1) || decide (s.length = 2) then some (lettersZ s) else none
theorem lettersE_bad {s : List Int} (h : (decide (s.length = 1) || decide (s.length = 2)) = false) (w0 : World) : Calls Tryd.prog 90 #[.string (strOfNums s)] w0 fun e w' => e = .panicked (errCh 3) ∧ Below w0.heap.size w0 w' := by
  have hR := Own.start w0
  have h1 : ((s.length : Int) == 1 || (s.length : Int) == 2) = false := by
    rw [← h]
    congr 1
    · show decide ((s.length : Int) = 1) = _; exact decide_eq_decide.2 (by omega)
    · show decide ((s.length : Int) = 2) = _; exact decide_eq_decide.2 (by omega)
  have HB := Lib.hid h1
  clear h h1
  go_enter Tryd.func90, Tryd.ntmps90
  go_upto_region 1 with fail
  refine wp_region_quiet hR 8 [0, 1, 2, 3, 4, 5, 6, 7] rfl (by decide) ?_
  repeat (refine wpT_step rfl ?_; first
    | ((first | (with_reducible apply q_pl) | ((with_reducible apply q_gd); (first | (apply GdBy.gt; exact rfl; exact rfl) | (apply GdBy.gf; exact rfl; exact rfl) | (apply GdBy.t; exact rfl; exact rfl) | (apply GdBy.f; exact rfl; exact rfl)))); (with_reducible apply t_lenN Tryd.underlying9); (first | (focus (repeat (first | (apply EvC.gv; exact rfl; (with_reducible first | exact Imp.refl _ | (apply Imp.left; exact Imp.refl _) | (apply Imp.right; exact Imp.refl _) | (apply Imp.left; apply Imp.left; exact Imp.refl _))) | (apply EvC.now; exact rfl) | (with_reducible first | apply EvAll.cons | exact EvAll.nil))); done) | exact rfl | (first | exact ext_val _ | exact ext_partV _ | exact ext_rdrH _ _ _) | (focus (repeat (first | apply List.Mem.head | apply List.Mem.tail | apply List.mem_append_right)))); (simp only [cS, cZ]; exact rfl))
    | ((first | (with_reducible apply q_pl) | ((with_reducible apply q_gd); (first | (apply GdBy.gt; exact rfl; exact rfl) | (apply GdBy.gf; exact rfl; exact rfl) | (apply GdBy.t; exact rfl; exact rfl) | (apply GdBy.f; exact rfl; exact rfl)))); (first | ((with_reducible first | apply t_move | apply t_assign | apply t_and | apply t_or | apply t_cmp | apply t_not | apply t_addr fRdr1 | apply t_fieldO (fTabO _ (by decide)) | apply t_nilck | apply t_one tStrsE | apply t_one tValsE | apply t_part tVal) <;> (first | (focus (repeat (first | (apply EvC.gv; exact rfl; (with_reducible first | exact Imp.refl _ | (apply Imp.left; exact Imp.refl _) | (apply Imp.right; exact Imp.refl _) | (apply Imp.left; apply Imp.left; exact Imp.refl _))) | (apply EvC.now; exact rfl) | (with_reducible first | apply EvAll.cons | exact EvAll.nil))); done) | exact rfl | (first | exact ext_val _ | exact ext_partV _ | exact ext_rdrH _ _ _) | (focus (repeat (first | apply List.Mem.head | apply List.Mem.tail | apply List.mem_append_right)))))); (simp only [cS, cZ]; exact rfl))
    | ((with_reducible apply q_gd); (first | (apply GdBy.gt; exact rfl; exact rfl) | (apply GdBy.gf; exact rfl; exact rfl) | (apply GdBy.t; exact rfl; exact rfl) | (apply GdBy.f; exact rfl; exact rfl)); ((with_reducible apply t_num) <;> (first | (focus (repeat (first | (apply EvC.gv; exact rfl; (with_reducible first | exact Imp.refl _ | (apply Imp.left; exact Imp.refl _) | (apply Imp.right; exact Imp.refl _) | (apply Imp.left; apply Imp.left; exact Imp.refl _))) | (apply EvC.now; exact rfl) | (with_reducible first | apply EvAll.cons | exact EvAll.nil))); done) | exact rfl | (first | exact ext_val _ | exact ext_partV _ | exact ext_rdrH _ _ _) | (focus (repeat (first | apply List.Mem.head | apply List.Mem.tail | apply List.mem_append_right))))); (simp only [cS, cZ]; exact rfl))
    | ((with_reducible apply wpT1_gpure); (first | (apply GdBy.gt; exact rfl; exact rfl) | (apply GdBy.gf; exact rfl; exact rfl) | (apply GdBy.t; exact rfl; exact rfl) | (apply GdBy.f; exact rfl; exact rfl)); intro K hK; go_simp; refine hK _ ?_; clear hK K; simp only [cS, cZ])
    | ((with_reducible apply wpT1_pure); exact rfl; intro K hK; go_simp; refine hK _ ?_; clear hK K; simp only [cS, cZ]))
  refine wpT_nil ?_
  clear hR; intro w hR
  show wpList _ _ _ [_] _ _
  refine wpList_callP Tryd.call30 rfl rfl ((needE_f HB.out _).mono ?_)
  rintro en w' ⟨rfl, rfl⟩
  exact .inr ⟨_, rfl, rfl, rfl, hR.below⟩
theorem lettersE_one (a : Int) (hs : bytesOk [a]) (w0 : World) : Calls Tryd.prog 90 #[.string (strOfNums [a])] w0 fun e w' => e = .returned (.int .i64 (lettersZ [a])) ∧ Below w0.heap.size w0 w' := by
  have hR := Own.start w0
  have ha := hs a (.head _)
  have HW0 := Lib.hid (show IntKind.i64.wrap a = a from IntWalk.i64_in _ (by omega))
  have HW1 := HW0
  clear ha
  go_enter Tryd.func90, Tryd.ntmps90
  go_wp2_with (first
    | ((with_reducible apply q_ls0); exact rfl; (with_reducible apply t_lenN Tryd.underlying9); (apply EvC.now; exact rfl); (simp only [cS, cZ]; exact rfl))
    | (go_at_call 30; refine (needE_yes _).mono ?_; rintro e w' ⟨rfl, rfl⟩)
    | ((with_reducible apply wpList_bytesN hR Tryd.underlying9 Tryd.underlying60 Tryd.underlying5 hs); exact rfl; exact rfl; clear hR; intro vm w hR hM; obtain ⟨g, cap, cur, rfl, hcap, hg, hc⟩ := hM.way; have HC0 := Lib.hid (show w.cell? ⟨g, 0, none⟩ = some (.int .u8 a) by rw [cell_of_row _ _ _ _ _ _ hg]; exact hc 0 a rfl); have HC1 := HC0; clear hM hg hc; simp only [cS, cZ])
    | ((with_reducible apply q_ls0); exact rfl; (with_reducible apply t_six Tryd.underlying60 iByteE); (apply EvC.now; exact rfl); (apply EvC.now; exact rfl); (constructor <;> decide); (simp only [cS, cZ]; exact rfl))
    | ((with_reducible apply q_ls0); exact rfl; (with_reducible apply t_cellW tByteE); (apply EvC.now; exact rfl); (intro w' h; subst h; first | exact HC0.out | exact HC1.out); (simp only [cS, cZ]; exact rfl))
    | ((with_reducible apply q_ls0); exact rfl; (with_reducible apply t_shlE (k := 8)); (apply EvC.now; exact rfl); (apply EvC.now; exact rfl); exact rfl; decide; exact rfl; (simp only [cS, cZ]; exact rfl))
    | ((with_reducible apply q_ls0); exact rfl; (with_reducible apply t_conv Tryd.underlying5 Tryd.underlying3); (apply EvC.now; exact rfl); (first | exact HW0.out | exact HW1.out); (simp only [cS, cZ]; exact rfl))
    | ((with_reducible apply q_ls0); exact rfl; (with_reducible apply t_num (op := .or)); (apply EvC.now; exact rfl); (apply EvC.now; exact rfl); exact rfl; (simp only [cS, cZ]; exact rfl))
    | ((with_reducible apply q_ls0); exact rfl; (with_reducible apply t_len Tryd.underlying60); (apply EvC.now; exact rfl); (simp only [cS, cZ]; exact rfl)))
  refine wp_loop_rounds 3 ?_
  rw [rounds_succ]
  go_wp2_with (first
    | ((with_reducible apply q_ls0); exact rfl; (with_reducible apply t_six Tryd.underlying60 iByteE); (apply EvC.now; exact rfl); (apply EvC.now; exact rfl); (constructor <;> decide); (simp only [cS, cZ]; exact rfl))
    | ((with_reducible apply q_ls0); exact rfl; (with_reducible apply t_cellW tByteE); (apply EvC.now; exact rfl); (intro w' h; subst h; first | exact HC0.out | exact HC1.out); (simp only [cS, cZ]; exact rfl))
    | ((with_reducible apply q_ls0); exact rfl; (with_reducible apply t_shlE (k := 8)); (apply EvC.now; exact rfl); (apply EvC.now; exact rfl); exact rfl; decide; exact rfl; (simp only [cS, cZ]; exact rfl))
    | ((with_reducible apply q_ls0); exact rfl; (with_reducible apply t_conv Tryd.underlying5 Tryd.underlying3); (apply EvC.now; exact rfl); (first | exact HW0.out | exact HW1.out); (simp only [cS, cZ]; exact rfl))
    | ((with_reducible apply q_ls0); exact rfl; (with_reducible apply t_num (op := .or)); (apply EvC.now; exact rfl); (apply EvC.now; exact rfl); exact rfl; (simp only [cS, cZ]; exact rfl))
    | ((with_reducible apply q_ls0); exact rfl; (with_reducible apply t_len Tryd.underlying60); (apply EvC.now; exact rfl); (simp only [cS, cZ]; exact rfl)))
  rw [rounds_succ]
  go_wp2_with (first
    | ((with_reducible apply q_ls0); exact rfl; (with_reducible apply t_six Tryd.underlying60 iByteE); (apply EvC.now; exact rfl); (apply EvC.now; exact rfl); (constructor <;> decide); (simp only [cS, cZ]; exact rfl))
    | ((with_reducible apply q_ls0); exact rfl; (with_reducible apply t_cellW tByteE); (apply EvC.now; exact rfl); (intro w' h; subst h; first | exact HC0.out | exact HC1.out); (simp only [cS, cZ]; exact rfl))
    | ((with_reducible apply q_ls0); exact rfl; (with_reducible apply t_shlE (k := 8)); (apply EvC.now; exact rfl); (apply EvC.now; exact rfl); exact rfl; decide; exact rfl; (simp only [cS, cZ]; exact rfl))
    | ((with_reducible apply q_ls0); exact rfl; (with_reducible apply t_conv Tryd.underlying5 Tryd.underlying3); (apply EvC.now; exact rfl); (first | exact HW0.out | exact HW1.out); (simp only [cS, cZ]; exact rfl))
    | ((with_reducible apply q_ls0); exact rfl; (with_reducible apply t_num (op := .or)); (apply EvC.now; exact rfl); (apply EvC.now; exact rfl); exact rfl; (simp only [cS, cZ]; exact rfl))
    | ((with_reducible apply q_ls0); exact rfl; (with_reducible apply t_len Tryd.underlying60); (apply EvC.now; exact rfl); (simp only [cS, cZ]; exact rfl)))
  go_ret
  exact ⟨rfl, hR.below⟩
theorem lettersE_two (a b : Int) (hs : bytesOk [a, b]) (w0 : World) : Calls Tryd.prog 90 #[.string (strOfNums [a, b])] w0 fun e w' => e = .returned (.int .i64 (lettersZ [a, b])) ∧ Below w0.heap.size w0 w' := by
  have hR := Own.start w0
  have ha := hs a (.head _)
  have hb := hs b (.tail _ (.head _))
  have HW0 := Lib.hid (show IntKind.i64.wrap a = a from IntWalk.i64_in _ (by omega))
  have HW1 := Lib.hid (show IntKind.i64.wrap b = b from IntWalk.i64_in _ (by omega))
  clear ha hb
  go_enter Tryd.func90, Tryd.ntmps90
  go_wp2_with (first
    | ((with_reducible apply q_ls0); exact rfl; (with_reducible apply t_lenN Tryd.underlying9); (apply EvC.now; exact rfl); (simp only [cS, cZ]; exact rfl))
    | (go_at_call 30; refine (needE_yes _).mono ?_; rintro e w' ⟨rfl, rfl⟩)
    | ((with_reducible apply wpList_bytesN hR Tryd.underlying9 Tryd.underlying60 Tryd.underlying5 hs); exact rfl; exact rfl; clear hR; intro vm w hR hM; obtain ⟨g, cap, cur, rfl, hcap, hg, hc⟩ := hM.way; have HC0 := Lib.hid (show w.cell? ⟨g, 0, none⟩ = some (.int .u8 a) by rw [cell_of_row _ _ _ _ _ _ hg]; exact hc 0 a rfl); have HC1 := Lib.hid (show w.cell? ⟨g, 1, none⟩ = some (.int .u8 b) by rw [cell_of_row _ _ _ _ _ _ hg]; exact hc 1 b rfl); clear hM hg hc; simp only [cS, cZ])
    | ((with_reducible apply q_ls0); exact rfl; (with_reducible apply t_six Tryd.underlying60 iByteE); (apply EvC.now; exact rfl); (apply EvC.now; exact rfl); (constructor <;> decide); (simp only [cS, cZ]; exact rfl))
    | ((with_reducible apply q_ls0); exact rfl; (with_reducible apply t_cellW tByteE); (apply EvC.now; exact rfl); (intro w' h; subst h; first | exact HC0.out | exact HC1.out); (simp only [cS, cZ]; exact rfl))
    | ((with_reducible apply q_ls0); exact rfl; (with_reducible apply t_shlE (k := 8)); (apply EvC.now; exact rfl); (apply EvC.now; exact rfl); exact rfl; decide; exact rfl; (simp only [cS, cZ]; exact rfl))
    | ((with_reducible apply q_ls0); exact rfl; (with_reducible apply t_conv Tryd.underlying5 Tryd.underlying3); (apply EvC.now; exact rfl); (first | exact HW0.out | exact HW1.out); (simp only [cS, cZ]; exact rfl))
    | ((with_reducible apply q_ls0); exact rfl; (with_reducible apply t_num (op := .or)); (apply EvC.now; exact rfl); (apply EvC.now; exact rfl); exact rfl; (simp only [cS, cZ]; exact rfl))
    | ((with_reducible apply q_ls0); exact rfl; (with_reducible apply t_len Tryd.underlying60); (apply EvC.now; exact rfl); (simp only [cS, cZ]; exact rfl)))
  refine wp_loop_rounds 3 ?_
  rw [rounds_succ]
  go_wp2_with (first
    | ((with_reducible apply q_ls0); exact rfl; (with_reducible apply t_six Tryd.underlying60 iByteE); (apply EvC.now; exact rfl); (apply EvC.now; exact rfl); (constructor <;> decide); (simp only [cS, cZ]; exact rfl))
    | ((with_reducible apply q_ls0); exact rfl; (with_reducible apply t_cellW tByteE); (apply EvC.now; exact rfl); (intro w' h; subst h; first | exact HC0.out | exact HC1.out); (simp only [cS, cZ]; exact rfl))
    | ((with_reducible apply q_ls0); exact rfl; (with_reducible apply t_shlE (k := 8)); (apply EvC.now; exact rfl); (apply EvC.now; exact rfl); exact rfl; decide; exact rfl; (simp only [cS, cZ]; exact rfl))
    | ((with_reducible apply q_ls0); exact rfl; (with_reducible apply t_conv Tryd.underlying5 Tryd.underlying3); (apply EvC.now; exact rfl); (first | exact HW0.out | exact HW1.out); (simp only [cS, cZ]; exact rfl))
    | ((with_reducible apply q_ls0); exact rfl; (with_reducible apply t_num (op := .or)); (apply EvC.now; exact rfl); (apply EvC.now; exact rfl); exact rfl; (simp only [cS, cZ]; exact rfl))
    | ((with_reducible apply q_ls0); exact rfl; (with_reducible apply t_len Tryd.underlying60); (apply EvC.now; exact rfl); (simp only [cS, cZ]; exact rfl)))
  rw [rounds_succ]
  go_wp2_with (first
    | ((with_reducible apply q_ls0); exact rfl; (with_reducible apply t_six Tryd.underlying60 iByteE); (apply EvC.now; exact rfl); (apply EvC.now; exact rfl); (constructor <;> decide); (simp only [cS, cZ]; exact rfl))
    | ((with_reducible apply q_ls0); exact rfl; (with_reducible apply t_cellW tByteE); (apply EvC.now; exact rfl); (intro w' h; subst h; first | exact HC0.out | exact HC1.out); (simp only [cS, cZ]; exact rfl))
    | ((with_reducible apply q_ls0); exact rfl; (with_reducible apply t_shlE (k := 8)); (apply EvC.now; exact rfl); (apply EvC.now; exact rfl); exact rfl; decide; exact rfl; (simp only [cS, cZ]; exact rfl))
    | ((with_reducible apply q_ls0); exact rfl; (with_reducible apply t_conv Tryd.underlying5 Tryd.underlying3); (apply EvC.now; exact rfl); (first | exact HW0.out | exact HW1.out); (simp only [cS, cZ]; exact rfl))
    | ((with_reducible apply q_ls0); exact rfl; (with_reducible apply t_num (op := .or)); (apply EvC.now; exact rfl); (apply EvC.now; exact rfl); exact rfl; (simp only [cS, cZ]; exact rfl))
    | ((with_reducible apply q_ls0); exact rfl; (with_reducible apply t_len Tryd.underlying60); (apply EvC.now; exact rfl); (simp only [cS, cZ]; exact rfl)))
  rw [rounds_succ]
  go_wp2_with (first
    | ((with_reducible apply q_ls0); exact rfl; (with_reducible apply t_six Tryd.underlying60 iByteE); (apply EvC.now; exact rfl); (apply EvC.now; exact rfl); (constructor <;> decide); (simp only [cS, cZ]; exact rfl))
    | ((with_reducible apply q_ls0); exact rfl; (with_reducible apply t_cellW tByteE); (apply EvC.now; exact rfl); (intro w' h; subst h; first | exact HC0.out | exact HC1.out); (simp only [cS, cZ]; exact rfl))
    | ((with_reducible apply q_ls0); exact rfl; (with_reducible apply t_shlE (k := 8)); (apply EvC.now; exact rfl); (apply EvC.now; exact rfl); exact rfl; decide; exact rfl; (simp only [cS, cZ]; exact rfl))
    | ((with_reducible apply q_ls0); exact rfl; (with_reducible apply t_conv Tryd.underlying5 Tryd.underlying3); (apply EvC.now; exact rfl); (first | exact HW0.out | exact HW1.out); (simp only [cS, cZ]; exact rfl))
    | ((with_reducible apply q_ls0); exact rfl; (with_reducible apply t_num (op := .or)); (apply EvC.now; exact rfl); (apply EvC.now; exact rfl); exact rfl; (simp only [cS, cZ]; exact rfl))
    | ((with_reducible apply q_ls0); exact rfl; (with_reducible apply t_len Tryd.underlying60); (apply EvC.now; exact rfl); (simp only [cS, cZ]; exact rfl)))
  go_ret
  exact ⟨rfl, hR.below⟩
def intV (n : Int) : Value := .int .i64 n
theorem lettersE_any {s : List Int} (hs : bytesOk s) (w0 : World) : Calls Tryd.prog 90 #[.string (strOfNums s)] w0 (AnsO w0 intV (lettersO s)) := by
  cases h : (decide (s.length = 1) || decide (s.length = 2))
  · exact badO_ans (lettersE_bad h w0) (by unfold lettersO; rw [h]; rfl)
  · rcases s with _ | ⟨a, _ | ⟨b, _ | ⟨c, r⟩⟩⟩
    · exact absurd h (by decide)
    · exact okO_ans (lettersE_one a hs w0) rfl
    · exact okO_ans (lettersE_two a b hs w0) rfl
    · simp at h
/-! ### What a name means -/
theorem encVl_len (v : ValZ) : ((encV v).toList).length = 6 := rfl
theorem iVal6 : (Tryd.prog.info? 27).map (·.size) = some 6 := by kernel_rfl
theorem meanE_any {w : World} {gr : Nat} {v : Value} {tb : TabZ} {s : St} (hg : w.heap[gr]? = some (.cells (rdr v tb s) 66 (0, 0))) (hB : TabIn w tb) {a : List Int} (ha : bytesOk a) :
    Calls Tryd.prog 97 #[.pointer (some ⟨gr, 0, none⟩), .string (strOfNums a)] w fun e w' => e = .returned (.agg (encV (meaningZ tb a))) ∧ Below w.heap.size w w' := by
  have hR := Own.start w
  have hV := hB.vals
  have HI := Lib.hid (fun (w' : World) (l : List RowT) (hO : Own w w' l) => index_any (hB.names.own hO) hB.few a ha)
  have hbd := idxI_bd a tb.names 0 (by decide)
  have hfew := hB.few
  unfold meaningZ
  rw [show idxI a 0 tb.names = idxT tb.names a from rfl] at hbd
  generalize idxT tb.names a = n at *
  clear hB
  by_cases h0 : n < 0
  · rw [if_pos h0]
    have HL := Lib.hid (show (decide (n < 0) || decide ((tb.vals.length : Int) ≤ n)) = true by rw [decide_eq_true h0]; rfl)
    clear h0 hbd
    go_enter Tryd.func97, Tryd.ntmps97
    go_upto_region 2 with (first
    | ((with_reducible apply wpList_box hR); exact rfl; exact rfl; clear hR; intro g w hR; simp only [cS, cZ])
    | ((with_reducible apply wpList_make hR zVal); exact rfl; clear hR; intro g w hR; simp only [cS, cZ])
    | ((with_reducible apply q_ls hR); exact rfl; ((with_reducible first | apply t_addr fRdr1 | apply t_fieldO (fTabO _ (by decide)) | apply t_nilck | apply t_one tStrsE | apply t_one tValsE | apply t_part tVal) <;> (first | (focus (repeat (first | (apply EvC.gv; exact rfl; (with_reducible first | exact Imp.refl _ | (apply Imp.left; exact Imp.refl _) | (apply Imp.right; exact Imp.refl _) | (apply Imp.left; apply Imp.left; exact Imp.refl _))) | (apply EvC.now; exact rfl) | (with_reducible first | apply EvAll.cons | exact EvAll.nil))); done) | exact rfl | (first | exact ext_val _ | exact ext_partV _ | exact ext_rdrH _ _ _) | (focus (repeat (first | apply List.Mem.head | apply List.Mem.tail | apply List.mem_append_right))))); (simp only [cS, cZ]; exact rfl); clear hR; intro w hR)
    | ((with_reducible apply q_ls hR); exact rfl; (with_reducible apply t_old tStrsE hg); (apply EvC.now; exact rfl); exact rfl; (simp only [cS, cZ]; exact rfl); clear hR; intro w hR)
    | ((with_reducible apply q_ls hR); exact rfl; (with_reducible apply t_old tValsE hg); (apply EvC.now; exact rfl); exact rfl; (simp only [cS, cZ]; exact rfl); clear hR; intro w hR)
    | (go_at_call 22; refine (HI.out _ _ hR).mono ?_; rintro e w' ⟨rfl, hb⟩; replace hR := hR.grow hb; clear hb))
    refine wp_region_tame hR [0, 1, 2, 3, 4, 5, 6, 7, 8, 9, 10, 11] rfl ?_
    repeat (refine wpT_step rfl ?_; first
    | ((first | (with_reducible apply q_pl) | ((with_reducible apply q_gd); (first | (apply GdBy.gt; exact rfl; exact rfl) | (apply GdBy.gf; exact rfl; exact rfl) | (apply GdBy.t; exact rfl; exact rfl) | (apply GdBy.f; exact rfl; exact rfl)))); (with_reducible apply t_old tValsE hg); (first | (focus (repeat (first | (apply EvC.gv; exact rfl; (with_reducible first | exact Imp.refl _ | (apply Imp.left; exact Imp.refl _) | (apply Imp.right; exact Imp.refl _) | (apply Imp.left; apply Imp.left; exact Imp.refl _))) | (apply EvC.now; exact rfl) | (with_reducible first | apply EvAll.cons | exact EvAll.nil))); done) | exact rfl | (first | exact ext_val _ | exact ext_partV _ | exact ext_rdrH _ _ _) | (focus (repeat (first | apply List.Mem.head | apply List.Mem.tail | apply List.mem_append_right)))); exact rfl; (simp only [cS, cZ]; exact rfl))
    | ((first | (with_reducible apply q_pl) | ((with_reducible apply q_gd); (first | (apply GdBy.gt; exact rfl; exact rfl) | (apply GdBy.gf; exact rfl; exact rfl) | (apply GdBy.t; exact rfl; exact rfl) | (apply GdBy.f; exact rfl; exact rfl)))); (with_reducible apply t_lenRd Tryd.underlying33); (first | (focus (repeat (first | (apply EvC.gv; exact rfl; (with_reducible first | exact Imp.refl _ | (apply Imp.left; exact Imp.refl _) | (apply Imp.right; exact Imp.refl _) | (apply Imp.left; apply Imp.left; exact Imp.refl _))) | (apply EvC.now; exact rfl) | (with_reducible first | apply EvAll.cons | exact EvAll.nil))); done) | exact rfl | (first | exact ext_val _ | exact ext_partV _ | exact ext_rdrH _ _ _) | (focus (repeat (first | apply List.Mem.head | apply List.Mem.tail | apply List.mem_append_right)))); exact hV; (simp only [cS, cZ]; exact rfl))
    | ((first | (with_reducible apply q_pl) | ((with_reducible apply q_gd); (first | (apply GdBy.gt; exact rfl; exact rfl) | (apply GdBy.gf; exact rfl; exact rfl) | (apply GdBy.t; exact rfl; exact rfl) | (apply GdBy.f; exact rfl; exact rfl)))); (first | ((with_reducible first | apply t_move | apply t_assign | apply t_and | apply t_or | apply t_cmp | apply t_not | apply t_addr fRdr1 | apply t_fieldO (fTabO _ (by decide)) | apply t_nilck | apply t_one tStrsE | apply t_one tValsE | apply t_part tVal) <;> (first | (focus (repeat (first | (apply EvC.gv; exact rfl; (with_reducible first | exact Imp.refl _ | (apply Imp.left; exact Imp.refl _) | (apply Imp.right; exact Imp.refl _) | (apply Imp.left; apply Imp.left; exact Imp.refl _))) | (apply EvC.now; exact rfl) | (with_reducible first | apply EvAll.cons | exact EvAll.nil))); done) | exact rfl | (first | exact ext_val _ | exact ext_partV _ | exact ext_rdrH _ _ _) | (focus (repeat (first | apply List.Mem.head | apply List.Mem.tail | apply List.mem_append_right)))))); (simp only [cS, cZ]; exact rfl))
    | ((with_reducible apply q_gd); (first | (apply GdBy.gt; exact rfl; exact rfl) | (apply GdBy.gf; exact rfl; exact rfl) | (apply GdBy.t; exact rfl; exact rfl) | (apply GdBy.f; exact rfl; exact rfl)); ((with_reducible apply t_num) <;> (first | (focus (repeat (first | (apply EvC.gv; exact rfl; (with_reducible first | exact Imp.refl _ | (apply Imp.left; exact Imp.refl _) | (apply Imp.right; exact Imp.refl _) | (apply Imp.left; apply Imp.left; exact Imp.refl _))) | (apply EvC.now; exact rfl) | (with_reducible first | apply EvAll.cons | exact EvAll.nil))); done) | exact rfl | (first | exact ext_val _ | exact ext_partV _ | exact ext_rdrH _ _ _) | (focus (repeat (first | apply List.Mem.head | apply List.Mem.tail | apply List.mem_append_right))))); (simp only [cS, cZ]; exact rfl))
    | ((with_reducible apply wpT1_gpure); (first | (apply GdBy.gt; exact rfl; exact rfl) | (apply GdBy.gf; exact rfl; exact rfl) | (apply GdBy.t; exact rfl; exact rfl) | (apply GdBy.f; exact rfl; exact rfl)); intro K hK; go_simp; refine hK _ ?_; clear hK K; simp only [cS, cZ])
    | ((with_reducible apply wpT1_pure); exact rfl; intro K hK; go_simp; refine hK _ ?_; clear hK K; simp only [cS, cZ]))
    refine wpT_nil ?_
    clear hR; intro w hR
    go_upto_if 24 with fail
    refine wp_cond_at (nm := true) rfl HL.out (fun _ => ?_) (fun h => absurd h (by decide))
    go_wp2_with (first
    | ((with_reducible apply wpList_built); exact rfl; exact rfl; exact bVal0; (simp only [cS, cZ]; exact rfl))
    | ((with_reducible apply wpList_put hR tVal); exact rfl; exact rfl; exact rfl; (focus (repeat (first | apply List.Mem.head | apply List.Mem.tail | apply List.mem_append_right))); exact put_val _ _; exact rfl; exact Nat.le_refl 6; exact one_val _; (focus (repeat (first | apply Upd.head | apply Upd.tail))); clear hR; intro w hR))
    (try simp only [Exit.inBlock, Exit.then])
    exact post_row hR rfl (by rfl) (by (focus (repeat (first | apply List.Mem.head | apply List.Mem.tail | apply List.mem_append_right)))) Tryd.underlying27 rfl iVal (by rfl) (by rfl) ⟨rfl, hR.below⟩
  · rw [if_neg h0]
    by_cases h1 : (tb.vals.length : Int) ≤ n
    · have hz : tb.vals.getD n.toNat zeroVal = zeroVal := by rw [List.getD_eq_getElem?_getD, List.getElem?_eq_none (by omega)]; rfl
      rw [hz]
      have HL := Lib.hid (show (decide (n < 0) || decide ((tb.vals.length : Int) ≤ n)) = true by rw [decide_eq_true h1]; simp)
      clear h0 h1 hbd hz
      go_enter Tryd.func97, Tryd.ntmps97
      go_upto_region 2 with (first
    | ((with_reducible apply wpList_box hR); exact rfl; exact rfl; clear hR; intro g w hR; simp only [cS, cZ])
    | ((with_reducible apply wpList_make hR zVal); exact rfl; clear hR; intro g w hR; simp only [cS, cZ])
    | ((with_reducible apply q_ls hR); exact rfl; ((with_reducible first | apply t_addr fRdr1 | apply t_fieldO (fTabO _ (by decide)) | apply t_nilck | apply t_one tStrsE | apply t_one tValsE | apply t_part tVal) <;> (first | (focus (repeat (first | (apply EvC.gv; exact rfl; (with_reducible first | exact Imp.refl _ | (apply Imp.left; exact Imp.refl _) | (apply Imp.right; exact Imp.refl _) | (apply Imp.left; apply Imp.left; exact Imp.refl _))) | (apply EvC.now; exact rfl) | (with_reducible first | apply EvAll.cons | exact EvAll.nil))); done) | exact rfl | (first | exact ext_val _ | exact ext_partV _ | exact ext_rdrH _ _ _) | (focus (repeat (first | apply List.Mem.head | apply List.Mem.tail | apply List.mem_append_right))))); (simp only [cS, cZ]; exact rfl); clear hR; intro w hR)
    | ((with_reducible apply q_ls hR); exact rfl; (with_reducible apply t_old tStrsE hg); (apply EvC.now; exact rfl); exact rfl; (simp only [cS, cZ]; exact rfl); clear hR; intro w hR)
    | ((with_reducible apply q_ls hR); exact rfl; (with_reducible apply t_old tValsE hg); (apply EvC.now; exact rfl); exact rfl; (simp only [cS, cZ]; exact rfl); clear hR; intro w hR)
    | (go_at_call 22; refine (HI.out _ _ hR).mono ?_; rintro e w' ⟨rfl, hb⟩; replace hR := hR.grow hb; clear hb))
      refine wp_region_tame hR [0, 1, 2, 3, 4, 5, 6, 7, 8, 9, 10, 11] rfl ?_
      repeat (refine wpT_step rfl ?_; first
    | ((first | (with_reducible apply q_pl) | ((with_reducible apply q_gd); (first | (apply GdBy.gt; exact rfl; exact rfl) | (apply GdBy.gf; exact rfl; exact rfl) | (apply GdBy.t; exact rfl; exact rfl) | (apply GdBy.f; exact rfl; exact rfl)))); (with_reducible apply t_old tValsE hg); (first | (focus (repeat (first | (apply EvC.gv; exact rfl; (with_reducible first | exact Imp.refl _ | (apply Imp.left; exact Imp.refl _) | (apply Imp.right; exact Imp.refl _) | (apply Imp.left; apply Imp.left; exact Imp.refl _))) | (apply EvC.now; exact rfl) | (with_reducible first | apply EvAll.cons | exact EvAll.nil))); done) | exact rfl | (first | exact ext_val _ | exact ext_partV _ | exact ext_rdrH _ _ _) | (focus (repeat (first | apply List.Mem.head | apply List.Mem.tail | apply List.mem_append_right)))); exact rfl; (simp only [cS, cZ]; exact rfl))
    | ((first | (with_reducible apply q_pl) | ((with_reducible apply q_gd); (first | (apply GdBy.gt; exact rfl; exact rfl) | (apply GdBy.gf; exact rfl; exact rfl) | (apply GdBy.t; exact rfl; exact rfl) | (apply GdBy.f; exact rfl; exact rfl)))); (with_reducible apply t_lenRd Tryd.underlying33); (first | (focus (repeat (first | (apply EvC.gv; exact rfl; (with_reducible first | exact Imp.refl _ | (apply Imp.left; exact Imp.refl _) | (apply Imp.right; exact Imp.refl _) | (apply Imp.left; apply Imp.left; exact Imp.refl _))) | (apply EvC.now; exact rfl) | (with_reducible first | apply EvAll.cons | exact EvAll.nil))); done) | exact rfl | (first | exact ext_val _ | exact ext_partV _ | exact ext_rdrH _ _ _) | (focus (repeat (first | apply List.Mem.head | apply List.Mem.tail | apply List.mem_append_right)))); exact hV; (simp only [cS, cZ]; exact rfl))
    | ((first | (with_reducible apply q_pl) | ((with_reducible apply q_gd); (first | (apply GdBy.gt; exact rfl; exact rfl) | (apply GdBy.gf; exact rfl; exact rfl) | (apply GdBy.t; exact rfl; exact rfl) | (apply GdBy.f; exact rfl; exact rfl)))); (first | ((with_reducible first | apply t_move | apply t_assign | apply t_and | apply t_or | apply t_cmp | apply t_not | apply t_addr fRdr1 | apply t_fieldO (fTabO _ (by decide)) | apply t_nilck | apply t_one tStrsE | apply t_one tValsE | apply t_part tVal) <;> (first | (focus (repeat (first | (apply EvC.gv; exact rfl; (with_reducible first | exact Imp.refl _ | (apply Imp.left; exact Imp.refl _) | (apply Imp.right; exact Imp.refl _) | (apply Imp.left; apply Imp.left; exact Imp.refl _))) | (apply EvC.now; exact rfl) | (with_reducible first | apply EvAll.cons | exact EvAll.nil))); done) | exact rfl | (first | exact ext_val _ | exact ext_partV _ | exact ext_rdrH _ _ _) | (focus (repeat (first | apply List.Mem.head | apply List.Mem.tail | apply List.mem_append_right)))))); (simp only [cS, cZ]; exact rfl))
    | ((with_reducible apply q_gd); (first | (apply GdBy.gt; exact rfl; exact rfl) | (apply GdBy.gf; exact rfl; exact rfl) | (apply GdBy.t; exact rfl; exact rfl) | (apply GdBy.f; exact rfl; exact rfl)); ((with_reducible apply t_num) <;> (first | (focus (repeat (first | (apply EvC.gv; exact rfl; (with_reducible first | exact Imp.refl _ | (apply Imp.left; exact Imp.refl _) | (apply Imp.right; exact Imp.refl _) | (apply Imp.left; apply Imp.left; exact Imp.refl _))) | (apply EvC.now; exact rfl) | (with_reducible first | apply EvAll.cons | exact EvAll.nil))); done) | exact rfl | (first | exact ext_val _ | exact ext_partV _ | exact ext_rdrH _ _ _) | (focus (repeat (first | apply List.Mem.head | apply List.Mem.tail | apply List.mem_append_right))))); (simp only [cS, cZ]; exact rfl))
    | ((with_reducible apply wpT1_gpure); (first | (apply GdBy.gt; exact rfl; exact rfl) | (apply GdBy.gf; exact rfl; exact rfl) | (apply GdBy.t; exact rfl; exact rfl) | (apply GdBy.f; exact rfl; exact rfl)); intro K hK; go_simp; refine hK _ ?_; clear hK K; simp only [cS, cZ])
    | ((with_reducible apply wpT1_pure); exact rfl; intro K hK; go_simp; refine hK _ ?_; clear hK K; simp only [cS, cZ]))
      refine wpT_nil ?_
      clear hR; intro w hR
      go_upto_if 24 with fail
      refine wp_cond_at (nm := true) rfl HL.out (fun _ => ?_) (fun h => absurd h (by decide))
      go_wp2_with (first
    | ((with_reducible apply wpList_built); exact rfl; exact rfl; exact bVal0; (simp only [cS, cZ]; exact rfl))
    | ((with_reducible apply wpList_put hR tVal); exact rfl; exact rfl; exact rfl; (focus (repeat (first | apply List.Mem.head | apply List.Mem.tail | apply List.mem_append_right))); exact put_val _ _; exact rfl; exact Nat.le_refl 6; exact one_val _; (focus (repeat (first | apply Upd.head | apply Upd.tail))); clear hR; intro w hR))
      (try simp only [Exit.inBlock, Exit.then])
      exact post_row hR rfl (by rfl) (by (focus (repeat (first | apply List.Mem.head | apply List.Mem.tail | apply List.mem_append_right)))) Tryd.underlying27 rfl iVal (by rfl) (by rfl) ⟨rfl, hR.below⟩
    · have HL := Lib.hid (show (decide (n < 0) || decide ((tb.vals.length : Int) ≤ n)) = false by rw [decide_eq_false h0, decide_eq_false h1]; rfl)
      have hlt : n.toNat < tb.vals.length := by omega
      obtain ⟨z, hz⟩ : ∃ z, tb.vals[n.toNat]? = some z := ⟨_, List.getElem?_eq_getElem hlt⟩
      obtain ⟨ad, cap, hva, hc⟩ := Rd.el encVl_len hV hz
      have e : tb.vals.getD n.toNat zeroVal = z := by rw [List.getD_eq_getElem?_getD, hz]; rfl
      rw [e]
      have HC := Lib.hid hc
      have HA := Lib.hid hva
      have HN := Lib.hid (show 0 ≤ n ∧ n < (tb.vals.length : Int) from ⟨by omega, by omega⟩)
      clear h0 h1 hbd hz e hc hlt
      go_enter Tryd.func97, Tryd.ntmps97
      go_upto_region 2 with (first
    | ((with_reducible apply wpList_box hR); exact rfl; exact rfl; clear hR; intro g w hR; simp only [cS, cZ])
    | ((with_reducible apply wpList_make hR zVal); exact rfl; clear hR; intro g w hR; simp only [cS, cZ])
    | ((with_reducible apply q_ls hR); exact rfl; ((with_reducible first | apply t_addr fRdr1 | apply t_fieldO (fTabO _ (by decide)) | apply t_nilck | apply t_one tStrsE | apply t_one tValsE | apply t_part tVal) <;> (first | (focus (repeat (first | (apply EvC.gv; exact rfl; (with_reducible first | exact Imp.refl _ | (apply Imp.left; exact Imp.refl _) | (apply Imp.right; exact Imp.refl _) | (apply Imp.left; apply Imp.left; exact Imp.refl _))) | (apply EvC.now; exact rfl) | (with_reducible first | apply EvAll.cons | exact EvAll.nil))); done) | exact rfl | (first | exact ext_val _ | exact ext_partV _ | exact ext_rdrH _ _ _) | (focus (repeat (first | apply List.Mem.head | apply List.Mem.tail | apply List.mem_append_right))))); (simp only [cS, cZ]; exact rfl); clear hR; intro w hR)
    | ((with_reducible apply q_ls hR); exact rfl; (with_reducible apply t_old tStrsE hg); (apply EvC.now; exact rfl); exact rfl; (simp only [cS, cZ]; exact rfl); clear hR; intro w hR)
    | ((with_reducible apply q_ls hR); exact rfl; (with_reducible apply t_old tValsE hg); (apply EvC.now; exact rfl); exact rfl; (simp only [cS, cZ]; exact rfl); clear hR; intro w hR)
    | (go_at_call 22; refine (HI.out _ _ hR).mono ?_; rintro e w' ⟨rfl, hb⟩; replace hR := hR.grow hb; clear hb))
      refine wp_region_tame hR [0, 1, 2, 3, 4, 5, 6, 7, 8, 9, 10, 11] rfl ?_
      repeat (refine wpT_step rfl ?_; first
    | ((first | (with_reducible apply q_pl) | ((with_reducible apply q_gd); (first | (apply GdBy.gt; exact rfl; exact rfl) | (apply GdBy.gf; exact rfl; exact rfl) | (apply GdBy.t; exact rfl; exact rfl) | (apply GdBy.f; exact rfl; exact rfl)))); (with_reducible apply t_old tValsE hg); (first | (focus (repeat (first | (apply EvC.gv; exact rfl; (with_reducible first | exact Imp.refl _ | (apply Imp.left; exact Imp.refl _) | (apply Imp.right; exact Imp.refl _) | (apply Imp.left; apply Imp.left; exact Imp.refl _))) | (apply EvC.now; exact rfl) | (with_reducible first | apply EvAll.cons | exact EvAll.nil))); done) | exact rfl | (first | exact ext_val _ | exact ext_partV _ | exact ext_rdrH _ _ _) | (focus (repeat (first | apply List.Mem.head | apply List.Mem.tail | apply List.mem_append_right)))); exact rfl; (simp only [cS, cZ]; exact rfl))
    | ((first | (with_reducible apply q_pl) | ((with_reducible apply q_gd); (first | (apply GdBy.gt; exact rfl; exact rfl) | (apply GdBy.gf; exact rfl; exact rfl) | (apply GdBy.t; exact rfl; exact rfl) | (apply GdBy.f; exact rfl; exact rfl)))); (with_reducible apply t_lenRd Tryd.underlying33); (first | (focus (repeat (first | (apply EvC.gv; exact rfl; (with_reducible first | exact Imp.refl _ | (apply Imp.left; exact Imp.refl _) | (apply Imp.right; exact Imp.refl _) | (apply Imp.left; apply Imp.left; exact Imp.refl _))) | (apply EvC.now; exact rfl) | (with_reducible first | apply EvAll.cons | exact EvAll.nil))); done) | exact rfl | (first | exact ext_val _ | exact ext_partV _ | exact ext_rdrH _ _ _) | (focus (repeat (first | apply List.Mem.head | apply List.Mem.tail | apply List.mem_append_right)))); exact hV; (simp only [cS, cZ]; exact rfl))
    | ((first | (with_reducible apply q_pl) | ((with_reducible apply q_gd); (first | (apply GdBy.gt; exact rfl; exact rfl) | (apply GdBy.gf; exact rfl; exact rfl) | (apply GdBy.t; exact rfl; exact rfl) | (apply GdBy.f; exact rfl; exact rfl)))); (first | ((with_reducible first | apply t_move | apply t_assign | apply t_and | apply t_or | apply t_cmp | apply t_not | apply t_addr fRdr1 | apply t_fieldO (fTabO _ (by decide)) | apply t_nilck | apply t_one tStrsE | apply t_one tValsE | apply t_part tVal) <;> (first | (focus (repeat (first | (apply EvC.gv; exact rfl; (with_reducible first | exact Imp.refl _ | (apply Imp.left; exact Imp.refl _) | (apply Imp.right; exact Imp.refl _) | (apply Imp.left; apply Imp.left; exact Imp.refl _))) | (apply EvC.now; exact rfl) | (with_reducible first | apply EvAll.cons | exact EvAll.nil))); done) | exact rfl | (first | exact ext_val _ | exact ext_partV _ | exact ext_rdrH _ _ _) | (focus (repeat (first | apply List.Mem.head | apply List.Mem.tail | apply List.mem_append_right)))))); (simp only [cS, cZ]; exact rfl))
    | ((with_reducible apply q_gd); (first | (apply GdBy.gt; exact rfl; exact rfl) | (apply GdBy.gf; exact rfl; exact rfl) | (apply GdBy.t; exact rfl; exact rfl) | (apply GdBy.f; exact rfl; exact rfl)); ((with_reducible apply t_num) <;> (first | (focus (repeat (first | (apply EvC.gv; exact rfl; (with_reducible first | exact Imp.refl _ | (apply Imp.left; exact Imp.refl _) | (apply Imp.right; exact Imp.refl _) | (apply Imp.left; apply Imp.left; exact Imp.refl _))) | (apply EvC.now; exact rfl) | (with_reducible first | apply EvAll.cons | exact EvAll.nil))); done) | exact rfl | (first | exact ext_val _ | exact ext_partV _ | exact ext_rdrH _ _ _) | (focus (repeat (first | apply List.Mem.head | apply List.Mem.tail | apply List.mem_append_right))))); (simp only [cS, cZ]; exact rfl))
    | ((with_reducible apply wpT1_gpure); (first | (apply GdBy.gt; exact rfl; exact rfl) | (apply GdBy.gf; exact rfl; exact rfl) | (apply GdBy.t; exact rfl; exact rfl) | (apply GdBy.f; exact rfl; exact rfl)); intro K hK; go_simp; refine hK _ ?_; clear hK K; simp only [cS, cZ])
    | ((with_reducible apply wpT1_pure); exact rfl; intro K hK; go_simp; refine hK _ ?_; clear hK K; simp only [cS, cZ]))
      refine wpT_nil ?_
      clear hR; intro w hR
      go_upto_if 24 with fail
      refine wp_cond_at (nm := false) rfl HL.out (fun h => absurd h (by decide)) (fun _ => ?_)
      go_wp2_with (first
    | ((with_reducible apply q_ls hR); exact rfl; (with_reducible apply t_old tStrsE hg); (apply EvC.now; exact rfl); exact rfl; (simp only [cS, cZ]; exact rfl); clear hR; intro w hR)
    | ((with_reducible apply q_ls hR); exact rfl; (with_reducible apply t_old tValsE hg); (apply EvC.now; exact rfl); exact rfl; (simp only [cS, cZ]; exact rfl); clear hR; intro w hR)
    | (go_at_call 22; refine (HI.out _ _ hR).mono ?_; rintro e w' ⟨rfl, hb⟩; replace hR := hR.grow hb; clear hb)
    | ((with_reducible apply q_ls hR); exact rfl; (with_reducible apply t_six Tryd.underlying33 iVal6 (a := ad) (cap := cap)); (exact EvC.now (congrArg some HA.out)); (apply EvC.now; exact rfl); exact HN.out; (simp only [cS, cZ]; exact rfl); clear hR; intro w hR)
    | ((with_reducible apply q_ls hR); exact rfl; (with_reducible apply t_oldMany tVal); (apply EvC.now; exact rfl); (exact HC.out); exact rfl; (simp only [cS, cZ]; exact rfl); clear hR; intro w hR)
    | ((with_reducible apply wpList_box hR); exact rfl; exact rfl; clear hR; intro g w hR; simp only [cS, cZ])
    | ((with_reducible apply wpList_make hR zVal); exact rfl; clear hR; intro g w hR; simp only [cS, cZ])
    | ((with_reducible apply q_ls hR); exact rfl; ((with_reducible first | apply t_addr fRdr1 | apply t_fieldO (fTabO _ (by decide)) | apply t_nilck | apply t_one tStrsE | apply t_one tValsE | apply t_part tVal) <;> (first | (focus (repeat (first | (apply EvC.gv; exact rfl; (with_reducible first | exact Imp.refl _ | (apply Imp.left; exact Imp.refl _) | (apply Imp.right; exact Imp.refl _) | (apply Imp.left; apply Imp.left; exact Imp.refl _))) | (apply EvC.now; exact rfl) | (with_reducible first | apply EvAll.cons | exact EvAll.nil))); done) | exact rfl | (first | exact ext_val _ | exact ext_partV _ | exact ext_rdrH _ _ _) | (focus (repeat (first | apply List.Mem.head | apply List.Mem.tail | apply List.mem_append_right))))); (simp only [cS, cZ]; exact rfl); clear hR; intro w hR)
    | ((with_reducible apply wpList_put hR tVal); exact rfl; exact rfl; exact rfl; (focus (repeat (first | apply List.Mem.head | apply List.Mem.tail | apply List.mem_append_right))); exact put_val _ _; exact rfl; exact Nat.le_refl 6; exact one_val _; (focus (repeat (first | apply Upd.head | apply Upd.tail))); clear hR; intro w hR))
      (try simp only [Exit.inBlock, Exit.then])
      exact post_row hR rfl (by rfl) (by (focus (repeat (first | apply List.Mem.head | apply List.Mem.tail | apply List.mem_append_right)))) Tryd.underlying27 rfl iVal (by rfl) (by rfl) ⟨rfl, hR.below⟩
end Go.Proofs.YtckkgooabnlooaaDoor
