









/- Contracts of package expr's parts: tests, two parts joined, counted on, taken away, with a word between them. No statement of the seat is proved here. -/
import Derived.Test.YtckkgooabnlooaaDoorExpA
import Derived.Test.YtckkgooabnlooaaDoorValC
namespace Go.Proofs.YtckkgooabnlooaaDoor
open Go.ChangeShapes Go.WideShapes Go.ChangeAt Go.RowKit
set_option linter.unusedVariables false
set_option linter.unusedSimpArgs false
set_option maxRecDepth 100000

theorem needE_t {b : Bool} (h : b = true) (w : World) : Calls Tryd.prog 30 #[.bool b] w fun e w' => e = .returned (.tuple #[]) ∧ w = w' := by
  subst h; exact (needE_yes w).mono fun e w' h => ⟨h.1, h.2.symm⟩
theorem needE_f {b : Bool} (h : b = false) (w : World) : Calls Tryd.prog 30 #[.bool b] w fun e w' => e = .panicked (errCh 3) ∧ w' = w := by
  subst h; exact needE_no w
theorem countsE_any (p : PartZ) (w0 : World) : Calls Tryd.prog 80 #[.agg (encPt p)] w0 fun e w' => e = .returned (.bool (countsZ p)) ∧ Below w0.heap.size w0 w' := by
  have hR := Own.start w0
  go_enter Tryd.func80, Tryd.ntmps80
  go_upto_region 1 with (first
    | ((with_reducible apply wpList_box hR); exact rfl; exact rfl; clear hR; intro g w hR; simp only [cS, cZ])
    | ((with_reducible apply wpList_make hR zVal); exact rfl; clear hR; intro g w hR; simp only [cS, cZ])
    | ((with_reducible apply q_ls hR); exact rfl; ((with_reducible first | apply t_addr fPart0 | apply t_addr fPart3 | apply t_addr fPart4 | apply t_addr fPart5 | apply t_one tIntV | apply t_one tBoolV | apply t_part tVal | apply t_part tPart) <;> (first | (focus (repeat (first | (apply EvC.gv; exact rfl; (with_reducible first | exact Imp.refl _ | (apply Imp.left; exact Imp.refl _) | (apply Imp.right; exact Imp.refl _) | (apply Imp.left; apply Imp.left; exact Imp.refl _))) | (apply EvC.now; exact rfl) | (with_reducible first | apply EvAll.cons | exact EvAll.nil))); done) | exact rfl | (first | exact ext_val _ | exact ext_part _ | exact ext_partV _ | exact ext_rdrH _ _ _) | (focus (repeat (first | apply List.Mem.head | apply List.Mem.tail | apply List.mem_append_right))))); (simp only [cS, cZ]; exact rfl); clear hR; intro w hR))
  refine wp_region_tame hR [0, 1, 2, 3, 4, 5, 6, 7, 8] rfl ?_
  repeat (refine wpT_step rfl ?_; first
    | ((first | (with_reducible apply q_pl) | ((with_reducible apply q_gd); (first | (apply GdBy.gt; exact rfl; exact rfl) | (apply GdBy.gf; exact rfl; exact rfl) | (apply GdBy.t; exact rfl; exact rfl) | (apply GdBy.f; exact rfl; exact rfl)))); (first | ((with_reducible first | apply t_move | apply t_assign | apply t_and | apply t_or | apply t_cmp | apply t_not | apply t_addr fPart0 | apply t_addr fPart3 | apply t_addr fPart4 | apply t_addr fPart5 | apply t_one tIntV | apply t_one tBoolV | apply t_part tVal | apply t_part tPart) <;> (first | (focus (repeat (first | (apply EvC.gv; exact rfl; (with_reducible first | exact Imp.refl _ | (apply Imp.left; exact Imp.refl _) | (apply Imp.right; exact Imp.refl _) | (apply Imp.left; apply Imp.left; exact Imp.refl _))) | (apply EvC.now; exact rfl) | (with_reducible first | apply EvAll.cons | exact EvAll.nil))); done) | exact rfl | (first | exact ext_val _ | exact ext_part _ | exact ext_partV _ | exact ext_rdrH _ _ _) | (focus (repeat (first | apply List.Mem.head | apply List.Mem.tail | apply List.mem_append_right)))))); (simp only [cS, cZ]; exact rfl))
    | ((with_reducible apply q_gd); (first | (apply GdBy.gt; exact rfl; exact rfl) | (apply GdBy.gf; exact rfl; exact rfl) | (apply GdBy.t; exact rfl; exact rfl) | (apply GdBy.f; exact rfl; exact rfl)); ((with_reducible apply t_num) <;> (first | (focus (repeat (first | (apply EvC.gv; exact rfl; (with_reducible first | exact Imp.refl _ | (apply Imp.left; exact Imp.refl _) | (apply Imp.right; exact Imp.refl _) | (apply Imp.left; apply Imp.left; exact Imp.refl _))) | (apply EvC.now; exact rfl) | (with_reducible first | apply EvAll.cons | exact EvAll.nil))); done) | exact rfl | (first | exact ext_val _ | exact ext_part _ | exact ext_partV _ | exact ext_rdrH _ _ _) | (focus (repeat (first | apply List.Mem.head | apply List.Mem.tail | apply List.mem_append_right))))); (simp only [cS, cZ]; exact rfl))
    | ((with_reducible apply wpT1_gpure); (first | (apply GdBy.gt; exact rfl; exact rfl) | (apply GdBy.gf; exact rfl; exact rfl) | (apply GdBy.t; exact rfl; exact rfl) | (apply GdBy.f; exact rfl; exact rfl)); intro K hK; go_simp; refine hK _ ?_; clear hK K; simp only [cS, cZ])
    | ((with_reducible apply wpT1_pure); exact rfl; intro K hK; go_simp; refine hK _ ?_; clear hK K; simp only [cS, cZ]))
  refine wpT_nil ?_
  clear hR; intro w hR
  go_wp2_with fail
  go_ret
  exact ⟨rfl, hR.below⟩
theorem valuedE_any (p : PartZ) (w0 : World) : Calls Tryd.prog 64 #[.agg (encPt p)] w0 fun e w' => e = .returned (.bool (valuedZ p)) ∧ Below w0.heap.size w0 w' := by
  have hR := Own.start w0
  go_enter Tryd.func64, Tryd.ntmps64
  go_upto_region 1 with (first
    | ((with_reducible apply wpList_box hR); exact rfl; exact rfl; clear hR; intro g w hR; simp only [cS, cZ])
    | ((with_reducible apply wpList_make hR zVal); exact rfl; clear hR; intro g w hR; simp only [cS, cZ])
    | ((with_reducible apply q_ls hR); exact rfl; ((with_reducible first | apply t_addr fPart0 | apply t_addr fPart3 | apply t_addr fPart4 | apply t_addr fPart5 | apply t_one tIntV | apply t_one tBoolV | apply t_part tVal | apply t_part tPart) <;> (first | (focus (repeat (first | (apply EvC.gv; exact rfl; (with_reducible first | exact Imp.refl _ | (apply Imp.left; exact Imp.refl _) | (apply Imp.right; exact Imp.refl _) | (apply Imp.left; apply Imp.left; exact Imp.refl _))) | (apply EvC.now; exact rfl) | (with_reducible first | apply EvAll.cons | exact EvAll.nil))); done) | exact rfl | (first | exact ext_val _ | exact ext_part _ | exact ext_partV _ | exact ext_rdrH _ _ _) | (focus (repeat (first | apply List.Mem.head | apply List.Mem.tail | apply List.mem_append_right))))); (simp only [cS, cZ]; exact rfl); clear hR; intro w hR))
  refine wp_region_tame hR [0, 1, 2, 3, 4, 5, 6, 7, 8, 9, 10, 11, 12, 13] rfl ?_
  repeat (refine wpT_step rfl ?_; first
    | ((first | (with_reducible apply q_pl) | ((with_reducible apply q_gd); (first | (apply GdBy.gt; exact rfl; exact rfl) | (apply GdBy.gf; exact rfl; exact rfl) | (apply GdBy.t; exact rfl; exact rfl) | (apply GdBy.f; exact rfl; exact rfl)))); (first | ((with_reducible first | apply t_move | apply t_assign | apply t_and | apply t_or | apply t_cmp | apply t_not | apply t_addr fPart0 | apply t_addr fPart3 | apply t_addr fPart4 | apply t_addr fPart5 | apply t_one tIntV | apply t_one tBoolV | apply t_part tVal | apply t_part tPart) <;> (first | (focus (repeat (first | (apply EvC.gv; exact rfl; (with_reducible first | exact Imp.refl _ | (apply Imp.left; exact Imp.refl _) | (apply Imp.right; exact Imp.refl _) | (apply Imp.left; apply Imp.left; exact Imp.refl _))) | (apply EvC.now; exact rfl) | (with_reducible first | apply EvAll.cons | exact EvAll.nil))); done) | exact rfl | (first | exact ext_val _ | exact ext_part _ | exact ext_partV _ | exact ext_rdrH _ _ _) | (focus (repeat (first | apply List.Mem.head | apply List.Mem.tail | apply List.mem_append_right)))))); (simp only [cS, cZ]; exact rfl))
    | ((first | (with_reducible apply q_pl) | ((with_reducible apply q_gd); (first | (apply GdBy.gt; exact rfl; exact rfl) | (apply GdBy.gf; exact rfl; exact rfl) | (apply GdBy.t; exact rfl; exact rfl) | (apply GdBy.f; exact rfl; exact rfl)))); (with_reducible apply t_call Tryd.call80); (first | (focus (repeat (first | (apply EvC.gv; exact rfl; (with_reducible first | exact Imp.refl _ | (apply Imp.left; exact Imp.refl _) | (apply Imp.right; exact Imp.refl _) | (apply Imp.left; apply Imp.left; exact Imp.refl _))) | (apply EvC.now; exact rfl) | (with_reducible first | apply EvAll.cons | exact EvAll.nil))); done) | exact rfl | (first | exact ext_val _ | exact ext_part _ | exact ext_partV _ | exact ext_rdrH _ _ _) | (focus (repeat (first | apply List.Mem.head | apply List.Mem.tail | apply List.mem_append_right)))); (intro hcc w hC; exact tame_below (countsE_any _ _) hC); (simp only [cS, cZ]; exact rfl))
    | ((with_reducible apply q_gd); (first | (apply GdBy.gt; exact rfl; exact rfl) | (apply GdBy.gf; exact rfl; exact rfl) | (apply GdBy.t; exact rfl; exact rfl) | (apply GdBy.f; exact rfl; exact rfl)); ((with_reducible apply t_num) <;> (first | (focus (repeat (first | (apply EvC.gv; exact rfl; (with_reducible first | exact Imp.refl _ | (apply Imp.left; exact Imp.refl _) | (apply Imp.right; exact Imp.refl _) | (apply Imp.left; apply Imp.left; exact Imp.refl _))) | (apply EvC.now; exact rfl) | (with_reducible first | apply EvAll.cons | exact EvAll.nil))); done) | exact rfl | (first | exact ext_val _ | exact ext_part _ | exact ext_partV _ | exact ext_rdrH _ _ _) | (focus (repeat (first | apply List.Mem.head | apply List.Mem.tail | apply List.mem_append_right))))); (simp only [cS, cZ]; exact rfl))
    | ((with_reducible apply wpT1_gpure); (first | (apply GdBy.gt; exact rfl; exact rfl) | (apply GdBy.gf; exact rfl; exact rfl) | (apply GdBy.t; exact rfl; exact rfl) | (apply GdBy.f; exact rfl; exact rfl)); intro K hK; go_simp; refine hK _ ?_; clear hK K; simp only [cS, cZ])
    | ((with_reducible apply wpT1_pure); exact rfl; intro K hK; go_simp; refine hK _ ?_; clear hK K; simp only [cS, cZ]))
  refine wpT_nil ?_
  clear hR; intro w hR
  go_wp2_with fail
  go_ret
  exact ⟨rfl, hR.below⟩
def sumO (a b : Int) : Option Int := bif mostOneB a b then some (wrap64 (a + b)) else none
theorem mostE_any (a b : Int) (w0 : World) : Calls Tryd.prog 81 #[.int .i64 a, .int .i64 b] w0 (AnsO w0 (fun x => .int .i64 x) (sumO a b)) := by
  have hR := Own.start w0
  cases hb : mostOneB a b
  · refine badO_ans ?_ (by unfold sumO; rw [hb]; rfl)
    have HB := Lib.hid hb
    clear hb
    go_enter Tryd.func81, Tryd.ntmps81
    go_upto_region 1 with fail
    refine wp_region_quiet hR 6 [0, 1, 2, 3, 4, 5] rfl (by decide) ?_
    repeat (refine wpT_step rfl ?_; first
    | ((first | (with_reducible apply q_pl) | ((with_reducible apply q_gd); (first | (apply GdBy.gt; exact rfl; exact rfl) | (apply GdBy.gf; exact rfl; exact rfl) | (apply GdBy.t; exact rfl; exact rfl) | (apply GdBy.f; exact rfl; exact rfl)))); (first | ((with_reducible first | apply t_move | apply t_assign | apply t_and | apply t_or | apply t_cmp | apply t_not | apply t_addr fPart0 | apply t_addr fPart3 | apply t_addr fPart4 | apply t_addr fPart5 | apply t_one tIntV | apply t_one tBoolV | apply t_part tVal | apply t_part tPart) <;> (first | (focus (repeat (first | (apply EvC.gv; exact rfl; (with_reducible first | exact Imp.refl _ | (apply Imp.left; exact Imp.refl _) | (apply Imp.right; exact Imp.refl _) | (apply Imp.left; apply Imp.left; exact Imp.refl _))) | (apply EvC.now; exact rfl) | (with_reducible first | apply EvAll.cons | exact EvAll.nil))); done) | exact rfl | (first | exact ext_val _ | exact ext_part _ | exact ext_partV _ | exact ext_rdrH _ _ _) | (focus (repeat (first | apply List.Mem.head | apply List.Mem.tail | apply List.mem_append_right)))))); (simp only [cS, cZ]; exact rfl))
    | ((with_reducible apply q_gd); (first | (apply GdBy.gt; exact rfl; exact rfl) | (apply GdBy.gf; exact rfl; exact rfl) | (apply GdBy.t; exact rfl; exact rfl) | (apply GdBy.f; exact rfl; exact rfl)); ((with_reducible apply t_num) <;> (first | (focus (repeat (first | (apply EvC.gv; exact rfl; (with_reducible first | exact Imp.refl _ | (apply Imp.left; exact Imp.refl _) | (apply Imp.right; exact Imp.refl _) | (apply Imp.left; apply Imp.left; exact Imp.refl _))) | (apply EvC.now; exact rfl) | (with_reducible first | apply EvAll.cons | exact EvAll.nil))); done) | exact rfl | (first | exact ext_val _ | exact ext_part _ | exact ext_partV _ | exact ext_rdrH _ _ _) | (focus (repeat (first | apply List.Mem.head | apply List.Mem.tail | apply List.mem_append_right))))); (simp only [cS, cZ]; exact rfl))
    | ((with_reducible apply wpT1_gpure); (first | (apply GdBy.gt; exact rfl; exact rfl) | (apply GdBy.gf; exact rfl; exact rfl) | (apply GdBy.t; exact rfl; exact rfl) | (apply GdBy.f; exact rfl; exact rfl)); intro K hK; go_simp; refine hK _ ?_; clear hK K; simp only [cS, cZ])
    | ((with_reducible apply wpT1_pure); exact rfl; intro K hK; go_simp; refine hK _ ?_; clear hK K; simp only [cS, cZ]))
    refine wpT_nil ?_
    clear hR; intro w hR
    show wpList _ _ _ [_] _ _
    refine wpList_callP Tryd.call30 rfl rfl ((needE_f HB.out _).mono ?_)
    rintro en w' ⟨rfl, rfl⟩
    exact .inr ⟨_, rfl, rfl, rfl, hR.below⟩
  · refine okO_ans ?_ (by unfold sumO; rw [hb]; rfl)
    have HB := Lib.hid hb
    clear hb
    go_enter Tryd.func81, Tryd.ntmps81
    go_upto_region 1 with fail
    refine wp_region_tame hR [0, 1, 2, 3, 4, 5, 6] rfl ?_
    repeat (refine wpT_step rfl ?_; first
    | ((first | (with_reducible apply q_pl) | ((with_reducible apply q_gd); (first | (apply GdBy.gt; exact rfl; exact rfl) | (apply GdBy.gf; exact rfl; exact rfl) | (apply GdBy.t; exact rfl; exact rfl) | (apply GdBy.f; exact rfl; exact rfl)))); (first | ((with_reducible first | apply t_move | apply t_assign | apply t_and | apply t_or | apply t_cmp | apply t_not | apply t_addr fPart0 | apply t_addr fPart3 | apply t_addr fPart4 | apply t_addr fPart5 | apply t_one tIntV | apply t_one tBoolV | apply t_part tVal | apply t_part tPart) <;> (first | (focus (repeat (first | (apply EvC.gv; exact rfl; (with_reducible first | exact Imp.refl _ | (apply Imp.left; exact Imp.refl _) | (apply Imp.right; exact Imp.refl _) | (apply Imp.left; apply Imp.left; exact Imp.refl _))) | (apply EvC.now; exact rfl) | (with_reducible first | apply EvAll.cons | exact EvAll.nil))); done) | exact rfl | (first | exact ext_val _ | exact ext_part _ | exact ext_partV _ | exact ext_rdrH _ _ _) | (focus (repeat (first | apply List.Mem.head | apply List.Mem.tail | apply List.mem_append_right)))))); (simp only [cS, cZ]; exact rfl))
    | ((first | (with_reducible apply q_pl) | ((with_reducible apply q_gd); (first | (apply GdBy.gt; exact rfl; exact rfl) | (apply GdBy.gf; exact rfl; exact rfl) | (apply GdBy.t; exact rfl; exact rfl) | (apply GdBy.f; exact rfl; exact rfl)))); (with_reducible apply t_call Tryd.call30); (first | (focus (repeat (first | (apply EvC.gv; exact rfl; (with_reducible first | exact Imp.refl _ | (apply Imp.left; exact Imp.refl _) | (apply Imp.right; exact Imp.refl _) | (apply Imp.left; apply Imp.left; exact Imp.refl _))) | (apply EvC.now; exact rfl) | (with_reducible first | apply EvAll.cons | exact EvAll.nil))); done) | exact rfl | (first | exact ext_val _ | exact ext_part _ | exact ext_partV _ | exact ext_rdrH _ _ _) | (focus (repeat (first | apply List.Mem.head | apply List.Mem.tail | apply List.mem_append_right)))); (intro hcc w hC; exact tame_same (needE_t HB.out _) hC); (simp only [cS, cZ]; exact rfl))
    | ((with_reducible apply q_gd); (first | (apply GdBy.gt; exact rfl; exact rfl) | (apply GdBy.gf; exact rfl; exact rfl) | (apply GdBy.t; exact rfl; exact rfl) | (apply GdBy.f; exact rfl; exact rfl)); ((with_reducible apply t_num) <;> (first | (focus (repeat (first | (apply EvC.gv; exact rfl; (with_reducible first | exact Imp.refl _ | (apply Imp.left; exact Imp.refl _) | (apply Imp.right; exact Imp.refl _) | (apply Imp.left; apply Imp.left; exact Imp.refl _))) | (apply EvC.now; exact rfl) | (with_reducible first | apply EvAll.cons | exact EvAll.nil))); done) | exact rfl | (first | exact ext_val _ | exact ext_part _ | exact ext_partV _ | exact ext_rdrH _ _ _) | (focus (repeat (first | apply List.Mem.head | apply List.Mem.tail | apply List.mem_append_right))))); (simp only [cS, cZ]; exact rfl))
    | ((with_reducible apply wpT1_gpure); (first | (apply GdBy.gt; exact rfl; exact rfl) | (apply GdBy.gf; exact rfl; exact rfl) | (apply GdBy.t; exact rfl; exact rfl) | (apply GdBy.f; exact rfl; exact rfl)); intro K hK; go_simp; refine hK _ ?_; clear hK K; simp only [cS, cZ])
    | ((with_reducible apply wpT1_pure); exact rfl; intro K hK; go_simp; refine hK _ ?_; clear hK K; simp only [cS, cZ]))
    refine wpT_nil ?_
    clear hR; intro w hR
    go_wp2_with fail
    go_ret
    exact ⟨rfl, hR.below⟩
/-! ### The first that is not 0 -/
theorem iIntX : (Tryd.prog.info? 3).map (·.size) = some 1 := by kernel_rfl
set_option maxHeartbeats 2000000 in
theorem orE_any (a b : Int) (w0 : World) {g : Nat} {t : TypeId} {fr : Nat × Nat} (hg : w0.heap[g]? = some (.cells #[.int .i64 a, .int .i64 b] t fr)) :
    Calls Tryd.prog 38 #[.slice (some ⟨g, 0, none⟩) 2 2] w0 fun e w' => e = .returned (.int .i64 (orZ a b)) ∧ Below w0.heap.size w0 w' := by
  have hR := Own.start w0
  by_cases h1 : a = 0
  · subst h1
    rw [show orZ 0 b = b from if_pos rfl]
    by_cases h2 : b = 0
    · subst h2
      go_enter Tryd.func38, Tryd.ntmps38
      go_wp2_with (first
    | ((with_reducible apply q_ls hR); exact rfl; (with_reducible apply t_len Tryd.underlying22); (apply EvC.now; exact rfl); (simp only [cS, cZ]; exact rfl); clear hR; intro w hR)
    | ((with_reducible apply q_ls hR); exact rfl; (with_reducible apply t_six Tryd.underlying22 iIntX); (apply EvC.now; exact rfl); (apply EvC.now; exact rfl); (constructor <;> omega); (simp only [cS, cZ]; exact rfl); clear hR; intro w hR)
    | ((with_reducible apply q_ls hR); exact rfl; (with_reducible apply t_old tIntV hg); (apply EvC.now; exact rfl); exact rfl; (simp only [cS, cZ]; exact rfl); clear hR; intro w hR))
      refine wp_loop_rounds 3 ?_
      rw [rounds_succ]
      go_wp2_with (first
          | ((with_reducible apply q_ls hR); exact rfl; (with_reducible apply t_len Tryd.underlying22); (apply EvC.now; exact rfl); (simp only [cS, cZ]; exact rfl); clear hR; intro w hR)
          | ((with_reducible apply q_ls hR); exact rfl; (with_reducible apply t_six Tryd.underlying22 iIntX); (apply EvC.now; exact rfl); (apply EvC.now; exact rfl); (constructor <;> omega); (simp only [cS, cZ]; exact rfl); clear hR; intro w hR)
          | ((with_reducible apply q_ls hR); exact rfl; (with_reducible apply t_old tIntV hg); (apply EvC.now; exact rfl); exact rfl; (simp only [cS, cZ]; exact rfl); clear hR; intro w hR))
      rw [rounds_succ]
      go_wp2_with (first
          | ((with_reducible apply q_ls hR); exact rfl; (with_reducible apply t_len Tryd.underlying22); (apply EvC.now; exact rfl); (simp only [cS, cZ]; exact rfl); clear hR; intro w hR)
          | ((with_reducible apply q_ls hR); exact rfl; (with_reducible apply t_six Tryd.underlying22 iIntX); (apply EvC.now; exact rfl); (apply EvC.now; exact rfl); (constructor <;> omega); (simp only [cS, cZ]; exact rfl); clear hR; intro w hR)
          | ((with_reducible apply q_ls hR); exact rfl; (with_reducible apply t_old tIntV hg); (apply EvC.now; exact rfl); exact rfl; (simp only [cS, cZ]; exact rfl); clear hR; intro w hR))
      rw [rounds_succ]
      go_wp2_with (first
          | ((with_reducible apply q_ls hR); exact rfl; (with_reducible apply t_len Tryd.underlying22); (apply EvC.now; exact rfl); (simp only [cS, cZ]; exact rfl); clear hR; intro w hR)
          | ((with_reducible apply q_ls hR); exact rfl; (with_reducible apply t_six Tryd.underlying22 iIntX); (apply EvC.now; exact rfl); (apply EvC.now; exact rfl); (constructor <;> omega); (simp only [cS, cZ]; exact rfl); clear hR; intro w hR)
          | ((with_reducible apply q_ls hR); exact rfl; (with_reducible apply t_old tIntV hg); (apply EvC.now; exact rfl); exact rfl; (simp only [cS, cZ]; exact rfl); clear hR; intro w hR))
      go_ret
      exact ⟨rfl, hR.below⟩
    · go_enter Tryd.func38, Tryd.ntmps38
      go_wp2_with (first
    | ((with_reducible apply q_ls hR); exact rfl; (with_reducible apply t_len Tryd.underlying22); (apply EvC.now; exact rfl); (simp only [cS, cZ]; exact rfl); clear hR; intro w hR)
    | ((with_reducible apply q_ls hR); exact rfl; (with_reducible apply t_six Tryd.underlying22 iIntX); (apply EvC.now; exact rfl); (apply EvC.now; exact rfl); (constructor <;> omega); (simp only [cS, cZ]; exact rfl); clear hR; intro w hR)
    | ((with_reducible apply q_ls hR); exact rfl; (with_reducible apply t_old tIntV hg); (apply EvC.now; exact rfl); exact rfl; (simp only [cS, cZ]; exact rfl); clear hR; intro w hR))
      refine wp_loop_rounds 3 ?_
      rw [rounds_succ]
      go_wp2_with (first
          | ((with_reducible apply q_ls hR); exact rfl; (with_reducible apply t_len Tryd.underlying22); (apply EvC.now; exact rfl); (simp only [cS, cZ]; exact rfl); clear hR; intro w hR)
          | ((with_reducible apply q_ls hR); exact rfl; (with_reducible apply t_six Tryd.underlying22 iIntX); (apply EvC.now; exact rfl); (apply EvC.now; exact rfl); (constructor <;> omega); (simp only [cS, cZ]; exact rfl); clear hR; intro w hR)
          | ((with_reducible apply q_ls hR); exact rfl; (with_reducible apply t_old tIntV hg); (apply EvC.now; exact rfl); exact rfl; (simp only [cS, cZ]; exact rfl); clear hR; intro w hR))
      rw [rounds_succ]
      go_wp2_with (first
          | ((with_reducible apply q_ls hR); exact rfl; (with_reducible apply t_len Tryd.underlying22); (apply EvC.now; exact rfl); (simp only [cS, cZ]; exact rfl); clear hR; intro w hR)
          | ((with_reducible apply q_ls hR); exact rfl; (with_reducible apply t_six Tryd.underlying22 iIntX); (apply EvC.now; exact rfl); (apply EvC.now; exact rfl); (constructor <;> omega); (simp only [cS, cZ]; exact rfl); clear hR; intro w hR)
          | ((with_reducible apply q_ls hR); exact rfl; (with_reducible apply t_old tIntV hg); (apply EvC.now; exact rfl); exact rfl; (simp only [cS, cZ]; exact rfl); clear hR; intro w hR))
      go_ret
      exact ⟨rfl, hR.below⟩
  · rw [show orZ a b = a from if_neg h1]
    go_enter Tryd.func38, Tryd.ntmps38
    go_wp2_with (first
    | ((with_reducible apply q_ls hR); exact rfl; (with_reducible apply t_len Tryd.underlying22); (apply EvC.now; exact rfl); (simp only [cS, cZ]; exact rfl); clear hR; intro w hR)
    | ((with_reducible apply q_ls hR); exact rfl; (with_reducible apply t_six Tryd.underlying22 iIntX); (apply EvC.now; exact rfl); (apply EvC.now; exact rfl); (constructor <;> omega); (simp only [cS, cZ]; exact rfl); clear hR; intro w hR)
    | ((with_reducible apply q_ls hR); exact rfl; (with_reducible apply t_old tIntV hg); (apply EvC.now; exact rfl); exact rfl; (simp only [cS, cZ]; exact rfl); clear hR; intro w hR))
    refine wp_loop_rounds 3 ?_
    rw [rounds_succ]
    go_wp2_with (first
        | ((with_reducible apply q_ls hR); exact rfl; (with_reducible apply t_len Tryd.underlying22); (apply EvC.now; exact rfl); (simp only [cS, cZ]; exact rfl); clear hR; intro w hR)
        | ((with_reducible apply q_ls hR); exact rfl; (with_reducible apply t_six Tryd.underlying22 iIntX); (apply EvC.now; exact rfl); (apply EvC.now; exact rfl); (constructor <;> omega); (simp only [cS, cZ]; exact rfl); clear hR; intro w hR)
        | ((with_reducible apply q_ls hR); exact rfl; (with_reducible apply t_old tIntV hg); (apply EvC.now; exact rfl); exact rfl; (simp only [cS, cZ]; exact rfl); clear hR; intro w hR))
    go_ret
    exact ⟨rfl, hR.below⟩
theorem sureE_ok (v : ValZ) {b : Bool} (h : b = true) (w0 : World) : Calls Tryd.prog 66 #[.agg (encV v), .bool b] w0 fun e w' => e = .returned (.agg (encV v)) ∧ Below w0.heap.size w0 w' := by
  have hR := Own.start w0
  subst h
  go_enter Tryd.func66, Tryd.ntmps66
  go_wp2_with (first
    | ((with_reducible apply wpList_box hR); exact rfl; exact rfl; clear hR; intro g w hR; simp only [cS, cZ])
    | ((with_reducible apply wpList_make hR zVal); exact rfl; clear hR; intro g w hR; simp only [cS, cZ])
    | ((with_reducible apply q_ls hR); exact rfl; ((with_reducible first | apply t_addr fPart0 | apply t_addr fPart3 | apply t_addr fPart4 | apply t_addr fPart5 | apply t_one tIntV | apply t_one tBoolV | apply t_part tVal | apply t_part tPart) <;> (first | (focus (repeat (first | (apply EvC.gv; exact rfl; (with_reducible first | exact Imp.refl _ | (apply Imp.left; exact Imp.refl _) | (apply Imp.right; exact Imp.refl _) | (apply Imp.left; apply Imp.left; exact Imp.refl _))) | (apply EvC.now; exact rfl) | (with_reducible first | apply EvAll.cons | exact EvAll.nil))); done) | exact rfl | (first | exact ext_val _ | exact ext_part _ | exact ext_partV _ | exact ext_rdrH _ _ _) | (focus (repeat (first | apply List.Mem.head | apply List.Mem.tail | apply List.mem_append_right))))); (simp only [cS, cZ]; exact rfl); clear hR; intro w hR)
    | (go_at_call 30; refine (needE_yes _).mono ?_; rintro e w' ⟨rfl, rfl⟩)
    | ((with_reducible apply wpList_put hR tVal); exact rfl; exact rfl; exact rfl; (focus (repeat (first | apply List.Mem.head | apply List.Mem.tail | apply List.mem_append_right))); exact put_val _ _; exact rfl; exact Nat.le_refl 6; exact one_val _; (focus (repeat (first | apply Upd.head | apply Upd.tail))); clear hR; intro w hR))
  (try simp only [Exit.inBlock, Exit.then])
  exact post_row hR rfl (by rfl) (by (focus (repeat (first | apply List.Mem.head | apply List.Mem.tail | apply List.mem_append_right)))) Tryd.underlying27 rfl iVal (by rfl) (by rfl) ⟨rfl, hR.below⟩
theorem sureE_bad (v : ValZ) {b : Bool} (h : b = false) (w0 : World) : Calls Tryd.prog 66 #[.agg (encV v), .bool b] w0 fun e w' => e = .panicked (errCh 3) ∧ Below w0.heap.size w0 w' := by
  have hR := Own.start w0
  subst h
  go_enter Tryd.func66, Tryd.ntmps66
  go_wp2_with (first
    | ((with_reducible apply wpList_box hR); exact rfl; exact rfl; clear hR; intro g w hR; simp only [cS, cZ])
    | ((with_reducible apply wpList_make hR zVal); exact rfl; clear hR; intro g w hR; simp only [cS, cZ])
    | ((with_reducible apply q_ls hR); exact rfl; ((with_reducible first | apply t_addr fPart0 | apply t_addr fPart3 | apply t_addr fPart4 | apply t_addr fPart5 | apply t_one tIntV | apply t_one tBoolV | apply t_part tVal | apply t_part tPart) <;> (first | (focus (repeat (first | (apply EvC.gv; exact rfl; (with_reducible first | exact Imp.refl _ | (apply Imp.left; exact Imp.refl _) | (apply Imp.right; exact Imp.refl _) | (apply Imp.left; apply Imp.left; exact Imp.refl _))) | (apply EvC.now; exact rfl) | (with_reducible first | apply EvAll.cons | exact EvAll.nil))); done) | exact rfl | (first | exact ext_val _ | exact ext_part _ | exact ext_partV _ | exact ext_rdrH _ _ _) | (focus (repeat (first | apply List.Mem.head | apply List.Mem.tail | apply List.mem_append_right))))); (simp only [cS, cZ]; exact rfl); clear hR; intro w hR)
    | (go_at_call 30; refine (needE_no _).mono ?_; rintro e w' ⟨rfl, rfl⟩))
  exact ⟨rfl, rfl, hR.below⟩
end Go.Proofs.YtckkgooabnlooaaDoor
