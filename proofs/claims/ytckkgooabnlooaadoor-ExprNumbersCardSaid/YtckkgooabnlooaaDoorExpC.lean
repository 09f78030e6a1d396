









/- Contracts of package expr's joined, in whichever order its parts are told. No statement of the seat is proved here. -/
import Derived.Test.YtckkgooabnlooaaDoorExpB
namespace Go.Proofs.YtckkgooabnlooaaDoor
open Go.ChangeShapes Go.WideShapes Go.ChangeAt Go.RowKit
set_option linter.unusedVariables false
set_option linter.unusedSimpArgs false
set_option maxRecDepth 100000

theorem bIntsE (a b : Int) : BuiltS Tryd.prog 22 2 [(0, .int .i64 a), (1, .int .i64 b)] 3 #[.int .i64 a, .int .i64 b] := ⟨fun w => by simp [go_sem]⟩
theorem bMerge (p q : PartZ) (v : ValZ) : Built Tryd.prog 69 [(2, .agg (encV v)), (3, .bool (p.me || q.me)), (4, .int .i64 (wrap64 (p.ba + q.ba))), (5, .int .i64 (wrap64 (p.ix + q.ix))), (6, .int .i64 (orZ p.ki q.ki)), (7, .int .i64 (orZ p.ov q.ov)), (8, .bool (p.sh || q.sh))] (encPt (mergeZ p q v)) := ⟨by kernel_rfl⟩
theorem mostE_ok {a b : Int} (h : mostOneB a b = true) (w0 : World) : Calls Tryd.prog 81 #[.int .i64 a, .int .i64 b] w0 fun e w' => e = .returned (.int .i64 (wrap64 (a + b))) ∧ Below w0.heap.size w0 w' := ansO_ok (mostE_any a b w0) (by unfold sumO; rw [h]; rfl)
theorem mostE_bad {a b : Int} (h : mostOneB a b = false) (w0 : World) : Calls Tryd.prog 81 #[.int .i64 a, .int .i64 b] w0 fun e w' => e = .panicked (errCh 3) ∧ Below w0.heap.size w0 w' := ansO_bad (mostE_any a b w0) (by unfold sumO; rw [h]; rfl)
set_option maxHeartbeats 8000000 in
theorem joinE_ok (p q : PartZ) (v : ValZ) (h : joinOkB p q = true) (w0 : World) : Calls Tryd.prog 65 #[.agg (encPt p), .agg (encPt q), .agg (encV v)] w0 fun e w' => e = .returned (partV (mergeZ p q v)) ∧ Below w0.heap.size w0 w' := by
  have hR := Own.start w0
  obtain ⟨hA, hB⟩ := Bool.and_eq_true_iff.1 h
  have HA := Lib.hid hA
  have HB := Lib.hid hB
  clear h hA hB
  go_enter Tryd.func65, Tryd.ntmps65
  go_upto_region 1 with (first
    | ((with_reducible apply wpList_box hR); exact rfl; exact rfl; clear hR; intro g w hR; simp only [cS, cZ])
    | ((with_reducible apply wpList_make hR zPart); exact rfl; clear hR; intro g w hR; simp only [cS, cZ])
    | ((with_reducible apply q_ls hR); exact rfl; ((with_reducible first | apply t_addr fPart3 | apply t_addr fPart4 | apply t_addr fPart5 | apply t_addr fPart6 | apply t_addr fPart7 | apply t_addr fPart8 | apply t_one tIntV | apply t_one tBoolV | apply t_part tVal) <;> (first | (focus (repeat (first | (apply EvC.gv; exact rfl; (with_reducible first | exact Imp.refl _ | (apply Imp.left; exact Imp.refl _) | (apply Imp.right; exact Imp.refl _) | (apply Imp.left; apply Imp.left; exact Imp.refl _))) | (apply EvC.now; exact rfl) | (with_reducible first | apply EvAll.cons | exact EvAll.nil))); done) | exact rfl | (first | exact ext_val _ | exact ext_partV _ | exact ext_rdrH _ _ _) | (focus (repeat (first | apply List.Mem.head | apply List.Mem.tail | apply List.mem_append_right))))); (simp only [cS, cZ]; exact rfl); clear hR; intro w hR))
  refine wp_region_some hR _ (List.sublist_cons_self _ _) [0, 1, 2, 3, 4, 5, 6, 7, 8, 9, 10, 11, 12, 13, 14, 15, 16, 17, 18, 19, 20, 23, 24, 25, 26, 29, 30] 10 (by kernel_rfl) (by kernel_rfl) (by kernel_rfl) rfl ?_
  clear hR; intro hR
  repeat (refine wpT_step rfl ?_; first
    | ((first | (with_reducible apply q_pl) | ((with_reducible apply q_gd); (first | (apply GdBy.gt; exact rfl; exact rfl) | (apply GdBy.gf; exact rfl; exact rfl) | (apply GdBy.t; exact rfl; exact rfl) | (apply GdBy.f; exact rfl; exact rfl)))); ((with_reducible apply t_or) <;> (first | (focus (repeat (first | (apply EvC.gv; exact rfl; (with_reducible first | exact Imp.refl _ | (apply Imp.left; exact Imp.refl _) | (apply Imp.right; exact Imp.refl _) | (apply Imp.left; apply Imp.left; exact Imp.refl _))) | (apply EvC.now; exact rfl) | (with_reducible first | apply EvAll.cons | exact EvAll.nil))); done) | exact rfl | (first | exact ext_val _ | exact ext_partV _ | exact ext_rdrH _ _ _) | (focus (repeat (first | apply List.Mem.head | apply List.Mem.tail | apply List.mem_append_right))))); (simp only [cS, cZ]; exact rfl))
    | ((first | (with_reducible apply q_pl) | ((with_reducible apply q_gd); (first | (apply GdBy.gt; exact rfl; exact rfl) | (apply GdBy.gf; exact rfl; exact rfl) | (apply GdBy.t; exact rfl; exact rfl) | (apply GdBy.f; exact rfl; exact rfl)))); (first | ((with_reducible first | apply t_move | apply t_assign | apply t_and | apply t_or | apply t_cmp | apply t_not | apply t_addr fPart3 | apply t_addr fPart4 | apply t_addr fPart5 | apply t_addr fPart6 | apply t_addr fPart7 | apply t_addr fPart8 | apply t_one tIntV | apply t_one tBoolV | apply t_part tVal) <;> (first | (focus (repeat (first | (apply EvC.gv; exact rfl; (with_reducible first | exact Imp.refl _ | (apply Imp.left; exact Imp.refl _) | (apply Imp.right; exact Imp.refl _) | (apply Imp.left; apply Imp.left; exact Imp.refl _))) | (apply EvC.now; exact rfl) | (with_reducible first | apply EvAll.cons | exact EvAll.nil))); done) | exact rfl | (first | exact ext_val _ | exact ext_partV _ | exact ext_rdrH _ _ _) | (focus (repeat (first | apply List.Mem.head | apply List.Mem.tail | apply List.mem_append_right)))))); (simp only [cS, cZ]; exact rfl))
    | ((first | (with_reducible apply q_pl) | ((with_reducible apply q_gd); (first | (apply GdBy.gt; exact rfl; exact rfl) | (apply GdBy.gf; exact rfl; exact rfl) | (apply GdBy.t; exact rfl; exact rfl) | (apply GdBy.f; exact rfl; exact rfl)))); (with_reducible apply t_call Tryd.call81); (first | (focus (repeat (first | (apply EvC.gv; exact rfl; (with_reducible first | exact Imp.refl _ | (apply Imp.left; exact Imp.refl _) | (apply Imp.right; exact Imp.refl _) | (apply Imp.left; apply Imp.left; exact Imp.refl _))) | (apply EvC.now; exact rfl) | (with_reducible first | apply EvAll.cons | exact EvAll.nil))); done) | exact rfl | (first | exact ext_val _ | exact ext_partV _ | exact ext_rdrH _ _ _) | (focus (repeat (first | apply List.Mem.head | apply List.Mem.tail | apply List.mem_append_right)))); (intro hcc w hC; with_reducible first | exact tame_below (mostE_ok HA.out _) hC | exact tame_below (mostE_ok HB.out _) hC); (simp only [cS, cZ]; exact rfl)))
  refine wpT_nil ?_
  repeat' (first
          | (refine wpG_many hR (rs := [21, 27]) (by decide +kernel) rfl (fun w hR => ⟨?_, ?_, trivial⟩))
          | (refine wpG_many hR (rs := [22, 27]) (by decide +kernel) rfl (fun w hR => ⟨?_, ?_, trivial⟩))
          | (refine wpG_many hR (rs := [21, 28]) (by decide +kernel) rfl (fun w hR => ⟨?_, ?_, trivial⟩))
          | (refine wpG_many hR (rs := [22, 28]) (by decide +kernel) rfl (fun w hR => ⟨?_, ?_, trivial⟩))
          | (refine wpG_many hR (rs := [21]) (by decide +kernel) rfl (fun w hR => ⟨?_, trivial⟩))
          | (refine wpG_many hR (rs := [22]) (by decide +kernel) rfl (fun w hR => ⟨?_, trivial⟩))
          | (refine wpG_many hR (rs := [27]) (by decide +kernel) rfl (fun w hR => ⟨?_, trivial⟩))
          | (refine wpG_many hR (rs := [28]) (by decide +kernel) rfl (fun w hR => ⟨?_, trivial⟩))
          | (refine opBuildS hR rfl rfl rfl (bIntsE _ _) ?_; clear hR; intro gk w hR; refine ⟨hR.drop (by (focus (repeat (with_reducible first | exact List.Sublist.slnil | exact List.nil_sublist _ | exact List.Sublist.refl _ | exact List.sublist_append_right _ _ | apply List.Sublist.cons_cons | apply List.Sublist.cons | apply sub_right)))), ?_⟩; simp only [cS, cZ])
          | (refine opCallOk Tryd.call38 rfl rfl rfl ((orE_any _ _ _ (hR.get (by (focus (repeat (first | apply List.Mem.head | apply List.Mem.tail | apply List.mem_append_right)))))).mono ?_); rintro en w' ⟨rfl, hb⟩; refine ⟨_, rfl, (hR.grow hb).drop (by (focus (repeat (with_reducible first | exact List.Sublist.slnil | exact List.nil_sublist _ | exact List.Sublist.refl _ | exact List.sublist_append_right _ _ | apply List.Sublist.cons_cons | apply List.Sublist.cons | apply sub_right)))), ?_⟩; have hR := hR.grow hb; clear hb; simp only [cS, cZ]))
  all_goals
    refine wpG_of_wpT (n := 2) (by kernel_rfl) (fun _ _ _ h => h) _ [31, 32, 33, 34] _ _ (by kernel_rfl) ?_
    repeat (refine wpT_step rfl ?_; first
    | ((first | (with_reducible apply q_pl) | ((with_reducible apply q_gd); (first | (apply GdBy.gt; exact rfl; exact rfl) | (apply GdBy.gf; exact rfl; exact rfl) | (apply GdBy.t; exact rfl; exact rfl) | (apply GdBy.f; exact rfl; exact rfl)))); ((with_reducible apply t_or) <;> (first | (focus (repeat (first | (apply EvC.gv; exact rfl; (with_reducible first | exact Imp.refl _ | (apply Imp.left; exact Imp.refl _) | (apply Imp.right; exact Imp.refl _) | (apply Imp.left; apply Imp.left; exact Imp.refl _))) | (apply EvC.now; exact rfl) | (with_reducible first | apply EvAll.cons | exact EvAll.nil))); done) | exact rfl | (first | exact ext_val _ | exact ext_partV _ | exact ext_rdrH _ _ _) | (focus (repeat (first | apply List.Mem.head | apply List.Mem.tail | apply List.mem_append_right))))); (simp only [cS, cZ]; exact rfl))
    | ((first | (with_reducible apply q_pl) | ((with_reducible apply q_gd); (first | (apply GdBy.gt; exact rfl; exact rfl) | (apply GdBy.gf; exact rfl; exact rfl) | (apply GdBy.t; exact rfl; exact rfl) | (apply GdBy.f; exact rfl; exact rfl)))); (first | ((with_reducible first | apply t_move | apply t_assign | apply t_and | apply t_or | apply t_cmp | apply t_not | apply t_addr fPart3 | apply t_addr fPart4 | apply t_addr fPart5 | apply t_addr fPart6 | apply t_addr fPart7 | apply t_addr fPart8 | apply t_one tIntV | apply t_one tBoolV | apply t_part tVal) <;> (first | (focus (repeat (first | (apply EvC.gv; exact rfl; (with_reducible first | exact Imp.refl _ | (apply Imp.left; exact Imp.refl _) | (apply Imp.right; exact Imp.refl _) | (apply Imp.left; apply Imp.left; exact Imp.refl _))) | (apply EvC.now; exact rfl) | (with_reducible first | apply EvAll.cons | exact EvAll.nil))); done) | exact rfl | (first | exact ext_val _ | exact ext_partV _ | exact ext_rdrH _ _ _) | (focus (repeat (first | apply List.Mem.head | apply List.Mem.tail | apply List.mem_append_right)))))); (simp only [cS, cZ]; exact rfl)))
    refine wpT_nil ?_
    refine wpG_many hR (rs := [35]) (by decide +kernel) rfl (fun w hR => ⟨?_, trivial⟩)
    refine opQ hR rfl rfl (t_built rfl (bMerge p q v)) (by (simp only [cS, cZ]; exact rfl)) ?_
    clear hR; intro w hR
    refine ⟨hR.drop (by (focus (repeat (with_reducible first | exact List.Sublist.slnil | exact List.nil_sublist _ | exact List.Sublist.refl _ | exact List.sublist_append_right _ _ | apply List.Sublist.cons_cons | apply List.Sublist.cons | apply sub_right)))), ?_⟩
    refine wpG_put (c := encPt zeroPart) hR tPart (i := 36) (by kernel_rfl) rfl rfl rfl (by (focus (repeat (first | apply List.Mem.head | apply List.Mem.tail | apply List.mem_append_right)))) (putList_all rfl) rfl (Nat.le_refl 14) (one_part _) (by (focus (repeat (first | apply Upd.head | apply Upd.tail)))) (by (focus (repeat (with_reducible first | exact List.Sublist.slnil | exact List.nil_sublist _ | exact List.Sublist.refl _ | exact List.sublist_append_right _ _ | apply List.Sublist.cons_cons | apply List.Sublist.cons | apply sub_right)))) ?_
    clear hR; intro w hR
    refine wpG_end hR (by kernel_rfl) ?_
    clear hR; intro w hR
    go_wp2_with fail
    (try simp only [Exit.inBlock, Exit.then])
    exact post_row hR rfl (by rfl) (by (focus (repeat (first | apply List.Mem.head | apply List.Mem.tail | apply List.mem_append_right)))) Tryd.underlying69 rfl iPart (by rfl) (by rfl) ⟨rfl, hR.below⟩
set_option maxHeartbeats 8000000 in
theorem joinE_bad (p q : PartZ) (v : ValZ) (h : joinOkB p q = false) (w0 : World) : Calls Tryd.prog 65 #[.agg (encPt p), .agg (encPt q), .agg (encV v)] w0 fun e w' => e = .panicked (errCh 3) ∧ Below w0.heap.size w0 w' := by
  have hR := Own.start w0
  cases hA : mostOneB p.ba q.ba
  · have HA := Lib.hid hA
    clear h hA
    go_enter Tryd.func65, Tryd.ntmps65
    go_upto_region 1 with (first
      | ((with_reducible apply wpList_box hR); exact rfl; exact rfl; clear hR; intro g w hR; simp only [cS, cZ])
      | ((with_reducible apply wpList_make hR zPart); exact rfl; clear hR; intro g w hR; simp only [cS, cZ])
      | ((with_reducible apply q_ls hR); exact rfl; ((with_reducible first | apply t_addr fPart3 | apply t_addr fPart4 | apply t_addr fPart5 | apply t_addr fPart6 | apply t_addr fPart7 | apply t_addr fPart8 | apply t_one tIntV | apply t_one tBoolV | apply t_part tVal) <;> (first | (focus (repeat (first | (apply EvC.gv; exact rfl; (with_reducible first | exact Imp.refl _ | (apply Imp.left; exact Imp.refl _) | (apply Imp.right; exact Imp.refl _) | (apply Imp.left; apply Imp.left; exact Imp.refl _))) | (apply EvC.now; exact rfl) | (with_reducible first | apply EvAll.cons | exact EvAll.nil))); done) | exact rfl | (first | exact ext_val _ | exact ext_partV _ | exact ext_rdrH _ _ _) | (focus (repeat (first | apply List.Mem.head | apply List.Mem.tail | apply List.mem_append_right))))); (simp only [cS, cZ]; exact rfl); clear hR; intro w hR))
    refine wp_region_someP hR _ (List.sublist_cons_self _ _) [0, 1, 2, 3, 4, 5, 6, 7, 8, 9, 10, 12, 13, 14, 15, 17, 18, 19, 20, 23, 24, 25, 26, 29, 30] 12 ⟨fun _ _ d _ _ h => by cases d <;> exact h⟩ (by kernel_rfl) (by kernel_rfl) (by kernel_rfl) rfl ?_
    clear hR; intro hR
    repeat (refine wpT_step rfl ?_; first
    | ((first | (with_reducible apply q_pl) | ((with_reducible apply q_gd); (first | (apply GdBy.gt; exact rfl; exact rfl) | (apply GdBy.gf; exact rfl; exact rfl) | (apply GdBy.t; exact rfl; exact rfl) | (apply GdBy.f; exact rfl; exact rfl)))); ((with_reducible apply t_or) <;> (first | (focus (repeat (first | (apply EvC.gv; exact rfl; (with_reducible first | exact Imp.refl _ | (apply Imp.left; exact Imp.refl _) | (apply Imp.right; exact Imp.refl _) | (apply Imp.left; apply Imp.left; exact Imp.refl _))) | (apply EvC.now; exact rfl) | (with_reducible first | apply EvAll.cons | exact EvAll.nil))); done) | exact rfl | (first | exact ext_val _ | exact ext_partV _ | exact ext_rdrH _ _ _) | (focus (repeat (first | apply List.Mem.head | apply List.Mem.tail | apply List.mem_append_right))))); (simp only [cS, cZ]; exact rfl))
    | ((first | (with_reducible apply q_pl) | ((with_reducible apply q_gd); (first | (apply GdBy.gt; exact rfl; exact rfl) | (apply GdBy.gf; exact rfl; exact rfl) | (apply GdBy.t; exact rfl; exact rfl) | (apply GdBy.f; exact rfl; exact rfl)))); (first | ((with_reducible first | apply t_move | apply t_assign | apply t_and | apply t_or | apply t_cmp | apply t_not | apply t_addr fPart3 | apply t_addr fPart4 | apply t_addr fPart5 | apply t_addr fPart6 | apply t_addr fPart7 | apply t_addr fPart8 | apply t_one tIntV | apply t_one tBoolV | apply t_part tVal) <;> (first | (focus (repeat (first | (apply EvC.gv; exact rfl; (with_reducible first | exact Imp.refl _ | (apply Imp.left; exact Imp.refl _) | (apply Imp.right; exact Imp.refl _) | (apply Imp.left; apply Imp.left; exact Imp.refl _))) | (apply EvC.now; exact rfl) | (with_reducible first | apply EvAll.cons | exact EvAll.nil))); done) | exact rfl | (first | exact ext_val _ | exact ext_partV _ | exact ext_rdrH _ _ _) | (focus (repeat (first | apply List.Mem.head | apply List.Mem.tail | apply List.mem_append_right)))))); (simp only [cS, cZ]; exact rfl)))
    refine wpT_nil ?_
    repeat' (first
            | (refine wpG_many hR (rs := [11, 21, 27]) (by decide +kernel) rfl (fun w hR => ⟨?_, ?_, ?_, trivial⟩))
            | (refine wpG_many hR (rs := [11, 21]) (by decide +kernel) rfl (fun w hR => ⟨?_, ?_, trivial⟩))
            | (refine wpG_many hR (rs := [11, 27]) (by decide +kernel) rfl (fun w hR => ⟨?_, ?_, trivial⟩))
            | (refine wpG_many hR (rs := [11]) (by decide +kernel) rfl (fun w hR => ⟨?_, trivial⟩))
            | (refine opBuildS hR rfl rfl rfl (bIntsE _ _) ?_; clear hR; intro gk w hR; refine ⟨hR.drop (by (focus (repeat (with_reducible first | exact List.Sublist.slnil | exact List.nil_sublist _ | exact List.Sublist.refl _ | exact List.sublist_append_right _ _ | apply List.Sublist.cons_cons | apply List.Sublist.cons | apply sub_right)))), ?_⟩; simp only [cS, cZ])
            | (refine opCallBad Tryd.call81 rfl rfl rfl ((mostE_bad HA.out _).mono ?_); rintro en w' ⟨rfl, hb⟩; exact ⟨_, rfl, rfl, rfl, (hR.grow hb).below⟩))
  · have hB : mostOneB p.ix q.ix = false := by unfold joinOkB at h; rw [hA] at h; exact h
    have HA := Lib.hid hA
    have HB := Lib.hid hB
    clear h hA hB
    go_enter Tryd.func65, Tryd.ntmps65
    go_upto_region 1 with (first
      | ((with_reducible apply wpList_box hR); exact rfl; exact rfl; clear hR; intro g w hR; simp only [cS, cZ])
      | ((with_reducible apply wpList_make hR zPart); exact rfl; clear hR; intro g w hR; simp only [cS, cZ])
      | ((with_reducible apply q_ls hR); exact rfl; ((with_reducible first | apply t_addr fPart3 | apply t_addr fPart4 | apply t_addr fPart5 | apply t_addr fPart6 | apply t_addr fPart7 | apply t_addr fPart8 | apply t_one tIntV | apply t_one tBoolV | apply t_part tVal) <;> (first | (focus (repeat (first | (apply EvC.gv; exact rfl; (with_reducible first | exact Imp.refl _ | (apply Imp.left; exact Imp.refl _) | (apply Imp.right; exact Imp.refl _) | (apply Imp.left; apply Imp.left; exact Imp.refl _))) | (apply EvC.now; exact rfl) | (with_reducible first | apply EvAll.cons | exact EvAll.nil))); done) | exact rfl | (first | exact ext_val _ | exact ext_partV _ | exact ext_rdrH _ _ _) | (focus (repeat (first | apply List.Mem.head | apply List.Mem.tail | apply List.mem_append_right))))); (simp only [cS, cZ]; exact rfl); clear hR; intro w hR))
    refine wp_region_someP hR _ (List.sublist_cons_self _ _) [0, 1, 2, 3, 4, 5, 6, 7, 8, 9, 10, 11, 12, 13, 14, 15, 17, 18, 19, 20, 23, 24, 25, 26, 29, 30] 11 ⟨fun _ _ d _ _ h => by cases d <;> exact h⟩ (by kernel_rfl) (by kernel_rfl) (by kernel_rfl) rfl ?_
    clear hR; intro hR
    repeat (refine wpT_step rfl ?_; first
    | ((first | (with_reducible apply q_pl) | ((with_reducible apply q_gd); (first | (apply GdBy.gt; exact rfl; exact rfl) | (apply GdBy.gf; exact rfl; exact rfl) | (apply GdBy.t; exact rfl; exact rfl) | (apply GdBy.f; exact rfl; exact rfl)))); ((with_reducible apply t_or) <;> (first | (focus (repeat (first | (apply EvC.gv; exact rfl; (with_reducible first | exact Imp.refl _ | (apply Imp.left; exact Imp.refl _) | (apply Imp.right; exact Imp.refl _) | (apply Imp.left; apply Imp.left; exact Imp.refl _))) | (apply EvC.now; exact rfl) | (with_reducible first | apply EvAll.cons | exact EvAll.nil))); done) | exact rfl | (first | exact ext_val _ | exact ext_partV _ | exact ext_rdrH _ _ _) | (focus (repeat (first | apply List.Mem.head | apply List.Mem.tail | apply List.mem_append_right))))); (simp only [cS, cZ]; exact rfl))
    | ((first | (with_reducible apply q_pl) | ((with_reducible apply q_gd); (first | (apply GdBy.gt; exact rfl; exact rfl) | (apply GdBy.gf; exact rfl; exact rfl) | (apply GdBy.t; exact rfl; exact rfl) | (apply GdBy.f; exact rfl; exact rfl)))); (first | ((with_reducible first | apply t_move | apply t_assign | apply t_and | apply t_or | apply t_cmp | apply t_not | apply t_addr fPart3 | apply t_addr fPart4 | apply t_addr fPart5 | apply t_addr fPart6 | apply t_addr fPart7 | apply t_addr fPart8 | apply t_one tIntV | apply t_one tBoolV | apply t_part tVal) <;> (first | (focus (repeat (first | (apply EvC.gv; exact rfl; (with_reducible first | exact Imp.refl _ | (apply Imp.left; exact Imp.refl _) | (apply Imp.right; exact Imp.refl _) | (apply Imp.left; apply Imp.left; exact Imp.refl _))) | (apply EvC.now; exact rfl) | (with_reducible first | apply EvAll.cons | exact EvAll.nil))); done) | exact rfl | (first | exact ext_val _ | exact ext_partV _ | exact ext_rdrH _ _ _) | (focus (repeat (first | apply List.Mem.head | apply List.Mem.tail | apply List.mem_append_right)))))); (simp only [cS, cZ]; exact rfl))
    | ((first | (with_reducible apply q_pl) | ((with_reducible apply q_gd); (first | (apply GdBy.gt; exact rfl; exact rfl) | (apply GdBy.gf; exact rfl; exact rfl) | (apply GdBy.t; exact rfl; exact rfl) | (apply GdBy.f; exact rfl; exact rfl)))); (with_reducible apply t_call Tryd.call81); (first | (focus (repeat (first | (apply EvC.gv; exact rfl; (with_reducible first | exact Imp.refl _ | (apply Imp.left; exact Imp.refl _) | (apply Imp.right; exact Imp.refl _) | (apply Imp.left; apply Imp.left; exact Imp.refl _))) | (apply EvC.now; exact rfl) | (with_reducible first | apply EvAll.cons | exact EvAll.nil))); done) | exact rfl | (first | exact ext_val _ | exact ext_partV _ | exact ext_rdrH _ _ _) | (focus (repeat (first | apply List.Mem.head | apply List.Mem.tail | apply List.mem_append_right)))); (intro hcc w hC; exact tame_below (mostE_ok HA.out _) hC); (simp only [cS, cZ]; exact rfl)))
    refine wpT_nil ?_
    repeat' (first
            | (refine wpG_many hR (rs := [16, 21, 27]) (by decide +kernel) rfl (fun w hR => ⟨?_, ?_, ?_, trivial⟩))
            | (refine wpG_many hR (rs := [16, 21]) (by decide +kernel) rfl (fun w hR => ⟨?_, ?_, trivial⟩))
            | (refine wpG_many hR (rs := [16, 27]) (by decide +kernel) rfl (fun w hR => ⟨?_, ?_, trivial⟩))
            | (refine wpG_many hR (rs := [16]) (by decide +kernel) rfl (fun w hR => ⟨?_, trivial⟩))
            | (refine opBuildS hR rfl rfl rfl (bIntsE _ _) ?_; clear hR; intro gk w hR; refine ⟨hR.drop (by (focus (repeat (with_reducible first | exact List.Sublist.slnil | exact List.nil_sublist _ | exact List.Sublist.refl _ | exact List.sublist_append_right _ _ | apply List.Sublist.cons_cons | apply List.Sublist.cons | apply sub_right)))), ?_⟩; simp only [cS, cZ])
            | (refine opCallBad Tryd.call81 rfl rfl rfl ((mostE_bad HB.out _).mono ?_); rintro en w' ⟨rfl, hb⟩; exact ⟨_, rfl, rfl, rfl, (hR.grow hb).below⟩))
theorem joinE_any (p q : PartZ) (v : ValZ) (w0 : World) : Calls Tryd.prog 65 #[.agg (encPt p), .agg (encPt q), .agg (encV v)] w0 (AnsO w0 partV (joinZ p q v)) := by
  cases h : joinOkB p q
  · exact badO_ans (joinE_bad p q v h w0) (by unfold joinZ; rw [h]; rfl)
  · exact okO_ans (joinE_ok p q v h w0) (by unfold joinZ; rw [h]; rfl)
end Go.Proofs.YtckkgooabnlooaaDoor
