









/- The contracts of package iter: which blocks may be, how many bytes they spread to. No statement of the seat is proved here. -/
import Derived.Test.YtalgadinoaeihaaBlkA
import Derived.Deep.DeepCutAuto
import Derived.Deep.CutBlock
namespace Go.Proofs.Ytalgadinoaeihaa
open Go.ChangeShapes Go.WideShapes Go.ChangeAt Go.RowKit
set_option linter.unusedVariables false
set_option linter.unusedSimpArgs false

theorem BlkAt.isK {w : World} {d : BlkV} {z : BlkZ} (h : BlkAt w d z) : IsS d.v ∧ IsS d.x := by
  cases h with
  | mk _ hv _ hx _ _ => exact ⟨hv.isS, ⟨hx.shape⟩⟩
/-! ### May -/
def badB (n : Nat) (t : Int) : Bool := decide ((n : Int) = 0) || decide (t < 1) || decide (65535 < t)
theorem may_bad {n : Nat} {t : Int} (b : List Int) (l : List BlkZ) (h : badB n t = true) : mayB n (.mk t b l) = false := by
  cases n with
  | zero => rfl
  | succ m =>
    simp only [badB, Bool.or_eq_true, decide_eq_true_eq] at h
    simp only [mayB, Bool.and_eq_false_iff, decide_eq_false_iff_not]
    exact .inl (by omega)
theorem may_good {m : Nat} {t : Int} (h : badB (m + 1) t = false) (b : List Int) (l : List BlkZ) :
    mayB (m + 1) (.mk t b l) = bif decide (l.length = 0) then (decide (1 ≤ b.length) && decide (b.length ≤ 255)) else (! (decide (0 < b.length) || decide (65535 < l.length)) && l.all (mayB m)) := by
  simp only [badB, Bool.or_eq_false_iff, decide_eq_false_iff_not] at h
  have h1 : (decide (1 ≤ t) && decide (t ≤ 65535)) = true := by
    simp only [Bool.and_eq_true, decide_eq_true_eq]
    omega
  cases l with
  | nil => simp only [mayB, h1, Bool.true_and]; rfl
  | cons z l =>
    simp only [mayB, h1, Bool.true_and, List.length_cons, List.all_cons]
    rw [decide_eq_false (p := l.length + 1 = 0) (by omega), cond_false]
    congr 1
    cases b with
    | nil =>
      simp only [List.length_nil, decide_true, Bool.true_and]
      rw [decide_eq_false (p := 0 < 0) (by omega), Bool.false_or]
      by_cases hl : l.length + 1 ≤ 65535
      · rw [decide_eq_true hl, decide_eq_false (p := 65535 < l.length + 1) (by omega)]; rfl
      · rw [decide_eq_false hl, decide_eq_true (p := 65535 < l.length + 1) (by omega)]; rfl
    | cons x b =>
      rw [decide_eq_false (p := x :: b = []) (by simp), decide_eq_true (p := 0 < (x :: b).length) (by simp)]
      rfl
theorem all_more {f : BlkZ → Bool} {l : List BlkZ} {k : Nat} {z : BlkZ} (h : l[k]? = some z) : (l.take (k + 1)).all f = ((l.take k).all f && f z) := by
  rw [List.take_add_one, h, List.all_append]; simp
theorem all_bad {f : BlkZ → Bool} {l : List BlkZ} {k : Nat} {z : BlkZ} (h : l[k]? = some z) (hf : f z = false) : l.all f = false := by
  cases hc : l.all f
  · rfl
  · rw [List.all_eq_true] at hc
    rw [hc z (List.mem_of_getElem? h)] at hf
    exact nomatch hf
def mayK (n : Nat) (l : List BlkZ) (k : Nat) : Prop := (l.take k).all (mayB n) = true
set_option maxHeartbeats 4000000 in
set_option maxRecDepth 100000 in
theorem imay_any : ∀ (n : Nat) (z : BlkZ), n ≤ 8 → ∀ (d : BlkV) (w0 : World), BlkAt w0 d z →
    Calls Try.prog 19 #[.agg (encK d.t d.v d.x), .int .i64 (n : Int)] w0 fun e w' => e = .returned (.bool (mayB n z)) ∧ Below w0.heap.size w0 w' := by
  intro n
  induction n with
  | zero =>
    intro z hn8 d w0 hB
    obtain @⟨t, v, x, bs, ds, l, ht, hv, hm, hx, hlen, hd⟩ := hB
    have hR := Own.start w0
    dsimp only
    go_enter Try.func19, Try.ntmps19
    go_upto_region 1 with (first
    | ((with_reducible apply wpList_box hR); exact rfl; exact rfl; clear hR; intro g1 w hR; simp only [List.set_cons_succ, List.set_cons_zero]))
    refine wp_region_tame hR [0, 1, 2, 3, 4, 5, 6, 7, 8, 9, 10, 11] rfl ?_
    repeat (refine wpT_step rfl ?_; first
    | ((first | (with_reducible apply q_pl) | ((with_reducible apply q_gd); (first | (apply GdBy.gt; exact rfl; exact rfl) | (apply GdBy.gf; exact rfl; exact rfl) | (apply GdBy.t; exact rfl; exact rfl) | (apply GdBy.f; exact rfl; exact rfl)))); (first | ((with_reducible first | apply t_move | apply t_assign | apply t_and | apply t_or | apply t_cmp | apply t_not | apply t_addr (fRec _ (by decide)) | apply t_addr (fBlk _ (by decide)) | apply t_one tByteR | apply t_one tSlR | apply t_one tIntR | apply t_one tBlks | apply t_part tBlk) <;> (first | (apply EvC.gv; exact rfl; (with_reducible first | exact Imp.refl _ | (apply Imp.left; exact Imp.refl _) | (apply Imp.right; exact Imp.refl _) | (apply Imp.left; apply Imp.left; exact Imp.refl _))) | (apply EvC.now; exact rfl) | exact rfl | (with_reducible exact EvAll.nil) | (focus (repeat (first | apply EvAll.cons | exact EvAll.nil | (apply EvC.gv; exact rfl; (with_reducible first | exact Imp.refl _ | (apply Imp.left; exact Imp.refl _) | (apply Imp.right; exact Imp.refl _) | (apply Imp.left; apply Imp.left; exact Imp.refl _))) | (apply EvC.now; exact rfl))); done) | exact ext_blk _ _ _ | (focus (repeat (first | apply List.Mem.head | apply List.Mem.tail | apply List.mem_append_right)))))); (simp only [List.set_cons_succ, List.set_cons_zero]; exact rfl))
    | ((with_reducible apply q_gd); (first | (apply GdBy.gt; exact rfl; exact rfl) | (apply GdBy.gf; exact rfl; exact rfl) | (apply GdBy.t; exact rfl; exact rfl) | (apply GdBy.f; exact rfl; exact rfl)); ((with_reducible apply t_num) <;> (first | (apply EvC.gv; exact rfl; (with_reducible first | exact Imp.refl _ | (apply Imp.left; exact Imp.refl _) | (apply Imp.right; exact Imp.refl _) | (apply Imp.left; apply Imp.left; exact Imp.refl _))) | (apply EvC.now; exact rfl) | exact rfl | (with_reducible exact EvAll.nil) | (focus (repeat (first | apply EvAll.cons | exact EvAll.nil | (apply EvC.gv; exact rfl; (with_reducible first | exact Imp.refl _ | (apply Imp.left; exact Imp.refl _) | (apply Imp.right; exact Imp.refl _) | (apply Imp.left; apply Imp.left; exact Imp.refl _))) | (apply EvC.now; exact rfl))); done) | exact ext_blk _ _ _ | (focus (repeat (first | apply List.Mem.head | apply List.Mem.tail | apply List.mem_append_right))))); (simp only [List.set_cons_succ, List.set_cons_zero]; exact rfl))
    | ((with_reducible apply wpT1_gpure); (first | (apply GdBy.gt; exact rfl; exact rfl) | (apply GdBy.gf; exact rfl; exact rfl) | (apply GdBy.t; exact rfl; exact rfl) | (apply GdBy.f; exact rfl; exact rfl)); intro K hK; go_simp; refine hK _ ?_; clear hK K; simp only [List.set_cons_succ, List.set_cons_zero])
    | ((with_reducible apply wpT1_pure); exact rfl; intro K hK; go_simp; refine hK _ ?_; clear hK K; simp only [List.set_cons_succ, List.set_cons_zero]))
    refine wpT_nil ?_
    clear hR; intro w hR
    go_upto_if 18 with fail
    refine wp_cond_at (nm := true) rfl (by simp) (fun _ => ?_) (fun h => absurd h (by decide))
    go_wp2_with fail
    go_ret
    exact ⟨rfl, hR.below⟩
  | succ n IH0 =>
    intro z hn8 d w0 hB
    obtain @⟨t, v, x, bs, ds, l, ht, hv, hm, hx, hlen, hd⟩ := hB
    have IH := Lib.hid IH0
    clear IH0
    have hRd : Rd w0 3 x l.length (ds.flatMap cellsK) := by rw [← hlen]; exact hx
    have HSUB := Lib.hid (show IntKind.i64.wrap (((n + 1 : Nat) : Int) - 1) = (n : Int) by rw [IntWalk.i64_in _ (by omega)]; omega)
    obtain ⟨V, hVe⟩ : ∃ V, mayB (n + 1) (.mk t bs l) = V := ⟨_, rfl⟩
    rw [hVe]
    have HV := Lib.hid hVe
    clear hVe
    have hR := Own.start w0
    dsimp only
    go_enter Try.func19, Try.ntmps19
    go_upto_region 1 with (first
    | ((with_reducible apply wpList_box hR); exact rfl; exact rfl; clear hR; intro g1 w hR; simp only [List.set_cons_succ, List.set_cons_zero]))
    refine wp_region_tame hR [0, 1, 2, 3, 4, 5, 6, 7, 8, 9, 10, 11] rfl ?_
    repeat (refine wpT_step rfl ?_; first
    | ((first | (with_reducible apply q_pl) | ((with_reducible apply q_gd); (first | (apply GdBy.gt; exact rfl; exact rfl) | (apply GdBy.gf; exact rfl; exact rfl) | (apply GdBy.t; exact rfl; exact rfl) | (apply GdBy.f; exact rfl; exact rfl)))); (first | ((with_reducible first | apply t_move | apply t_assign | apply t_and | apply t_or | apply t_cmp | apply t_not | apply t_addr (fRec _ (by decide)) | apply t_addr (fBlk _ (by decide)) | apply t_one tByteR | apply t_one tSlR | apply t_one tIntR | apply t_one tBlks | apply t_part tBlk) <;> (first | (apply EvC.gv; exact rfl; (with_reducible first | exact Imp.refl _ | (apply Imp.left; exact Imp.refl _) | (apply Imp.right; exact Imp.refl _) | (apply Imp.left; apply Imp.left; exact Imp.refl _))) | (apply EvC.now; exact rfl) | exact rfl | (with_reducible exact EvAll.nil) | (focus (repeat (first | apply EvAll.cons | exact EvAll.nil | (apply EvC.gv; exact rfl; (with_reducible first | exact Imp.refl _ | (apply Imp.left; exact Imp.refl _) | (apply Imp.right; exact Imp.refl _) | (apply Imp.left; apply Imp.left; exact Imp.refl _))) | (apply EvC.now; exact rfl))); done) | exact ext_blk _ _ _ | (focus (repeat (first | apply List.Mem.head | apply List.Mem.tail | apply List.mem_append_right)))))); (simp only [List.set_cons_succ, List.set_cons_zero]; exact rfl))
    | ((with_reducible apply q_gd); (first | (apply GdBy.gt; exact rfl; exact rfl) | (apply GdBy.gf; exact rfl; exact rfl) | (apply GdBy.t; exact rfl; exact rfl) | (apply GdBy.f; exact rfl; exact rfl)); ((with_reducible apply t_num) <;> (first | (apply EvC.gv; exact rfl; (with_reducible first | exact Imp.refl _ | (apply Imp.left; exact Imp.refl _) | (apply Imp.right; exact Imp.refl _) | (apply Imp.left; apply Imp.left; exact Imp.refl _))) | (apply EvC.now; exact rfl) | exact rfl | (with_reducible exact EvAll.nil) | (focus (repeat (first | apply EvAll.cons | exact EvAll.nil | (apply EvC.gv; exact rfl; (with_reducible first | exact Imp.refl _ | (apply Imp.left; exact Imp.refl _) | (apply Imp.right; exact Imp.refl _) | (apply Imp.left; apply Imp.left; exact Imp.refl _))) | (apply EvC.now; exact rfl))); done) | exact ext_blk _ _ _ | (focus (repeat (first | apply List.Mem.head | apply List.Mem.tail | apply List.mem_append_right))))); (simp only [List.set_cons_succ, List.set_cons_zero]; exact rfl))
    | ((with_reducible apply wpT1_gpure); (first | (apply GdBy.gt; exact rfl; exact rfl) | (apply GdBy.gf; exact rfl; exact rfl) | (apply GdBy.t; exact rfl; exact rfl) | (apply GdBy.f; exact rfl; exact rfl)); intro K hK; go_simp; refine hK _ ?_; clear hK K; simp only [List.set_cons_succ, List.set_cons_zero])
    | ((with_reducible apply wpT1_pure); exact rfl; intro K hK; go_simp; refine hK _ ?_; clear hK K; simp only [List.set_cons_succ, List.set_cons_zero]))
    refine wpT_nil ?_
    clear hR; intro w hR
    go_upto_if 18 with fail
    cases hb : badB (n + 1) t
    · refine wp_cond_at (nm := false) rfl (by unfold badB at hb; simp at hb ⊢; omega) (fun h => absurd h (by decide)) (fun _ => ?_)
      have HM := Lib.hid (HV.out.symm.trans (may_good hb bs l))
      clear HV hb
      go_upto_if 22 with (first
    | ((with_reducible apply q_ls hR); exact rfl; (with_reducible apply t_lenRd Try.underlying23); (apply EvC.now; exact rfl); exact hRd; (simp only [List.set_cons_succ, List.set_cons_zero]; exact rfl); clear hR; intro w hR)
    | ((with_reducible apply q_ls hR); exact rfl; ((with_reducible first | apply t_addr (fRec _ (by decide)) | apply t_addr (fBlk _ (by decide)) | apply t_one tByteR | apply t_one tSlR | apply t_one tIntR | apply t_one tBlks | apply t_part tBlk) <;> (first | (apply EvC.gv; exact rfl; (with_reducible first | exact Imp.refl _ | (apply Imp.left; exact Imp.refl _) | (apply Imp.right; exact Imp.refl _) | (apply Imp.left; apply Imp.left; exact Imp.refl _))) | (apply EvC.now; exact rfl) | exact rfl | (with_reducible exact EvAll.nil) | (focus (repeat (first | apply EvAll.cons | exact EvAll.nil | (apply EvC.gv; exact rfl; (with_reducible first | exact Imp.refl _ | (apply Imp.left; exact Imp.refl _) | (apply Imp.right; exact Imp.refl _) | (apply Imp.left; apply Imp.left; exact Imp.refl _))) | (apply EvC.now; exact rfl))); done) | exact ext_blk _ _ _ | (focus (repeat (first | apply List.Mem.head | apply List.Mem.tail | apply List.mem_append_right))))); (simp only [List.set_cons_succ, List.set_cons_zero]; exact rfl); clear hR; intro w hR))
      by_cases hl0 : l.length = 0
      · refine wp_cond_at (nm := true) rfl (by simp [hl0]) (fun _ => ?_) (fun h => absurd h (by decide))
        go_upto_region 4 with fail
        refine wp_region_tame hR [0, 1, 2, 3, 4, 5, 6, 7, 8, 9, 10] rfl ?_
        repeat (refine wpT_step rfl ?_; first
    | ((first | (with_reducible apply q_pl) | ((with_reducible apply q_gd); (first | (apply GdBy.gt; exact rfl; exact rfl) | (apply GdBy.gf; exact rfl; exact rfl) | (apply GdBy.t; exact rfl; exact rfl) | (apply GdBy.f; exact rfl; exact rfl)))); (with_reducible apply t_lenW Try.underlying22); (first | (apply EvC.gv; exact rfl; (with_reducible first | exact Imp.refl _ | (apply Imp.left; exact Imp.refl _) | (apply Imp.right; exact Imp.refl _) | (apply Imp.left; apply Imp.left; exact Imp.refl _))) | (apply EvC.now; exact rfl) | exact rfl | (with_reducible exact EvAll.nil) | (focus (repeat (first | apply EvAll.cons | exact EvAll.nil | (apply EvC.gv; exact rfl; (with_reducible first | exact Imp.refl _ | (apply Imp.left; exact Imp.refl _) | (apply Imp.right; exact Imp.refl _) | (apply Imp.left; apply Imp.left; exact Imp.refl _))) | (apply EvC.now; exact rfl))); done) | exact ext_blk _ _ _ | (focus (repeat (first | apply List.Mem.head | apply List.Mem.tail | apply List.mem_append_right)))); exact hv; (simp only [List.set_cons_succ, List.set_cons_zero]; exact rfl))
    | ((first | (with_reducible apply q_pl) | ((with_reducible apply q_gd); (first | (apply GdBy.gt; exact rfl; exact rfl) | (apply GdBy.gf; exact rfl; exact rfl) | (apply GdBy.t; exact rfl; exact rfl) | (apply GdBy.f; exact rfl; exact rfl)))); (first | ((with_reducible first | apply t_move | apply t_assign | apply t_and | apply t_or | apply t_cmp | apply t_not | apply t_addr (fRec _ (by decide)) | apply t_addr (fBlk _ (by decide)) | apply t_one tByteR | apply t_one tSlR | apply t_one tIntR | apply t_one tBlks | apply t_part tBlk) <;> (first | (apply EvC.gv; exact rfl; (with_reducible first | exact Imp.refl _ | (apply Imp.left; exact Imp.refl _) | (apply Imp.right; exact Imp.refl _) | (apply Imp.left; apply Imp.left; exact Imp.refl _))) | (apply EvC.now; exact rfl) | exact rfl | (with_reducible exact EvAll.nil) | (focus (repeat (first | apply EvAll.cons | exact EvAll.nil | (apply EvC.gv; exact rfl; (with_reducible first | exact Imp.refl _ | (apply Imp.left; exact Imp.refl _) | (apply Imp.right; exact Imp.refl _) | (apply Imp.left; apply Imp.left; exact Imp.refl _))) | (apply EvC.now; exact rfl))); done) | exact ext_blk _ _ _ | (focus (repeat (first | apply List.Mem.head | apply List.Mem.tail | apply List.mem_append_right)))))); (simp only [List.set_cons_succ, List.set_cons_zero]; exact rfl))
    | ((with_reducible apply q_gd); (first | (apply GdBy.gt; exact rfl; exact rfl) | (apply GdBy.gf; exact rfl; exact rfl) | (apply GdBy.t; exact rfl; exact rfl) | (apply GdBy.f; exact rfl; exact rfl)); ((with_reducible apply t_num) <;> (first | (apply EvC.gv; exact rfl; (with_reducible first | exact Imp.refl _ | (apply Imp.left; exact Imp.refl _) | (apply Imp.right; exact Imp.refl _) | (apply Imp.left; apply Imp.left; exact Imp.refl _))) | (apply EvC.now; exact rfl) | exact rfl | (with_reducible exact EvAll.nil) | (focus (repeat (first | apply EvAll.cons | exact EvAll.nil | (apply EvC.gv; exact rfl; (with_reducible first | exact Imp.refl _ | (apply Imp.left; exact Imp.refl _) | (apply Imp.right; exact Imp.refl _) | (apply Imp.left; apply Imp.left; exact Imp.refl _))) | (apply EvC.now; exact rfl))); done) | exact ext_blk _ _ _ | (focus (repeat (first | apply List.Mem.head | apply List.Mem.tail | apply List.mem_append_right))))); (simp only [List.set_cons_succ, List.set_cons_zero]; exact rfl))
    | ((with_reducible apply wpT1_gpure); (first | (apply GdBy.gt; exact rfl; exact rfl) | (apply GdBy.gf; exact rfl; exact rfl) | (apply GdBy.t; exact rfl; exact rfl) | (apply GdBy.f; exact rfl; exact rfl)); intro K hK; go_simp; refine hK _ ?_; clear hK K; simp only [List.set_cons_succ, List.set_cons_zero])
    | ((with_reducible apply wpT1_pure); exact rfl; intro K hK; go_simp; refine hK _ ?_; clear hK K; simp only [List.set_cons_succ, List.set_cons_zero]))
        refine wpT_nil ?_
        clear hR; intro w hR
        go_wp2_with fail
        go_ret
        rw [HM.out, decide_eq_true hl0]
        refine ⟨?_, hR.below⟩
        simp only [cond_true]
        skip
        exact ret_bool (by congr 1 <;> exact decide_eq_decide.2 (by omega))
      · refine wp_cond_at (nm := false) rfl (by simp [hl0]) (fun h => absurd h (by decide)) (fun _ => ?_)
        have HM2 := Lib.hid (show V = (!(decide (0 < bs.length) || decide (65535 < l.length)) && l.all (mayB n)) by rw [HM.out, decide_eq_false hl0]; rfl)
        clear HM
        go_upto_region 5 with fail
        refine wp_region_tame hR [0, 1, 2, 3, 4, 5, 6, 7, 8, 9] rfl ?_
        repeat (refine wpT_step rfl ?_; first
    | ((first | (with_reducible apply q_pl) | ((with_reducible apply q_gd); (first | (apply GdBy.gt; exact rfl; exact rfl) | (apply GdBy.gf; exact rfl; exact rfl) | (apply GdBy.t; exact rfl; exact rfl) | (apply GdBy.f; exact rfl; exact rfl)))); (with_reducible apply t_lenW Try.underlying22); (first | (apply EvC.gv; exact rfl; (with_reducible first | exact Imp.refl _ | (apply Imp.left; exact Imp.refl _) | (apply Imp.right; exact Imp.refl _) | (apply Imp.left; apply Imp.left; exact Imp.refl _))) | (apply EvC.now; exact rfl) | exact rfl | (with_reducible exact EvAll.nil) | (focus (repeat (first | apply EvAll.cons | exact EvAll.nil | (apply EvC.gv; exact rfl; (with_reducible first | exact Imp.refl _ | (apply Imp.left; exact Imp.refl _) | (apply Imp.right; exact Imp.refl _) | (apply Imp.left; apply Imp.left; exact Imp.refl _))) | (apply EvC.now; exact rfl))); done) | exact ext_blk _ _ _ | (focus (repeat (first | apply List.Mem.head | apply List.Mem.tail | apply List.mem_append_right)))); exact hv; (simp only [List.set_cons_succ, List.set_cons_zero]; exact rfl))
    | ((first | (with_reducible apply q_pl) | ((with_reducible apply q_gd); (first | (apply GdBy.gt; exact rfl; exact rfl) | (apply GdBy.gf; exact rfl; exact rfl) | (apply GdBy.t; exact rfl; exact rfl) | (apply GdBy.f; exact rfl; exact rfl)))); (with_reducible apply t_lenRd Try.underlying23); (first | (apply EvC.gv; exact rfl; (with_reducible first | exact Imp.refl _ | (apply Imp.left; exact Imp.refl _) | (apply Imp.right; exact Imp.refl _) | (apply Imp.left; apply Imp.left; exact Imp.refl _))) | (apply EvC.now; exact rfl) | exact rfl | (with_reducible exact EvAll.nil) | (focus (repeat (first | apply EvAll.cons | exact EvAll.nil | (apply EvC.gv; exact rfl; (with_reducible first | exact Imp.refl _ | (apply Imp.left; exact Imp.refl _) | (apply Imp.right; exact Imp.refl _) | (apply Imp.left; apply Imp.left; exact Imp.refl _))) | (apply EvC.now; exact rfl))); done) | exact ext_blk _ _ _ | (focus (repeat (first | apply List.Mem.head | apply List.Mem.tail | apply List.mem_append_right)))); exact hRd; (simp only [List.set_cons_succ, List.set_cons_zero]; exact rfl))
    | ((first | (with_reducible apply q_pl) | ((with_reducible apply q_gd); (first | (apply GdBy.gt; exact rfl; exact rfl) | (apply GdBy.gf; exact rfl; exact rfl) | (apply GdBy.t; exact rfl; exact rfl) | (apply GdBy.f; exact rfl; exact rfl)))); (first | ((with_reducible first | apply t_move | apply t_assign | apply t_and | apply t_or | apply t_cmp | apply t_not | apply t_addr (fRec _ (by decide)) | apply t_addr (fBlk _ (by decide)) | apply t_one tByteR | apply t_one tSlR | apply t_one tIntR | apply t_one tBlks | apply t_part tBlk) <;> (first | (apply EvC.gv; exact rfl; (with_reducible first | exact Imp.refl _ | (apply Imp.left; exact Imp.refl _) | (apply Imp.right; exact Imp.refl _) | (apply Imp.left; apply Imp.left; exact Imp.refl _))) | (apply EvC.now; exact rfl) | exact rfl | (with_reducible exact EvAll.nil) | (focus (repeat (first | apply EvAll.cons | exact EvAll.nil | (apply EvC.gv; exact rfl; (with_reducible first | exact Imp.refl _ | (apply Imp.left; exact Imp.refl _) | (apply Imp.right; exact Imp.refl _) | (apply Imp.left; apply Imp.left; exact Imp.refl _))) | (apply EvC.now; exact rfl))); done) | exact ext_blk _ _ _ | (focus (repeat (first | apply List.Mem.head | apply List.Mem.tail | apply List.mem_append_right)))))); (simp only [List.set_cons_succ, List.set_cons_zero]; exact rfl))
    | ((with_reducible apply q_gd); (first | (apply GdBy.gt; exact rfl; exact rfl) | (apply GdBy.gf; exact rfl; exact rfl) | (apply GdBy.t; exact rfl; exact rfl) | (apply GdBy.f; exact rfl; exact rfl)); ((with_reducible apply t_num) <;> (first | (apply EvC.gv; exact rfl; (with_reducible first | exact Imp.refl _ | (apply Imp.left; exact Imp.refl _) | (apply Imp.right; exact Imp.refl _) | (apply Imp.left; apply Imp.left; exact Imp.refl _))) | (apply EvC.now; exact rfl) | exact rfl | (with_reducible exact EvAll.nil) | (focus (repeat (first | apply EvAll.cons | exact EvAll.nil | (apply EvC.gv; exact rfl; (with_reducible first | exact Imp.refl _ | (apply Imp.left; exact Imp.refl _) | (apply Imp.right; exact Imp.refl _) | (apply Imp.left; apply Imp.left; exact Imp.refl _))) | (apply EvC.now; exact rfl))); done) | exact ext_blk _ _ _ | (focus (repeat (first | apply List.Mem.head | apply List.Mem.tail | apply List.mem_append_right))))); (simp only [List.set_cons_succ, List.set_cons_zero]; exact rfl))
    | ((with_reducible apply wpT1_gpure); (first | (apply GdBy.gt; exact rfl; exact rfl) | (apply GdBy.gf; exact rfl; exact rfl) | (apply GdBy.t; exact rfl; exact rfl) | (apply GdBy.f; exact rfl; exact rfl)); intro K hK; go_simp; refine hK _ ?_; clear hK K; simp only [List.set_cons_succ, List.set_cons_zero])
    | ((with_reducible apply wpT1_pure); exact rfl; intro K hK; go_simp; refine hK _ ?_; clear hK K; simp only [List.set_cons_succ, List.set_cons_zero]))
        refine wpT_nil ?_
        clear hR; intro w hR
        go_upto_if 42 with fail
        cases hb2 : (decide (0 < bs.length) || decide (65535 < l.length))
        · refine wp_cond_at (nm := false) rfl (by simp only [Bool.or_eq_false_iff, decide_eq_false_iff_not] at hb2 ⊢; omega) (fun h => absurd h (by decide)) (fun _ => ?_)
          have HM3 := Lib.hid (show V = l.all (mayB n) by rw [HM2.out, hb2]; rfl)
          have hll : l.length ≤ 65535 := by simp only [Bool.or_eq_false_iff, decide_eq_false_iff_not] at hb2; omega
          clear hb2 HM2
          go_wp2_with (first
    | ((with_reducible apply q_ls hR); exact rfl; (with_reducible apply t_lenRd Try.underlying23); (apply EvC.now; exact rfl); exact hRd; (simp only [List.set_cons_succ, List.set_cons_zero]; exact rfl); clear hR; intro w hR)
    | ((with_reducible apply q_ls hR); exact rfl; ((with_reducible first | apply t_addr (fRec _ (by decide)) | apply t_addr (fBlk _ (by decide)) | apply t_one tByteR | apply t_one tSlR | apply t_one tIntR | apply t_one tBlks | apply t_part tBlk) <;> (first | (apply EvC.gv; exact rfl; (with_reducible first | exact Imp.refl _ | (apply Imp.left; exact Imp.refl _) | (apply Imp.right; exact Imp.refl _) | (apply Imp.left; apply Imp.left; exact Imp.refl _))) | (apply EvC.now; exact rfl) | exact rfl | (with_reducible exact EvAll.nil) | (focus (repeat (first | apply EvAll.cons | exact EvAll.nil | (apply EvC.gv; exact rfl; (with_reducible first | exact Imp.refl _ | (apply Imp.left; exact Imp.refl _) | (apply Imp.right; exact Imp.refl _) | (apply Imp.left; apply Imp.left; exact Imp.refl _))) | (apply EvC.now; exact rfl))); done) | exact ext_blk _ _ _ | (focus (repeat (first | apply List.Mem.head | apply List.Mem.tail | apply List.mem_append_right))))); (simp only [List.set_cons_succ, List.set_cons_zero]; exact rfl); clear hR; intro w hR))
          go_loopw [46] (fun i wr => ∃ k : Nat, i = .int .i64 k ∧ k ≤ l.length ∧ mayK n l k ∧ Own w0 wr [(g1, encK t v x, 25)]) (fun i _ => l.length - (intOf i).toNat)
          case atStart => exact ⟨0, rfl, Nat.zero_le _, by simp [mayK], hR⟩
          case round =>
            clear hR
            obtain ⟨k, rfl, hk, hall, hR⟩ := hrel
            go_upto_if 47 with (first
    | ((with_reducible apply q_ls hR); exact rfl; ((with_reducible first | apply t_addr (fRec _ (by decide)) | apply t_addr (fBlk _ (by decide)) | apply t_one tByteR | apply t_one tSlR | apply t_one tIntR | apply t_one tBlks | apply t_part tBlk) <;> (first | (apply EvC.gv; exact rfl; (with_reducible first | exact Imp.refl _ | (apply Imp.left; exact Imp.refl _) | (apply Imp.right; exact Imp.refl _) | (apply Imp.left; apply Imp.left; exact Imp.refl _))) | (apply EvC.now; exact rfl) | exact rfl | (with_reducible exact EvAll.nil) | (focus (repeat (first | apply EvAll.cons | exact EvAll.nil | (apply EvC.gv; exact rfl; (with_reducible first | exact Imp.refl _ | (apply Imp.left; exact Imp.refl _) | (apply Imp.right; exact Imp.refl _) | (apply Imp.left; apply Imp.left; exact Imp.refl _))) | (apply EvC.now; exact rfl))); done) | exact ext_blk _ _ _ | (focus (repeat (first | apply List.Mem.head | apply List.Mem.tail | apply List.mem_append_right))))); (simp only [List.set_cons_succ, List.set_cons_zero]; exact rfl); clear hR; intro w hR))
            by_cases hkl : k < l.length
            · refine wp_cond_at (nm := true) rfl (by simp; omega) (fun _ => ?_) (fun h => absurd h (by decide))
              obtain ⟨z, hz⟩ : ∃ z, l[k]? = some z := ⟨_, List.getElem?_eq_getElem hkl⟩
              obtain ⟨a, ha⟩ : ∃ a, ds[k]? = some a := ⟨_, List.getElem?_eq_getElem (by rw [hlen]; exact hkl)⟩
              have hza := hd k a z ha hz
              have hI3 := hza.isK
              have hel := hx.el cellsK_len ha
              rw [hlen] at hel
              obtain ⟨ad, cap, hxe0, hcell⟩ := hel
              have hxe := Lib.hid hxe0
              clear hxe0
              have HM4 := Lib.hid (show ∀ w, Own w0 w [(g1, encK t v x, 25)] → ∀ jj u, (encK a.t a.v a.x).toList[jj]? = some u → w.cell? ((ad.add ((k : Int).toNat * 3)).add jj) = some u from fun w hC => by
                rw [Int.toNat_natCast]
                rw [hxe.out] at hx
                exact (hx.own hC).cell cellsK_len ha)
              have hmo := all_more (f := mayB n) hz
              have hbd : mayB n z = false → l.all (mayB n) = false := all_bad hz
              rw [show (l.take k).all (mayB n) = true from hall, Bool.true_and] at hmo
              clear hcell ha hz hall
              go_upto_if 54 with (first
    | ((with_reducible apply q_ls hR); exact rfl; (with_reducible apply t_six Try.underlying23 iBlk); (apply EvC.now; exact congrArg some hxe.out); (apply EvC.now; exact rfl); (constructor <;> omega); (simp only [List.set_cons_succ, List.set_cons_zero]; exact rfl); clear hR; intro w hR)
    | ((with_reducible apply q_ls hR); exact rfl; (with_reducible apply t_manyW tBlk); (apply EvC.now; exact rfl); (exact HM4.out); exact rfl; (simp only [List.set_cons_succ, List.set_cons_zero]; exact rfl); clear hR; intro w hR)
    | ((with_reducible apply wpList_make hR zBlk); exact rfl; clear hR; intro g4 w hR; simp only [List.set_cons_succ, List.set_cons_zero])
    | ((with_reducible apply wpList_put hR tBlk); exact rfl; exact rfl; exact rfl; (focus (repeat (first | apply List.Mem.head | apply List.Mem.tail | apply List.mem_append_right))); exact put_blk _ rfl _ _ _; exact rfl; simp [encK]; exact one_blk _ hI3.1 hI3.2; (focus (repeat (first | apply Upd.head | apply Upd.tail))); clear hR; intro w hR)
    | ((with_reducible apply q_ls hR); exact rfl; (with_reducible apply t_numE); (apply EvC.now; exact rfl); (apply EvC.now; exact rfl); exact rfl; exact HSUB.out; (simp only [List.set_cons_succ, List.set_cons_zero]; exact rfl); clear hR; intro w hR)
    | (go_at_call 19; refine (IH.out z (by omega) a _ (hza.own hR)).mono ?_; rintro e w' ⟨rfl, hb⟩; replace hR := hR.grow hb; clear hb)
    | ((with_reducible apply q_ls hR); exact rfl; ((with_reducible first | apply t_addr (fRec _ (by decide)) | apply t_addr (fBlk _ (by decide)) | apply t_one tByteR | apply t_one tSlR | apply t_one tIntR | apply t_one tBlks | apply t_part tBlk) <;> (first | (apply EvC.gv; exact rfl; (with_reducible first | exact Imp.refl _ | (apply Imp.left; exact Imp.refl _) | (apply Imp.right; exact Imp.refl _) | (apply Imp.left; apply Imp.left; exact Imp.refl _))) | (apply EvC.now; exact rfl) | exact rfl | (with_reducible exact EvAll.nil) | (focus (repeat (first | apply EvAll.cons | exact EvAll.nil | (apply EvC.gv; exact rfl; (with_reducible first | exact Imp.refl _ | (apply Imp.left; exact Imp.refl _) | (apply Imp.right; exact Imp.refl _) | (apply Imp.left; apply Imp.left; exact Imp.refl _))) | (apply EvC.now; exact rfl))); done) | exact ext_blk _ _ _ | (focus (repeat (first | apply List.Mem.head | apply List.Mem.tail | apply List.mem_append_right))))); (simp only [List.set_cons_succ, List.set_cons_zero]; exact rfl); clear hR; intro w hR))
              cases hmz : mayB n z
              · refine wp_cond_at (nm := true) rfl (by simp [hmz]) (fun _ => ?_) (fun h => absurd h (by decide))
                have HE := Lib.hid (HM3.out.trans (hbd hmz))
                clear hmo hbd
                go_wp2_with fail
                go_ret
                rw [HE.out]
                exact ⟨rfl, hR.below⟩
              · refine wp_cond_at (nm := false) rfl (by simp [hmz]) (fun h => absurd h (by decide)) (fun _ => ?_)
                rw [hmz] at hmo
                clear hbd
                go_wp2_with fail
                go_round
                case rel => exact ⟨k + 1, rfl, by omega, hmo, hR.drop (List.Sublist.cons _ (List.Sublist.refl _))⟩
                case measure => simp [intOf]; omega
            · refine wp_cond_at (nm := false) rfl (by simp; omega) (fun h => absurd h (by decide)) (fun _ => ?_)
              obtain rfl : k = l.length := by omega
              unfold mayK at hall
              rw [List.take_length] at hall
              have HE := Lib.hid (HM3.out.trans hall)
              go_wp2_with fail
              go_ret
              rw [HE.out]
              exact ⟨rfl, hR.below⟩
        · refine wp_cond_at (nm := true) rfl (by simp only [Bool.or_eq_true, decide_eq_true_eq] at hb2 ⊢; omega) (fun _ => ?_) (fun h => absurd h (by decide))
          have HE := Lib.hid (show V = false by rw [HM2.out, hb2]; rfl)
          go_wp2_with fail
          go_ret
          rw [HE.out]
          exact ⟨rfl, hR.below⟩
    · refine wp_cond_at (nm := true) rfl (by unfold badB at hb; simp at hb ⊢; omega) (fun _ => ?_) (fun h => absurd h (by decide))
      have HE := Lib.hid (HV.out.symm.trans (may_bad bs l hb))
      go_wp2_with fail
      go_ret
      rw [HE.out]
      exact ⟨rfl, hR.below⟩
theorem itrMay_any {w0 : World} {d : BlkV} {z : BlkZ} (h : BlkAt w0 d z) :
    Calls Try.prog 10 #[.agg (encK d.t d.v d.x)] w0 fun e w' => e = .returned (.bool (mayB 8 z)) ∧ Below w0.heap.size w0 w' := by
  obtain ⟨hiv, hix⟩ := h.isK
  obtain ⟨t, v, x⟩ := d
  have hR := Own.start w0
  have HC := Lib.hid (fun (w : World) (l : List RowT) (hO : Own w0 w l) => imay_any 8 z (by decide) ⟨t, v, x⟩ w (h.own hO))
  dsimp only at HC ⊢
  go_enter Try.func10, Try.ntmps10
  go_wp2_with (first
    | ((with_reducible apply wpList_box hR); exact rfl; exact rfl; clear hR; intro g1 w hR; simp only [List.set_cons_succ, List.set_cons_zero])
    | (go_at_call 19; refine (HC.out _ _ hR).mono ?_; rintro e w' ⟨rfl, hb⟩; replace hR := hR.grow hb; clear hb)
    | ((with_reducible apply q_ls hR); exact rfl; ((with_reducible first | apply t_addr (fRec _ (by decide)) | apply t_addr (fBlk _ (by decide)) | apply t_one tByteR | apply t_one tSlR | apply t_one tIntR | apply t_one tBlks | apply t_part tBlk) <;> (first | (apply EvC.gv; exact rfl; (with_reducible first | exact Imp.refl _ | (apply Imp.left; exact Imp.refl _) | (apply Imp.right; exact Imp.refl _) | (apply Imp.left; apply Imp.left; exact Imp.refl _))) | (apply EvC.now; exact rfl) | exact rfl | (with_reducible exact EvAll.nil) | (focus (repeat (first | apply EvAll.cons | exact EvAll.nil | (apply EvC.gv; exact rfl; (with_reducible first | exact Imp.refl _ | (apply Imp.left; exact Imp.refl _) | (apply Imp.right; exact Imp.refl _) | (apply Imp.left; apply Imp.left; exact Imp.refl _))) | (apply EvC.now; exact rfl))); done) | exact ext_blk _ _ _ | (focus (repeat (first | apply List.Mem.head | apply List.Mem.tail | apply List.mem_append_right))))); (simp only [List.set_cons_succ, List.set_cons_zero]; exact rfl); clear hR; intro w hR))
  go_ret
  exact ⟨rfl, hR.below⟩
/-! ### Size -/
def timesZ (t : Int) (m : Nat) : Nat := if t ≤ 0 then 0 else if 65536 / t.toNat < m then 65537 else t.toNat * m
mutual
def sizeF : BlkZ → Nat
  | .mk t b [] => timesZ t b.length
  | .mk t _ (z :: l) => timesZ t (if 65536 < sizeF z then sizeF z else sumF l (sizeF z))
def sumF : List BlkZ → Nat → Nat
  | [], a => a
  | z :: l, a => if 65536 < a + sizeF z then a + sizeF z else sumF l (a + sizeF z)
end
def onceF (b : List Int) (l : List BlkZ) : Nat := if l.length = 0 then b.length else sumF l 0
theorem sizeF_mk (t : Int) (b : List Int) (l : List BlkZ) : sizeF (.mk t b l) = timesZ t (onceF b l) := by
  cases l with
  | nil => simp [sizeF, onceF]
  | cons z l => simp [sizeF, onceF, sumF]
theorem timesZ_le (t : Int) (m : Nat) : timesZ t m ≤ 65537 := by
  unfold timesZ
  split
  · omega
  · split
    · omega
    · rename_i h1 h2
      have h3 : m ≤ 65536 / t.toNat := by omega
      have h4 := Nat.mul_le_mul_left t.toNat h3
      have h5 := Nat.mul_div_le 65536 t.toNat
      omega
theorem sizeF_le (z : BlkZ) : sizeF z ≤ 65537 := by
  obtain ⟨t, b, l⟩ := z
  rw [sizeF_mk]
  exact timesZ_le _ _
theorem timesZ_min {t : Int} (ht : 1 ≤ t) (m : Nat) : timesZ t m = min (t.toNat * m) 65537 := by
  unfold timesZ
  rw [if_neg (by omega)]
  have hp : 0 < t.toNat := by omega
  split
  · rename_i h
    have := (Nat.div_lt_iff_lt_mul hp).1 h
    rw [Nat.mul_comm] at this
    omega
  · rename_i h
    have h3 : m ≤ 65536 / t.toNat := by omega
    have h4 := Nat.mul_le_mul_left t.toNat h3
    have h5 := Nat.mul_div_le 65536 t.toNat
    omega
theorem min_mul (t x : Nat) (ht : 1 ≤ t) : min (t * min x 65537) 65537 = min (t * x) 65537 := by
  rcases Nat.le_total x 65537 with h | h
  · rw [Nat.min_eq_left h]
  · rw [Nat.min_eq_right h]
    have h1 : 1 * 65537 ≤ t * 65537 := Nat.mul_le_mul_right _ ht
    have h2 := Nat.mul_le_mul_left t h
    omega
theorem sum_min {l : List BlkZ} (h : ∀ z ∈ l, sizeF z = min (spreadB z).length 65537) : ∀ (a : Nat), a ≤ 65536 → min (sumF l a) 65537 = min (a + (spreadL l).length) 65537 := by
  induction l with
  | nil => intro a ha; simp [sumF, spreadL]
  | cons z l ih =>
    intro a ha
    have h1 := h z (.head _)
    unfold sumF
    simp only [spreadL, List.length_append]
    split
    · omega
    · rw [ih (fun x hx => h x (.tail _ hx)) _ (by omega)]
      omega
theorem size_spread : ∀ (n : Nat) (z : BlkZ), mayB n z = true → sizeF z = min (spreadB z).length 65537
  | 0, _, h => by simp [mayB] at h
  | n + 1, .mk t b [], h => by
    obtain ⟨h1, h2, h3⟩ := may_leaf h
    rw [sizeF_mk, timesZ_min h1.1]
    simp only [spreadB, flat_rep, spreadL, List.append_nil, onceF]
    rfl
  | n + 1, .mk t b (z :: l), h => by
    obtain ⟨h1, h2, h3, h4, h5⟩ := may_node h
    have hs : ∀ x ∈ z :: l, sizeF x = min (spreadB x).length 65537 := fun x hx => by
      rcases List.mem_cons.1 hx with rfl | hx
      · exact size_spread n x h4
      · exact size_spread n x (h5 x hx)
    have h6 := sum_min hs 0 (by decide)
    rw [sizeF_mk, timesZ_min h1.1, ← min_mul _ _ (by omega)]
    rw [show onceF b (z :: l) = sumF (z :: l) 0 from if_neg (by simp), h6, Nat.zero_add, min_mul _ _ (by omega)]
    simp only [spreadB, flat_rep, h2, List.nil_append]
theorem sumF_more {l : List BlkZ} {k : Nat} {z : BlkZ} (h : l[k]? = some z) (a : Nat) : sumF (l.drop k) a = if 65536 < a + sizeF z then a + sizeF z else sumF (l.drop (k + 1)) (a + sizeF z) := by
  obtain ⟨hk, hz⟩ := List.getElem?_eq_some_iff.1 h
  rw [List.drop_eq_getElem_cons hk, hz, sumF]
theorem sumF_le : ∀ (l : List BlkZ) (a : Nat), a ≤ 65536 → sumF l a ≤ 131073
  | [], a, h => by unfold sumF; omega
  | z :: l, a, h => by
    have h1 := sizeF_le z
    unfold sumF
    split
    · omega
    · exact sumF_le l _ (by omega)
def sumIs (l : List BlkZ) (k a : Nat) : Prop := sumF l 0 = sumF (l.drop k) a ∧ a ≤ 65536
theorem quo_nat {t : Nat} (ht : 1 ≤ t) : IntKind.i64.wrap ((65536 : Int).tdiv (t : Int)) = ((65536 / t : Nat) : Int) := by
  rw [quo_in (by decide) (by decide) (by omega)]
  rfl
set_option maxHeartbeats 4000000 in
set_option maxRecDepth 100000 in
theorem ionce_any (n : Nat) (IH0 : ∀ (z : BlkZ), dpB n z → ∀ (L : Nat), n ≤ L → L ≤ 65536 → ∀ (d : BlkV) (w0 : World), BlkAt w0 d z →
    Calls Try.prog 20 #[.agg (encK d.t d.v d.x), .int .i64 (L : Int)] w0 fun e w' => e = .returned (.int .i64 ((sizeF z : Nat) : Int)) ∧ Below w0.heap.size w0 w') {t : Int} {v x : Value} {bs : List Int} {l : List BlkZ} (hlm : l.length ≤ 65535) (hdp : ∀ z ∈ l, dpB n z) (L : Nat) (hnL : n + 1 ≤ L) (hL : L ≤ 65536) (w0 : World) (hB : BlkAt w0 ⟨t, v, x⟩ (.mk t bs l)) :
    Calls Try.prog 34 #[.agg (encK t v x), .int .i64 (L : Int)] w0 fun e w' => e = .returned (.int .i64 ((onceF bs l : Nat) : Int)) ∧ Below w0.heap.size w0 w' := by
  obtain @⟨_, _, _, _, ds, _, ht, hv, hm, hx, hlen, hd⟩ := hB
  have IH := Lib.hid IH0
  clear IH0
  have hRd : Rd w0 3 x l.length (ds.flatMap cellsK) := by rw [← hlen]; exact hx
  have HSUB := Lib.hid (show IntKind.i64.wrap ((L : Int) - 1) = ((L - 1 : Nat) : Int) by rw [IntWalk.i64_in _ (by omega)]; omega)
  obtain ⟨V, hVe⟩ : ∃ V, onceF bs l = V := ⟨_, rfl⟩
  rw [hVe]
  have HV := Lib.hid hVe
  clear hVe
  have hR := Own.start w0
  go_enter Try.func34, Try.ntmps34
  go_upto_if 11 with (first
    | ((with_reducible apply wpList_box hR); exact rfl; exact rfl; clear hR; intro g1 w hR; simp only [List.set_cons_succ, List.set_cons_zero])
    | ((with_reducible apply q_ls hR); exact rfl; (with_reducible apply t_lenRd Try.underlying23); (apply EvC.now; exact rfl); exact hRd; (simp only [List.set_cons_succ, List.set_cons_zero]; exact rfl); clear hR; intro w hR)
    | ((with_reducible apply q_ls hR); exact rfl; ((with_reducible first | apply t_addr (fRec _ (by decide)) | apply t_addr (fBlk _ (by decide)) | apply t_one tByteR | apply t_one tSlR | apply t_one tIntR | apply t_one tBlks | apply t_part tBlk) <;> (first | (apply EvC.gv; exact rfl; (with_reducible first | exact Imp.refl _ | (apply Imp.left; exact Imp.refl _) | (apply Imp.right; exact Imp.refl _) | (apply Imp.left; apply Imp.left; exact Imp.refl _))) | (apply EvC.now; exact rfl) | exact rfl | (with_reducible exact EvAll.nil) | (focus (repeat (first | apply EvAll.cons | exact EvAll.nil | (apply EvC.gv; exact rfl; (with_reducible first | exact Imp.refl _ | (apply Imp.left; exact Imp.refl _) | (apply Imp.right; exact Imp.refl _) | (apply Imp.left; apply Imp.left; exact Imp.refl _))) | (apply EvC.now; exact rfl))); done) | exact ext_blk _ _ _ | (focus (repeat (first | apply List.Mem.head | apply List.Mem.tail | apply List.mem_append_right))))); (simp only [List.set_cons_succ, List.set_cons_zero]; exact rfl); clear hR; intro w hR))
  by_cases hl0 : l.length = 0
  · refine wp_cond_at (nm := true) rfl (by simp [hl0]) (fun _ => ?_) (fun h => absurd h (by decide))
    have HE := Lib.hid (HV.out.symm.trans (if_pos hl0))
    go_wp2_with (first
    | ((with_reducible apply q_ls hR); exact rfl; (with_reducible apply t_lenW Try.underlying22); (apply EvC.now; exact rfl); exact hv; (simp only [List.set_cons_succ, List.set_cons_zero]; exact rfl); clear hR; intro w hR)
    | ((with_reducible apply q_ls hR); exact rfl; ((with_reducible first | apply t_addr (fRec _ (by decide)) | apply t_addr (fBlk _ (by decide)) | apply t_one tByteR | apply t_one tSlR | apply t_one tIntR | apply t_one tBlks | apply t_part tBlk) <;> (first | (apply EvC.gv; exact rfl; (with_reducible first | exact Imp.refl _ | (apply Imp.left; exact Imp.refl _) | (apply Imp.right; exact Imp.refl _) | (apply Imp.left; apply Imp.left; exact Imp.refl _))) | (apply EvC.now; exact rfl) | exact rfl | (with_reducible exact EvAll.nil) | (focus (repeat (first | apply EvAll.cons | exact EvAll.nil | (apply EvC.gv; exact rfl; (with_reducible first | exact Imp.refl _ | (apply Imp.left; exact Imp.refl _) | (apply Imp.right; exact Imp.refl _) | (apply Imp.left; apply Imp.left; exact Imp.refl _))) | (apply EvC.now; exact rfl))); done) | exact ext_blk _ _ _ | (focus (repeat (first | apply List.Mem.head | apply List.Mem.tail | apply List.mem_append_right))))); (simp only [List.set_cons_succ, List.set_cons_zero]; exact rfl); clear hR; intro w hR))
    go_ret
    rw [HE.out]
    exact ⟨rfl, hR.below⟩
  · refine wp_cond_at (nm := false) rfl (by simp [hl0]) (fun h => absurd h (by decide)) (fun _ => ?_)
    have HE := Lib.hid (HV.out.symm.trans (if_neg hl0))
    go_wp2_with (first
    | ((with_reducible apply q_ls hR); exact rfl; (with_reducible apply t_lenRd Try.underlying23); (apply EvC.now; exact rfl); exact hRd; (simp only [List.set_cons_succ, List.set_cons_zero]; exact rfl); clear hR; intro w hR)
    | ((with_reducible apply q_ls hR); exact rfl; ((with_reducible first | apply t_addr (fRec _ (by decide)) | apply t_addr (fBlk _ (by decide)) | apply t_one tByteR | apply t_one tSlR | apply t_one tIntR | apply t_one tBlks | apply t_part tBlk) <;> (first | (apply EvC.gv; exact rfl; (with_reducible first | exact Imp.refl _ | (apply Imp.left; exact Imp.refl _) | (apply Imp.right; exact Imp.refl _) | (apply Imp.left; apply Imp.left; exact Imp.refl _))) | (apply EvC.now; exact rfl) | exact rfl | (with_reducible exact EvAll.nil) | (focus (repeat (first | apply EvAll.cons | exact EvAll.nil | (apply EvC.gv; exact rfl; (with_reducible first | exact Imp.refl _ | (apply Imp.left; exact Imp.refl _) | (apply Imp.right; exact Imp.refl _) | (apply Imp.left; apply Imp.left; exact Imp.refl _))) | (apply EvC.now; exact rfl))); done) | exact ext_blk _ _ _ | (focus (repeat (first | apply List.Mem.head | apply List.Mem.tail | apply List.mem_append_right))))); (simp only [List.set_cons_succ, List.set_cons_zero]; exact rfl); clear hR; intro w hR))
    go_loopw [5, 18] (fun s i wr => ∃ (k a : Nat), i = .int .i64 k ∧ s = .int .i64 a ∧ k ≤ l.length ∧ sumIs l k a ∧ Own w0 wr [(g1, encK t v x, 25)]) (fun _ i _ => l.length - (intOf i).toNat)
    case atStart => exact ⟨0, 0, rfl, rfl, Nat.zero_le _, ⟨rfl, by decide⟩, hR⟩
    case round =>
      clear hR
      obtain ⟨k, a0, rfl, rfl, hk, hsum, hR⟩ := hrel
      go_upto_if 19 with (first
    | ((with_reducible apply q_ls hR); exact rfl; ((with_reducible first | apply t_addr (fRec _ (by decide)) | apply t_addr (fBlk _ (by decide)) | apply t_one tByteR | apply t_one tSlR | apply t_one tIntR | apply t_one tBlks | apply t_part tBlk) <;> (first | (apply EvC.gv; exact rfl; (with_reducible first | exact Imp.refl _ | (apply Imp.left; exact Imp.refl _) | (apply Imp.right; exact Imp.refl _) | (apply Imp.left; apply Imp.left; exact Imp.refl _))) | (apply EvC.now; exact rfl) | exact rfl | (with_reducible exact EvAll.nil) | (focus (repeat (first | apply EvAll.cons | exact EvAll.nil | (apply EvC.gv; exact rfl; (with_reducible first | exact Imp.refl _ | (apply Imp.left; exact Imp.refl _) | (apply Imp.right; exact Imp.refl _) | (apply Imp.left; apply Imp.left; exact Imp.refl _))) | (apply EvC.now; exact rfl))); done) | exact ext_blk _ _ _ | (focus (repeat (first | apply List.Mem.head | apply List.Mem.tail | apply List.mem_append_right))))); (simp only [List.set_cons_succ, List.set_cons_zero]; exact rfl); clear hR; intro w hR))
      by_cases hkl : k < l.length
      · refine wp_cond_at (nm := true) rfl (by simp; omega) (fun _ => ?_) (fun h => absurd h (by decide))
        obtain ⟨z, hz⟩ : ∃ z, l[k]? = some z := ⟨_, List.getElem?_eq_getElem hkl⟩
        obtain ⟨a, ha⟩ : ∃ a, ds[k]? = some a := ⟨_, List.getElem?_eq_getElem (by rw [hlen]; exact hkl)⟩
        have hza := hd k a z ha hz
        have hI3 := hza.isK
        have hel := hx.el cellsK_len ha
        rw [hlen] at hel
        obtain ⟨ad, cap, hxe0, hcell⟩ := hel
        have hxe := Lib.hid hxe0
        clear hxe0
        have HM4 := Lib.hid (show ∀ w, Own w0 w [(g1, encK t v x, 25)] → ∀ jj u, (encK a.t a.v a.x).toList[jj]? = some u → w.cell? ((ad.add ((k : Int).toNat * 3)).add jj) = some u from fun w hC => by
          rw [Int.toNat_natCast]
          rw [hxe.out] at hx
          exact (hx.own hC).cell cellsK_len ha)
        have hzd := hdp z (List.mem_of_getElem? hz)
        obtain ⟨s, hs⟩ : ∃ s, sizeF z = s := ⟨_, rfl⟩
        have hsl : s ≤ 65537 := by rw [← hs]; exact sizeF_le z
        have hal := hsum.2
        have HS := Lib.hid (hsum.1.trans (sumF_more hz a0))
        rw [hs] at HS
        have HC := Lib.hid (fun (w : World) (r : List RowT) (hO : Own w0 w r) => IH.out z hzd (L - 1) (by omega) (by omega) a w (hza.own hO))
        rw [hs] at HC
        have HADD := Lib.hid (show IntKind.i64.wrap ((a0 : Int) + (s : Int)) = ((a0 + s : Nat) : Int) by rw [IntWalk.i64_in _ (by omega)]; omega)
        clear hcell ha hz hs hsum
        go_upto_if 29 with (first
    | ((with_reducible apply q_ls hR); exact rfl; (with_reducible apply t_six Try.underlying23 iBlk); (apply EvC.now; exact congrArg some hxe.out); (apply EvC.now; exact rfl); (constructor <;> omega); (simp only [List.set_cons_succ, List.set_cons_zero]; exact rfl); clear hR; intro w hR)
    | ((with_reducible apply q_ls hR); exact rfl; (with_reducible apply t_manyW tBlk); (apply EvC.now; exact rfl); (exact HM4.out); exact rfl; (simp only [List.set_cons_succ, List.set_cons_zero]; exact rfl); clear hR; intro w hR)
    | ((with_reducible apply wpList_make hR zBlk); exact rfl; clear hR; intro g4 w hR; simp only [List.set_cons_succ, List.set_cons_zero])
    | ((with_reducible apply wpList_put hR tBlk); exact rfl; exact rfl; exact rfl; (focus (repeat (first | apply List.Mem.head | apply List.Mem.tail | apply List.mem_append_right))); exact put_blk _ rfl _ _ _; exact rfl; simp [encK]; exact one_blk _ hI3.1 hI3.2; (focus (repeat (first | apply Upd.head | apply Upd.tail))); clear hR; intro w hR)
    | ((with_reducible apply q_ls hR); exact rfl; (with_reducible apply t_numE); (apply EvC.now; exact rfl); (apply EvC.now; exact rfl); exact rfl; (with_reducible first | exact HSUB.out | exact HADD.out); (simp only [List.set_cons_succ, List.set_cons_zero]; exact rfl); clear hR; intro w hR)
    | (go_at_call 20; refine (HC.out _ _ hR).mono ?_; rintro e w' ⟨rfl, hb⟩; replace hR := hR.grow hb; clear hb)
    | ((with_reducible apply q_ls hR); exact rfl; ((with_reducible first | apply t_addr (fRec _ (by decide)) | apply t_addr (fBlk _ (by decide)) | apply t_one tByteR | apply t_one tSlR | apply t_one tIntR | apply t_one tBlks | apply t_part tBlk) <;> (first | (apply EvC.gv; exact rfl; (with_reducible first | exact Imp.refl _ | (apply Imp.left; exact Imp.refl _) | (apply Imp.right; exact Imp.refl _) | (apply Imp.left; apply Imp.left; exact Imp.refl _))) | (apply EvC.now; exact rfl) | exact rfl | (with_reducible exact EvAll.nil) | (focus (repeat (first | apply EvAll.cons | exact EvAll.nil | (apply EvC.gv; exact rfl; (with_reducible first | exact Imp.refl _ | (apply Imp.left; exact Imp.refl _) | (apply Imp.right; exact Imp.refl _) | (apply Imp.left; apply Imp.left; exact Imp.refl _))) | (apply EvC.now; exact rfl))); done) | exact ext_blk _ _ _ | (focus (repeat (first | apply List.Mem.head | apply List.Mem.tail | apply List.mem_append_right))))); (simp only [List.set_cons_succ, List.set_cons_zero]; exact rfl); clear hR; intro w hR))
        by_cases hgt : 65536 < a0 + s
        · refine wp_cond_at (nm := true) rfl (by simp; omega) (fun _ => ?_) (fun h => absurd h (by decide))
          have HF := Lib.hid (HE.out.trans (HS.out.trans (if_pos hgt)))
          go_wp2_with fail
          go_ret
          rw [HF.out]
          exact ⟨rfl, hR.below⟩
        · refine wp_cond_at (nm := false) rfl (by simp; omega) (fun h => absurd h (by decide)) (fun _ => ?_)
          have hsum2 : sumIs l (k + 1) (a0 + s) := ⟨HS.out.trans (if_neg hgt), by omega⟩
          go_wp2_with fail
          go_round
          case rel => exact ⟨k + 1, a0 + s, rfl, rfl, by omega, hsum2, hR.drop (List.Sublist.cons _ (List.Sublist.refl _))⟩
          case measure => simp [intOf]; omega
      · refine wp_cond_at (nm := false) rfl (by simp; omega) (fun h => absurd h (by decide)) (fun _ => ?_)
        obtain rfl : k = l.length := by omega
        have h1 := hsum.1
        rw [List.drop_length] at h1
        have HF := Lib.hid (HE.out.trans h1)
        go_wp2_with fail
        go_ret
        rw [HF.out]
        exact ⟨rfl, hR.below⟩
set_option maxHeartbeats 4000000 in
set_option maxRecDepth 100000 in
theorem isize_any : ∀ (n : Nat) (z : BlkZ), dpB n z → ∀ (L : Nat), n ≤ L → L ≤ 65536 → ∀ (d : BlkV) (w0 : World), BlkAt w0 d z →
    Calls Try.prog 20 #[.agg (encK d.t d.v d.x), .int .i64 (L : Int)] w0 fun e w' => e = .returned (.int .i64 ((sizeF z : Nat) : Int)) ∧ Below w0.heap.size w0 w' := by
  intro n
  induction n with
  | zero => intro z h; exact h.elim
  | succ n IH =>
    intro z hdp L hnL hL d w0 hB
    have hIs := hB.isK
    have hB0 := hB
    obtain @⟨t, v, x, bs, ds, l, ht, hv, hm, hx, hlen, hd⟩ := hB
    have HON := Lib.hid (fun (w : World) (r : List RowT) (hO : Own w0 w r) => ionce_any n IH hdp.1 hdp.2 L hnL hL w (hB0.own hO))
    clear hB0 IH
    have hbm : bs.length ≤ 9223372036854775807 := by unfold maxLen at hm; omega
    obtain ⟨V, hVe⟩ : ∃ V, sizeF (.mk t bs l) = V := ⟨_, rfl⟩
    rw [hVe]
    have HV := Lib.hid (hVe.symm.trans (sizeF_mk t bs l))
    clear hVe
    obtain ⟨m, hme⟩ : ∃ m, onceF bs l = m := ⟨_, rfl⟩
    rw [hme] at HV HON
    have hmm : m ≤ 9223372036854775807 := by
      rw [← hme]
      unfold onceF
      split
      · exact hbm
      · exact Nat.le_trans (sumF_le l 0 (by decide)) (by decide)
    have hR := Own.start w0
    dsimp only at hIs ⊢
    go_enter Try.func20, Try.ntmps20
    go_upto_region 1 with (first
    | ((with_reducible apply wpList_box hR); exact rfl; exact rfl; clear hR; intro g1 w hR; simp only [List.set_cons_succ, List.set_cons_zero]))
    refine wp_region_tame hR [0, 1, 2, 3, 4, 5, 6] rfl ?_
    repeat (refine wpT_step rfl ?_; first
    | ((first | (with_reducible apply q_pl) | ((with_reducible apply q_gd); (first | (apply GdBy.gt; exact rfl; exact rfl) | (apply GdBy.gf; exact rfl; exact rfl) | (apply GdBy.t; exact rfl; exact rfl) | (apply GdBy.f; exact rfl; exact rfl)))); (first | ((with_reducible first | apply t_move | apply t_assign | apply t_and | apply t_or | apply t_cmp | apply t_not | apply t_addr (fRec _ (by decide)) | apply t_addr (fBlk _ (by decide)) | apply t_one tByteR | apply t_one tSlR | apply t_one tIntR | apply t_one tBlks | apply t_part tBlk) <;> (first | (apply EvC.gv; exact rfl; (with_reducible first | exact Imp.refl _ | (apply Imp.left; exact Imp.refl _) | (apply Imp.right; exact Imp.refl _) | (apply Imp.left; apply Imp.left; exact Imp.refl _))) | (apply EvC.now; exact rfl) | exact rfl | (with_reducible exact EvAll.nil) | (focus (repeat (first | apply EvAll.cons | exact EvAll.nil | (apply EvC.gv; exact rfl; (with_reducible first | exact Imp.refl _ | (apply Imp.left; exact Imp.refl _) | (apply Imp.right; exact Imp.refl _) | (apply Imp.left; apply Imp.left; exact Imp.refl _))) | (apply EvC.now; exact rfl))); done) | exact ext_blk _ _ _ | (focus (repeat (first | apply List.Mem.head | apply List.Mem.tail | apply List.mem_append_right)))))); (simp only [List.set_cons_succ, List.set_cons_zero]; exact rfl))
    | ((with_reducible apply q_gd); (first | (apply GdBy.gt; exact rfl; exact rfl) | (apply GdBy.gf; exact rfl; exact rfl) | (apply GdBy.t; exact rfl; exact rfl) | (apply GdBy.f; exact rfl; exact rfl)); ((with_reducible apply t_num) <;> (first | (apply EvC.gv; exact rfl; (with_reducible first | exact Imp.refl _ | (apply Imp.left; exact Imp.refl _) | (apply Imp.right; exact Imp.refl _) | (apply Imp.left; apply Imp.left; exact Imp.refl _))) | (apply EvC.now; exact rfl) | exact rfl | (with_reducible exact EvAll.nil) | (focus (repeat (first | apply EvAll.cons | exact EvAll.nil | (apply EvC.gv; exact rfl; (with_reducible first | exact Imp.refl _ | (apply Imp.left; exact Imp.refl _) | (apply Imp.right; exact Imp.refl _) | (apply Imp.left; apply Imp.left; exact Imp.refl _))) | (apply EvC.now; exact rfl))); done) | exact ext_blk _ _ _ | (focus (repeat (first | apply List.Mem.head | apply List.Mem.tail | apply List.mem_append_right))))); (simp only [List.set_cons_succ, List.set_cons_zero]; exact rfl))
    | ((with_reducible apply wpT1_gpure); (first | (apply GdBy.gt; exact rfl; exact rfl) | (apply GdBy.gf; exact rfl; exact rfl) | (apply GdBy.t; exact rfl; exact rfl) | (apply GdBy.f; exact rfl; exact rfl)); intro K hK; go_simp; refine hK _ ?_; clear hK K; simp only [List.set_cons_succ, List.set_cons_zero])
    | ((with_reducible apply wpT1_pure); exact rfl; intro K hK; go_simp; refine hK _ ?_; clear hK K; simp only [List.set_cons_succ, List.set_cons_zero]))
    refine wpT_nil ?_
    clear hR; intro w hR
    go_upto_if 12 with fail
    by_cases ht0 : t ≤ 0
    · refine wp_cond_at (nm := true) rfl (by simp; omega) (fun _ => ?_) (fun h => absurd h (by decide))
      have HE := Lib.hid (HV.out.trans (if_pos ht0))
      go_wp2_with fail
      go_ret
      rw [HE.out]
      exact ⟨rfl, hR.below⟩
    · refine wp_cond_at (nm := false) rfl (by simp; omega) (fun h => absurd h (by decide)) (fun _ => ?_)
      obtain ⟨u, rfl⟩ : ∃ u : Nat, t = u := Int.eq_ofNat_of_zero_le (by omega)
      have hu : 1 ≤ u := by omega
      obtain ⟨q, hq⟩ : ∃ q, 65536 / u = q := ⟨_, rfl⟩
      have hq65 : q ≤ 65536 := by rw [← hq]; exact Nat.div_le_self _ _
      have HQ := Lib.hid (quo_nat hu)
      rw [hq] at HQ
      have HE := Lib.hid (show V = if q < m then 65537 else u * m by
        rw [HV.out]
        unfold timesZ
        rw [if_neg ht0, Int.toNat_natCast, hq])
      have hmul : ¬ q < m → u * m ≤ 65536 := fun h => by
        have h4 := Nat.mul_le_mul_left u (show m ≤ 65536 / u by omega)
        have h5 := Nat.mul_div_le 65536 u
        omega
      clear hq
      go_upto_if 20 with (first
    | (go_at_call 34; refine (HON.out _ _ hR).mono ?_; rintro e w' ⟨rfl, hb⟩; replace hR := hR.grow hb; clear hb)
    | ((with_reducible apply q_ls hR); exact rfl; (with_reducible apply t_quo); (apply EvC.now; exact rfl); (apply EvC.now; exact rfl); omega; exact HQ.out; (simp only [List.set_cons_succ, List.set_cons_zero]; exact rfl); clear hR; intro w hR)
    | ((with_reducible apply q_ls hR); exact rfl; ((with_reducible first | apply t_addr (fRec _ (by decide)) | apply t_addr (fBlk _ (by decide)) | apply t_one tByteR | apply t_one tSlR | apply t_one tIntR | apply t_one tBlks | apply t_part tBlk) <;> (first | (apply EvC.gv; exact rfl; (with_reducible first | exact Imp.refl _ | (apply Imp.left; exact Imp.refl _) | (apply Imp.right; exact Imp.refl _) | (apply Imp.left; apply Imp.left; exact Imp.refl _))) | (apply EvC.now; exact rfl) | exact rfl | (with_reducible exact EvAll.nil) | (focus (repeat (first | apply EvAll.cons | exact EvAll.nil | (apply EvC.gv; exact rfl; (with_reducible first | exact Imp.refl _ | (apply Imp.left; exact Imp.refl _) | (apply Imp.right; exact Imp.refl _) | (apply Imp.left; apply Imp.left; exact Imp.refl _))) | (apply EvC.now; exact rfl))); done) | exact ext_blk _ _ _ | (focus (repeat (first | apply List.Mem.head | apply List.Mem.tail | apply List.mem_append_right))))); (simp only [List.set_cons_succ, List.set_cons_zero]; exact rfl); clear hR; intro w hR))
      by_cases hgt : q < m
      · refine wp_cond_at (nm := true) rfl (by simp; omega) (fun _ => ?_) (fun h => absurd h (by decide))
        have HF := Lib.hid (HE.out.trans (if_pos hgt))
        clear hmul
        go_wp2_with fail
        go_ret
        rw [HF.out]
        exact ⟨rfl, hR.below⟩
      · refine wp_cond_at (nm := false) rfl (by simp; omega) (fun h => absurd h (by decide)) (fun _ => ?_)
        have HF := Lib.hid (HE.out.trans (if_neg hgt))
        have hml := hmul hgt
        obtain ⟨y, hy⟩ : ∃ y, u * m = y := ⟨_, rfl⟩
        rw [hy] at HF hml
        have HM := Lib.hid (show IntKind.i64.wrap ((u : Int) * (m : Int)) = ((y : Nat) : Int) by rw [← Int.natCast_mul, hy]; exact IntWalk.i64_in _ (by omega))
        clear hmul hy
        go_wp2_with (first
    | ((with_reducible apply q_ls hR); exact rfl; (with_reducible apply t_numE (op := .mul)); (apply EvC.now; exact rfl); (apply EvC.now; exact rfl); exact rfl; exact HM.out; (simp only [List.set_cons_succ, List.set_cons_zero]; exact rfl); clear hR; intro w hR)
    | ((with_reducible apply q_ls hR); exact rfl; ((with_reducible first | apply t_addr (fRec _ (by decide)) | apply t_addr (fBlk _ (by decide)) | apply t_one tByteR | apply t_one tSlR | apply t_one tIntR | apply t_one tBlks | apply t_part tBlk) <;> (first | (apply EvC.gv; exact rfl; (with_reducible first | exact Imp.refl _ | (apply Imp.left; exact Imp.refl _) | (apply Imp.right; exact Imp.refl _) | (apply Imp.left; apply Imp.left; exact Imp.refl _))) | (apply EvC.now; exact rfl) | exact rfl | (with_reducible exact EvAll.nil) | (focus (repeat (first | apply EvAll.cons | exact EvAll.nil | (apply EvC.gv; exact rfl; (with_reducible first | exact Imp.refl _ | (apply Imp.left; exact Imp.refl _) | (apply Imp.right; exact Imp.refl _) | (apply Imp.left; apply Imp.left; exact Imp.refl _))) | (apply EvC.now; exact rfl))); done) | exact ext_blk _ _ _ | (focus (repeat (first | apply List.Mem.head | apply List.Mem.tail | apply List.mem_append_right))))); (simp only [List.set_cons_succ, List.set_cons_zero]; exact rfl); clear hR; intro w hR))
        go_ret
        rw [HF.out]
        exact ⟨rfl, hR.below⟩
theorem dp_more : ∀ {n : Nat} {z : BlkZ}, dpB n z → dpB (n + 1) z
  | 0, _, h => h.elim
  | n + 1, .mk _ _ l, h => ⟨h.1, fun z hz => dp_more (h.2 z hz)⟩
theorem itrSizeF_any {w0 : World} {d : BlkV} {z : BlkZ} (h : BlkAt w0 d z) (hf : dpB 17 z) :
    Calls Try.prog 11 #[.agg (encK d.t d.v d.x)] w0 fun e w' => e = .returned (.int .i64 ((sizeF z : Nat) : Int)) ∧ Below w0.heap.size w0 w' := by
  obtain ⟨hiv, hix⟩ := h.isK
  obtain ⟨t, v, x⟩ := d
  have hR := Own.start w0
  have HC := Lib.hid (fun (w : World) (l : List RowT) (hO : Own w0 w l) => isize_any 17 z hf 65536 (by decide) (by decide) ⟨t, v, x⟩ w (h.own hO))
  dsimp only at HC ⊢
  go_enter Try.func11, Try.ntmps11
  go_wp2_with (first
    | ((with_reducible apply wpList_box hR); exact rfl; exact rfl; clear hR; intro g1 w hR; simp only [List.set_cons_succ, List.set_cons_zero])
    | (go_at_call 20; refine (HC.out _ _ hR).mono ?_; rintro e w' ⟨rfl, hb⟩; replace hR := hR.grow hb; clear hb)
    | ((with_reducible apply q_ls hR); exact rfl; ((with_reducible first | apply t_addr (fRec _ (by decide)) | apply t_addr (fBlk _ (by decide)) | apply t_one tByteR | apply t_one tSlR | apply t_one tIntR | apply t_one tBlks | apply t_part tBlk) <;> (first | (apply EvC.gv; exact rfl; (with_reducible first | exact Imp.refl _ | (apply Imp.left; exact Imp.refl _) | (apply Imp.right; exact Imp.refl _) | (apply Imp.left; apply Imp.left; exact Imp.refl _))) | (apply EvC.now; exact rfl) | exact rfl | (with_reducible exact EvAll.nil) | (focus (repeat (first | apply EvAll.cons | exact EvAll.nil | (apply EvC.gv; exact rfl; (with_reducible first | exact Imp.refl _ | (apply Imp.left; exact Imp.refl _) | (apply Imp.right; exact Imp.refl _) | (apply Imp.left; apply Imp.left; exact Imp.refl _))) | (apply EvC.now; exact rfl))); done) | exact ext_blk _ _ _ | (focus (repeat (first | apply List.Mem.head | apply List.Mem.tail | apply List.mem_append_right))))); (simp only [List.set_cons_succ, List.set_cons_zero]; exact rfl); clear hR; intro w hR))
  go_ret
  exact ⟨rfl, hR.below⟩
theorem itrSize_any {w : World} {d : BlkV} {z : BlkZ} (h : BlkAt w d z) (hm : mayB 8 z = true) :
    Calls Try.prog 11 #[.agg (encK d.t d.v d.x)] w fun e w' => e = .returned (.int .i64 ((min (spreadB z).length 65537 : Nat) : Int)) ∧ Below w.heap.size w w' := by
  have := itrSizeF_any h (fit_dp (fit_up (show 8 ≤ 17 by decide) (may_fit hm)))
  rwa [size_spread 8 z hm] at this
/-! ### A word -/
theorem iword_any (n : Nat) (hn : n ≤ 65535) (w0 : World) : Calls Try.prog 35 #[.int .i64 (n : Int)] w0 fun e w' => e = .returned (.int .u16 (n : Int)) ∧ Below w0.heap.size w0 w' := by
  have HA := Lib.hid (show (if (65535 : Int) < (n : Int) then (65535 : Int) else (n : Int)) = (n : Int) from if_neg (by omega))
  have HB := Lib.hid (show (if (0 : Int) < (n : Int) then (n : Int) else 0) = (n : Int) by split <;> omega)
  have HC := Lib.hid (show IntKind.u16.wrap (n : Int) = (n : Int) from IntWalk.u16_in _ (by omega))
  have hR := Own.start w0
  go_enter Try.func35, Try.ntmps35
  go_wp2_with (first
    | ((with_reducible apply q_ls hR); exact rfl; (with_reducible apply t_minK); (apply EvC.now; exact rfl); (apply EvC.now; exact rfl); exact HA.out; (simp only [List.set_cons_succ, List.set_cons_zero]; exact rfl); clear hR; intro w hR)
    | ((with_reducible apply q_ls hR); exact rfl; (with_reducible apply t_maxK); (apply EvC.now; exact rfl); (apply EvC.now; exact rfl); exact HB.out; (simp only [List.set_cons_succ, List.set_cons_zero]; exact rfl); clear hR; intro w hR)
    | ((with_reducible apply q_ls hR); exact rfl; (with_reducible apply t_conv Try.underlying3 Try.underlying35); (apply EvC.now; exact rfl); exact HC.out; (simp only [List.set_cons_succ, List.set_cons_zero]; exact rfl); clear hR; intro w hR))
  go_ret
  exact ⟨rfl, hR.below⟩
end Go.Proofs.Ytalgadinoaeihaa
