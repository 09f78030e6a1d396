






/- Contracts of package long, quotients with signs: each returns what plain arithmetic gives. No statement of the seat is proved here. -/
import Derived.Test.YtpkobahelnopmaaLongQ
namespace Go.Proofs.Ytpkobahelnopmaa
open Go.ChangeShapes Go.WideShapes Go.ChangeAt Go.RowKit
set_option linter.unusedVariables false
set_option linter.unusedSimpArgs false

theorem cut_wrap (wide : Bool) (q : Int) : IntKind.u16.wrap q % oneZ wide = q % oneZ wide := by
  rw [IntKind.wrap_u16]
  cases wide
  · show q % 65536 % 256 = q % 256; omega
  · show q % 65536 % 65536 = q % 65536; omega
theorem divS_t (v : Int) (b : Nat) (w : World) (hv : 0 ≤ v ∧ v < oneZ true * oneZ true) (hb : b ≤ 65535) (h0 : wholeZ true true b ≠ 0) :
    Calls Try.prog 23 #[.int .u32 v, .int .u16 b, .bool true] w fun e w' => e = .returned (.tuple #[.int .u16 (divQ true true (sgA true v) (wholeZ true true b)), .int .u16 (divR true true (sgA true v) (wholeZ true true b)), .bool (divOk true true (sgA true v) (wholeZ true true b))]) ∧ Below w.heap.size w w' := by
  have hR := Own.start w
  have hv' : 0 ≤ v ∧ v ≤ 4294967295 := by have h : 0 ≤ v ∧ v < (65536 * 65536 : Int) := hv; omega
  have hA := sgA_bd true hv
  have hW := ok_ways true true (sgA true v) (wholeZ true true b)
  have hB := whole_bd true true hb
  have EA : Hid (wrap64 (wrap32 v) = sgA true v) := Lib.hid (by rw [← sgA_t hv, w32]; unfold wrap64; unfold wrap32; omega)
  unfold divQ divR
  generalize sgA true v = A at *
  generalize hBe : wholeZ true true b = B at *
  have hq := tdiv_bd (b := B) hA
  have hr := tmod_bd (b := B) hA
  generalize hok : divOk true true A B = ok at *
  have HB := Lib.hid hBe
  have HW : Hid ((ok = true ∧ B ≠ 0 ∧ 1 - 65536 / 2 ≤ A.tdiv B ∧ A.tdiv B ≤ 65536 / 2 - 1) ∨ (ok = false ∧ B = 0) ∨ (ok = false ∧ B ≠ 0 ∧ 65536 / 2 - 1 < A.tdiv B) ∨ (ok = false ∧ B ≠ 0 ∧ A.tdiv B ≤ 65536 / 2 - 1 ∧ A.tdiv B < 1 - 65536 / 2)) := Lib.hid hW
  clear hW hBe hok
  go_enter Try.func23, Try.ntmps23
  go_upto_region 5 with (first
    | (go_at_call 19; refine (signedD_any _ _ _ (by omega)).mono ?_; rintro e w' ⟨rfl, rfl⟩; rw [HB.out]))
  rw [EA.out]
  clear EA HB hv
  have EQ := Lib.hid (show IntKind.i64.wrap (A.tdiv B) = A.tdiv B from IntWalk.i64_in _ (by omega))
  refine wp_region_tame hR [0, 1, 2, 3] rfl ?_
  repeat (refine wpT_step rfl ?_; first
    | ((first | (with_reducible apply q_pl) | ((with_reducible apply q_gd); (first | (apply GdBy.gt; exact rfl; exact rfl) | (apply GdBy.gf; exact rfl; exact rfl) | (apply GdBy.t; exact rfl; exact rfl) | (apply GdBy.f; exact rfl; exact rfl)))); (with_reducible apply t_quo); (first | (apply EvC.gv; exact rfl; (with_reducible first | exact Imp.refl _ | (apply Imp.left; exact Imp.refl _) | (apply Imp.right; exact Imp.refl _) | (apply Imp.left; apply Imp.left; exact Imp.refl _))) | (apply EvC.now; exact rfl) | exact rfl | (with_reducible exact EvAll.nil) | (focus (repeat (first | apply EvAll.cons | exact EvAll.nil | (apply EvC.gv; exact rfl; (with_reducible first | exact Imp.refl _ | (apply Imp.left; exact Imp.refl _) | (apply Imp.right; exact Imp.refl _) | (apply Imp.left; apply Imp.left; exact Imp.refl _))) | (apply EvC.now; exact rfl))); done) | exact rfl | (focus (repeat (first | apply List.Mem.head | apply List.Mem.tail | apply List.mem_append_right)))); (first | (apply EvC.gv; exact rfl; (with_reducible first | exact Imp.refl _ | (apply Imp.left; exact Imp.refl _) | (apply Imp.right; exact Imp.refl _) | (apply Imp.left; apply Imp.left; exact Imp.refl _))) | (apply EvC.now; exact rfl) | exact rfl | (with_reducible exact EvAll.nil) | (focus (repeat (first | apply EvAll.cons | exact EvAll.nil | (apply EvC.gv; exact rfl; (with_reducible first | exact Imp.refl _ | (apply Imp.left; exact Imp.refl _) | (apply Imp.right; exact Imp.refl _) | (apply Imp.left; apply Imp.left; exact Imp.refl _))) | (apply EvC.now; exact rfl))); done) | exact rfl | (focus (repeat (first | apply List.Mem.head | apply List.Mem.tail | apply List.mem_append_right)))); omega; (exact EQ.out); (simp only [List.set_cons_succ, List.set_cons_zero]; exact rfl))
    | ((first | (with_reducible apply q_pl) | ((with_reducible apply q_gd); (first | (apply GdBy.gt; exact rfl; exact rfl) | (apply GdBy.gf; exact rfl; exact rfl) | (apply GdBy.t; exact rfl; exact rfl) | (apply GdBy.f; exact rfl; exact rfl)))); (first | ((with_reducible first | apply t_move | apply t_assign | apply t_and | apply t_or | apply t_cmp | apply t_not | apply t_move | apply t_move) <;> (first | (apply EvC.gv; exact rfl; (with_reducible first | exact Imp.refl _ | (apply Imp.left; exact Imp.refl _) | (apply Imp.right; exact Imp.refl _) | (apply Imp.left; apply Imp.left; exact Imp.refl _))) | (apply EvC.now; exact rfl) | exact rfl | (with_reducible exact EvAll.nil) | (focus (repeat (first | apply EvAll.cons | exact EvAll.nil | (apply EvC.gv; exact rfl; (with_reducible first | exact Imp.refl _ | (apply Imp.left; exact Imp.refl _) | (apply Imp.right; exact Imp.refl _) | (apply Imp.left; apply Imp.left; exact Imp.refl _))) | (apply EvC.now; exact rfl))); done) | exact rfl | (focus (repeat (first | apply List.Mem.head | apply List.Mem.tail | apply List.mem_append_right)))))); (simp only [List.set_cons_succ, List.set_cons_zero]; exact rfl))
    | ((with_reducible apply q_gd); (first | (apply GdBy.gt; exact rfl; exact rfl) | (apply GdBy.gf; exact rfl; exact rfl) | (apply GdBy.t; exact rfl; exact rfl) | (apply GdBy.f; exact rfl; exact rfl)); ((with_reducible apply t_num) <;> (first | (apply EvC.gv; exact rfl; (with_reducible first | exact Imp.refl _ | (apply Imp.left; exact Imp.refl _) | (apply Imp.right; exact Imp.refl _) | (apply Imp.left; apply Imp.left; exact Imp.refl _))) | (apply EvC.now; exact rfl) | exact rfl | (with_reducible exact EvAll.nil) | (focus (repeat (first | apply EvAll.cons | exact EvAll.nil | (apply EvC.gv; exact rfl; (with_reducible first | exact Imp.refl _ | (apply Imp.left; exact Imp.refl _) | (apply Imp.right; exact Imp.refl _) | (apply Imp.left; apply Imp.left; exact Imp.refl _))) | (apply EvC.now; exact rfl))); done) | exact rfl | (focus (repeat (first | apply List.Mem.head | apply List.Mem.tail | apply List.mem_append_right))))); (simp only [List.set_cons_succ, List.set_cons_zero]; exact rfl))
    | ((with_reducible apply wpT1_gpure); (first | (apply GdBy.gt; exact rfl; exact rfl) | (apply GdBy.gf; exact rfl; exact rfl) | (apply GdBy.t; exact rfl; exact rfl) | (apply GdBy.f; exact rfl; exact rfl)); intro K hK; go_simp; refine hK _ ?_; clear hK K; simp only [List.set_cons_succ, List.set_cons_zero])
    | ((with_reducible apply wpT1_pure); exact rfl; intro K hK; go_simp; refine hK _ ?_; clear hK K; simp only [List.set_cons_succ, List.set_cons_zero]))
  refine wpT_nil ?_
  clear hR; intro w hR
  rcases HW.out with ⟨rfl, hB0, h1, h2⟩ | ⟨rfl, e⟩ | ⟨rfl, hB0, h1⟩ | ⟨rfl, hB0, h1, h2⟩
  · skip
    obtain ⟨Q, hQ⟩ : ∃ Q, A.tdiv B = Q := ⟨_, rfl⟩
    obtain ⟨T, hT⟩ : ∃ T, A.tmod B = T := ⟨_, rfl⟩
    rw [hQ] at h1 h2 EQ hq ⊢
    rw [hT] at hr
    have HT := Lib.hid hT
    have HQ := Lib.hid hQ
    clear hT hQ HW
    go_upto_region 8 with fail
    refine wp_region_rows hR [0, 1, 2, 3, 4, 5, 6, 7, 8, 9, 10, 11, 12] 0 (by kernel_rfl) (by kernel_rfl) (by kernel_rfl) rfl ?_
    clear hR; intro hR
    repeat (refine wpT_step rfl ?_; first
    | ((first | (with_reducible apply q_pl) | ((with_reducible apply q_gd); (first | (apply GdBy.gt; exact rfl; exact rfl) | (apply GdBy.gf; exact rfl; exact rfl) | (apply GdBy.t; exact rfl; exact rfl) | (apply GdBy.f; exact rfl; exact rfl)))); (with_reducible apply t_rem); (first | (apply EvC.gv; exact rfl; (with_reducible first | exact Imp.refl _ | (apply Imp.left; exact Imp.refl _) | (apply Imp.right; exact Imp.refl _) | (apply Imp.left; apply Imp.left; exact Imp.refl _))) | (apply EvC.now; exact rfl) | exact rfl | (with_reducible exact EvAll.nil) | (focus (repeat (first | apply EvAll.cons | exact EvAll.nil | (apply EvC.gv; exact rfl; (with_reducible first | exact Imp.refl _ | (apply Imp.left; exact Imp.refl _) | (apply Imp.right; exact Imp.refl _) | (apply Imp.left; apply Imp.left; exact Imp.refl _))) | (apply EvC.now; exact rfl))); done) | exact rfl | (focus (repeat (first | apply List.Mem.head | apply List.Mem.tail | apply List.mem_append_right)))); (first | (apply EvC.gv; exact rfl; (with_reducible first | exact Imp.refl _ | (apply Imp.left; exact Imp.refl _) | (apply Imp.right; exact Imp.refl _) | (apply Imp.left; apply Imp.left; exact Imp.refl _))) | (apply EvC.now; exact rfl) | exact rfl | (with_reducible exact EvAll.nil) | (focus (repeat (first | apply EvAll.cons | exact EvAll.nil | (apply EvC.gv; exact rfl; (with_reducible first | exact Imp.refl _ | (apply Imp.left; exact Imp.refl _) | (apply Imp.right; exact Imp.refl _) | (apply Imp.left; apply Imp.left; exact Imp.refl _))) | (apply EvC.now; exact rfl))); done) | exact rfl | (focus (repeat (first | apply List.Mem.head | apply List.Mem.tail | apply List.mem_append_right)))); omega; (exact HT.out); (simp only [List.set_cons_succ, List.set_cons_zero]; exact rfl))
    | ((first | (with_reducible apply q_pl) | ((with_reducible apply q_gd); (first | (apply GdBy.gt; exact rfl; exact rfl) | (apply GdBy.gf; exact rfl; exact rfl) | (apply GdBy.t; exact rfl; exact rfl) | (apply GdBy.f; exact rfl; exact rfl)))); (with_reducible apply t_conv Try.underlying2 Try.underlying22); (first | (apply EvC.gv; exact rfl; (with_reducible first | exact Imp.refl _ | (apply Imp.left; exact Imp.refl _) | (apply Imp.right; exact Imp.refl _) | (apply Imp.left; apply Imp.left; exact Imp.refl _))) | (apply EvC.now; exact rfl) | exact rfl | (with_reducible exact EvAll.nil) | (focus (repeat (first | apply EvAll.cons | exact EvAll.nil | (apply EvC.gv; exact rfl; (with_reducible first | exact Imp.refl _ | (apply Imp.left; exact Imp.refl _) | (apply Imp.right; exact Imp.refl _) | (apply Imp.left; apply Imp.left; exact Imp.refl _))) | (apply EvC.now; exact rfl))); done) | exact rfl | (focus (repeat (first | apply List.Mem.head | apply List.Mem.tail | apply List.mem_append_right)))); (exact rfl); (simp only [List.set_cons_succ, List.set_cons_zero]; exact rfl))
    | ((first | (with_reducible apply q_pl) | ((with_reducible apply q_gd); (first | (apply GdBy.gt; exact rfl; exact rfl) | (apply GdBy.gf; exact rfl; exact rfl) | (apply GdBy.t; exact rfl; exact rfl) | (apply GdBy.f; exact rfl; exact rfl)))); (first | ((with_reducible first | apply t_move | apply t_assign | apply t_and | apply t_or | apply t_cmp | apply t_not | apply t_move | apply t_move) <;> (first | (apply EvC.gv; exact rfl; (with_reducible first | exact Imp.refl _ | (apply Imp.left; exact Imp.refl _) | (apply Imp.right; exact Imp.refl _) | (apply Imp.left; apply Imp.left; exact Imp.refl _))) | (apply EvC.now; exact rfl) | exact rfl | (with_reducible exact EvAll.nil) | (focus (repeat (first | apply EvAll.cons | exact EvAll.nil | (apply EvC.gv; exact rfl; (with_reducible first | exact Imp.refl _ | (apply Imp.left; exact Imp.refl _) | (apply Imp.right; exact Imp.refl _) | (apply Imp.left; apply Imp.left; exact Imp.refl _))) | (apply EvC.now; exact rfl))); done) | exact rfl | (focus (repeat (first | apply List.Mem.head | apply List.Mem.tail | apply List.mem_append_right)))))); (simp only [List.set_cons_succ, List.set_cons_zero]; exact rfl))
    | ((first | (with_reducible apply q_pl) | ((with_reducible apply q_gd); (first | (apply GdBy.gt; exact rfl; exact rfl) | (apply GdBy.gf; exact rfl; exact rfl) | (apply GdBy.t; exact rfl; exact rfl) | (apply GdBy.f; exact rfl; exact rfl)))); (with_reducible apply t_call Try.call21); (first | (apply EvC.gv; exact rfl; (with_reducible first | exact Imp.refl _ | (apply Imp.left; exact Imp.refl _) | (apply Imp.right; exact Imp.refl _) | (apply Imp.left; apply Imp.left; exact Imp.refl _))) | (apply EvC.now; exact rfl) | exact rfl | (with_reducible exact EvAll.nil) | (focus (repeat (first | apply EvAll.cons | exact EvAll.nil | (apply EvC.gv; exact rfl; (with_reducible first | exact Imp.refl _ | (apply Imp.left; exact Imp.refl _) | (apply Imp.right; exact Imp.refl _) | (apply Imp.left; apply Imp.left; exact Imp.refl _))) | (apply EvC.now; exact rfl))); done) | exact rfl | (focus (repeat (first | apply List.Mem.head | apply List.Mem.tail | apply List.mem_append_right)))); (intro hcc w hC; exact tame_same (cutI_any _ _ _ (u16_bd _)) hC); (simp only [List.set_cons_succ, List.set_cons_zero]; exact rfl))
    | ((with_reducible apply q_gd); (first | (apply GdBy.gt; exact rfl; exact rfl) | (apply GdBy.gf; exact rfl; exact rfl) | (apply GdBy.t; exact rfl; exact rfl) | (apply GdBy.f; exact rfl; exact rfl)); ((with_reducible apply t_num) <;> (first | (apply EvC.gv; exact rfl; (with_reducible first | exact Imp.refl _ | (apply Imp.left; exact Imp.refl _) | (apply Imp.right; exact Imp.refl _) | (apply Imp.left; apply Imp.left; exact Imp.refl _))) | (apply EvC.now; exact rfl) | exact rfl | (with_reducible exact EvAll.nil) | (focus (repeat (first | apply EvAll.cons | exact EvAll.nil | (apply EvC.gv; exact rfl; (with_reducible first | exact Imp.refl _ | (apply Imp.left; exact Imp.refl _) | (apply Imp.right; exact Imp.refl _) | (apply Imp.left; apply Imp.left; exact Imp.refl _))) | (apply EvC.now; exact rfl))); done) | exact rfl | (focus (repeat (first | apply List.Mem.head | apply List.Mem.tail | apply List.mem_append_right))))); (simp only [List.set_cons_succ, List.set_cons_zero]; exact rfl))
    | ((with_reducible apply wpT1_gpure); (first | (apply GdBy.gt; exact rfl; exact rfl) | (apply GdBy.gf; exact rfl; exact rfl) | (apply GdBy.t; exact rfl; exact rfl) | (apply GdBy.f; exact rfl; exact rfl)); intro K hK; go_simp; refine hK _ ?_; clear hK K; simp only [List.set_cons_succ, List.set_cons_zero])
    | ((with_reducible apply wpT1_pure); exact rfl; intro K hK; go_simp; refine hK _ ?_; clear hK K; simp only [List.set_cons_succ, List.set_cons_zero]))
    refine wpG_end hR (by kernel_rfl) ?_
    clear hR; intro w hR
    go_wp2
    go_ret3
    exact ⟨ret_mul ((cut_wrap true Q).trans (congrArg (fun z => z % oneZ true) HQ.out.symm)) ((cut_wrap true T).trans (congrArg (fun z => z % oneZ true) HT.out.symm)) rfl, hR.below⟩
  · exact absurd e h0
  · skip
    obtain ⟨Q, hQ⟩ : ∃ Q, A.tdiv B = Q := ⟨_, rfl⟩
    rw [hQ] at h1 EQ hq ⊢
    clear hQ HW
    go_wp2
    go_ret3
    exact ⟨rfl, hR.below⟩
  · skip
    obtain ⟨Q, hQ⟩ : ∃ Q, A.tdiv B = Q := ⟨_, rfl⟩
    rw [hQ] at h1 h2 EQ hq ⊢
    clear hQ HW
    go_wp2
    go_ret3
    exact ⟨rfl, hR.below⟩
theorem divS_f (v : Int) (b : Nat) (w : World) (hv : 0 ≤ v ∧ v < oneZ false * oneZ false) (hb : b ≤ 65535) (h0 : wholeZ true false b ≠ 0) :
    Calls Try.prog 23 #[.int .u32 v, .int .u16 b, .bool false] w fun e w' => e = .returned (.tuple #[.int .u16 (divQ true false (sgA false v) (wholeZ true false b)), .int .u16 (divR true false (sgA false v) (wholeZ true false b)), .bool (divOk true false (sgA false v) (wholeZ true false b))]) ∧ Below w.heap.size w w' := by
  have hR := Own.start w
  have hv' : 0 ≤ v ∧ v ≤ 4294967295 := by have h : 0 ≤ v ∧ v < (256 * 256 : Int) := hv; omega
  have hA := sgA_bd false hv
  have hW := ok_ways true false (sgA false v) (wholeZ true false b)
  have hB := whole_bd true false hb
  have EA : Hid (wrap64 (IntKind.i16.wrap v) = sgA false v) := Lib.hid (by rw [← sgA_f hv, w16]; unfold wrap64; omega)
  unfold divQ divR
  generalize sgA false v = A at *
  generalize hBe : wholeZ true false b = B at *
  have hq := tdiv_bd (b := B) hA
  have hr := tmod_bd (b := B) hA
  generalize hok : divOk true false A B = ok at *
  have HB := Lib.hid hBe
  have HW : Hid ((ok = true ∧ B ≠ 0 ∧ 1 - 256 / 2 ≤ A.tdiv B ∧ A.tdiv B ≤ 256 / 2 - 1) ∨ (ok = false ∧ B = 0) ∨ (ok = false ∧ B ≠ 0 ∧ 256 / 2 - 1 < A.tdiv B) ∨ (ok = false ∧ B ≠ 0 ∧ A.tdiv B ≤ 256 / 2 - 1 ∧ A.tdiv B < 1 - 256 / 2)) := Lib.hid hW
  clear hW hBe hok
  go_enter Try.func23, Try.ntmps23
  go_upto_region 5 with (first
    | (go_at_call 19; refine (signedD_any _ _ _ (by omega)).mono ?_; rintro e w' ⟨rfl, rfl⟩; rw [HB.out]))
  rw [EA.out]
  clear EA HB hv
  have EQ := Lib.hid (show IntKind.i64.wrap (A.tdiv B) = A.tdiv B from IntWalk.i64_in _ (by omega))
  refine wp_region_tame hR [0, 1, 2, 3] rfl ?_
  repeat (refine wpT_step rfl ?_; first
    | ((first | (with_reducible apply q_pl) | ((with_reducible apply q_gd); (first | (apply GdBy.gt; exact rfl; exact rfl) | (apply GdBy.gf; exact rfl; exact rfl) | (apply GdBy.t; exact rfl; exact rfl) | (apply GdBy.f; exact rfl; exact rfl)))); (with_reducible apply t_quo); (first | (apply EvC.gv; exact rfl; (with_reducible first | exact Imp.refl _ | (apply Imp.left; exact Imp.refl _) | (apply Imp.right; exact Imp.refl _) | (apply Imp.left; apply Imp.left; exact Imp.refl _))) | (apply EvC.now; exact rfl) | exact rfl | (with_reducible exact EvAll.nil) | (focus (repeat (first | apply EvAll.cons | exact EvAll.nil | (apply EvC.gv; exact rfl; (with_reducible first | exact Imp.refl _ | (apply Imp.left; exact Imp.refl _) | (apply Imp.right; exact Imp.refl _) | (apply Imp.left; apply Imp.left; exact Imp.refl _))) | (apply EvC.now; exact rfl))); done) | exact rfl | (focus (repeat (first | apply List.Mem.head | apply List.Mem.tail | apply List.mem_append_right)))); (first | (apply EvC.gv; exact rfl; (with_reducible first | exact Imp.refl _ | (apply Imp.left; exact Imp.refl _) | (apply Imp.right; exact Imp.refl _) | (apply Imp.left; apply Imp.left; exact Imp.refl _))) | (apply EvC.now; exact rfl) | exact rfl | (with_reducible exact EvAll.nil) | (focus (repeat (first | apply EvAll.cons | exact EvAll.nil | (apply EvC.gv; exact rfl; (with_reducible first | exact Imp.refl _ | (apply Imp.left; exact Imp.refl _) | (apply Imp.right; exact Imp.refl _) | (apply Imp.left; apply Imp.left; exact Imp.refl _))) | (apply EvC.now; exact rfl))); done) | exact rfl | (focus (repeat (first | apply List.Mem.head | apply List.Mem.tail | apply List.mem_append_right)))); omega; (exact EQ.out); (simp only [List.set_cons_succ, List.set_cons_zero]; exact rfl))
    | ((first | (with_reducible apply q_pl) | ((with_reducible apply q_gd); (first | (apply GdBy.gt; exact rfl; exact rfl) | (apply GdBy.gf; exact rfl; exact rfl) | (apply GdBy.t; exact rfl; exact rfl) | (apply GdBy.f; exact rfl; exact rfl)))); (first | ((with_reducible first | apply t_move | apply t_assign | apply t_and | apply t_or | apply t_cmp | apply t_not | apply t_move | apply t_move) <;> (first | (apply EvC.gv; exact rfl; (with_reducible first | exact Imp.refl _ | (apply Imp.left; exact Imp.refl _) | (apply Imp.right; exact Imp.refl _) | (apply Imp.left; apply Imp.left; exact Imp.refl _))) | (apply EvC.now; exact rfl) | exact rfl | (with_reducible exact EvAll.nil) | (focus (repeat (first | apply EvAll.cons | exact EvAll.nil | (apply EvC.gv; exact rfl; (with_reducible first | exact Imp.refl _ | (apply Imp.left; exact Imp.refl _) | (apply Imp.right; exact Imp.refl _) | (apply Imp.left; apply Imp.left; exact Imp.refl _))) | (apply EvC.now; exact rfl))); done) | exact rfl | (focus (repeat (first | apply List.Mem.head | apply List.Mem.tail | apply List.mem_append_right)))))); (simp only [List.set_cons_succ, List.set_cons_zero]; exact rfl))
    | ((with_reducible apply q_gd); (first | (apply GdBy.gt; exact rfl; exact rfl) | (apply GdBy.gf; exact rfl; exact rfl) | (apply GdBy.t; exact rfl; exact rfl) | (apply GdBy.f; exact rfl; exact rfl)); ((with_reducible apply t_num) <;> (first | (apply EvC.gv; exact rfl; (with_reducible first | exact Imp.refl _ | (apply Imp.left; exact Imp.refl _) | (apply Imp.right; exact Imp.refl _) | (apply Imp.left; apply Imp.left; exact Imp.refl _))) | (apply EvC.now; exact rfl) | exact rfl | (with_reducible exact EvAll.nil) | (focus (repeat (first | apply EvAll.cons | exact EvAll.nil | (apply EvC.gv; exact rfl; (with_reducible first | exact Imp.refl _ | (apply Imp.left; exact Imp.refl _) | (apply Imp.right; exact Imp.refl _) | (apply Imp.left; apply Imp.left; exact Imp.refl _))) | (apply EvC.now; exact rfl))); done) | exact rfl | (focus (repeat (first | apply List.Mem.head | apply List.Mem.tail | apply List.mem_append_right))))); (simp only [List.set_cons_succ, List.set_cons_zero]; exact rfl))
    | ((with_reducible apply wpT1_gpure); (first | (apply GdBy.gt; exact rfl; exact rfl) | (apply GdBy.gf; exact rfl; exact rfl) | (apply GdBy.t; exact rfl; exact rfl) | (apply GdBy.f; exact rfl; exact rfl)); intro K hK; go_simp; refine hK _ ?_; clear hK K; simp only [List.set_cons_succ, List.set_cons_zero])
    | ((with_reducible apply wpT1_pure); exact rfl; intro K hK; go_simp; refine hK _ ?_; clear hK K; simp only [List.set_cons_succ, List.set_cons_zero]))
  refine wpT_nil ?_
  clear hR; intro w hR
  rcases HW.out with ⟨rfl, hB0, h1, h2⟩ | ⟨rfl, e⟩ | ⟨rfl, hB0, h1⟩ | ⟨rfl, hB0, h1, h2⟩
  · skip
    obtain ⟨Q, hQ⟩ : ∃ Q, A.tdiv B = Q := ⟨_, rfl⟩
    obtain ⟨T, hT⟩ : ∃ T, A.tmod B = T := ⟨_, rfl⟩
    rw [hQ] at h1 h2 EQ hq ⊢
    rw [hT] at hr
    have HT := Lib.hid hT
    have HQ := Lib.hid hQ
    clear hT hQ HW
    go_upto_region 8 with fail
    refine wp_region_rows hR [0, 1, 2, 3, 4, 5, 6, 7, 8, 9, 10, 11, 12] 0 (by kernel_rfl) (by kernel_rfl) (by kernel_rfl) rfl ?_
    clear hR; intro hR
    repeat (refine wpT_step rfl ?_; first
    | ((first | (with_reducible apply q_pl) | ((with_reducible apply q_gd); (first | (apply GdBy.gt; exact rfl; exact rfl) | (apply GdBy.gf; exact rfl; exact rfl) | (apply GdBy.t; exact rfl; exact rfl) | (apply GdBy.f; exact rfl; exact rfl)))); (with_reducible apply t_rem); (first | (apply EvC.gv; exact rfl; (with_reducible first | exact Imp.refl _ | (apply Imp.left; exact Imp.refl _) | (apply Imp.right; exact Imp.refl _) | (apply Imp.left; apply Imp.left; exact Imp.refl _))) | (apply EvC.now; exact rfl) | exact rfl | (with_reducible exact EvAll.nil) | (focus (repeat (first | apply EvAll.cons | exact EvAll.nil | (apply EvC.gv; exact rfl; (with_reducible first | exact Imp.refl _ | (apply Imp.left; exact Imp.refl _) | (apply Imp.right; exact Imp.refl _) | (apply Imp.left; apply Imp.left; exact Imp.refl _))) | (apply EvC.now; exact rfl))); done) | exact rfl | (focus (repeat (first | apply List.Mem.head | apply List.Mem.tail | apply List.mem_append_right)))); (first | (apply EvC.gv; exact rfl; (with_reducible first | exact Imp.refl _ | (apply Imp.left; exact Imp.refl _) | (apply Imp.right; exact Imp.refl _) | (apply Imp.left; apply Imp.left; exact Imp.refl _))) | (apply EvC.now; exact rfl) | exact rfl | (with_reducible exact EvAll.nil) | (focus (repeat (first | apply EvAll.cons | exact EvAll.nil | (apply EvC.gv; exact rfl; (with_reducible first | exact Imp.refl _ | (apply Imp.left; exact Imp.refl _) | (apply Imp.right; exact Imp.refl _) | (apply Imp.left; apply Imp.left; exact Imp.refl _))) | (apply EvC.now; exact rfl))); done) | exact rfl | (focus (repeat (first | apply List.Mem.head | apply List.Mem.tail | apply List.mem_append_right)))); omega; (exact HT.out); (simp only [List.set_cons_succ, List.set_cons_zero]; exact rfl))
    | ((first | (with_reducible apply q_pl) | ((with_reducible apply q_gd); (first | (apply GdBy.gt; exact rfl; exact rfl) | (apply GdBy.gf; exact rfl; exact rfl) | (apply GdBy.t; exact rfl; exact rfl) | (apply GdBy.f; exact rfl; exact rfl)))); (with_reducible apply t_conv Try.underlying2 Try.underlying22); (first | (apply EvC.gv; exact rfl; (with_reducible first | exact Imp.refl _ | (apply Imp.left; exact Imp.refl _) | (apply Imp.right; exact Imp.refl _) | (apply Imp.left; apply Imp.left; exact Imp.refl _))) | (apply EvC.now; exact rfl) | exact rfl | (with_reducible exact EvAll.nil) | (focus (repeat (first | apply EvAll.cons | exact EvAll.nil | (apply EvC.gv; exact rfl; (with_reducible first | exact Imp.refl _ | (apply Imp.left; exact Imp.refl _) | (apply Imp.right; exact Imp.refl _) | (apply Imp.left; apply Imp.left; exact Imp.refl _))) | (apply EvC.now; exact rfl))); done) | exact rfl | (focus (repeat (first | apply List.Mem.head | apply List.Mem.tail | apply List.mem_append_right)))); (exact rfl); (simp only [List.set_cons_succ, List.set_cons_zero]; exact rfl))
    | ((first | (with_reducible apply q_pl) | ((with_reducible apply q_gd); (first | (apply GdBy.gt; exact rfl; exact rfl) | (apply GdBy.gf; exact rfl; exact rfl) | (apply GdBy.t; exact rfl; exact rfl) | (apply GdBy.f; exact rfl; exact rfl)))); (first | ((with_reducible first | apply t_move | apply t_assign | apply t_and | apply t_or | apply t_cmp | apply t_not | apply t_move | apply t_move) <;> (first | (apply EvC.gv; exact rfl; (with_reducible first | exact Imp.refl _ | (apply Imp.left; exact Imp.refl _) | (apply Imp.right; exact Imp.refl _) | (apply Imp.left; apply Imp.left; exact Imp.refl _))) | (apply EvC.now; exact rfl) | exact rfl | (with_reducible exact EvAll.nil) | (focus (repeat (first | apply EvAll.cons | exact EvAll.nil | (apply EvC.gv; exact rfl; (with_reducible first | exact Imp.refl _ | (apply Imp.left; exact Imp.refl _) | (apply Imp.right; exact Imp.refl _) | (apply Imp.left; apply Imp.left; exact Imp.refl _))) | (apply EvC.now; exact rfl))); done) | exact rfl | (focus (repeat (first | apply List.Mem.head | apply List.Mem.tail | apply List.mem_append_right)))))); (simp only [List.set_cons_succ, List.set_cons_zero]; exact rfl))
    | ((first | (with_reducible apply q_pl) | ((with_reducible apply q_gd); (first | (apply GdBy.gt; exact rfl; exact rfl) | (apply GdBy.gf; exact rfl; exact rfl) | (apply GdBy.t; exact rfl; exact rfl) | (apply GdBy.f; exact rfl; exact rfl)))); (with_reducible apply t_call Try.call21); (first | (apply EvC.gv; exact rfl; (with_reducible first | exact Imp.refl _ | (apply Imp.left; exact Imp.refl _) | (apply Imp.right; exact Imp.refl _) | (apply Imp.left; apply Imp.left; exact Imp.refl _))) | (apply EvC.now; exact rfl) | exact rfl | (with_reducible exact EvAll.nil) | (focus (repeat (first | apply EvAll.cons | exact EvAll.nil | (apply EvC.gv; exact rfl; (with_reducible first | exact Imp.refl _ | (apply Imp.left; exact Imp.refl _) | (apply Imp.right; exact Imp.refl _) | (apply Imp.left; apply Imp.left; exact Imp.refl _))) | (apply EvC.now; exact rfl))); done) | exact rfl | (focus (repeat (first | apply List.Mem.head | apply List.Mem.tail | apply List.mem_append_right)))); (intro hcc w hC; exact tame_same (cutI_any _ _ _ (u16_bd _)) hC); (simp only [List.set_cons_succ, List.set_cons_zero]; exact rfl))
    | ((with_reducible apply q_gd); (first | (apply GdBy.gt; exact rfl; exact rfl) | (apply GdBy.gf; exact rfl; exact rfl) | (apply GdBy.t; exact rfl; exact rfl) | (apply GdBy.f; exact rfl; exact rfl)); ((with_reducible apply t_num) <;> (first | (apply EvC.gv; exact rfl; (with_reducible first | exact Imp.refl _ | (apply Imp.left; exact Imp.refl _) | (apply Imp.right; exact Imp.refl _) | (apply Imp.left; apply Imp.left; exact Imp.refl _))) | (apply EvC.now; exact rfl) | exact rfl | (with_reducible exact EvAll.nil) | (focus (repeat (first | apply EvAll.cons | exact EvAll.nil | (apply EvC.gv; exact rfl; (with_reducible first | exact Imp.refl _ | (apply Imp.left; exact Imp.refl _) | (apply Imp.right; exact Imp.refl _) | (apply Imp.left; apply Imp.left; exact Imp.refl _))) | (apply EvC.now; exact rfl))); done) | exact rfl | (focus (repeat (first | apply List.Mem.head | apply List.Mem.tail | apply List.mem_append_right))))); (simp only [List.set_cons_succ, List.set_cons_zero]; exact rfl))
    | ((with_reducible apply wpT1_gpure); (first | (apply GdBy.gt; exact rfl; exact rfl) | (apply GdBy.gf; exact rfl; exact rfl) | (apply GdBy.t; exact rfl; exact rfl) | (apply GdBy.f; exact rfl; exact rfl)); intro K hK; go_simp; refine hK _ ?_; clear hK K; simp only [List.set_cons_succ, List.set_cons_zero])
    | ((with_reducible apply wpT1_pure); exact rfl; intro K hK; go_simp; refine hK _ ?_; clear hK K; simp only [List.set_cons_succ, List.set_cons_zero]))
    refine wpG_end hR (by kernel_rfl) ?_
    clear hR; intro w hR
    go_wp2
    go_ret3
    exact ⟨ret_mul ((cut_wrap false Q).trans (congrArg (fun z => z % oneZ false) HQ.out.symm)) ((cut_wrap false T).trans (congrArg (fun z => z % oneZ false) HT.out.symm)) rfl, hR.below⟩
  · exact absurd e h0
  · skip
    obtain ⟨Q, hQ⟩ : ∃ Q, A.tdiv B = Q := ⟨_, rfl⟩
    rw [hQ] at h1 EQ hq ⊢
    clear hQ HW
    go_wp2
    go_ret3
    exact ⟨rfl, hR.below⟩
  · skip
    obtain ⟨Q, hQ⟩ : ∃ Q, A.tdiv B = Q := ⟨_, rfl⟩
    rw [hQ] at h1 h2 EQ hq ⊢
    clear hQ HW
    go_wp2
    go_ret3
    exact ⟨rfl, hR.below⟩
theorem divide_any (v b : Int) (wide : Bool) (w : World) (hv : 0 ≤ v ∧ v < oneZ wide * oneZ wide) (hb : 1 ≤ b ∧ b < oneZ wide) :
    Calls Try.prog 25 #[.int .u32 v, .int .u16 b, .bool wide] w fun e w' => e = .returned (.tuple #[.int .u16 (divQ false wide v b), .int .u16 (divR false wide v b), .bool (divOk false wide v b)]) ∧ Below w.heap.size w w' := by
  cases wide
  · exact divide_f v b w hv hb
  · exact divide_t v b w hv hb
theorem divS_any (v : Int) (b : Nat) (wide : Bool) (w : World) (hv : 0 ≤ v ∧ v < oneZ wide * oneZ wide) (hb : b ≤ 65535) (h0 : wholeZ true wide b ≠ 0) :
    Calls Try.prog 23 #[.int .u32 v, .int .u16 b, .bool wide] w fun e w' => e = .returned (.tuple #[.int .u16 (divQ true wide (sgA wide v) (wholeZ true wide b)), .int .u16 (divR true wide (sgA wide v) (wholeZ true wide b)), .bool (divOk true wide (sgA wide v) (wholeZ true wide b))]) ∧ Below w.heap.size w w' := by
  cases wide
  · exact divS_f v b w hv hb h0
  · exact divS_t v b w hv hb h0
theorem divD_any (name : Int) (low high by_ : Nat) (wide : Bool) (w : World) (hl : low ≤ 65535) (hh : high ≤ 65535) (hb : by_ ≤ 65535) :
    Calls Try.prog 11 #[.int .i64 name, .int .u16 low, .int .u16 high, .int .u16 by_, .bool wide] w fun e w' =>
      e = .returned (.tuple #[.int .u16 (divQ (name == 89) wide (divA (name == 89) wide low high) (wholeZ (name == 89) wide by_)), .int .u16 (divR (name == 89) wide (divA (name == 89) wide low high) (wholeZ (name == 89) wide by_)), .bool (divOk (name == 89) wide (divA (name == 89) wide low high) (wholeZ (name == 89) wide by_))]) ∧ Below w.heap.size w w' := by
  have hR := Own.start w
  have HC := Lib.hid (fun w => cut_any by_ wide w hb)
  by_cases hz : cutN wide by_ = 0
  · obtain ⟨e1, e2, e3⟩ := div_none0 (name == 89) wide (divA (name == 89) wide low high)
    rw [whole_zero (name == 89) wide hz, e1, e2, e3]
    clear e1 e2 e3
    rw [hz] at HC
    clear hz
    go_enter Try.func11, Try.ntmps11
    go_wp2_with (first
    | (go_at_call 21; refine (HC.out _).mono ?_; rintro e w' ⟨rfl, rfl⟩))
    go_ret3
    exact ⟨rfl, hR.below⟩
  · have HJ := Lib.hid (fun w => joinedD_any low high wide w hl hh)
    have hv := div_bdF wide hl hh
    have hc := cut_some wide hb hz
    have hcl := cutN_le (wide := wide) hb
    by_cases h : name = 89
    · subst h
      rw [show ((89 : Int) == 89) = true from rfl]
      have HD := Lib.hid (fun w => divS_any (divA false wide low high) (cutN wide by_) wide w hv hcl (by rw [whole_cut]; exact whole_some true wide hb hz))
      rw [whole_cut, sgA_div] at HD
      generalize divQ true wide (divA true wide low high) (wholeZ true wide by_) = q at *
      generalize divR true wide (divA true wide low high) (wholeZ true wide by_) = r at *
      generalize divOk true wide (divA true wide low high) (wholeZ true wide by_) = k at *
      generalize divA false wide low high = v at *
      generalize cutN wide by_ = c at *
      clear hv
      go_enter Try.func11, Try.ntmps11
      go_wp2_with (first
    | (go_at_call 21; refine (HC.out _).mono ?_; rintro e w' ⟨rfl, rfl⟩)
    | (go_at_call 24; refine (HJ.out _).mono ?_; rintro e w' ⟨rfl, rfl⟩)
    | (go_at_call 23; refine (HD.out _).mono ?_; rintro e w' ⟨rfl, hb⟩; replace hR := hR.grow hb; clear hb))
      go_ret3
      exact ⟨rfl, hR.below⟩
    · rw [show (name == 89) = false from beq_eq_false_iff_ne.2 h]
      have HD := Lib.hid (fun w => divide_any (divA false wide low high) (cutN wide by_ : Nat) wide w hv hc)
      rw [wholeP]
      generalize divQ false wide (divA false wide low high) (cutN wide by_ : Nat) = q at *
      generalize divR false wide (divA false wide low high) (cutN wide by_ : Nat) = r at *
      generalize divOk false wide (divA false wide low high) (cutN wide by_ : Nat) = k at *
      generalize divA false wide low high = v at *
      generalize cutN wide by_ = c at *
      clear hv
      go_enter Try.func11, Try.ntmps11
      go_wp2_with (first
    | (go_at_call 21; refine (HC.out _).mono ?_; rintro e w' ⟨rfl, rfl⟩)
    | (go_at_call 24; refine (HJ.out _).mono ?_; rintro e w' ⟨rfl, rfl⟩)
    | (go_at_call 25; refine (HD.out _).mono ?_; rintro e w' ⟨rfl, hb⟩; replace hR := hR.grow hb; clear hb))
      go_ret3
      exact ⟨rfl, hR.below⟩
end Go.Proofs.Ytpkobahelnopmaa
