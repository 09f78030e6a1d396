






/- Contracts of package long, decimal digits: each returns what plain arithmetic gives. No statement of the seat is proved here. -/
import Derived.Test.YtpkobahelnopmaaLongS
namespace Go.Proofs.Ytpkobahelnopmaa
open Go.ChangeShapes Go.WideShapes Go.ChangeAt Go.RowKit
set_option linter.unusedVariables false
set_option linter.unusedSimpArgs false

theorem moreD_any (x y : Int) (w : World) (hx : 0 ≤ x ∧ x ≤ 255) (hy : 0 ≤ y ∧ y ≤ 255) :
    Calls Try.prog 28 #[.int .u8 x, .int .u8 y] w fun e w' => e = .returned (.int .u8 ((x + y) % 256)) ∧ w = w' := by
  go_enter Try.func28, Try.ntmps28
  go_wp2
  go_ret
  exact ⟨ret_int (by first | rfl | rw [IntKind.wrap_u8]), rfl⟩
theorem lessD_any (x y : Int) (w : World) (hx : 0 ≤ x ∧ x ≤ 255) (hy : 0 ≤ y ∧ y ≤ 255) :
    Calls Try.prog 29 #[.int .u8 x, .int .u8 y] w fun e w' => e = .returned (.int .u8 ((x - y) % 256)) ∧ w = w' := by
  go_enter Try.func29, Try.ntmps29
  go_wp2
  go_ret
  exact ⟨ret_int (by first | rfl | rw [IntKind.wrap_u8]), rfl⟩
theorem signsD_any (v : Nat) (w : World) (h : v ≤ 255) :
    Calls Try.prog 34 #[.int .u8 v] w fun e w' => e = .returned (.int .u16 (signsN false v : Nat)) ∧ w = w' := by
  go_enter Try.func34, Try.ntmps34
  go_wp2_with (first
    | (go_at_call 38; refine (signs_any _ _ _ (by omega)).mono ?_; rintro e w' ⟨rfl, rfl⟩))
  go_ret
  exact ⟨rfl, rfl⟩
def lfN (l was : Nat) : Bool := decide (9 < l % 16) || onB was 4
theorem leftD_any (l was : Nat) (w : World) (h : l ≤ 255) (hw : was ≤ 65535) :
    Calls Try.prog 37 #[.int .u8 l, .int .u16 was] w fun e w' => e = .returned (.bool (lfN l was)) ∧ w = w' := by
  have E1 : Hid ((bits .and .u16 (was : Int) 16 != 0) = onB was 4) := Lib.hid (and_bit was 4 hw (by decide) 16 rfl)
  by_cases e : 9 < l % 16
  · have E2 : lfN l was = true := by unfold lfN; rw [decide_eq_true e, Bool.true_or]
    rw [E2]
    clear E2
    go_enter Try.func37, Try.ntmps37
    go_wp2
    go_ret
    exact ⟨rfl, rfl⟩
  · have E2 : lfN l was = onB was 4 := by unfold lfN; rw [decide_eq_false e, Bool.false_or]
    rw [E2]
    clear E2
    go_enter Try.func37, Try.ntmps37
    go_wp2
    go_ret
    exact ⟨ret_bool (by rw [show decide ((9 : Int) < (l : Int) % 16) = false from decide_eq_false (by omega), Bool.false_or]; exact E1.out), rfl⟩
theorem lf_half (ax was : Nat) : lfN (ax % 256) was = halfN ax was := by
  unfold lfN halfN
  rw [show decide (9 < ax % 256 % 16) = decide (9 < ax % 16) from decide_eq_decide.2 (by omega)]
theorem one_x13 (ax was : Nat) : decX 13 ax was + 256 * decY 13 ax was = bif lfN (ax % 256) was then (ax % 256 + 6) % 16 + 256 * ((ax / 256 + 1) % 256) else ax % 256 % 16 + 256 * (ax / 256) := by
  rw [lf_half, x_13, y_13]; cases halfN ax was <;> simp only [cond_true, cond_false] <;> omega
theorem one_x14 (ax was : Nat) : decX 14 ax was + 256 * decY 14 ax was = bif lfN (ax % 256) was then (ax % 256 + 250) % 16 + 256 * ((ax / 256 + 255) % 256) else ax % 256 % 16 + 256 * (ax / 256) := by
  rw [lf_half, x_14, y_14]; cases halfN ax was <;> simp only [cond_true, cond_false] <;> omega
theorem one_f13 (ax was : Nat) : decF 13 ax was = (was &&& 2244) + bif lfN (ax % 256) was then 17 else 0 := by rw [lf_half, f_13]
theorem one_f14 (ax was : Nat) : decF 14 ax was = (was &&& 2244) + bif lfN (ax % 256) was then 17 else 0 := by rw [lf_half, f_14]
theorem lowN_any (ax : Nat) (w : World) (h : ax ≤ 65535) : Calls Try.prog 31 #[.int .u16 ax] w fun e w' => e = .returned (.int .u8 (ax % 256 : Nat)) ∧ w = w' := low_any _ w (by omega) (by omega)
theorem highN_any (ax : Nat) (w : World) (h : ax ≤ 65535) : Calls Try.prog 32 #[.int .u16 ax] w fun e w' => e = .returned (.int .u8 (ax / 256 : Nat)) ∧ w = w' := high_any _ w (by omega) (by omega)
def funV (f : Nat) : Value := .func (.func f) #[] #[]
theorem one_more (ax was : Nat) (w : World) (hx : ax ≤ 65535) (hw : was ≤ 65535) :
    Calls Try.prog 27 #[.int .u16 ax, .int .u16 was, funV 28] w fun e w' => e = .returned (.tuple #[.int .u16 (decX 13 ax was + 256 * decY 13 ax was : Nat), .int .u16 (decF 13 ax was : Nat)]) ∧ w = w' := by
  have HN := Lib.hid (keep_not was hw)
  have HB := Lib.hid (chain_both was)
  have hX := one_x13 ax was
  have hF := one_f13 ax was
  have HL := Lib.hid (fun w => lowN_any ax w hx)
  have HH := Lib.hid (fun w => highN_any ax w hx)
  have hl1 : ax % 256 ≤ 255 := by omega
  have hh1 : ax / 256 ≤ 255 := by omega
  have HT := Lib.hid (fun w => leftD_any (ax % 256) was w hl1 hw)
  generalize decX 13 ax was + 256 * decY 13 ax was = X at *
  generalize decF 13 ax was = F at *
  generalize ax % 256 = l at *
  generalize ax / 256 = h at *
  generalize lfN l was = t at *
  unfold funV
  cases t
  · have HX : Hid (X = l % 16 + 256 * h) := Lib.hid hX
    have HF : Hid (F = was &&& 2244) := Lib.hid hF
    clear hX hF
    go_enter Try.func27, Try.ntmps27
    go_wp2_with (first
    | (go_at_call 31; refine (HL.out _).mono ?_; rintro e w' ⟨rfl, rfl⟩)
    | (go_at_call 32; refine (HH.out _).mono ?_; rintro e w' ⟨rfl, rfl⟩)
    | (go_at_call 33; refine (word_any _ _ _ (by omega) (by omega) (by omega) (by omega)).mono ?_; rintro e w' ⟨rfl, rfl⟩)
    | (go_at_call 37; refine (HT.out _).mono ?_; rintro e w' ⟨rfl, rfl⟩))
    go_ret2
    exact ⟨ret_int2 (by have := HX.out; omega) (by rw [HN.out, HF.out]), rfl⟩
  · have HX : Hid (X = (l + 6) % 16 + 256 * ((h + 1) % 256)) := Lib.hid hX
    have HF : Hid (F = (was &&& 2244) + 17) := Lib.hid hF
    clear hX hF
    go_enter Try.func27, Try.ntmps27
    go_wp2_with (first
    | (go_at_call 31; refine (HL.out _).mono ?_; rintro e w' ⟨rfl, rfl⟩)
    | (go_at_call 32; refine (HH.out _).mono ?_; rintro e w' ⟨rfl, rfl⟩)
    | (go_at_call 33; refine (word_any _ _ _ (by omega) (by omega) (by omega) (by omega)).mono ?_; rintro e w' ⟨rfl, rfl⟩)
    | (go_at_call 37; refine (HT.out _).mono ?_; rintro e w' ⟨rfl, rfl⟩)
    | (go_at_call 28; refine (moreD_any _ _ _ (by omega) (by omega)).mono ?_; rintro e w' ⟨rfl, rfl⟩))
    go_ret2
    exact ⟨ret_int2 (by have := HX.out; omega) (by rw [HN.out, HF.out]; exact HB.out), rfl⟩
theorem one_less (ax was : Nat) (w : World) (hx : ax ≤ 65535) (hw : was ≤ 65535) :
    Calls Try.prog 27 #[.int .u16 ax, .int .u16 was, funV 29] w fun e w' => e = .returned (.tuple #[.int .u16 (decX 14 ax was + 256 * decY 14 ax was : Nat), .int .u16 (decF 14 ax was : Nat)]) ∧ w = w' := by
  have HN := Lib.hid (keep_not was hw)
  have HB := Lib.hid (chain_both was)
  have hX := one_x14 ax was
  have hF := one_f14 ax was
  have HL := Lib.hid (fun w => lowN_any ax w hx)
  have HH := Lib.hid (fun w => highN_any ax w hx)
  have hl1 : ax % 256 ≤ 255 := by omega
  have hh1 : ax / 256 ≤ 255 := by omega
  have HT := Lib.hid (fun w => leftD_any (ax % 256) was w hl1 hw)
  generalize decX 14 ax was + 256 * decY 14 ax was = X at *
  generalize decF 14 ax was = F at *
  generalize ax % 256 = l at *
  generalize ax / 256 = h at *
  generalize lfN l was = t at *
  unfold funV
  cases t
  · have HX : Hid (X = l % 16 + 256 * h) := Lib.hid hX
    have HF : Hid (F = was &&& 2244) := Lib.hid hF
    clear hX hF
    go_enter Try.func27, Try.ntmps27
    go_wp2_with (first
    | (go_at_call 31; refine (HL.out _).mono ?_; rintro e w' ⟨rfl, rfl⟩)
    | (go_at_call 32; refine (HH.out _).mono ?_; rintro e w' ⟨rfl, rfl⟩)
    | (go_at_call 33; refine (word_any _ _ _ (by omega) (by omega) (by omega) (by omega)).mono ?_; rintro e w' ⟨rfl, rfl⟩)
    | (go_at_call 37; refine (HT.out _).mono ?_; rintro e w' ⟨rfl, rfl⟩))
    go_ret2
    exact ⟨ret_int2 (by have := HX.out; omega) (by rw [HN.out, HF.out]), rfl⟩
  · have HX : Hid (X = (l + 250) % 16 + 256 * ((h + 255) % 256)) := Lib.hid hX
    have HF : Hid (F = (was &&& 2244) + 17) := Lib.hid hF
    clear hX hF
    go_enter Try.func27, Try.ntmps27
    go_wp2_with (first
    | (go_at_call 31; refine (HL.out _).mono ?_; rintro e w' ⟨rfl, rfl⟩)
    | (go_at_call 32; refine (HH.out _).mono ?_; rintro e w' ⟨rfl, rfl⟩)
    | (go_at_call 33; refine (word_any _ _ _ (by omega) (by omega) (by omega) (by omega)).mono ?_; rintro e w' ⟨rfl, rfl⟩)
    | (go_at_call 37; refine (HT.out _).mono ?_; rintro e w' ⟨rfl, rfl⟩)
    | (go_at_call 29; refine (lessD_any _ _ _ (by omega) (by omega)).mono ?_; rintro e w' ⟨rfl, rfl⟩))
    go_ret2
    exact ⟨ret_int2 (by have := HX.out; omega) (by rw [HN.out, HF.out]; exact HB.out), rfl⟩
theorem signsA_any (z : Int) (x : Nat) (w : World) (hz : z = x) (h : x ≤ 255) :
    Calls Try.prog 34 #[.int .u8 z] w fun e w' => e = .returned (.int .u16 (signsN false x : Nat)) ∧ w = w' := by
  subst hz; exact signsD_any x w h
def ovN (l was : Nat) : Bool := decide (153 < l) || onB was 0
theorem ov_over (ax was : Nat) : ovN (ax % 256) was = overN ax was := rfl
theorem ov_int (l : Nat) {was : Nat} (hw : was ≤ 65535) : (decide ((153 : Int) < (l : Int)) || (bits .and .u16 (was : Int) 1 != 0)) = ovN l was := by
  rw [and_bit was 0 hw (by decide) 1 rfl]
  unfold ovN
  rw [show decide ((153 : Int) < (l : Int)) = decide (153 < l) from decide_eq_decide.2 (by omega)]
theorem two_x11 (ax was : Nat) : decX 11 ax was = (ax % 256 + ((bif lfN (ax % 256) was then 6 else 0) + bif ovN (ax % 256) was then 96 else 0)) % 256 := by rw [lf_half]; rfl
theorem two_x12 (ax was : Nat) : decX 12 ax was = (ax % 256 + 256 - ((bif lfN (ax % 256) was then 6 else 0) + bif ovN (ax % 256) was then 96 else 0)) % 256 := by rw [lf_half]; rfl
theorem two_f (nm ax was : Nat) (h : nm = 11 ∨ nm = 12) : decF nm ax was = (was &&& 2048) + fl 16 (lfN (ax % 256) was) + fl 1 (ovN (ax % 256) was) + signsN false (decX nm ax was) := by
  rw [lf_half]; rcases h with rfl | rfl <;> rfl
theorem and2048 {was : Nat} (h : was ≤ 65535) : bits .and .u16 (was : Int) 2048 = (was &&& 2048 : Nat) := andM was 2048 h (by decide)
theorem two_more (ax was : Nat) (w0 : World) (hx : ax ≤ 65535) (hw : was ≤ 65535) :
    Calls Try.prog 30 #[.int .u16 ax, .int .u16 was, funV 28] w0 fun e w' => e = .returned (.tuple #[.int .u16 (decX 11 ax was + 256 * decY 11 ax was : Nat), .int .u16 (decF 11 ax was : Nat)]) ∧ Below w0.heap.size w0 w' := by
  have hR := Own.start w0
  have HC := Lib.hid (fun v t o => chain_eq was v t o)
  have HA := Lib.hid (and2048 hw)
  have hX := two_x11 ax was
  have hF := two_f 11 ax was (by decide)
  have hY : decY 11 ax was = ax / 256 := rfl
  have HL := Lib.hid (fun w => lowN_any ax w hx)
  have HH := Lib.hid (fun w => highN_any ax w hx)
  have hl1 : ax % 256 ≤ 255 := by omega
  have hh1 : ax / 256 ≤ 255 := by omega
  have HT := Lib.hid (fun w => leftD_any (ax % 256) was w hl1 hw)
  have HO := Lib.hid (ov_int (ax % 256) hw)
  rw [hY]
  clear hY
  generalize decX 11 ax was = X at *
  generalize decF 11 ax was = F at *
  generalize ax % 256 = l at *
  generalize ax / 256 = h at *
  generalize lfN l was = t at *
  generalize ovN l was = o at *
  unfold funV
  cases t <;> cases o
  · have HX : Hid (X = (l + (0 + 0)) % 256) := Lib.hid hX
    have HF : Hid (F = (was &&& 2048) + fl 16 false + fl 1 false + signsN false X) := Lib.hid hF
    clear hX hF
    go_enter Try.func30, Try.ntmps30
    go_upto_region 7 with (first
    | (go_at_call 31; refine (HL.out _).mono ?_; rintro e w' ⟨rfl, rfl⟩)
    | (go_at_call 32; refine (HH.out _).mono ?_; rintro e w' ⟨rfl, rfl⟩)
    | (go_at_call 33; refine (word_any _ _ _ (by omega) (by omega) (by omega) (by omega)).mono ?_; rintro e w' ⟨rfl, rfl⟩)
    | (go_at_call 37; refine (HT.out _).mono ?_; rintro e w' ⟨rfl, rfl⟩))
    refine wp_region_tame hR [0, 1, 2, 3, 4, 5, 6] rfl ?_
    repeat (refine wpT_step rfl ?_; first
    | ((first | (with_reducible apply q_pl) | ((with_reducible apply q_gd); (first | (apply GdBy.gt; exact rfl; exact rfl) | (apply GdBy.gf; exact rfl; exact rfl) | (apply GdBy.t; exact rfl; exact rfl) | (apply GdBy.f; exact rfl; exact rfl)))); (first | ((with_reducible first | apply t_move | apply t_assign | apply t_and | apply t_or | apply t_cmp | apply t_not | apply t_move | apply t_move) <;> (first | (apply EvC.gv; exact rfl; (with_reducible first | exact Imp.refl _ | (apply Imp.left; exact Imp.refl _) | (apply Imp.right; exact Imp.refl _) | (apply Imp.left; apply Imp.left; exact Imp.refl _))) | (apply EvC.now; exact rfl) | exact rfl | (with_reducible exact EvAll.nil) | (focus (repeat (first | apply EvAll.cons | exact EvAll.nil | (apply EvC.gv; exact rfl; (with_reducible first | exact Imp.refl _ | (apply Imp.left; exact Imp.refl _) | (apply Imp.right; exact Imp.refl _) | (apply Imp.left; apply Imp.left; exact Imp.refl _))) | (apply EvC.now; exact rfl))); done) | exact rfl | (focus (repeat (first | apply List.Mem.head | apply List.Mem.tail | apply List.mem_append_right)))))); (simp only [List.set_cons_succ, List.set_cons_zero]; exact rfl))
    | ((with_reducible apply q_gd); (first | (apply GdBy.gt; exact rfl; exact rfl) | (apply GdBy.gf; exact rfl; exact rfl) | (apply GdBy.t; exact rfl; exact rfl) | (apply GdBy.f; exact rfl; exact rfl)); ((with_reducible apply t_num) <;> (first | (apply EvC.gv; exact rfl; (with_reducible first | exact Imp.refl _ | (apply Imp.left; exact Imp.refl _) | (apply Imp.right; exact Imp.refl _) | (apply Imp.left; apply Imp.left; exact Imp.refl _))) | (apply EvC.now; exact rfl) | exact rfl | (with_reducible exact EvAll.nil) | (focus (repeat (first | apply EvAll.cons | exact EvAll.nil | (apply EvC.gv; exact rfl; (with_reducible first | exact Imp.refl _ | (apply Imp.left; exact Imp.refl _) | (apply Imp.right; exact Imp.refl _) | (apply Imp.left; apply Imp.left; exact Imp.refl _))) | (apply EvC.now; exact rfl))); done) | exact rfl | (focus (repeat (first | apply List.Mem.head | apply List.Mem.tail | apply List.mem_append_right))))); (simp only [List.set_cons_succ, List.set_cons_zero]; exact rfl))
    | ((with_reducible apply wpT1_gpure); (first | (apply GdBy.gt; exact rfl; exact rfl) | (apply GdBy.gf; exact rfl; exact rfl) | (apply GdBy.t; exact rfl; exact rfl) | (apply GdBy.f; exact rfl; exact rfl)); intro K hK; go_simp; refine hK _ ?_; clear hK K; simp only [List.set_cons_succ, List.set_cons_zero])
    | ((with_reducible apply wpT1_pure); exact rfl; intro K hK; go_simp; refine hK _ ?_; clear hK K; simp only [List.set_cons_succ, List.set_cons_zero]))
    refine wpT_nil ?_
    clear hR; intro w hR
    rw [HO.out]
    clear HO
    go_wp2_with (first
    | (go_at_call 28; refine (moreD_any _ _ _ (by omega) (by omega)).mono ?_; rintro e w' ⟨rfl, rfl⟩)
    | (go_at_call 31; refine (HL.out _).mono ?_; rintro e w' ⟨rfl, rfl⟩)
    | (go_at_call 32; refine (HH.out _).mono ?_; rintro e w' ⟨rfl, rfl⟩)
    | (go_at_call 33; refine (word_any _ _ _ (by omega) (by omega) (by omega) (by omega)).mono ?_; rintro e w' ⟨rfl, rfl⟩)
    | (go_at_call 34; refine (signsA_any _ X _ (by have := HX.out; omega) (by have := HX.out; omega)).mono ?_; rintro e w' ⟨rfl, rfl⟩))
    go_ret2
    exact ⟨ret_int2 (by have := HX.out; omega) (by rw [HA.out, HF.out]; exact HC.out X false false), hR.below⟩
  · have HX : Hid (X = (l + (0 + 96)) % 256) := Lib.hid hX
    have HF : Hid (F = (was &&& 2048) + fl 16 false + fl 1 true + signsN false X) := Lib.hid hF
    clear hX hF
    go_enter Try.func30, Try.ntmps30
    go_upto_region 7 with (first
    | (go_at_call 31; refine (HL.out _).mono ?_; rintro e w' ⟨rfl, rfl⟩)
    | (go_at_call 32; refine (HH.out _).mono ?_; rintro e w' ⟨rfl, rfl⟩)
    | (go_at_call 33; refine (word_any _ _ _ (by omega) (by omega) (by omega) (by omega)).mono ?_; rintro e w' ⟨rfl, rfl⟩)
    | (go_at_call 37; refine (HT.out _).mono ?_; rintro e w' ⟨rfl, rfl⟩))
    refine wp_region_tame hR [0, 1, 2, 3, 4, 5, 6] rfl ?_
    repeat (refine wpT_step rfl ?_; first
    | ((first | (with_reducible apply q_pl) | ((with_reducible apply q_gd); (first | (apply GdBy.gt; exact rfl; exact rfl) | (apply GdBy.gf; exact rfl; exact rfl) | (apply GdBy.t; exact rfl; exact rfl) | (apply GdBy.f; exact rfl; exact rfl)))); (first | ((with_reducible first | apply t_move | apply t_assign | apply t_and | apply t_or | apply t_cmp | apply t_not | apply t_move | apply t_move) <;> (first | (apply EvC.gv; exact rfl; (with_reducible first | exact Imp.refl _ | (apply Imp.left; exact Imp.refl _) | (apply Imp.right; exact Imp.refl _) | (apply Imp.left; apply Imp.left; exact Imp.refl _))) | (apply EvC.now; exact rfl) | exact rfl | (with_reducible exact EvAll.nil) | (focus (repeat (first | apply EvAll.cons | exact EvAll.nil | (apply EvC.gv; exact rfl; (with_reducible first | exact Imp.refl _ | (apply Imp.left; exact Imp.refl _) | (apply Imp.right; exact Imp.refl _) | (apply Imp.left; apply Imp.left; exact Imp.refl _))) | (apply EvC.now; exact rfl))); done) | exact rfl | (focus (repeat (first | apply List.Mem.head | apply List.Mem.tail | apply List.mem_append_right)))))); (simp only [List.set_cons_succ, List.set_cons_zero]; exact rfl))
    | ((with_reducible apply q_gd); (first | (apply GdBy.gt; exact rfl; exact rfl) | (apply GdBy.gf; exact rfl; exact rfl) | (apply GdBy.t; exact rfl; exact rfl) | (apply GdBy.f; exact rfl; exact rfl)); ((with_reducible apply t_num) <;> (first | (apply EvC.gv; exact rfl; (with_reducible first | exact Imp.refl _ | (apply Imp.left; exact Imp.refl _) | (apply Imp.right; exact Imp.refl _) | (apply Imp.left; apply Imp.left; exact Imp.refl _))) | (apply EvC.now; exact rfl) | exact rfl | (with_reducible exact EvAll.nil) | (focus (repeat (first | apply EvAll.cons | exact EvAll.nil | (apply EvC.gv; exact rfl; (with_reducible first | exact Imp.refl _ | (apply Imp.left; exact Imp.refl _) | (apply Imp.right; exact Imp.refl _) | (apply Imp.left; apply Imp.left; exact Imp.refl _))) | (apply EvC.now; exact rfl))); done) | exact rfl | (focus (repeat (first | apply List.Mem.head | apply List.Mem.tail | apply List.mem_append_right))))); (simp only [List.set_cons_succ, List.set_cons_zero]; exact rfl))
    | ((with_reducible apply wpT1_gpure); (first | (apply GdBy.gt; exact rfl; exact rfl) | (apply GdBy.gf; exact rfl; exact rfl) | (apply GdBy.t; exact rfl; exact rfl) | (apply GdBy.f; exact rfl; exact rfl)); intro K hK; go_simp; refine hK _ ?_; clear hK K; simp only [List.set_cons_succ, List.set_cons_zero])
    | ((with_reducible apply wpT1_pure); exact rfl; intro K hK; go_simp; refine hK _ ?_; clear hK K; simp only [List.set_cons_succ, List.set_cons_zero]))
    refine wpT_nil ?_
    clear hR; intro w hR
    rw [HO.out]
    clear HO
    go_wp2_with (first
    | (go_at_call 28; refine (moreD_any _ _ _ (by omega) (by omega)).mono ?_; rintro e w' ⟨rfl, rfl⟩)
    | (go_at_call 31; refine (HL.out _).mono ?_; rintro e w' ⟨rfl, rfl⟩)
    | (go_at_call 32; refine (HH.out _).mono ?_; rintro e w' ⟨rfl, rfl⟩)
    | (go_at_call 33; refine (word_any _ _ _ (by omega) (by omega) (by omega) (by omega)).mono ?_; rintro e w' ⟨rfl, rfl⟩)
    | (go_at_call 34; refine (signsA_any _ X _ (by have := HX.out; omega) (by have := HX.out; omega)).mono ?_; rintro e w' ⟨rfl, rfl⟩))
    go_ret2
    exact ⟨ret_int2 (by have := HX.out; omega) (by rw [HA.out, HF.out]; exact HC.out X false true), hR.below⟩
  · have HX : Hid (X = (l + (6 + 0)) % 256) := Lib.hid hX
    have HF : Hid (F = (was &&& 2048) + fl 16 true + fl 1 false + signsN false X) := Lib.hid hF
    clear hX hF
    go_enter Try.func30, Try.ntmps30
    go_upto_region 7 with (first
    | (go_at_call 31; refine (HL.out _).mono ?_; rintro e w' ⟨rfl, rfl⟩)
    | (go_at_call 32; refine (HH.out _).mono ?_; rintro e w' ⟨rfl, rfl⟩)
    | (go_at_call 33; refine (word_any _ _ _ (by omega) (by omega) (by omega) (by omega)).mono ?_; rintro e w' ⟨rfl, rfl⟩)
    | (go_at_call 37; refine (HT.out _).mono ?_; rintro e w' ⟨rfl, rfl⟩))
    refine wp_region_tame hR [0, 1, 2, 3, 4, 5, 6] rfl ?_
    repeat (refine wpT_step rfl ?_; first
    | ((first | (with_reducible apply q_pl) | ((with_reducible apply q_gd); (first | (apply GdBy.gt; exact rfl; exact rfl) | (apply GdBy.gf; exact rfl; exact rfl) | (apply GdBy.t; exact rfl; exact rfl) | (apply GdBy.f; exact rfl; exact rfl)))); (first | ((with_reducible first | apply t_move | apply t_assign | apply t_and | apply t_or | apply t_cmp | apply t_not | apply t_move | apply t_move) <;> (first | (apply EvC.gv; exact rfl; (with_reducible first | exact Imp.refl _ | (apply Imp.left; exact Imp.refl _) | (apply Imp.right; exact Imp.refl _) | (apply Imp.left; apply Imp.left; exact Imp.refl _))) | (apply EvC.now; exact rfl) | exact rfl | (with_reducible exact EvAll.nil) | (focus (repeat (first | apply EvAll.cons | exact EvAll.nil | (apply EvC.gv; exact rfl; (with_reducible first | exact Imp.refl _ | (apply Imp.left; exact Imp.refl _) | (apply Imp.right; exact Imp.refl _) | (apply Imp.left; apply Imp.left; exact Imp.refl _))) | (apply EvC.now; exact rfl))); done) | exact rfl | (focus (repeat (first | apply List.Mem.head | apply List.Mem.tail | apply List.mem_append_right)))))); (simp only [List.set_cons_succ, List.set_cons_zero]; exact rfl))
    | ((with_reducible apply q_gd); (first | (apply GdBy.gt; exact rfl; exact rfl) | (apply GdBy.gf; exact rfl; exact rfl) | (apply GdBy.t; exact rfl; exact rfl) | (apply GdBy.f; exact rfl; exact rfl)); ((with_reducible apply t_num) <;> (first | (apply EvC.gv; exact rfl; (with_reducible first | exact Imp.refl _ | (apply Imp.left; exact Imp.refl _) | (apply Imp.right; exact Imp.refl _) | (apply Imp.left; apply Imp.left; exact Imp.refl _))) | (apply EvC.now; exact rfl) | exact rfl | (with_reducible exact EvAll.nil) | (focus (repeat (first | apply EvAll.cons | exact EvAll.nil | (apply EvC.gv; exact rfl; (with_reducible first | exact Imp.refl _ | (apply Imp.left; exact Imp.refl _) | (apply Imp.right; exact Imp.refl _) | (apply Imp.left; apply Imp.left; exact Imp.refl _))) | (apply EvC.now; exact rfl))); done) | exact rfl | (focus (repeat (first | apply List.Mem.head | apply List.Mem.tail | apply List.mem_append_right))))); (simp only [List.set_cons_succ, List.set_cons_zero]; exact rfl))
    | ((with_reducible apply wpT1_gpure); (first | (apply GdBy.gt; exact rfl; exact rfl) | (apply GdBy.gf; exact rfl; exact rfl) | (apply GdBy.t; exact rfl; exact rfl) | (apply GdBy.f; exact rfl; exact rfl)); intro K hK; go_simp; refine hK _ ?_; clear hK K; simp only [List.set_cons_succ, List.set_cons_zero])
    | ((with_reducible apply wpT1_pure); exact rfl; intro K hK; go_simp; refine hK _ ?_; clear hK K; simp only [List.set_cons_succ, List.set_cons_zero]))
    refine wpT_nil ?_
    clear hR; intro w hR
    rw [HO.out]
    clear HO
    go_wp2_with (first
    | (go_at_call 28; refine (moreD_any _ _ _ (by omega) (by omega)).mono ?_; rintro e w' ⟨rfl, rfl⟩)
    | (go_at_call 31; refine (HL.out _).mono ?_; rintro e w' ⟨rfl, rfl⟩)
    | (go_at_call 32; refine (HH.out _).mono ?_; rintro e w' ⟨rfl, rfl⟩)
    | (go_at_call 33; refine (word_any _ _ _ (by omega) (by omega) (by omega) (by omega)).mono ?_; rintro e w' ⟨rfl, rfl⟩)
    | (go_at_call 34; refine (signsA_any _ X _ (by have := HX.out; omega) (by have := HX.out; omega)).mono ?_; rintro e w' ⟨rfl, rfl⟩))
    go_ret2
    exact ⟨ret_int2 (by have := HX.out; omega) (by rw [HA.out, HF.out]; exact HC.out X true false), hR.below⟩
  · have HX : Hid (X = (l + (6 + 96)) % 256) := Lib.hid hX
    have HF : Hid (F = (was &&& 2048) + fl 16 true + fl 1 true + signsN false X) := Lib.hid hF
    clear hX hF
    go_enter Try.func30, Try.ntmps30
    go_upto_region 7 with (first
    | (go_at_call 31; refine (HL.out _).mono ?_; rintro e w' ⟨rfl, rfl⟩)
    | (go_at_call 32; refine (HH.out _).mono ?_; rintro e w' ⟨rfl, rfl⟩)
    | (go_at_call 33; refine (word_any _ _ _ (by omega) (by omega) (by omega) (by omega)).mono ?_; rintro e w' ⟨rfl, rfl⟩)
    | (go_at_call 37; refine (HT.out _).mono ?_; rintro e w' ⟨rfl, rfl⟩))
    refine wp_region_tame hR [0, 1, 2, 3, 4, 5, 6] rfl ?_
    repeat (refine wpT_step rfl ?_; first
    | ((first | (with_reducible apply q_pl) | ((with_reducible apply q_gd); (first | (apply GdBy.gt; exact rfl; exact rfl) | (apply GdBy.gf; exact rfl; exact rfl) | (apply GdBy.t; exact rfl; exact rfl) | (apply GdBy.f; exact rfl; exact rfl)))); (first | ((with_reducible first | apply t_move | apply t_assign | apply t_and | apply t_or | apply t_cmp | apply t_not | apply t_move | apply t_move) <;> (first | (apply EvC.gv; exact rfl; (with_reducible first | exact Imp.refl _ | (apply Imp.left; exact Imp.refl _) | (apply Imp.right; exact Imp.refl _) | (apply Imp.left; apply Imp.left; exact Imp.refl _))) | (apply EvC.now; exact rfl) | exact rfl | (with_reducible exact EvAll.nil) | (focus (repeat (first | apply EvAll.cons | exact EvAll.nil | (apply EvC.gv; exact rfl; (with_reducible first | exact Imp.refl _ | (apply Imp.left; exact Imp.refl _) | (apply Imp.right; exact Imp.refl _) | (apply Imp.left; apply Imp.left; exact Imp.refl _))) | (apply EvC.now; exact rfl))); done) | exact rfl | (focus (repeat (first | apply List.Mem.head | apply List.Mem.tail | apply List.mem_append_right)))))); (simp only [List.set_cons_succ, List.set_cons_zero]; exact rfl))
    | ((with_reducible apply q_gd); (first | (apply GdBy.gt; exact rfl; exact rfl) | (apply GdBy.gf; exact rfl; exact rfl) | (apply GdBy.t; exact rfl; exact rfl) | (apply GdBy.f; exact rfl; exact rfl)); ((with_reducible apply t_num) <;> (first | (apply EvC.gv; exact rfl; (with_reducible first | exact Imp.refl _ | (apply Imp.left; exact Imp.refl _) | (apply Imp.right; exact Imp.refl _) | (apply Imp.left; apply Imp.left; exact Imp.refl _))) | (apply EvC.now; exact rfl) | exact rfl | (with_reducible exact EvAll.nil) | (focus (repeat (first | apply EvAll.cons | exact EvAll.nil | (apply EvC.gv; exact rfl; (with_reducible first | exact Imp.refl _ | (apply Imp.left; exact Imp.refl _) | (apply Imp.right; exact Imp.refl _) | (apply Imp.left; apply Imp.left; exact Imp.refl _))) | (apply EvC.now; exact rfl))); done) | exact rfl | (focus (repeat (first | apply List.Mem.head | apply List.Mem.tail | apply List.mem_append_right))))); (simp only [List.set_cons_succ, List.set_cons_zero]; exact rfl))
    | ((with_reducible apply wpT1_gpure); (first | (apply GdBy.gt; exact rfl; exact rfl) | (apply GdBy.gf; exact rfl; exact rfl) | (apply GdBy.t; exact rfl; exact rfl) | (apply GdBy.f; exact rfl; exact rfl)); intro K hK; go_simp; refine hK _ ?_; clear hK K; simp only [List.set_cons_succ, List.set_cons_zero])
    | ((with_reducible apply wpT1_pure); exact rfl; intro K hK; go_simp; refine hK _ ?_; clear hK K; simp only [List.set_cons_succ, List.set_cons_zero]))
    refine wpT_nil ?_
    clear hR; intro w hR
    rw [HO.out]
    clear HO
    go_wp2_with (first
    | (go_at_call 28; refine (moreD_any _ _ _ (by omega) (by omega)).mono ?_; rintro e w' ⟨rfl, rfl⟩)
    | (go_at_call 31; refine (HL.out _).mono ?_; rintro e w' ⟨rfl, rfl⟩)
    | (go_at_call 32; refine (HH.out _).mono ?_; rintro e w' ⟨rfl, rfl⟩)
    | (go_at_call 33; refine (word_any _ _ _ (by omega) (by omega) (by omega) (by omega)).mono ?_; rintro e w' ⟨rfl, rfl⟩)
    | (go_at_call 34; refine (signsA_any _ X _ (by have := HX.out; omega) (by have := HX.out; omega)).mono ?_; rintro e w' ⟨rfl, rfl⟩))
    go_ret2
    exact ⟨ret_int2 (by have := HX.out; omega) (by rw [HA.out, HF.out]; exact HC.out X true true), hR.below⟩
theorem two_less (ax was : Nat) (w0 : World) (hx : ax ≤ 65535) (hw : was ≤ 65535) :
    Calls Try.prog 30 #[.int .u16 ax, .int .u16 was, funV 29] w0 fun e w' => e = .returned (.tuple #[.int .u16 (decX 12 ax was + 256 * decY 12 ax was : Nat), .int .u16 (decF 12 ax was : Nat)]) ∧ Below w0.heap.size w0 w' := by
  have hR := Own.start w0
  have HC := Lib.hid (fun v t o => chain_eq was v t o)
  have HA := Lib.hid (and2048 hw)
  have hX := two_x12 ax was
  have hF := two_f 12 ax was (by decide)
  have hY : decY 12 ax was = ax / 256 := rfl
  have HL := Lib.hid (fun w => lowN_any ax w hx)
  have HH := Lib.hid (fun w => highN_any ax w hx)
  have hl1 : ax % 256 ≤ 255 := by omega
  have hh1 : ax / 256 ≤ 255 := by omega
  have HT := Lib.hid (fun w => leftD_any (ax % 256) was w hl1 hw)
  have HO := Lib.hid (ov_int (ax % 256) hw)
  rw [hY]
  clear hY
  generalize decX 12 ax was = X at *
  generalize decF 12 ax was = F at *
  generalize ax % 256 = l at *
  generalize ax / 256 = h at *
  generalize lfN l was = t at *
  generalize ovN l was = o at *
  unfold funV
  cases t <;> cases o
  · have HX : Hid (X = (l + 256 - (0 + 0)) % 256) := Lib.hid hX
    have HF : Hid (F = (was &&& 2048) + fl 16 false + fl 1 false + signsN false X) := Lib.hid hF
    clear hX hF
    go_enter Try.func30, Try.ntmps30
    go_upto_region 7 with (first
    | (go_at_call 31; refine (HL.out _).mono ?_; rintro e w' ⟨rfl, rfl⟩)
    | (go_at_call 32; refine (HH.out _).mono ?_; rintro e w' ⟨rfl, rfl⟩)
    | (go_at_call 33; refine (word_any _ _ _ (by omega) (by omega) (by omega) (by omega)).mono ?_; rintro e w' ⟨rfl, rfl⟩)
    | (go_at_call 37; refine (HT.out _).mono ?_; rintro e w' ⟨rfl, rfl⟩))
    refine wp_region_tame hR [0, 1, 2, 3, 4, 5, 6] rfl ?_
    repeat (refine wpT_step rfl ?_; first
    | ((first | (with_reducible apply q_pl) | ((with_reducible apply q_gd); (first | (apply GdBy.gt; exact rfl; exact rfl) | (apply GdBy.gf; exact rfl; exact rfl) | (apply GdBy.t; exact rfl; exact rfl) | (apply GdBy.f; exact rfl; exact rfl)))); (first | ((with_reducible first | apply t_move | apply t_assign | apply t_and | apply t_or | apply t_cmp | apply t_not | apply t_move | apply t_move) <;> (first | (apply EvC.gv; exact rfl; (with_reducible first | exact Imp.refl _ | (apply Imp.left; exact Imp.refl _) | (apply Imp.right; exact Imp.refl _) | (apply Imp.left; apply Imp.left; exact Imp.refl _))) | (apply EvC.now; exact rfl) | exact rfl | (with_reducible exact EvAll.nil) | (focus (repeat (first | apply EvAll.cons | exact EvAll.nil | (apply EvC.gv; exact rfl; (with_reducible first | exact Imp.refl _ | (apply Imp.left; exact Imp.refl _) | (apply Imp.right; exact Imp.refl _) | (apply Imp.left; apply Imp.left; exact Imp.refl _))) | (apply EvC.now; exact rfl))); done) | exact rfl | (focus (repeat (first | apply List.Mem.head | apply List.Mem.tail | apply List.mem_append_right)))))); (simp only [List.set_cons_succ, List.set_cons_zero]; exact rfl))
    | ((with_reducible apply q_gd); (first | (apply GdBy.gt; exact rfl; exact rfl) | (apply GdBy.gf; exact rfl; exact rfl) | (apply GdBy.t; exact rfl; exact rfl) | (apply GdBy.f; exact rfl; exact rfl)); ((with_reducible apply t_num) <;> (first | (apply EvC.gv; exact rfl; (with_reducible first | exact Imp.refl _ | (apply Imp.left; exact Imp.refl _) | (apply Imp.right; exact Imp.refl _) | (apply Imp.left; apply Imp.left; exact Imp.refl _))) | (apply EvC.now; exact rfl) | exact rfl | (with_reducible exact EvAll.nil) | (focus (repeat (first | apply EvAll.cons | exact EvAll.nil | (apply EvC.gv; exact rfl; (with_reducible first | exact Imp.refl _ | (apply Imp.left; exact Imp.refl _) | (apply Imp.right; exact Imp.refl _) | (apply Imp.left; apply Imp.left; exact Imp.refl _))) | (apply EvC.now; exact rfl))); done) | exact rfl | (focus (repeat (first | apply List.Mem.head | apply List.Mem.tail | apply List.mem_append_right))))); (simp only [List.set_cons_succ, List.set_cons_zero]; exact rfl))
    | ((with_reducible apply wpT1_gpure); (first | (apply GdBy.gt; exact rfl; exact rfl) | (apply GdBy.gf; exact rfl; exact rfl) | (apply GdBy.t; exact rfl; exact rfl) | (apply GdBy.f; exact rfl; exact rfl)); intro K hK; go_simp; refine hK _ ?_; clear hK K; simp only [List.set_cons_succ, List.set_cons_zero])
    | ((with_reducible apply wpT1_pure); exact rfl; intro K hK; go_simp; refine hK _ ?_; clear hK K; simp only [List.set_cons_succ, List.set_cons_zero]))
    refine wpT_nil ?_
    clear hR; intro w hR
    rw [HO.out]
    clear HO
    go_wp2_with (first
    | (go_at_call 29; refine (lessD_any _ _ _ (by omega) (by omega)).mono ?_; rintro e w' ⟨rfl, rfl⟩)
    | (go_at_call 31; refine (HL.out _).mono ?_; rintro e w' ⟨rfl, rfl⟩)
    | (go_at_call 32; refine (HH.out _).mono ?_; rintro e w' ⟨rfl, rfl⟩)
    | (go_at_call 33; refine (word_any _ _ _ (by omega) (by omega) (by omega) (by omega)).mono ?_; rintro e w' ⟨rfl, rfl⟩)
    | (go_at_call 34; refine (signsA_any _ X _ (by have := HX.out; omega) (by have := HX.out; omega)).mono ?_; rintro e w' ⟨rfl, rfl⟩))
    go_ret2
    exact ⟨ret_int2 (by have := HX.out; omega) (by rw [HA.out, HF.out]; exact HC.out X false false), hR.below⟩
  · have HX : Hid (X = (l + 256 - (0 + 96)) % 256) := Lib.hid hX
    have HF : Hid (F = (was &&& 2048) + fl 16 false + fl 1 true + signsN false X) := Lib.hid hF
    clear hX hF
    go_enter Try.func30, Try.ntmps30
    go_upto_region 7 with (first
    | (go_at_call 31; refine (HL.out _).mono ?_; rintro e w' ⟨rfl, rfl⟩)
    | (go_at_call 32; refine (HH.out _).mono ?_; rintro e w' ⟨rfl, rfl⟩)
    | (go_at_call 33; refine (word_any _ _ _ (by omega) (by omega) (by omega) (by omega)).mono ?_; rintro e w' ⟨rfl, rfl⟩)
    | (go_at_call 37; refine (HT.out _).mono ?_; rintro e w' ⟨rfl, rfl⟩))
    refine wp_region_tame hR [0, 1, 2, 3, 4, 5, 6] rfl ?_
    repeat (refine wpT_step rfl ?_; first
    | ((first | (with_reducible apply q_pl) | ((with_reducible apply q_gd); (first | (apply GdBy.gt; exact rfl; exact rfl) | (apply GdBy.gf; exact rfl; exact rfl) | (apply GdBy.t; exact rfl; exact rfl) | (apply GdBy.f; exact rfl; exact rfl)))); (first | ((with_reducible first | apply t_move | apply t_assign | apply t_and | apply t_or | apply t_cmp | apply t_not | apply t_move | apply t_move) <;> (first | (apply EvC.gv; exact rfl; (with_reducible first | exact Imp.refl _ | (apply Imp.left; exact Imp.refl _) | (apply Imp.right; exact Imp.refl _) | (apply Imp.left; apply Imp.left; exact Imp.refl _))) | (apply EvC.now; exact rfl) | exact rfl | (with_reducible exact EvAll.nil) | (focus (repeat (first | apply EvAll.cons | exact EvAll.nil | (apply EvC.gv; exact rfl; (with_reducible first | exact Imp.refl _ | (apply Imp.left; exact Imp.refl _) | (apply Imp.right; exact Imp.refl _) | (apply Imp.left; apply Imp.left; exact Imp.refl _))) | (apply EvC.now; exact rfl))); done) | exact rfl | (focus (repeat (first | apply List.Mem.head | apply List.Mem.tail | apply List.mem_append_right)))))); (simp only [List.set_cons_succ, List.set_cons_zero]; exact rfl))
    | ((with_reducible apply q_gd); (first | (apply GdBy.gt; exact rfl; exact rfl) | (apply GdBy.gf; exact rfl; exact rfl) | (apply GdBy.t; exact rfl; exact rfl) | (apply GdBy.f; exact rfl; exact rfl)); ((with_reducible apply t_num) <;> (first | (apply EvC.gv; exact rfl; (with_reducible first | exact Imp.refl _ | (apply Imp.left; exact Imp.refl _) | (apply Imp.right; exact Imp.refl _) | (apply Imp.left; apply Imp.left; exact Imp.refl _))) | (apply EvC.now; exact rfl) | exact rfl | (with_reducible exact EvAll.nil) | (focus (repeat (first | apply EvAll.cons | exact EvAll.nil | (apply EvC.gv; exact rfl; (with_reducible first | exact Imp.refl _ | (apply Imp.left; exact Imp.refl _) | (apply Imp.right; exact Imp.refl _) | (apply Imp.left; apply Imp.left; exact Imp.refl _))) | (apply EvC.now; exact rfl))); done) | exact rfl | (focus (repeat (first | apply List.Mem.head | apply List.Mem.tail | apply List.mem_append_right))))); (simp only [List.set_cons_succ, List.set_cons_zero]; exact rfl))
    | ((with_reducible apply wpT1_gpure); (first | (apply GdBy.gt; exact rfl; exact rfl) | (apply GdBy.gf; exact rfl; exact rfl) | (apply GdBy.t; exact rfl; exact rfl) | (apply GdBy.f; exact rfl; exact rfl)); intro K hK; go_simp; refine hK _ ?_; clear hK K; simp only [List.set_cons_succ, List.set_cons_zero])
    | ((with_reducible apply wpT1_pure); exact rfl; intro K hK; go_simp; refine hK _ ?_; clear hK K; simp only [List.set_cons_succ, List.set_cons_zero]))
    refine wpT_nil ?_
    clear hR; intro w hR
    rw [HO.out]
    clear HO
    go_wp2_with (first
    | (go_at_call 29; refine (lessD_any _ _ _ (by omega) (by omega)).mono ?_; rintro e w' ⟨rfl, rfl⟩)
    | (go_at_call 31; refine (HL.out _).mono ?_; rintro e w' ⟨rfl, rfl⟩)
    | (go_at_call 32; refine (HH.out _).mono ?_; rintro e w' ⟨rfl, rfl⟩)
    | (go_at_call 33; refine (word_any _ _ _ (by omega) (by omega) (by omega) (by omega)).mono ?_; rintro e w' ⟨rfl, rfl⟩)
    | (go_at_call 34; refine (signsA_any _ X _ (by have := HX.out; omega) (by have := HX.out; omega)).mono ?_; rintro e w' ⟨rfl, rfl⟩))
    go_ret2
    exact ⟨ret_int2 (by have := HX.out; omega) (by rw [HA.out, HF.out]; exact HC.out X false true), hR.below⟩
  · have HX : Hid (X = (l + 256 - (6 + 0)) % 256) := Lib.hid hX
    have HF : Hid (F = (was &&& 2048) + fl 16 true + fl 1 false + signsN false X) := Lib.hid hF
    clear hX hF
    go_enter Try.func30, Try.ntmps30
    go_upto_region 7 with (first
    | (go_at_call 31; refine (HL.out _).mono ?_; rintro e w' ⟨rfl, rfl⟩)
    | (go_at_call 32; refine (HH.out _).mono ?_; rintro e w' ⟨rfl, rfl⟩)
    | (go_at_call 33; refine (word_any _ _ _ (by omega) (by omega) (by omega) (by omega)).mono ?_; rintro e w' ⟨rfl, rfl⟩)
    | (go_at_call 37; refine (HT.out _).mono ?_; rintro e w' ⟨rfl, rfl⟩))
    refine wp_region_tame hR [0, 1, 2, 3, 4, 5, 6] rfl ?_
    repeat (refine wpT_step rfl ?_; first
    | ((first | (with_reducible apply q_pl) | ((with_reducible apply q_gd); (first | (apply GdBy.gt; exact rfl; exact rfl) | (apply GdBy.gf; exact rfl; exact rfl) | (apply GdBy.t; exact rfl; exact rfl) | (apply GdBy.f; exact rfl; exact rfl)))); (first | ((with_reducible first | apply t_move | apply t_assign | apply t_and | apply t_or | apply t_cmp | apply t_not | apply t_move | apply t_move) <;> (first | (apply EvC.gv; exact rfl; (with_reducible first | exact Imp.refl _ | (apply Imp.left; exact Imp.refl _) | (apply Imp.right; exact Imp.refl _) | (apply Imp.left; apply Imp.left; exact Imp.refl _))) | (apply EvC.now; exact rfl) | exact rfl | (with_reducible exact EvAll.nil) | (focus (repeat (first | apply EvAll.cons | exact EvAll.nil | (apply EvC.gv; exact rfl; (with_reducible first | exact Imp.refl _ | (apply Imp.left; exact Imp.refl _) | (apply Imp.right; exact Imp.refl _) | (apply Imp.left; apply Imp.left; exact Imp.refl _))) | (apply EvC.now; exact rfl))); done) | exact rfl | (focus (repeat (first | apply List.Mem.head | apply List.Mem.tail | apply List.mem_append_right)))))); (simp only [List.set_cons_succ, List.set_cons_zero]; exact rfl))
    | ((with_reducible apply q_gd); (first | (apply GdBy.gt; exact rfl; exact rfl) | (apply GdBy.gf; exact rfl; exact rfl) | (apply GdBy.t; exact rfl; exact rfl) | (apply GdBy.f; exact rfl; exact rfl)); ((with_reducible apply t_num) <;> (first | (apply EvC.gv; exact rfl; (with_reducible first | exact Imp.refl _ | (apply Imp.left; exact Imp.refl _) | (apply Imp.right; exact Imp.refl _) | (apply Imp.left; apply Imp.left; exact Imp.refl _))) | (apply EvC.now; exact rfl) | exact rfl | (with_reducible exact EvAll.nil) | (focus (repeat (first | apply EvAll.cons | exact EvAll.nil | (apply EvC.gv; exact rfl; (with_reducible first | exact Imp.refl _ | (apply Imp.left; exact Imp.refl _) | (apply Imp.right; exact Imp.refl _) | (apply Imp.left; apply Imp.left; exact Imp.refl _))) | (apply EvC.now; exact rfl))); done) | exact rfl | (focus (repeat (first | apply List.Mem.head | apply List.Mem.tail | apply List.mem_append_right))))); (simp only [List.set_cons_succ, List.set_cons_zero]; exact rfl))
    | ((with_reducible apply wpT1_gpure); (first | (apply GdBy.gt; exact rfl; exact rfl) | (apply GdBy.gf; exact rfl; exact rfl) | (apply GdBy.t; exact rfl; exact rfl) | (apply GdBy.f; exact rfl; exact rfl)); intro K hK; go_simp; refine hK _ ?_; clear hK K; simp only [List.set_cons_succ, List.set_cons_zero])
    | ((with_reducible apply wpT1_pure); exact rfl; intro K hK; go_simp; refine hK _ ?_; clear hK K; simp only [List.set_cons_succ, List.set_cons_zero]))
    refine wpT_nil ?_
    clear hR; intro w hR
    rw [HO.out]
    clear HO
    go_wp2_with (first
    | (go_at_call 29; refine (lessD_any _ _ _ (by omega) (by omega)).mono ?_; rintro e w' ⟨rfl, rfl⟩)
    | (go_at_call 31; refine (HL.out _).mono ?_; rintro e w' ⟨rfl, rfl⟩)
    | (go_at_call 32; refine (HH.out _).mono ?_; rintro e w' ⟨rfl, rfl⟩)
    | (go_at_call 33; refine (word_any _ _ _ (by omega) (by omega) (by omega) (by omega)).mono ?_; rintro e w' ⟨rfl, rfl⟩)
    | (go_at_call 34; refine (signsA_any _ X _ (by have := HX.out; omega) (by have := HX.out; omega)).mono ?_; rintro e w' ⟨rfl, rfl⟩))
    go_ret2
    exact ⟨ret_int2 (by have := HX.out; omega) (by rw [HA.out, HF.out]; exact HC.out X true false), hR.below⟩
  · have HX : Hid (X = (l + 256 - (6 + 96)) % 256) := Lib.hid hX
    have HF : Hid (F = (was &&& 2048) + fl 16 true + fl 1 true + signsN false X) := Lib.hid hF
    clear hX hF
    go_enter Try.func30, Try.ntmps30
    go_upto_region 7 with (first
    | (go_at_call 31; refine (HL.out _).mono ?_; rintro e w' ⟨rfl, rfl⟩)
    | (go_at_call 32; refine (HH.out _).mono ?_; rintro e w' ⟨rfl, rfl⟩)
    | (go_at_call 33; refine (word_any _ _ _ (by omega) (by omega) (by omega) (by omega)).mono ?_; rintro e w' ⟨rfl, rfl⟩)
    | (go_at_call 37; refine (HT.out _).mono ?_; rintro e w' ⟨rfl, rfl⟩))
    refine wp_region_tame hR [0, 1, 2, 3, 4, 5, 6] rfl ?_
    repeat (refine wpT_step rfl ?_; first
    | ((first | (with_reducible apply q_pl) | ((with_reducible apply q_gd); (first | (apply GdBy.gt; exact rfl; exact rfl) | (apply GdBy.gf; exact rfl; exact rfl) | (apply GdBy.t; exact rfl; exact rfl) | (apply GdBy.f; exact rfl; exact rfl)))); (first | ((with_reducible first | apply t_move | apply t_assign | apply t_and | apply t_or | apply t_cmp | apply t_not | apply t_move | apply t_move) <;> (first | (apply EvC.gv; exact rfl; (with_reducible first | exact Imp.refl _ | (apply Imp.left; exact Imp.refl _) | (apply Imp.right; exact Imp.refl _) | (apply Imp.left; apply Imp.left; exact Imp.refl _))) | (apply EvC.now; exact rfl) | exact rfl | (with_reducible exact EvAll.nil) | (focus (repeat (first | apply EvAll.cons | exact EvAll.nil | (apply EvC.gv; exact rfl; (with_reducible first | exact Imp.refl _ | (apply Imp.left; exact Imp.refl _) | (apply Imp.right; exact Imp.refl _) | (apply Imp.left; apply Imp.left; exact Imp.refl _))) | (apply EvC.now; exact rfl))); done) | exact rfl | (focus (repeat (first | apply List.Mem.head | apply List.Mem.tail | apply List.mem_append_right)))))); (simp only [List.set_cons_succ, List.set_cons_zero]; exact rfl))
    | ((with_reducible apply q_gd); (first | (apply GdBy.gt; exact rfl; exact rfl) | (apply GdBy.gf; exact rfl; exact rfl) | (apply GdBy.t; exact rfl; exact rfl) | (apply GdBy.f; exact rfl; exact rfl)); ((with_reducible apply t_num) <;> (first | (apply EvC.gv; exact rfl; (with_reducible first | exact Imp.refl _ | (apply Imp.left; exact Imp.refl _) | (apply Imp.right; exact Imp.refl _) | (apply Imp.left; apply Imp.left; exact Imp.refl _))) | (apply EvC.now; exact rfl) | exact rfl | (with_reducible exact EvAll.nil) | (focus (repeat (first | apply EvAll.cons | exact EvAll.nil | (apply EvC.gv; exact rfl; (with_reducible first | exact Imp.refl _ | (apply Imp.left; exact Imp.refl _) | (apply Imp.right; exact Imp.refl _) | (apply Imp.left; apply Imp.left; exact Imp.refl _))) | (apply EvC.now; exact rfl))); done) | exact rfl | (focus (repeat (first | apply List.Mem.head | apply List.Mem.tail | apply List.mem_append_right))))); (simp only [List.set_cons_succ, List.set_cons_zero]; exact rfl))
    | ((with_reducible apply wpT1_gpure); (first | (apply GdBy.gt; exact rfl; exact rfl) | (apply GdBy.gf; exact rfl; exact rfl) | (apply GdBy.t; exact rfl; exact rfl) | (apply GdBy.f; exact rfl; exact rfl)); intro K hK; go_simp; refine hK _ ?_; clear hK K; simp only [List.set_cons_succ, List.set_cons_zero])
    | ((with_reducible apply wpT1_pure); exact rfl; intro K hK; go_simp; refine hK _ ?_; clear hK K; simp only [List.set_cons_succ, List.set_cons_zero]))
    refine wpT_nil ?_
    clear hR; intro w hR
    rw [HO.out]
    clear HO
    go_wp2_with (first
    | (go_at_call 29; refine (lessD_any _ _ _ (by omega) (by omega)).mono ?_; rintro e w' ⟨rfl, rfl⟩)
    | (go_at_call 31; refine (HL.out _).mono ?_; rintro e w' ⟨rfl, rfl⟩)
    | (go_at_call 32; refine (HH.out _).mono ?_; rintro e w' ⟨rfl, rfl⟩)
    | (go_at_call 33; refine (word_any _ _ _ (by omega) (by omega) (by omega) (by omega)).mono ?_; rintro e w' ⟨rfl, rfl⟩)
    | (go_at_call 34; refine (signsA_any _ X _ (by have := HX.out; omega) (by have := HX.out; omega)).mono ?_; rintro e w' ⟨rfl, rfl⟩))
    go_ret2
    exact ⟨ret_int2 (by have := HX.out; omega) (by rw [HA.out, HF.out]; exact HC.out X true true), hR.below⟩
end Go.Proofs.Ytpkobahelnopmaa
