









/- ValueDoes, where the word is one of the others. No statement of the seat is proved here. -/
import Derived.Test.YtaaindgmcmbjbaaDoes
namespace Go.Proofs.Ytaaindgmcmbjbaa
open Go.ChangeShapes Go.WideShapes Go.ChangeAt Go.RowKit
set_option linter.unusedVariables false
set_option linter.unusedSimpArgs false

set_option maxHeartbeats 8000000 in
set_option maxRecDepth 100000 in
theorem doesB (a b word : Int) {k : Nat} (hk : word % 16 = (k : Int)) (hk2 : 5 ≤ k ∧ k ≤ 15) (w0 : World) :
    Calls Try.prog 4 #[.int .i64 a, .int .i64 b, .int .i64 word] w0 fun e w' => e = .returned (.bool true) ∧ Below w0.heap.size w0 w' := by
  have hk15 : k ≤ 15 := by omega
  have hR := Own.start w0
  have HB := Lib.hid (show bits .and .i64 b 15 = b % 16 from i64_mask b 4 15 (by decide) (by decide))
  go_enter Try.func4, Try.ntmps4
  go_upto_if 24 with (first
    | (go_at_call 8; refine (cutL_q _ _).mono ?_; rintro e w' ⟨rfl, hw⟩; subst hw))
  go_cut [8] (fun v wr => ∃ y : Int, cutZ y = y ∧ v = .int .i64 y ∧ Own w0 wr [])
  case first =>
    go_wp2_with fail
    · go_meet
      exact ⟨b % 16, by unfold cutZ; omega, val_int HB.out, hR⟩
    · go_meet
      exact ⟨cutZ b, cutZ_cut b, rfl, hR⟩
  case rest =>
  clear hR HB
  obtain ⟨y, hy, rfl, hR⟩ := hcut
  obtain ⟨kz, hkz⟩ : ∃ kz : Int, (k : Int) = kz := ⟨_, rfl⟩
  have HK := Lib.hid (show bits .and .i64 word 15 = kz from ((i64_mask word 4 15 (by decide) (by decide)).trans hk).trans hkz)
  have HKZ := Lib.hid hkz.symm
  clear hk
  obtain ⟨X, hX⟩ : ∃ X, cutZ a = X := ⟨_, rfl⟩
  have hXb := cutZ_bd a
  have hyb := cutZ_bd y
  rw [hX] at hXb ⊢
  rw [hy] at hyb
  go_upto_region 6 with (first
    | ((with_reducible apply wpList_buildS hR); exact rfl; exact rfl; exact bWords; clear hR; intro g w hR; simp only [List.set_cons_succ, List.set_cons_zero])
    | ((with_reducible apply q_ls hR); exact rfl; (with_reducible apply t_numE); (apply EvC.now; exact rfl); (apply EvC.now; exact rfl); exact rfl; exact HK.out; (simp only [List.set_cons_succ, List.set_cons_zero]; exact rfl); clear hR; intro w hR))
  go_upto_block 0 with fail
  go_cut [11, 12, 13] (XDo w0 g k X y)
  case first =>
    clear hX hy HK
    clear HKZ
    go_upto_if 31 with fail
    refine wp_cond_at (nm := kz == 0) rfl rfl (fun h => ?_) (fun h => ?_)
    · exact absurd hk2 (by rw [beq_iff_eq] at h; omega)
    have n0 := beq_eq_false_iff_ne.1 h
    clear h
    go_upto_if 36 with fail
    refine wp_cond_at (nm := kz == 1) rfl rfl (fun h => ?_) (fun h => ?_)
    · exact absurd hk2 (by rw [beq_iff_eq] at h; omega)
    have n1 := beq_eq_false_iff_ne.1 h
    clear h
    go_upto_if 44 with fail
    refine wp_cond_at (nm := kz == 2) rfl rfl (fun h => ?_) (fun h => ?_)
    · exact absurd hk2 (by rw [beq_iff_eq] at h; omega)
    have n2 := beq_eq_false_iff_ne.1 h
    clear h
    go_upto_if 52 with fail
    refine wp_cond_at (nm := kz == 3) rfl rfl (fun h => ?_) (fun h => ?_)
    · exact absurd hk2 (by rw [beq_iff_eq] at h; omega)
    have n3 := beq_eq_false_iff_ne.1 h
    clear h
    go_upto_if 62 with fail
    refine wp_cond_at (nm := kz == 4) rfl rfl (fun h => ?_) (fun h => ?_)
    · exact absurd hk2 (by rw [beq_iff_eq] at h; omega)
    have n4 := beq_eq_false_iff_ne.1 h
    clear h
    go_upto_if 74 with fail
    refine wp_cond_at (nm := kz == 5) rfl rfl (fun h => ?_) (fun h => ?_)
    · obtain rfl : k = 5 := by rw [beq_iff_eq] at h; omega
      clear h hkz
      go_wp2_with fail
      all_goals go_meet
      exact ⟨_, _, _, rfl, rfl, rfl, rfl, fun _ => rfl, hR⟩
    have n5 := beq_eq_false_iff_ne.1 h
    clear h
    go_upto_if 79 with fail
    refine wp_cond_at (nm := kz == 6) rfl rfl (fun h => ?_) (fun h => ?_)
    · obtain rfl : k = 6 := by rw [beq_iff_eq] at h; omega
      clear h hkz
      go_wp2_with fail
      all_goals go_meet
      exact ⟨_, _, _, rfl, rfl, rfl, rfl, fun _ => rfl, hR⟩
    have n6 := beq_eq_false_iff_ne.1 h
    clear h
    go_upto_if 84 with fail
    refine wp_cond_at (nm := kz == 7) rfl rfl (fun h => ?_) (fun h => ?_)
    · obtain rfl : k = 7 := by rw [beq_iff_eq] at h; omega
      clear h hkz
      go_wp2_with fail
      all_goals go_meet
      exact ⟨_, _, _, rfl, rfl, rfl, rfl, fun _ => rfl, hR⟩
    have n7 := beq_eq_false_iff_ne.1 h
    clear h
    go_upto_if 89 with fail
    refine wp_cond_at (nm := kz == 8) rfl rfl (fun h => ?_) (fun h => ?_)
    · obtain rfl : k = 8 := by rw [beq_iff_eq] at h; omega
      clear h hkz
      go_wp2_with fail
      all_goals go_meet
      exact ⟨_, _, _, rfl, rfl, rfl, rfl, fun _ => by simp [resZ, truthZ], hR⟩
    have n8 := beq_eq_false_iff_ne.1 h
    clear h
    go_upto_if 94 with fail
    refine wp_cond_at (nm := kz == 9) rfl rfl (fun h => ?_) (fun h => ?_)
    · obtain rfl : k = 9 := by rw [beq_iff_eq] at h; omega
      clear h hkz
      go_wp2_with fail
      all_goals go_meet
      exact ⟨_, _, _, rfl, rfl, rfl, rfl, fun _ => by simp [resZ, truthZ], hR⟩
    have n9 := beq_eq_false_iff_ne.1 h
    clear h
    go_upto_if 99 with fail
    refine wp_cond_at (nm := kz == 10) rfl rfl (fun h => ?_) (fun h => ?_)
    · obtain rfl : k = 10 := by rw [beq_iff_eq] at h; omega
      clear h hkz
      go_wp2_with fail
      all_goals go_meet
      exact ⟨_, _, _, rfl, rfl, rfl, rfl, fun _ => by simp [resZ, truthZ], hR⟩
    have n10 := beq_eq_false_iff_ne.1 h
    clear h
    go_upto_if 104 with fail
    refine wp_cond_at (nm := kz == 11) rfl rfl (fun h => ?_) (fun h => ?_)
    · obtain rfl : k = 11 := by rw [beq_iff_eq] at h; omega
      clear h hkz
      go_wp2_with fail
      all_goals go_meet
      exact ⟨_, _, _, rfl, rfl, rfl, rfl, fun _ => by simp [resZ, truthZ], hR⟩
    have n11 := beq_eq_false_iff_ne.1 h
    clear h
    go_upto_if 109 with fail
    refine wp_cond_at (nm := kz == 12) rfl rfl (fun h => ?_) (fun h => ?_)
    · obtain rfl : k = 12 := by rw [beq_iff_eq] at h; omega
      clear h hkz
      go_wp2_with fail
      all_goals go_meet
      exact ⟨_, _, _, rfl, rfl, rfl, rfl, fun _ => by simp [resZ, truthZ], hR⟩
    have n12 := beq_eq_false_iff_ne.1 h
    clear h
    go_upto_if 114 with fail
    refine wp_cond_at (nm := kz == 13) rfl rfl (fun h => ?_) (fun h => ?_)
    · obtain rfl : k = 13 := by rw [beq_iff_eq] at h; omega
      clear h hkz
      go_wp2_with fail
      all_goals go_meet
      exact ⟨_, _, _, rfl, rfl, rfl, rfl, fun _ => by simp [resZ, truthZ], hR⟩
    have n13 := beq_eq_false_iff_ne.1 h
    clear h
    have hf : (resZ k X y).2 = false := by
      obtain rfl | rfl : k = 14 ∨ k = 15 := by omega
      · rfl
      · rfl
    go_wp2_with fail
    all_goals go_meet
    exact ⟨_, _, _, rfl, rfl, rfl, hf.symm, (fun h => nomatch h), hR⟩
  case rest =>
  clear hR
  obtain ⟨want, ok, yes, rfl, rfl, rfl, hok, hwant, hR⟩ := hcut
  have HOK := Lib.hid hok
  clear hok
  go_upto_if 119 with fail
  go_cut [11] (fun v wr => v = .int .i64 (if yes then -1 else want) ∧ Own w0 wr [(g, wordsA, 9)])
  case first =>
    cases yes
    · go_wp2_with fail
      go_meet
      exact ⟨rfl, hR⟩
    · go_wp2_with fail
      go_meet
      exact ⟨rfl, hR⟩
  case rest =>
  clear hR
  obtain ⟨rfl, hR⟩ := hcut
  generalize (if yes then -1 else want) = W at hwant ⊢
  have hd : ∀ w : World, Calls Try.prog 12 #[.string (wordK k), .agg (encV (numVZ a true)), .agg (encV (numVZ y true))] w fun e w' => e = .returned (.tuple #[.agg (encV (doZ k (numVZ a true) (numVZ y true)).1), .bool (doZ k (numVZ a true) (numVZ y true)).2]) ∧ Below w.heap.size w w' := doV_any k hk15 _ _
  have hz : doZ k (numVZ a true) (numVZ y true) = if (resZ k X y).2 then (numVZ (resZ k X y).1 true, true) else (zeroVal, false) := by
    have e1 : cutZ (numVZ a true).n = X := by show cutZ (cutZ a) = X; rw [cutZ_cut, hX]
    have e2 : cutZ (numVZ y true).n = y := by show cutZ (cutZ y) = y; rw [cutZ_cut, hy]
    unfold doZ
    rw [e1, e2]; rfl
  have hok := HOK.out
  clear HOK
  rw [← hok] at hz
  generalize doZ k (numVZ a true) (numVZ y true) = p at hd hz
  have hf : ∀ w : World, Calls Try.prog 12 #[.string (wordK k), .agg (encV ⟨0, 1, 0, 0, 0, false⟩), .agg (encV (numVZ y true))] w fun e w' => e = .returned (.tuple #[.agg (encV zeroVal), .bool false]) ∧ Below w.heap.size w w' := doV_any k hk15 ⟨0, 1, 0, 0, 0, false⟩ (numVZ y true)
  have HF := Lib.hid hf
  have HW := Lib.hid (words_at hk15)
  have hNA : numVZ a true = ⟨X, 0, 0, 0, 0, true⟩ := by unfold numVZ; rw [hX]
  have HN := Lib.hid (show ∀ w : World, Calls Try.prog 13 #[.int .i64 a] w fun e w' => e = .returned (.agg (encV ⟨X, 0, 0, 0, 0, true⟩)) ∧ Below w.heap.size w w' from hNA ▸ numV_any a)
  have HM := Lib.hid (show ∀ w : World, Calls Try.prog 13 #[.int .i64 y] w fun e w' => e = .returned (.agg (encV (numVZ y true))) ∧ Below w.heap.size w w' from numV_any y)
  have HK2 := Lib.hid (show k < 16 by omega)
  rw [hNA] at hd
  clear hf hNA hX hy hXb hyb HK
  generalize numVZ y true = Y at *
  generalize hr : (resZ k X y).1 = r at *
  clear hr
  generalize wordK k = wk at *
  cases ok
  · rw [if_neg (fun h => nomatch h)] at hz
    subst hz
    dsimp only at hd
    have HD := Lib.hid hd
    clear hd hok hwant
    go_upto_region 46 with fail
    refine wp_region_some hR [(g, wordsA, 9)] (by (focus (repeat (first | exact List.Sublist.slnil | exact List.nil_sublist _ | exact List.Sublist.refl _ | apply List.Sublist.cons_cons | apply List.Sublist.cons)))) [0, 1, 2, 3, 4, 5, 6, 7, 8, 9, 10, 11] 3 (by kernel_rfl) (by kernel_rfl) (by kernel_rfl) rfl ?_
    clear hR; intro hR
    repeat (refine wpT_step rfl ?_; first
        | ((with_reducible apply q_kn); exact rfl; (with_reducible apply t_sixG Try.underlying31 iStrV); (apply EvC.now; exact rfl); (apply EvC.now; exact rfl); exact HKZ.out; exact HK2.out; (simp only [List.set_cons_succ, List.set_cons_zero]; exact rfl))
        | ((with_reducible apply q_kn); exact rfl; (with_reducible apply t_one tStrV); (apply EvC.now; exact rfl); (focus (repeat (first | apply List.Mem.head | apply List.Mem.tail | apply List.mem_append_right))); exact HW.out; (simp only [List.set_cons_succ, List.set_cons_zero]; exact rfl))
        | ((with_reducible apply q_kn); exact rfl; (with_reducible apply t_built); exact rfl; exact bValF 1; (simp only [List.set_cons_succ, List.set_cons_zero]; exact rfl))
        | ((with_reducible apply q_kn); exact rfl; (with_reducible apply t_extract); (apply EvC.now; exact rfl); exact rfl; (simp only [List.set_cons_succ, List.set_cons_zero]; exact rfl))
        | ((first | (with_reducible apply q_pl) | ((with_reducible apply q_gd); (first | (apply GdBy.gt; exact rfl; exact rfl) | (apply GdBy.gf; exact rfl; exact rfl) | (apply GdBy.t; exact rfl; exact rfl) | (apply GdBy.f; exact rfl; exact rfl)))); (with_reducible apply t_call Try.call13); (first | (apply EvC.gv; exact rfl; (with_reducible first | exact Imp.refl _ | (apply Imp.left; exact Imp.refl _) | (apply Imp.right; exact Imp.refl _) | (apply Imp.left; apply Imp.left; exact Imp.refl _))) | (apply EvC.now; exact rfl) | exact rfl | (with_reducible exact EvAll.nil) | (focus (repeat (first | apply EvAll.cons | exact EvAll.nil | (apply EvC.gv; exact rfl; (with_reducible first | exact Imp.refl _ | (apply Imp.left; exact Imp.refl _) | (apply Imp.right; exact Imp.refl _) | (apply Imp.left; apply Imp.left; exact Imp.refl _))) | (apply EvC.now; exact rfl))); done) | exact ext_val _ | (focus (repeat (first | apply List.Mem.head | apply List.Mem.tail | apply List.mem_append_right)))); (intro hcc w hC; (with_reducible first | exact tame_below (HM.out _) hC | exact tame_below (HN.out _) hC)); (simp only [List.set_cons_succ, List.set_cons_zero]; exact rfl))
        | ((first | (with_reducible apply q_pl) | ((with_reducible apply q_gd); (first | (apply GdBy.gt; exact rfl; exact rfl) | (apply GdBy.gf; exact rfl; exact rfl) | (apply GdBy.t; exact rfl; exact rfl) | (apply GdBy.f; exact rfl; exact rfl)))); (with_reducible apply t_call Try.call12); (first | (apply EvC.gv; exact rfl; (with_reducible first | exact Imp.refl _ | (apply Imp.left; exact Imp.refl _) | (apply Imp.right; exact Imp.refl _) | (apply Imp.left; apply Imp.left; exact Imp.refl _))) | (apply EvC.now; exact rfl) | exact rfl | (with_reducible exact EvAll.nil) | (focus (repeat (first | apply EvAll.cons | exact EvAll.nil | (apply EvC.gv; exact rfl; (with_reducible first | exact Imp.refl _ | (apply Imp.left; exact Imp.refl _) | (apply Imp.right; exact Imp.refl _) | (apply Imp.left; apply Imp.left; exact Imp.refl _))) | (apply EvC.now; exact rfl))); done) | exact ext_val _ | (focus (repeat (first | apply List.Mem.head | apply List.Mem.tail | apply List.mem_append_right)))); (intro hcc w hC; (with_reducible first | exact tame_below (HD.out _) hC | exact tame_below (HF.out _) hC)); (simp only [List.set_cons_succ, List.set_cons_zero]; exact rfl))
        | ((first | (with_reducible apply q_pl) | ((with_reducible apply q_gd); (first | (apply GdBy.gt; exact rfl; exact rfl) | (apply GdBy.gf; exact rfl; exact rfl) | (apply GdBy.t; exact rfl; exact rfl) | (apply GdBy.f; exact rfl; exact rfl)))); (first | ((with_reducible first | apply t_move | apply t_assign | apply t_and | apply t_or | apply t_cmp | apply t_not | apply t_addr (fVal _ (by decide)) | apply t_one tIntV | apply t_one tBoolV | apply t_part tVal) <;> (first | (apply EvC.gv; exact rfl; (with_reducible first | exact Imp.refl _ | (apply Imp.left; exact Imp.refl _) | (apply Imp.right; exact Imp.refl _) | (apply Imp.left; apply Imp.left; exact Imp.refl _))) | (apply EvC.now; exact rfl) | exact rfl | (with_reducible exact EvAll.nil) | (focus (repeat (first | apply EvAll.cons | exact EvAll.nil | (apply EvC.gv; exact rfl; (with_reducible first | exact Imp.refl _ | (apply Imp.left; exact Imp.refl _) | (apply Imp.right; exact Imp.refl _) | (apply Imp.left; apply Imp.left; exact Imp.refl _))) | (apply EvC.now; exact rfl))); done) | exact ext_val _ | (focus (repeat (first | apply List.Mem.head | apply List.Mem.tail | apply List.mem_append_right)))))); (simp only [List.set_cons_succ, List.set_cons_zero]; exact rfl)))
    refine wpT_nil ?_
    refine wpG_make hR (i := 12) (by kernel_rfl) rfl zVal ?_ (by (focus (repeat (first | exact List.Sublist.slnil | exact List.nil_sublist _ | exact List.Sublist.refl _ | apply List.Sublist.cons_cons | apply List.Sublist.cons))))
    clear hR; intro g1 w hR
    simp only [List.set_cons_succ, List.set_cons_zero]
    refine wpG_put hR tVal (i := 13) (by kernel_rfl) rfl rfl rfl (by (focus (repeat (first | apply List.Mem.head | apply List.Mem.tail | apply List.mem_append_right)))) (put_val _ _) rfl (Nat.le_refl 6) (one_val _) (by (focus (repeat (first | apply Upd.head | apply Upd.tail)))) (by (focus (repeat (first | exact List.Sublist.slnil | exact List.nil_sublist _ | exact List.Sublist.refl _ | apply List.Sublist.cons_cons | apply List.Sublist.cons)))) ?_
    clear hR; intro w hR
    refine wpG_slot hR (i := 14) (by kernel_rfl) rfl rfl (by (simp only [List.set_cons_succ, List.set_cons_zero]; exact rfl)) ?_
    clear hR; intro w hR
    refine wpG_end hR (by kernel_rfl) ?_
    clear hR; intro w hR
    go_upto_region 47 with fail
    refine wp_region_some hR [(g1, _, 23), (g, wordsA, 9)] (by (focus (repeat (first | exact List.Sublist.slnil | exact List.nil_sublist _ | exact List.Sublist.refl _ | apply List.Sublist.cons_cons | apply List.Sublist.cons)))) [0, 1, 2, 3, 4, 5, 6, 7, 8, 9, 10] 3 (by kernel_rfl) (by kernel_rfl) (by kernel_rfl) rfl ?_
    clear hR; intro hR
    repeat (refine wpT_step rfl ?_; first
        | ((with_reducible apply q_kn); exact rfl; (with_reducible apply t_sixG Try.underlying31 iStrV); (apply EvC.now; exact rfl); (apply EvC.now; exact rfl); exact HKZ.out; exact HK2.out; (simp only [List.set_cons_succ, List.set_cons_zero]; exact rfl))
        | ((with_reducible apply q_kn); exact rfl; (with_reducible apply t_one tStrV); (apply EvC.now; exact rfl); (focus (repeat (first | apply List.Mem.head | apply List.Mem.tail | apply List.mem_append_right))); exact HW.out; (simp only [List.set_cons_succ, List.set_cons_zero]; exact rfl))
        | ((with_reducible apply q_kn); exact rfl; (with_reducible apply t_built); exact rfl; exact bValF 1; (simp only [List.set_cons_succ, List.set_cons_zero]; exact rfl))
        | ((with_reducible apply q_kn); exact rfl; (with_reducible apply t_extract); (apply EvC.now; exact rfl); exact rfl; (simp only [List.set_cons_succ, List.set_cons_zero]; exact rfl))
        | ((first | (with_reducible apply q_pl) | ((with_reducible apply q_gd); (first | (apply GdBy.gt; exact rfl; exact rfl) | (apply GdBy.gf; exact rfl; exact rfl) | (apply GdBy.t; exact rfl; exact rfl) | (apply GdBy.f; exact rfl; exact rfl)))); (with_reducible apply t_call Try.call13); (first | (apply EvC.gv; exact rfl; (with_reducible first | exact Imp.refl _ | (apply Imp.left; exact Imp.refl _) | (apply Imp.right; exact Imp.refl _) | (apply Imp.left; apply Imp.left; exact Imp.refl _))) | (apply EvC.now; exact rfl) | exact rfl | (with_reducible exact EvAll.nil) | (focus (repeat (first | apply EvAll.cons | exact EvAll.nil | (apply EvC.gv; exact rfl; (with_reducible first | exact Imp.refl _ | (apply Imp.left; exact Imp.refl _) | (apply Imp.right; exact Imp.refl _) | (apply Imp.left; apply Imp.left; exact Imp.refl _))) | (apply EvC.now; exact rfl))); done) | exact ext_val _ | (focus (repeat (first | apply List.Mem.head | apply List.Mem.tail | apply List.mem_append_right)))); (intro hcc w hC; (with_reducible first | exact tame_below (HM.out _) hC | exact tame_below (HN.out _) hC)); (simp only [List.set_cons_succ, List.set_cons_zero]; exact rfl))
        | ((first | (with_reducible apply q_pl) | ((with_reducible apply q_gd); (first | (apply GdBy.gt; exact rfl; exact rfl) | (apply GdBy.gf; exact rfl; exact rfl) | (apply GdBy.t; exact rfl; exact rfl) | (apply GdBy.f; exact rfl; exact rfl)))); (with_reducible apply t_call Try.call12); (first | (apply EvC.gv; exact rfl; (with_reducible first | exact Imp.refl _ | (apply Imp.left; exact Imp.refl _) | (apply Imp.right; exact Imp.refl _) | (apply Imp.left; apply Imp.left; exact Imp.refl _))) | (apply EvC.now; exact rfl) | exact rfl | (with_reducible exact EvAll.nil) | (focus (repeat (first | apply EvAll.cons | exact EvAll.nil | (apply EvC.gv; exact rfl; (with_reducible first | exact Imp.refl _ | (apply Imp.left; exact Imp.refl _) | (apply Imp.right; exact Imp.refl _) | (apply Imp.left; apply Imp.left; exact Imp.refl _))) | (apply EvC.now; exact rfl))); done) | exact ext_val _ | (focus (repeat (first | apply List.Mem.head | apply List.Mem.tail | apply List.mem_append_right)))); (intro hcc w hC; (with_reducible first | exact tame_below (HD.out _) hC | exact tame_below (HF.out _) hC)); (simp only [List.set_cons_succ, List.set_cons_zero]; exact rfl))
        | ((first | (with_reducible apply q_pl) | ((with_reducible apply q_gd); (first | (apply GdBy.gt; exact rfl; exact rfl) | (apply GdBy.gf; exact rfl; exact rfl) | (apply GdBy.t; exact rfl; exact rfl) | (apply GdBy.f; exact rfl; exact rfl)))); (first | ((with_reducible first | apply t_move | apply t_assign | apply t_and | apply t_or | apply t_cmp | apply t_not | apply t_addr (fVal _ (by decide)) | apply t_one tIntV | apply t_one tBoolV | apply t_part tVal) <;> (first | (apply EvC.gv; exact rfl; (with_reducible first | exact Imp.refl _ | (apply Imp.left; exact Imp.refl _) | (apply Imp.right; exact Imp.refl _) | (apply Imp.left; apply Imp.left; exact Imp.refl _))) | (apply EvC.now; exact rfl) | exact rfl | (with_reducible exact EvAll.nil) | (focus (repeat (first | apply EvAll.cons | exact EvAll.nil | (apply EvC.gv; exact rfl; (with_reducible first | exact Imp.refl _ | (apply Imp.left; exact Imp.refl _) | (apply Imp.right; exact Imp.refl _) | (apply Imp.left; apply Imp.left; exact Imp.refl _))) | (apply EvC.now; exact rfl))); done) | exact ext_val _ | (focus (repeat (first | apply List.Mem.head | apply List.Mem.tail | apply List.mem_append_right)))))); (simp only [List.set_cons_succ, List.set_cons_zero]; exact rfl)))
    refine wpT_nil ?_
    refine wpG_make hR (i := 11) (by kernel_rfl) rfl zVal ?_ (by (focus (repeat (first | exact List.Sublist.slnil | exact List.nil_sublist _ | exact List.Sublist.refl _ | apply List.Sublist.cons_cons | apply List.Sublist.cons))))
    clear hR; intro g2 w hR
    simp only [List.set_cons_succ, List.set_cons_zero]
    refine wpG_put hR tVal (i := 12) (by kernel_rfl) rfl rfl rfl (by (focus (repeat (first | apply List.Mem.head | apply List.Mem.tail | apply List.mem_append_right)))) (put_val _ _) rfl (Nat.le_refl 6) (one_val _) (by (focus (repeat (first | apply Upd.head | apply Upd.tail)))) (by (focus (repeat (first | exact List.Sublist.slnil | exact List.nil_sublist _ | exact List.Sublist.refl _ | apply List.Sublist.cons_cons | apply List.Sublist.cons)))) ?_
    clear hR; intro w hR
    refine wpG_slot hR (i := 13) (by kernel_rfl) rfl rfl (by (simp only [List.set_cons_succ, List.set_cons_zero]; exact rfl)) ?_
    clear hR; intro w hR
    refine wpG_end hR (by kernel_rfl) ?_
    clear hR; intro w hR
    go_upto_region 48 with fail
    refine wp_region_rows hR [0, 1, 2, 3, 4, 5, 6, 7, 8, 9, 10, 11, 12, 13, 14, 15, 16, 17, 18, 19, 20, 21, 22, 23, 24, 25, 26, 27, 28] 0 (by kernel_rfl) (by kernel_rfl) (by kernel_rfl) rfl ?_
    clear hR; intro hR
    repeat (refine wpT_step rfl ?_; first
        | ((with_reducible apply q_kn); exact rfl; (with_reducible apply t_call Try.call10); (first | (apply EvC.gv; exact rfl; (with_reducible first | exact Imp.refl _ | (apply Imp.left; exact Imp.refl _) | (apply Imp.right; exact Imp.refl _) | (apply Imp.left; apply Imp.left; exact Imp.refl _))) | (apply EvC.now; exact rfl) | exact rfl | (with_reducible exact EvAll.nil) | (focus (repeat (first | apply EvAll.cons | exact EvAll.nil | (apply EvC.gv; exact rfl; (with_reducible first | exact Imp.refl _ | (apply Imp.left; exact Imp.refl _) | (apply Imp.right; exact Imp.refl _) | (apply Imp.left; apply Imp.left; exact Imp.refl _))) | (apply EvC.now; exact rfl))); done) | exact ext_val _ | (focus (repeat (first | apply List.Mem.head | apply List.Mem.tail | apply List.mem_append_right)))); (intro hcc w hC; exact tame_below (awake29_any _) hC); (simp only [List.set_cons_succ, List.set_cons_zero]; exact rfl))
        | ((with_reducible apply q_kn); exact rfl; (with_reducible apply t_call Try.call8); (first | (apply EvC.gv; exact rfl; (with_reducible first | exact Imp.refl _ | (apply Imp.left; exact Imp.refl _) | (apply Imp.right; exact Imp.refl _) | (apply Imp.left; apply Imp.left; exact Imp.refl _))) | (apply EvC.now; exact rfl) | exact rfl | (with_reducible exact EvAll.nil) | (focus (repeat (first | apply EvAll.cons | exact EvAll.nil | (apply EvC.gv; exact rfl; (with_reducible first | exact Imp.refl _ | (apply Imp.left; exact Imp.refl _) | (apply Imp.right; exact Imp.refl _) | (apply Imp.left; apply Imp.left; exact Imp.refl _))) | (apply EvC.now; exact rfl))); done) | exact ext_val _ | (focus (repeat (first | apply List.Mem.head | apply List.Mem.tail | apply List.mem_append_right)))); (intro hcc w hC; exact tame_same (HC.out _) hC); (simp only [List.set_cons_succ, List.set_cons_zero]; exact rfl))
        | ((with_reducible apply q_kn); exact rfl; (with_reducible apply t_call Try.call13); (first | (apply EvC.gv; exact rfl; (with_reducible first | exact Imp.refl _ | (apply Imp.left; exact Imp.refl _) | (apply Imp.right; exact Imp.refl _) | (apply Imp.left; apply Imp.left; exact Imp.refl _))) | (apply EvC.now; exact rfl) | exact rfl | (with_reducible exact EvAll.nil) | (focus (repeat (first | apply EvAll.cons | exact EvAll.nil | (apply EvC.gv; exact rfl; (with_reducible first | exact Imp.refl _ | (apply Imp.left; exact Imp.refl _) | (apply Imp.right; exact Imp.refl _) | (apply Imp.left; apply Imp.left; exact Imp.refl _))) | (apply EvC.now; exact rfl))); done) | exact ext_val _ | (focus (repeat (first | apply List.Mem.head | apply List.Mem.tail | apply List.mem_append_right)))); (intro hcc w hC; exact tame_below (HN.out _) hC); (simp only [List.set_cons_succ, List.set_cons_zero]; exact rfl))
        | ((with_reducible apply q_kn); exact rfl; (with_reducible apply t_built); exact rfl; exact bValN _ _; (simp only [List.set_cons_succ, List.set_cons_zero]; exact rfl))
        | ((with_reducible apply q_kn); exact rfl; (with_reducible apply t_eqb Try.underlying4); (apply EvC.now; exact rfl); (apply EvC.now; exact rfl); (simp only [List.set_cons_succ, List.set_cons_zero]; exact rfl))
        | ((with_reducible apply q_kn); exact rfl; (with_reducible apply t_not); (apply EvC.now; exact rfl); (simp only [List.set_cons_succ, List.set_cons_zero]; exact rfl))
        | ((with_reducible apply q_kn); exact rfl; (with_reducible apply t_eql gVal); (apply EvC.now; exact rfl); (apply EvC.now; exact rfl); exact eqV_self _; (simp only [List.set_cons_succ, List.set_cons_zero]; exact rfl))
        | ((with_reducible apply q_kn); exact rfl; (first | ((with_reducible first | apply t_move | apply t_assign | apply t_addr (fVal _ (by decide)) | apply t_one tIntV | apply t_one tBoolV | apply t_part tVal) <;> (first | (apply EvC.gv; exact rfl; (with_reducible first | exact Imp.refl _ | (apply Imp.left; exact Imp.refl _) | (apply Imp.right; exact Imp.refl _) | (apply Imp.left; apply Imp.left; exact Imp.refl _))) | (apply EvC.now; exact rfl) | exact rfl | (with_reducible exact EvAll.nil) | (focus (repeat (first | apply EvAll.cons | exact EvAll.nil | (apply EvC.gv; exact rfl; (with_reducible first | exact Imp.refl _ | (apply Imp.left; exact Imp.refl _) | (apply Imp.right; exact Imp.refl _) | (apply Imp.left; apply Imp.left; exact Imp.refl _))) | (apply EvC.now; exact rfl))); done) | exact ext_val _ | (focus (repeat (first | apply List.Mem.head | apply List.Mem.tail | apply List.mem_append_right))))) | ((with_reducible apply t_pick); (apply EvC.now; exact rfl); (apply EvC.now; exact rfl))); (simp only [List.set_cons_succ, List.set_cons_zero]; exact rfl))
        | ((with_reducible apply wpT1_skipL); exact rfl; (simp only [List.set_cons_succ, List.set_cons_zero]; exact rfl)))
    refine wpG_end hR (by kernel_rfl) ?_
    clear hR; intro w hR
    go_wp2_with fail
    go_ret
    exact ⟨ret_bool (by simp), hR.below⟩
  · have hw := hwant rfl
    have HC := Lib.hid (show ∀ w : World, Calls Try.prog 8 #[.int .i64 W] w fun e w' => e = .returned (.int .i64 (cutZ r)) ∧ w = w' from hw ▸ cutL_q W)
    rw [if_pos rfl] at hz
    subst hz
    dsimp only at hd
    have HD := Lib.hid hd
    clear hd hok hwant hw
    go_upto_region 46 with fail
    refine wp_region_some hR [(g, wordsA, 9)] (by (focus (repeat (first | exact List.Sublist.slnil | exact List.nil_sublist _ | exact List.Sublist.refl _ | apply List.Sublist.cons_cons | apply List.Sublist.cons)))) [0, 1, 2, 3, 4, 5, 6, 7, 8, 9, 10, 11] 3 (by kernel_rfl) (by kernel_rfl) (by kernel_rfl) rfl ?_
    clear hR; intro hR
    repeat (refine wpT_step rfl ?_; first
        | ((with_reducible apply q_kn); exact rfl; (with_reducible apply t_sixG Try.underlying31 iStrV); (apply EvC.now; exact rfl); (apply EvC.now; exact rfl); exact HKZ.out; exact HK2.out; (simp only [List.set_cons_succ, List.set_cons_zero]; exact rfl))
        | ((with_reducible apply q_kn); exact rfl; (with_reducible apply t_one tStrV); (apply EvC.now; exact rfl); (focus (repeat (first | apply List.Mem.head | apply List.Mem.tail | apply List.mem_append_right))); exact HW.out; (simp only [List.set_cons_succ, List.set_cons_zero]; exact rfl))
        | ((with_reducible apply q_kn); exact rfl; (with_reducible apply t_built); exact rfl; exact bValF 1; (simp only [List.set_cons_succ, List.set_cons_zero]; exact rfl))
        | ((with_reducible apply q_kn); exact rfl; (with_reducible apply t_extract); (apply EvC.now; exact rfl); exact rfl; (simp only [List.set_cons_succ, List.set_cons_zero]; exact rfl))
        | ((first | (with_reducible apply q_pl) | ((with_reducible apply q_gd); (first | (apply GdBy.gt; exact rfl; exact rfl) | (apply GdBy.gf; exact rfl; exact rfl) | (apply GdBy.t; exact rfl; exact rfl) | (apply GdBy.f; exact rfl; exact rfl)))); (with_reducible apply t_call Try.call13); (first | (apply EvC.gv; exact rfl; (with_reducible first | exact Imp.refl _ | (apply Imp.left; exact Imp.refl _) | (apply Imp.right; exact Imp.refl _) | (apply Imp.left; apply Imp.left; exact Imp.refl _))) | (apply EvC.now; exact rfl) | exact rfl | (with_reducible exact EvAll.nil) | (focus (repeat (first | apply EvAll.cons | exact EvAll.nil | (apply EvC.gv; exact rfl; (with_reducible first | exact Imp.refl _ | (apply Imp.left; exact Imp.refl _) | (apply Imp.right; exact Imp.refl _) | (apply Imp.left; apply Imp.left; exact Imp.refl _))) | (apply EvC.now; exact rfl))); done) | exact ext_val _ | (focus (repeat (first | apply List.Mem.head | apply List.Mem.tail | apply List.mem_append_right)))); (intro hcc w hC; (with_reducible first | exact tame_below (HM.out _) hC | exact tame_below (HN.out _) hC)); (simp only [List.set_cons_succ, List.set_cons_zero]; exact rfl))
        | ((first | (with_reducible apply q_pl) | ((with_reducible apply q_gd); (first | (apply GdBy.gt; exact rfl; exact rfl) | (apply GdBy.gf; exact rfl; exact rfl) | (apply GdBy.t; exact rfl; exact rfl) | (apply GdBy.f; exact rfl; exact rfl)))); (with_reducible apply t_call Try.call12); (first | (apply EvC.gv; exact rfl; (with_reducible first | exact Imp.refl _ | (apply Imp.left; exact Imp.refl _) | (apply Imp.right; exact Imp.refl _) | (apply Imp.left; apply Imp.left; exact Imp.refl _))) | (apply EvC.now; exact rfl) | exact rfl | (with_reducible exact EvAll.nil) | (focus (repeat (first | apply EvAll.cons | exact EvAll.nil | (apply EvC.gv; exact rfl; (with_reducible first | exact Imp.refl _ | (apply Imp.left; exact Imp.refl _) | (apply Imp.right; exact Imp.refl _) | (apply Imp.left; apply Imp.left; exact Imp.refl _))) | (apply EvC.now; exact rfl))); done) | exact ext_val _ | (focus (repeat (first | apply List.Mem.head | apply List.Mem.tail | apply List.mem_append_right)))); (intro hcc w hC; (with_reducible first | exact tame_below (HD.out _) hC | exact tame_below (HF.out _) hC)); (simp only [List.set_cons_succ, List.set_cons_zero]; exact rfl))
        | ((first | (with_reducible apply q_pl) | ((with_reducible apply q_gd); (first | (apply GdBy.gt; exact rfl; exact rfl) | (apply GdBy.gf; exact rfl; exact rfl) | (apply GdBy.t; exact rfl; exact rfl) | (apply GdBy.f; exact rfl; exact rfl)))); (first | ((with_reducible first | apply t_move | apply t_assign | apply t_and | apply t_or | apply t_cmp | apply t_not | apply t_addr (fVal _ (by decide)) | apply t_one tIntV | apply t_one tBoolV | apply t_part tVal) <;> (first | (apply EvC.gv; exact rfl; (with_reducible first | exact Imp.refl _ | (apply Imp.left; exact Imp.refl _) | (apply Imp.right; exact Imp.refl _) | (apply Imp.left; apply Imp.left; exact Imp.refl _))) | (apply EvC.now; exact rfl) | exact rfl | (with_reducible exact EvAll.nil) | (focus (repeat (first | apply EvAll.cons | exact EvAll.nil | (apply EvC.gv; exact rfl; (with_reducible first | exact Imp.refl _ | (apply Imp.left; exact Imp.refl _) | (apply Imp.right; exact Imp.refl _) | (apply Imp.left; apply Imp.left; exact Imp.refl _))) | (apply EvC.now; exact rfl))); done) | exact ext_val _ | (focus (repeat (first | apply List.Mem.head | apply List.Mem.tail | apply List.mem_append_right)))))); (simp only [List.set_cons_succ, List.set_cons_zero]; exact rfl)))
    refine wpT_nil ?_
    refine wpG_make hR (i := 12) (by kernel_rfl) rfl zVal ?_ (by (focus (repeat (first | exact List.Sublist.slnil | exact List.nil_sublist _ | exact List.Sublist.refl _ | apply List.Sublist.cons_cons | apply List.Sublist.cons))))
    clear hR; intro g1 w hR
    simp only [List.set_cons_succ, List.set_cons_zero]
    refine wpG_put hR tVal (i := 13) (by kernel_rfl) rfl rfl rfl (by (focus (repeat (first | apply List.Mem.head | apply List.Mem.tail | apply List.mem_append_right)))) (put_val _ _) rfl (Nat.le_refl 6) (one_val _) (by (focus (repeat (first | apply Upd.head | apply Upd.tail)))) (by (focus (repeat (first | exact List.Sublist.slnil | exact List.nil_sublist _ | exact List.Sublist.refl _ | apply List.Sublist.cons_cons | apply List.Sublist.cons)))) ?_
    clear hR; intro w hR
    refine wpG_slot hR (i := 14) (by kernel_rfl) rfl rfl (by (simp only [List.set_cons_succ, List.set_cons_zero]; exact rfl)) ?_
    clear hR; intro w hR
    refine wpG_end hR (by kernel_rfl) ?_
    clear hR; intro w hR
    go_upto_region 47 with fail
    refine wp_region_some hR [(g1, _, 23), (g, wordsA, 9)] (by (focus (repeat (first | exact List.Sublist.slnil | exact List.nil_sublist _ | exact List.Sublist.refl _ | apply List.Sublist.cons_cons | apply List.Sublist.cons)))) [0, 1, 2, 3, 4, 5, 6, 7, 8, 9, 10] 3 (by kernel_rfl) (by kernel_rfl) (by kernel_rfl) rfl ?_
    clear hR; intro hR
    repeat (refine wpT_step rfl ?_; first
        | ((with_reducible apply q_kn); exact rfl; (with_reducible apply t_sixG Try.underlying31 iStrV); (apply EvC.now; exact rfl); (apply EvC.now; exact rfl); exact HKZ.out; exact HK2.out; (simp only [List.set_cons_succ, List.set_cons_zero]; exact rfl))
        | ((with_reducible apply q_kn); exact rfl; (with_reducible apply t_one tStrV); (apply EvC.now; exact rfl); (focus (repeat (first | apply List.Mem.head | apply List.Mem.tail | apply List.mem_append_right))); exact HW.out; (simp only [List.set_cons_succ, List.set_cons_zero]; exact rfl))
        | ((with_reducible apply q_kn); exact rfl; (with_reducible apply t_built); exact rfl; exact bValF 1; (simp only [List.set_cons_succ, List.set_cons_zero]; exact rfl))
        | ((with_reducible apply q_kn); exact rfl; (with_reducible apply t_extract); (apply EvC.now; exact rfl); exact rfl; (simp only [List.set_cons_succ, List.set_cons_zero]; exact rfl))
        | ((first | (with_reducible apply q_pl) | ((with_reducible apply q_gd); (first | (apply GdBy.gt; exact rfl; exact rfl) | (apply GdBy.gf; exact rfl; exact rfl) | (apply GdBy.t; exact rfl; exact rfl) | (apply GdBy.f; exact rfl; exact rfl)))); (with_reducible apply t_call Try.call13); (first | (apply EvC.gv; exact rfl; (with_reducible first | exact Imp.refl _ | (apply Imp.left; exact Imp.refl _) | (apply Imp.right; exact Imp.refl _) | (apply Imp.left; apply Imp.left; exact Imp.refl _))) | (apply EvC.now; exact rfl) | exact rfl | (with_reducible exact EvAll.nil) | (focus (repeat (first | apply EvAll.cons | exact EvAll.nil | (apply EvC.gv; exact rfl; (with_reducible first | exact Imp.refl _ | (apply Imp.left; exact Imp.refl _) | (apply Imp.right; exact Imp.refl _) | (apply Imp.left; apply Imp.left; exact Imp.refl _))) | (apply EvC.now; exact rfl))); done) | exact ext_val _ | (focus (repeat (first | apply List.Mem.head | apply List.Mem.tail | apply List.mem_append_right)))); (intro hcc w hC; (with_reducible first | exact tame_below (HM.out _) hC | exact tame_below (HN.out _) hC)); (simp only [List.set_cons_succ, List.set_cons_zero]; exact rfl))
        | ((first | (with_reducible apply q_pl) | ((with_reducible apply q_gd); (first | (apply GdBy.gt; exact rfl; exact rfl) | (apply GdBy.gf; exact rfl; exact rfl) | (apply GdBy.t; exact rfl; exact rfl) | (apply GdBy.f; exact rfl; exact rfl)))); (with_reducible apply t_call Try.call12); (first | (apply EvC.gv; exact rfl; (with_reducible first | exact Imp.refl _ | (apply Imp.left; exact Imp.refl _) | (apply Imp.right; exact Imp.refl _) | (apply Imp.left; apply Imp.left; exact Imp.refl _))) | (apply EvC.now; exact rfl) | exact rfl | (with_reducible exact EvAll.nil) | (focus (repeat (first | apply EvAll.cons | exact EvAll.nil | (apply EvC.gv; exact rfl; (with_reducible first | exact Imp.refl _ | (apply Imp.left; exact Imp.refl _) | (apply Imp.right; exact Imp.refl _) | (apply Imp.left; apply Imp.left; exact Imp.refl _))) | (apply EvC.now; exact rfl))); done) | exact ext_val _ | (focus (repeat (first | apply List.Mem.head | apply List.Mem.tail | apply List.mem_append_right)))); (intro hcc w hC; (with_reducible first | exact tame_below (HD.out _) hC | exact tame_below (HF.out _) hC)); (simp only [List.set_cons_succ, List.set_cons_zero]; exact rfl))
        | ((first | (with_reducible apply q_pl) | ((with_reducible apply q_gd); (first | (apply GdBy.gt; exact rfl; exact rfl) | (apply GdBy.gf; exact rfl; exact rfl) | (apply GdBy.t; exact rfl; exact rfl) | (apply GdBy.f; exact rfl; exact rfl)))); (first | ((with_reducible first | apply t_move | apply t_assign | apply t_and | apply t_or | apply t_cmp | apply t_not | apply t_addr (fVal _ (by decide)) | apply t_one tIntV | apply t_one tBoolV | apply t_part tVal) <;> (first | (apply EvC.gv; exact rfl; (with_reducible first | exact Imp.refl _ | (apply Imp.left; exact Imp.refl _) | (apply Imp.right; exact Imp.refl _) | (apply Imp.left; apply Imp.left; exact Imp.refl _))) | (apply EvC.now; exact rfl) | exact rfl | (with_reducible exact EvAll.nil) | (focus (repeat (first | apply EvAll.cons | exact EvAll.nil | (apply EvC.gv; exact rfl; (with_reducible first | exact Imp.refl _ | (apply Imp.left; exact Imp.refl _) | (apply Imp.right; exact Imp.refl _) | (apply Imp.left; apply Imp.left; exact Imp.refl _))) | (apply EvC.now; exact rfl))); done) | exact ext_val _ | (focus (repeat (first | apply List.Mem.head | apply List.Mem.tail | apply List.mem_append_right)))))); (simp only [List.set_cons_succ, List.set_cons_zero]; exact rfl)))
    refine wpT_nil ?_
    refine wpG_make hR (i := 11) (by kernel_rfl) rfl zVal ?_ (by (focus (repeat (first | exact List.Sublist.slnil | exact List.nil_sublist _ | exact List.Sublist.refl _ | apply List.Sublist.cons_cons | apply List.Sublist.cons))))
    clear hR; intro g2 w hR
    simp only [List.set_cons_succ, List.set_cons_zero]
    refine wpG_put hR tVal (i := 12) (by kernel_rfl) rfl rfl rfl (by (focus (repeat (first | apply List.Mem.head | apply List.Mem.tail | apply List.mem_append_right)))) (put_val _ _) rfl (Nat.le_refl 6) (one_val _) (by (focus (repeat (first | apply Upd.head | apply Upd.tail)))) (by (focus (repeat (first | exact List.Sublist.slnil | exact List.nil_sublist _ | exact List.Sublist.refl _ | apply List.Sublist.cons_cons | apply List.Sublist.cons)))) ?_
    clear hR; intro w hR
    refine wpG_slot hR (i := 13) (by kernel_rfl) rfl rfl (by (simp only [List.set_cons_succ, List.set_cons_zero]; exact rfl)) ?_
    clear hR; intro w hR
    refine wpG_end hR (by kernel_rfl) ?_
    clear hR; intro w hR
    go_upto_region 48 with fail
    refine wp_region_rows hR [0, 1, 2, 3, 4, 5, 6, 7, 8, 9, 10, 11, 12, 13, 14, 15, 16, 17, 18, 19, 20, 21, 22, 23, 24, 25, 26, 27, 28] 0 (by kernel_rfl) (by kernel_rfl) (by kernel_rfl) rfl ?_
    clear hR; intro hR
    repeat (refine wpT_step rfl ?_; first
        | ((with_reducible apply q_kn); exact rfl; (with_reducible apply t_call Try.call10); (first | (apply EvC.gv; exact rfl; (with_reducible first | exact Imp.refl _ | (apply Imp.left; exact Imp.refl _) | (apply Imp.right; exact Imp.refl _) | (apply Imp.left; apply Imp.left; exact Imp.refl _))) | (apply EvC.now; exact rfl) | exact rfl | (with_reducible exact EvAll.nil) | (focus (repeat (first | apply EvAll.cons | exact EvAll.nil | (apply EvC.gv; exact rfl; (with_reducible first | exact Imp.refl _ | (apply Imp.left; exact Imp.refl _) | (apply Imp.right; exact Imp.refl _) | (apply Imp.left; apply Imp.left; exact Imp.refl _))) | (apply EvC.now; exact rfl))); done) | exact ext_val _ | (focus (repeat (first | apply List.Mem.head | apply List.Mem.tail | apply List.mem_append_right)))); (intro hcc w hC; exact tame_below (awake29_any _) hC); (simp only [List.set_cons_succ, List.set_cons_zero]; exact rfl))
        | ((with_reducible apply q_kn); exact rfl; (with_reducible apply t_call Try.call8); (first | (apply EvC.gv; exact rfl; (with_reducible first | exact Imp.refl _ | (apply Imp.left; exact Imp.refl _) | (apply Imp.right; exact Imp.refl _) | (apply Imp.left; apply Imp.left; exact Imp.refl _))) | (apply EvC.now; exact rfl) | exact rfl | (with_reducible exact EvAll.nil) | (focus (repeat (first | apply EvAll.cons | exact EvAll.nil | (apply EvC.gv; exact rfl; (with_reducible first | exact Imp.refl _ | (apply Imp.left; exact Imp.refl _) | (apply Imp.right; exact Imp.refl _) | (apply Imp.left; apply Imp.left; exact Imp.refl _))) | (apply EvC.now; exact rfl))); done) | exact ext_val _ | (focus (repeat (first | apply List.Mem.head | apply List.Mem.tail | apply List.mem_append_right)))); (intro hcc w hC; exact tame_same (HC.out _) hC); (simp only [List.set_cons_succ, List.set_cons_zero]; exact rfl))
        | ((with_reducible apply q_kn); exact rfl; (with_reducible apply t_call Try.call13); (first | (apply EvC.gv; exact rfl; (with_reducible first | exact Imp.refl _ | (apply Imp.left; exact Imp.refl _) | (apply Imp.right; exact Imp.refl _) | (apply Imp.left; apply Imp.left; exact Imp.refl _))) | (apply EvC.now; exact rfl) | exact rfl | (with_reducible exact EvAll.nil) | (focus (repeat (first | apply EvAll.cons | exact EvAll.nil | (apply EvC.gv; exact rfl; (with_reducible first | exact Imp.refl _ | (apply Imp.left; exact Imp.refl _) | (apply Imp.right; exact Imp.refl _) | (apply Imp.left; apply Imp.left; exact Imp.refl _))) | (apply EvC.now; exact rfl))); done) | exact ext_val _ | (focus (repeat (first | apply List.Mem.head | apply List.Mem.tail | apply List.mem_append_right)))); (intro hcc w hC; exact tame_below (HN.out _) hC); (simp only [List.set_cons_succ, List.set_cons_zero]; exact rfl))
        | ((with_reducible apply q_kn); exact rfl; (with_reducible apply t_built); exact rfl; exact bValN _ _; (simp only [List.set_cons_succ, List.set_cons_zero]; exact rfl))
        | ((with_reducible apply q_kn); exact rfl; (with_reducible apply t_eqb Try.underlying4); (apply EvC.now; exact rfl); (apply EvC.now; exact rfl); (simp only [List.set_cons_succ, List.set_cons_zero]; exact rfl))
        | ((with_reducible apply q_kn); exact rfl; (with_reducible apply t_not); (apply EvC.now; exact rfl); (simp only [List.set_cons_succ, List.set_cons_zero]; exact rfl))
        | ((with_reducible apply q_kn); exact rfl; (with_reducible apply t_eql gVal); (apply EvC.now; exact rfl); (apply EvC.now; exact rfl); exact eqV_self _; (simp only [List.set_cons_succ, List.set_cons_zero]; exact rfl))
        | ((with_reducible apply q_kn); exact rfl; (first | ((with_reducible first | apply t_move | apply t_assign | apply t_addr (fVal _ (by decide)) | apply t_one tIntV | apply t_one tBoolV | apply t_part tVal) <;> (first | (apply EvC.gv; exact rfl; (with_reducible first | exact Imp.refl _ | (apply Imp.left; exact Imp.refl _) | (apply Imp.right; exact Imp.refl _) | (apply Imp.left; apply Imp.left; exact Imp.refl _))) | (apply EvC.now; exact rfl) | exact rfl | (with_reducible exact EvAll.nil) | (focus (repeat (first | apply EvAll.cons | exact EvAll.nil | (apply EvC.gv; exact rfl; (with_reducible first | exact Imp.refl _ | (apply Imp.left; exact Imp.refl _) | (apply Imp.right; exact Imp.refl _) | (apply Imp.left; apply Imp.left; exact Imp.refl _))) | (apply EvC.now; exact rfl))); done) | exact ext_val _ | (focus (repeat (first | apply List.Mem.head | apply List.Mem.tail | apply List.mem_append_right))))) | ((with_reducible apply t_pick); (apply EvC.now; exact rfl); (apply EvC.now; exact rfl))); (simp only [List.set_cons_succ, List.set_cons_zero]; exact rfl))
        | ((with_reducible apply wpT1_skipL); exact rfl; (simp only [List.set_cons_succ, List.set_cons_zero]; exact rfl)))
    refine wpG_end hR (by kernel_rfl) ?_
    clear hR; intro w hR
    go_wp2_with fail
    go_ret
    exact ⟨ret_bool (by simp), hR.below⟩
end Go.Proofs.Ytaaindgmcmbjbaa
