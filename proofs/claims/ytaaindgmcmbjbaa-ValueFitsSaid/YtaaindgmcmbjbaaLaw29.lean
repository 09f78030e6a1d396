








/- 'cut', 'near' and 'awake' of hansomlaw29, over the contracts of package value. No statement of the seat is proved here. -/
import Derived.Test.YtaaindgmcmbjbaaValC
namespace Go.Proofs.Ytaaindgmcmbjbaa
open Go.ChangeShapes Go.WideShapes Go.ChangeAt Go.RowKit
set_option linter.unusedVariables false
set_option linter.unusedSimpArgs false

theorem tmod_32 (n : Int) : -4294967296 < n.tmod 4294967296 ∧ n.tmod 4294967296 < 4294967296 ∧ n.tmod 4294967296 % 4294967296 = n % 4294967296 := by
  by_cases h : 0 ≤ n
  · rw [Int.tmod_eq_emod_of_nonneg h]; omega
  · have e : n.tmod 4294967296 = -((-n) % 4294967296) := by
      rw [← Int.tmod_eq_emod_of_nonneg (show 0 ≤ -n by omega), Int.neg_tmod, Int.neg_neg]
    rw [e]; omega
theorem cutL_any (n : Int) (w0 : World) : Calls Try.prog 8 #[.int .i64 n] w0 fun e w' => e = .returned (.int .i64 (cutZ n)) ∧ w' = w0 := by
  have ht := tmod_32 n
  go_enter Try.func8, Try.ntmps8
  go_wp2_with fail
  all_goals go_ret
  all_goals refine ⟨ret_int ?_, rfl⟩
  all_goals unfold cutZ
  all_goals (try unfold wrap64 at *)
  all_goals omega
theorem cutL_q (n : Int) (w0 : World) : Calls Try.prog 8 #[.int .i64 n] w0 fun e w' => e = .returned (.int .i64 (cutZ n)) ∧ w0 = w' := (cutL_any n w0).mono fun e w' h => ⟨h.1, h.2.symm⟩
def nearZ (v : ValZ) : ValZ := ⟨cutZ v.n, v.f % 4, v.w % 2, v.t, if v.f % 4 = 0 then 0 else v.a % 256 % 3, v.k⟩
theorem nearV_any (v : ValZ) (w0 : World) : Calls Try.prog 6 #[.agg (encV v)] w0 fun e w' => e = .returned (.agg (encV (nearZ v))) ∧ Below w0.heap.size w0 w' := by
  have hR := Own.start w0
  have HF := Lib.hid (show bits .and .i64 v.f 3 = v.f % 4 from i64_mask v.f 2 3 (by decide) (by decide))
  have HW := Lib.hid (show bits .and .i64 v.w 1 = v.w % 2 from i64_mask v.w 1 1 (by decide) (by decide))
  have HA := Lib.hid (show bits .and .i64 v.a 255 = v.a % 256 from i64_mask v.a 8 255 (by decide) (by decide))
  have HM := Lib.hid (show (v.a % 256).tmod 3 = v.a % 256 % 3 from rem_in (by omega))
  by_cases hz : v.f % 4 = 0
  · have e : nearZ v = ⟨cutZ v.n, v.f % 4, v.w % 2, v.t, 0, v.k⟩ := by unfold nearZ; rw [if_pos hz]
    have HZ := Lib.hid (show cmpB .eql (v.f % 4) 0 = some true from congrArg some (decide_eq_true hz))
    rw [e]; clear e hz
    go_enter Try.func6, Try.ntmps6
    go_wp2_with (first
        | ((with_reducible apply wpList_box hR); exact rfl; exact rfl; clear hR; intro g w hR; simp only [List.set_cons_succ, List.set_cons_zero])
        | ((with_reducible apply wpList_make hR zVal); exact rfl; clear hR; intro g w hR; simp only [List.set_cons_succ, List.set_cons_zero])
        | ((with_reducible apply q_ls hR); exact rfl; ((with_reducible first | apply t_addr (fVal _ (by decide)) | apply t_one tIntV | apply t_one tBoolV | apply t_part tVal) <;> (first | (apply EvC.gv; exact rfl; (with_reducible first | exact Imp.refl _ | (apply Imp.left; exact Imp.refl _) | (apply Imp.right; exact Imp.refl _) | (apply Imp.left; apply Imp.left; exact Imp.refl _))) | (apply EvC.now; exact rfl) | exact rfl | (with_reducible exact EvAll.nil) | (focus (repeat (first | apply EvAll.cons | exact EvAll.nil | (apply EvC.gv; exact rfl; (with_reducible first | exact Imp.refl _ | (apply Imp.left; exact Imp.refl _) | (apply Imp.right; exact Imp.refl _) | (apply Imp.left; apply Imp.left; exact Imp.refl _))) | (apply EvC.now; exact rfl))); done) | exact ext_val _ | (focus (repeat (first | apply List.Mem.head | apply List.Mem.tail | apply List.mem_append_right))))); (simp only [List.set_cons_succ, List.set_cons_zero]; exact rfl); clear hR; intro w hR)
        | (go_at_call 8; refine (cutL_any _ _).mono ?_; rintro e w' ⟨rfl, rfl⟩)
        | ((with_reducible apply q_ls hR); exact rfl; (with_reducible apply t_numE); (apply EvC.now; exact rfl); (apply EvC.now; exact rfl); exact rfl; exact HF.out; (simp only [List.set_cons_succ, List.set_cons_zero]; exact rfl); clear hR; intro w hR)
        | ((with_reducible apply q_ls hR); exact rfl; (with_reducible apply t_numE); (apply EvC.now; exact rfl); (apply EvC.now; exact rfl); exact rfl; exact HW.out; (simp only [List.set_cons_succ, List.set_cons_zero]; exact rfl); clear hR; intro w hR)
        | ((with_reducible apply q_ls hR); exact rfl; (with_reducible apply t_numE); (apply EvC.now; exact rfl); (apply EvC.now; exact rfl); exact rfl; exact HA.out; (simp only [List.set_cons_succ, List.set_cons_zero]; exact rfl); clear hR; intro w hR)
        | ((with_reducible apply q_ls hR); exact rfl; (with_reducible apply t_rem); (apply EvC.now; exact rfl); (apply EvC.now; exact rfl); (decide); exact HM.out; (simp only [List.set_cons_succ, List.set_cons_zero]; exact rfl); clear hR; intro w hR)
        | ((with_reducible apply q_ls hR); exact rfl; (with_reducible apply t_cmp (op := .eql)); (apply EvC.now; exact rfl); (apply EvC.now; exact rfl); exact HZ.out; (simp only [List.set_cons_succ, List.set_cons_zero]; exact rfl); clear hR; intro w hR)
        | ((with_reducible apply wpList_put1 hR tIntV); exact rfl; exact rfl; exact rfl; (focus (repeat (first | apply List.Mem.head | apply List.Mem.tail | apply List.mem_append_right))); exact put_vn _ _; exact Nat.le_add_left 1 5; exact rfl; (focus (repeat (first | apply Upd.head | apply Upd.tail))); clear hR; intro w hR)
        | ((with_reducible apply wpList_put1 hR tIntV); exact rfl; exact rfl; exact rfl; (focus (repeat (first | apply List.Mem.head | apply List.Mem.tail | apply List.mem_append_right))); exact put_vf _ _; exact Nat.le_add_left 2 4; exact rfl; (focus (repeat (first | apply Upd.head | apply Upd.tail))); clear hR; intro w hR)
        | ((with_reducible apply wpList_put1 hR tIntV); exact rfl; exact rfl; exact rfl; (focus (repeat (first | apply List.Mem.head | apply List.Mem.tail | apply List.mem_append_right))); exact put_vw _ _; exact Nat.le_add_left 3 3; exact rfl; (focus (repeat (first | apply Upd.head | apply Upd.tail))); clear hR; intro w hR)
        | ((with_reducible apply wpList_put1 hR tIntV); exact rfl; exact rfl; exact rfl; (focus (repeat (first | apply List.Mem.head | apply List.Mem.tail | apply List.mem_append_right))); exact put_va _ _; exact Nat.le_add_left 5 1; exact rfl; (focus (repeat (first | apply Upd.head | apply Upd.tail))); clear hR; intro w hR)
        | ((with_reducible apply wpList_put hR tVal); exact rfl; exact rfl; exact rfl; (focus (repeat (first | apply List.Mem.head | apply List.Mem.tail | apply List.mem_append_right))); exact put_val _ _; exact rfl; exact Nat.le_refl 6; exact one_val _; (focus (repeat (first | apply Upd.head | apply Upd.tail))); clear hR; intro w hR))
    (try simp only [Exit.inBlock, Exit.then])
    exact post_row hR rfl (by rfl) (by (focus (repeat (first | apply List.Mem.head | apply List.Mem.tail | apply List.mem_append_right)))) Try.underlying23 rfl iVal (by rfl) (by rfl) ⟨rfl, hR.below⟩
  · have e : nearZ v = ⟨cutZ v.n, v.f % 4, v.w % 2, v.t, v.a % 256 % 3, v.k⟩ := by unfold nearZ; rw [if_neg hz]
    have HZ := Lib.hid (show cmpB .eql (v.f % 4) 0 = some false from congrArg some (decide_eq_false hz))
    rw [e]; clear e hz
    go_enter Try.func6, Try.ntmps6
    go_wp2_with (first
        | ((with_reducible apply wpList_box hR); exact rfl; exact rfl; clear hR; intro g w hR; simp only [List.set_cons_succ, List.set_cons_zero])
        | ((with_reducible apply wpList_make hR zVal); exact rfl; clear hR; intro g w hR; simp only [List.set_cons_succ, List.set_cons_zero])
        | ((with_reducible apply q_ls hR); exact rfl; ((with_reducible first | apply t_addr (fVal _ (by decide)) | apply t_one tIntV | apply t_one tBoolV | apply t_part tVal) <;> (first | (apply EvC.gv; exact rfl; (with_reducible first | exact Imp.refl _ | (apply Imp.left; exact Imp.refl _) | (apply Imp.right; exact Imp.refl _) | (apply Imp.left; apply Imp.left; exact Imp.refl _))) | (apply EvC.now; exact rfl) | exact rfl | (with_reducible exact EvAll.nil) | (focus (repeat (first | apply EvAll.cons | exact EvAll.nil | (apply EvC.gv; exact rfl; (with_reducible first | exact Imp.refl _ | (apply Imp.left; exact Imp.refl _) | (apply Imp.right; exact Imp.refl _) | (apply Imp.left; apply Imp.left; exact Imp.refl _))) | (apply EvC.now; exact rfl))); done) | exact ext_val _ | (focus (repeat (first | apply List.Mem.head | apply List.Mem.tail | apply List.mem_append_right))))); (simp only [List.set_cons_succ, List.set_cons_zero]; exact rfl); clear hR; intro w hR)
        | (go_at_call 8; refine (cutL_any _ _).mono ?_; rintro e w' ⟨rfl, rfl⟩)
        | ((with_reducible apply q_ls hR); exact rfl; (with_reducible apply t_numE); (apply EvC.now; exact rfl); (apply EvC.now; exact rfl); exact rfl; exact HF.out; (simp only [List.set_cons_succ, List.set_cons_zero]; exact rfl); clear hR; intro w hR)
        | ((with_reducible apply q_ls hR); exact rfl; (with_reducible apply t_numE); (apply EvC.now; exact rfl); (apply EvC.now; exact rfl); exact rfl; exact HW.out; (simp only [List.set_cons_succ, List.set_cons_zero]; exact rfl); clear hR; intro w hR)
        | ((with_reducible apply q_ls hR); exact rfl; (with_reducible apply t_numE); (apply EvC.now; exact rfl); (apply EvC.now; exact rfl); exact rfl; exact HA.out; (simp only [List.set_cons_succ, List.set_cons_zero]; exact rfl); clear hR; intro w hR)
        | ((with_reducible apply q_ls hR); exact rfl; (with_reducible apply t_rem); (apply EvC.now; exact rfl); (apply EvC.now; exact rfl); (decide); exact HM.out; (simp only [List.set_cons_succ, List.set_cons_zero]; exact rfl); clear hR; intro w hR)
        | ((with_reducible apply q_ls hR); exact rfl; (with_reducible apply t_cmp (op := .eql)); (apply EvC.now; exact rfl); (apply EvC.now; exact rfl); exact HZ.out; (simp only [List.set_cons_succ, List.set_cons_zero]; exact rfl); clear hR; intro w hR)
        | ((with_reducible apply wpList_put1 hR tIntV); exact rfl; exact rfl; exact rfl; (focus (repeat (first | apply List.Mem.head | apply List.Mem.tail | apply List.mem_append_right))); exact put_vn _ _; exact Nat.le_add_left 1 5; exact rfl; (focus (repeat (first | apply Upd.head | apply Upd.tail))); clear hR; intro w hR)
        | ((with_reducible apply wpList_put1 hR tIntV); exact rfl; exact rfl; exact rfl; (focus (repeat (first | apply List.Mem.head | apply List.Mem.tail | apply List.mem_append_right))); exact put_vf _ _; exact Nat.le_add_left 2 4; exact rfl; (focus (repeat (first | apply Upd.head | apply Upd.tail))); clear hR; intro w hR)
        | ((with_reducible apply wpList_put1 hR tIntV); exact rfl; exact rfl; exact rfl; (focus (repeat (first | apply List.Mem.head | apply List.Mem.tail | apply List.mem_append_right))); exact put_vw _ _; exact Nat.le_add_left 3 3; exact rfl; (focus (repeat (first | apply Upd.head | apply Upd.tail))); clear hR; intro w hR)
        | ((with_reducible apply wpList_put1 hR tIntV); exact rfl; exact rfl; exact rfl; (focus (repeat (first | apply List.Mem.head | apply List.Mem.tail | apply List.mem_append_right))); exact put_va _ _; exact Nat.le_add_left 5 1; exact rfl; (focus (repeat (first | apply Upd.head | apply Upd.tail))); clear hR; intro w hR)
        | ((with_reducible apply wpList_put hR tVal); exact rfl; exact rfl; exact rfl; (focus (repeat (first | apply List.Mem.head | apply List.Mem.tail | apply List.mem_append_right))); exact put_val _ _; exact rfl; exact Nat.le_refl 6; exact one_val _; (focus (repeat (first | apply Upd.head | apply Upd.tail))); clear hR; intro w hR))
    (try simp only [Exit.inBlock, Exit.then])
    exact post_row hR rfl (by rfl) (by (focus (repeat (first | apply List.Mem.head | apply List.Mem.tail | apply List.mem_append_right)))) Try.underlying23 rfl iVal (by rfl) (by rfl) ⟨rfl, hR.below⟩
theorem doZ_awake : doZ 3 (numVZ 1 true) (numVZ 4 true) = (⟨16, 0, 0, 0, 0, true⟩, true) := by decide +kernel
set_option maxHeartbeats 2000000 in
set_option maxRecDepth 100000 in
theorem awake29_any (w0 : World) : Calls Try.prog 10 #[] w0 fun e w' => e = .returned (.bool true) ∧ Below w0.heap.size w0 w' := by
  have hR := Own.start w0
  have HN := Lib.hid numV_any
  have hd : ∀ w : World, Calls Try.prog 12 #[.string ⟨#[83, 72, 76]⟩, .agg (encV (numVZ 1 true)), .agg (encV (numVZ 4 true))] w fun e w' => e = .returned (.tuple #[.agg (encV ⟨16, 0, 0, 0, 0, true⟩), .bool true]) ∧ Below w.heap.size w w' := by
    intro w
    have h := doV_any 3 (by decide) (numVZ 1 true) (numVZ 4 true) w
    rw [doZ_awake] at h
    exact h
  have HD := Lib.hid hd
  have HP := Lib.hid (show ∀ w : World, Calls Try.prog 11 #[.agg (encV ⟨16, 0, 0, 0, 0, true⟩)] w fun e w' => e = .returned (.bool true) ∧ Below w.heap.size w w' from plainV_any ⟨16, 0, 0, 0, 0, true⟩)
  have HF1 := Lib.hid (show ∀ w : World, Calls Try.prog 14 #[.int .i64 (-128), .int .i64 1] w fun e w' => e = .returned (.bool true) ∧ w' = w from fitsV_any (-128) 1)
  have HF2 := Lib.hid (show ∀ w : World, Calls Try.prog 14 #[.int .i64 256, .int .i64 1] w fun e w' => e = .returned (.bool false) ∧ w' = w from fitsV_any 256 1)
  have HS := Lib.hid (show ∀ w : World, Calls Try.prog 15 #[.int .i64 8] w fun e w' => e = .returned (.int .i64 8) ∧ w' = w from sizeV_any 8)
  clear hd
  go_enter Try.func10, Try.ntmps10
  go_wp2_with (first
    | ((with_reducible apply wpList_box hR); exact rfl; exact rfl; clear hR; intro g w hR; simp only [List.set_cons_succ, List.set_cons_zero])
    | ((with_reducible apply wpList_make hR zVal); exact rfl; clear hR; intro g w hR; simp only [List.set_cons_succ, List.set_cons_zero])
    | ((with_reducible apply q_ls hR); exact rfl; ((with_reducible first | apply t_addr (fVal _ (by decide)) | apply t_one tIntV | apply t_one tBoolV | apply t_part tVal) <;> (first | (apply EvC.gv; exact rfl; (with_reducible first | exact Imp.refl _ | (apply Imp.left; exact Imp.refl _) | (apply Imp.right; exact Imp.refl _) | (apply Imp.left; apply Imp.left; exact Imp.refl _))) | (apply EvC.now; exact rfl) | exact rfl | (with_reducible exact EvAll.nil) | (focus (repeat (first | apply EvAll.cons | exact EvAll.nil | (apply EvC.gv; exact rfl; (with_reducible first | exact Imp.refl _ | (apply Imp.left; exact Imp.refl _) | (apply Imp.right; exact Imp.refl _) | (apply Imp.left; apply Imp.left; exact Imp.refl _))) | (apply EvC.now; exact rfl))); done) | exact ext_val _ | (focus (repeat (first | apply List.Mem.head | apply List.Mem.tail | apply List.mem_append_right))))); (simp only [List.set_cons_succ, List.set_cons_zero]; exact rfl); clear hR; intro w hR)
    | (go_at_call 13; refine (HN.out _ _).mono ?_; rintro e w' ⟨rfl, hb⟩; replace hR := hR.grow hb; clear hb)
    | (go_at_call 12; refine (HD.out _).mono ?_; rintro e w' ⟨rfl, hb⟩; replace hR := hR.grow hb; clear hb)
    | (go_at_call 11; refine (HP.out _).mono ?_; rintro e w' ⟨rfl, hb⟩; replace hR := hR.grow hb; clear hb)
    | (go_at_call 14; (with_reducible first | refine (HF1.out _).mono ?_ | refine (HF2.out _).mono ?_); rintro e w' ⟨rfl, rfl⟩)
    | (go_at_call 15; refine (HS.out _).mono ?_; rintro e w' ⟨rfl, rfl⟩)
    | ((with_reducible apply wpList_put hR tVal); exact rfl; exact rfl; exact rfl; (focus (repeat (first | apply List.Mem.head | apply List.Mem.tail | apply List.mem_append_right))); exact put_val _ _; exact rfl; exact Nat.le_refl 6; exact one_val _; (focus (repeat (first | apply Upd.head | apply Upd.tail))); clear hR; intro w hR))
  go_ret
  exact ⟨rfl, hR.below⟩
end Go.Proofs.Ytaaindgmcmbjbaa
