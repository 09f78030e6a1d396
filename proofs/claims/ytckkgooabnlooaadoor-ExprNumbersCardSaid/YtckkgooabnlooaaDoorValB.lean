








/- The contracts of package value's words, bounds and sizes. No statement of the seat is proved here. -/
import Derived.Test.YtckkgooabnlooaaDoorValA
namespace Go.Proofs.YtckkgooabnlooaaDoor
open Go.ChangeShapes Go.WideShapes Go.ChangeAt Go.RowKit
set_option linter.unusedVariables false
set_option linter.unusedSimpArgs false
set_option maxRecDepth 100000

theorem i64_w (n : Int) : IntKind.i64.wrap n = wrap64 n := by rw [IntKind.wrap_i64]; unfold wrap64; rfl
theorem truthV_any (b : Bool) (w0 : World) : Calls Tryd.prog 99 #[.bool b] w0 fun e w' => e = .returned (.int .i64 (truthZ b)) ∧ w' = w0 := by
  go_enter Tryd.func99, Tryd.ntmps99
  go_wp2_with fail
  all_goals go_ret
  all_goals refine ⟨?_, rfl⟩
  all_goals simp_all [truthZ]
theorem divV_any (k : Nat) (hk : k = 1 ∨ k = 2) (a b : Int) (w0 : World) : Calls Tryd.prog 93 #[.string (wordK k), .int .i64 a, .int .i64 b] w0 fun e w' => e = .returned (twoN (resZ k a b)) ∧ w' = w0 := by
  by_cases hb : b = 0
  · subst hb
    rcases hk with rfl | rfl
    all_goals
      simp only [wordK, resZ, twoN]
      go_enter Tryd.func93, Tryd.ntmps93
      go_wp2_with fail
      go_ret2
      exact ⟨rfl, rfl⟩
  · rcases hk with rfl | rfl
    · simp only [wordK, resZ, twoN, if_neg hb]
      have HB := Lib.hid (show cmpB .eql b 0 = some false from congrArg some (decide_eq_false hb))
      go_enter Tryd.func93, Tryd.ntmps93
      go_wp2_with (first
    | ((with_reducible apply q_ls0); exact rfl; (with_reducible apply t_cmp (op := .eql)); (apply EvC.now; exact rfl); (apply EvC.now; exact rfl); exact HB.out; (simp only [List.set_cons_succ, List.set_cons_zero]; exact rfl))
    | ((with_reducible apply q_ls0); exact rfl; (with_reducible apply t_quo); (apply EvC.now; exact rfl); (apply EvC.now; exact rfl); exact hb; exact i64_w _; (simp only [List.set_cons_succ, List.set_cons_zero]; exact rfl)))
      go_ret2
      exact ⟨rfl, rfl⟩
    · simp only [wordK, resZ, twoN, if_neg hb]
      have HB := Lib.hid (show cmpB .eql b 0 = some false from congrArg some (decide_eq_false hb))
      go_enter Tryd.func93, Tryd.ntmps93
      go_wp2_with (first
    | ((with_reducible apply q_ls0); exact rfl; (with_reducible apply t_cmp (op := .eql)); (apply EvC.now; exact rfl); (apply EvC.now; exact rfl); exact HB.out; (simp only [List.set_cons_succ, List.set_cons_zero]; exact rfl))
    | ((with_reducible apply q_ls0); exact rfl; (with_reducible apply t_rem); (apply EvC.now; exact rfl); (apply EvC.now; exact rfl); exact hb; exact rfl; (simp only [List.set_cons_succ, List.set_cons_zero]; exact rfl)))
      go_ret2
      exact ⟨rfl, rfl⟩
theorem cmpV_any (k : Nat) (hk : 8 ≤ k ∧ k ≤ 15) (a b : Int) (w0 : World) : Calls Tryd.prog 95 #[.string (wordK k), .int .i64 a, .int .i64 b] w0 fun e w' => e = .returned (twoN (resZ k a b)) ∧ w' = w0 := by
  obtain ⟨h1, h2⟩ := hk
  match k, h1, h2 with
  | 8, _, _ =>
    simp only [wordK, resZ, twoN]
    go_enter Tryd.func95, Tryd.ntmps95
    go_wp2_with (first
        | (go_at_call 99; refine (truthV_any _ _).mono ?_; rintro e w' ⟨rfl, rfl⟩))
    all_goals go_ret2
    all_goals first | exact ⟨rfl, rfl⟩ | (refine ⟨?_, rfl⟩; simp_all [truthZ])
  | 9, _, _ =>
    simp only [wordK, resZ, twoN]
    go_enter Tryd.func95, Tryd.ntmps95
    go_wp2_with (first
        | (go_at_call 99; refine (truthV_any _ _).mono ?_; rintro e w' ⟨rfl, rfl⟩))
    all_goals go_ret2
    all_goals first | exact ⟨rfl, rfl⟩ | (refine ⟨?_, rfl⟩; simp_all [truthZ])
  | 10, _, _ =>
    simp only [wordK, resZ, twoN]
    go_enter Tryd.func95, Tryd.ntmps95
    go_wp2_with (first
        | (go_at_call 99; refine (truthV_any _ _).mono ?_; rintro e w' ⟨rfl, rfl⟩))
    all_goals go_ret2
    all_goals first | exact ⟨rfl, rfl⟩ | (refine ⟨?_, rfl⟩; simp_all [truthZ])
  | 11, _, _ =>
    simp only [wordK, resZ, twoN]
    go_enter Tryd.func95, Tryd.ntmps95
    go_wp2_with (first
        | (go_at_call 99; refine (truthV_any _ _).mono ?_; rintro e w' ⟨rfl, rfl⟩))
    all_goals go_ret2
    all_goals first | exact ⟨rfl, rfl⟩ | (refine ⟨?_, rfl⟩; simp_all [truthZ])
  | 12, _, _ =>
    simp only [wordK, resZ, twoN]
    go_enter Tryd.func95, Tryd.ntmps95
    go_wp2_with (first
        | (go_at_call 99; refine (truthV_any _ _).mono ?_; rintro e w' ⟨rfl, rfl⟩))
    all_goals go_ret2
    all_goals first | exact ⟨rfl, rfl⟩ | (refine ⟨?_, rfl⟩; simp_all [truthZ])
  | 13, _, _ =>
    simp only [wordK, resZ, twoN]
    go_enter Tryd.func95, Tryd.ntmps95
    go_wp2_with (first
        | (go_at_call 99; refine (truthV_any _ _).mono ?_; rintro e w' ⟨rfl, rfl⟩))
    all_goals go_ret2
    all_goals first | exact ⟨rfl, rfl⟩ | (refine ⟨?_, rfl⟩; simp_all [truthZ])
  | 14, _, _ =>
    simp only [wordK, resZ, twoN]
    go_enter Tryd.func95, Tryd.ntmps95
    go_wp2_with (first
        | (go_at_call 99; refine (truthV_any _ _).mono ?_; rintro e w' ⟨rfl, rfl⟩))
    all_goals go_ret2
    all_goals first | exact ⟨rfl, rfl⟩ | (refine ⟨?_, rfl⟩; simp_all [truthZ])
  | 15, _, _ =>
    simp only [wordK, resZ, twoN]
    go_enter Tryd.func95, Tryd.ntmps95
    go_wp2_with (first
        | (go_at_call 99; refine (truthV_any _ _).mono ?_; rintro e w' ⟨rfl, rfl⟩))
    all_goals go_ret2
    all_goals first | exact ⟨rfl, rfl⟩ | (refine ⟨?_, rfl⟩; simp_all [truthZ])
theorem shiftV_any (k : Nat) (hk : k = 3 ∨ k = 4) (a b : Int) (w0 : World) : Calls Tryd.prog 94 #[.string (wordK k), .int .i64 a, .int .i64 b] w0 fun e w' => e = .returned (twoN (resZ k a b)) ∧ w' = w0 := by
  by_cases hb : b < 0
  · rcases hk with rfl | rfl
    all_goals
      simp only [wordK, resZ, twoN, if_pos hb]
      have HB := Lib.hid (show cmpB .lss b 0 = some true from congrArg some (decide_eq_true hb))
      go_enter Tryd.func94, Tryd.ntmps94
      go_wp2_with (first
    | ((with_reducible apply q_ls0); exact rfl; (with_reducible apply t_rem); (apply EvC.now; exact rfl); (apply EvC.now; exact rfl); (decide); exact rfl; (simp only [List.set_cons_succ, List.set_cons_zero]; exact rfl))
    | ((with_reducible apply q_ls0); exact rfl; (with_reducible apply t_cmp (op := .lss)); (apply EvC.now; exact rfl); (apply EvC.now; exact rfl); exact HB.out; (simp only [List.set_cons_succ, List.set_cons_zero]; exact rfl)))
      go_ret2
      exact ⟨rfl, rfl⟩
  · have HB := Lib.hid (show cmpB .lss b 0 = some false from congrArg some (decide_eq_false hb))
    have hd1 : 0 ≤ a % 4294967296 / 2 ^ (b % 32).toNat := Int.ediv_nonneg (by omega) (Int.le_of_lt (Int.pow_pos (by decide)))
    have hd2 : a % 4294967296 / 2 ^ (b % 32).toNat ≤ a % 4294967296 := Int.ediv_le_self _ (by omega)
    have HD := Lib.hid (show wrap64 (a % 4294967296 / 2 ^ (b % 32).toNat) = a % 4294967296 / 2 ^ (b % 32).toNat from IntWalk.wrap64_in _ (by omega))
    clear hd1 hd2
    rcases hk with rfl | rfl
    · skip
      simp only [wordK, resZ, twoN, if_neg hb]
      go_enter Tryd.func94, Tryd.ntmps94
      go_wp2_with (first
    | ((with_reducible apply q_ls0); exact rfl; (with_reducible apply t_rem); (apply EvC.now; exact rfl); (apply EvC.now; exact rfl); (decide); exact rem_in (by omega); (simp only [List.set_cons_succ, List.set_cons_zero]; exact rfl))
    | ((with_reducible apply q_ls0); exact rfl; (with_reducible apply t_cmp (op := .lss)); (apply EvC.now; exact rfl); (apply EvC.now; exact rfl); exact HB.out; (simp only [List.set_cons_succ, List.set_cons_zero]; exact rfl)))
      go_ret2
      refine ⟨?_, rfl⟩
      rfl
    · skip
      simp only [wordK, resZ, twoN, if_neg hb]
      go_enter Tryd.func94, Tryd.ntmps94
      go_wp2_with (first
    | ((with_reducible apply q_ls0); exact rfl; (with_reducible apply t_rem); (apply EvC.now; exact rfl); (apply EvC.now; exact rfl); (decide); exact rem_in (by omega); (simp only [List.set_cons_succ, List.set_cons_zero]; exact rfl))
    | ((with_reducible apply q_ls0); exact rfl; (with_reducible apply t_cmp (op := .lss)); (apply EvC.now; exact rfl); (apply EvC.now; exact rfl); exact HB.out; (simp only [List.set_cons_succ, List.set_cons_zero]; exact rfl)))
      go_ret2
      refine ⟨?_, rfl⟩
      show Ending.returned (.tuple #[.int .i64 (wrap64 (a % 4294967296 / 2 ^ (b % 32).toNat)), .bool true]) = _
      rw [HD.out]
end Go.Proofs.YtckkgooabnlooaaDoor
